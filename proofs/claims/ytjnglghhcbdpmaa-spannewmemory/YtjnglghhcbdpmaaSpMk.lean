import Derived.Test.YtjnglghhcbdpmaaSpZ
namespace Go.Proofs.Ytjnglghhcbdpmaa
open Go.RowKit Go.Lib
set_option maxRecDepth 100000

theorem getD_mem' {l : List (Int × Int)} {j : Nat} (hj : j < l.length) : l.getD j (0, 0) ∈ l := by
  rw [List.getD_eq_getElem?_getD, List.getElem?_eq_getElem hj]
  exact List.getElem_mem _
/-- Parts, as Make takes them. -/
def Parts (l : List (Int × Int)) : Prop := ∀ r ∈ l, 0 ≤ r.1 ∧ r.1 ≤ r.2 ∧ r.2 ≤ 1048576
theorem lies_perm {k l : List (Int × Int)} (h : k.Perm l) (q : Int) : Lies k q ↔ Lies l q := by
  constructor
  · rintro ⟨r, hr, h'⟩; exact ⟨r, h.mem_iff.1 hr, h'⟩
  · rintro ⟨r, hr, h'⟩; exact ⟨r, h.mem_iff.2 hr, h'⟩
theorem made_all {k l : List (Int × Int)} (hk : k.Perm l) (hs : Los k) (hl : Parts l) : Norm (-1) (takenL [] k 0 1048576 0) ∧ (∀ q, Lies (takenL [] k 0 1048576 0) q ↔ Lies l q) ∧ (takenL [] k 0 1048576 0).length ≤ l.length := by
  have := takenL_all (l := []) (b := -1) (lo := 0) (hi := 1048576) (d := 0) hs trivial (fun r hr => by cases hr) (fun x hx => by omega)
  refine ⟨this.1, fun q => ?_, ?_⟩
  · rw [this.2 q, show q - 0 = q by omega, lies_perm hk]
    constructor
    · rintro (h | h)
      · exact absurd h (lies_nil _)
      · exact h.1
    · intro h
      refine .inr ⟨h, ?_⟩
      obtain ⟨r, hr, h1, h2⟩ := h
      have := hl r hr
      omega
  · have := takenL_length [] k 0 1048576 0
    rw [hk.length_eq] at this
    simpa using this
set_option maxHeartbeats 400000 in
theorem make_many {w : World} {a : Option Addr} {n cap : Nat} (hn : 32768 < n) :
    Calls Try.prog 4 #[.slice a n cap] w fun e w' => e = .returned (.tuple #[.slice none 0 0, .int .i64 21]) ∧ Below w.heap.size w w' := by
  go_enter Try.func4, Try.ntmps4
  go_wp2_with fail
  go_ret2
  exact ⟨rfl, Below.refl _ _⟩
set_option maxHeartbeats 2000000 in
theorem make_any {w : World} {a : Option Addr} {n cap : Nat} {l : List (Int × Int)} (h : Rng w a n cap l) (hn : n ≤ 32768) :
    Calls Try.prog 4 #[.slice a n cap] w fun e w' => Below w.heap.size w w' ∧ ((¬ Parts l ∧ e = .returned (.tuple #[.slice none 0 0, .int .i64 20])) ∨
      (Parts l ∧ ∃ U a' cap', Norm (-1) U ∧ (∀ q, Lies U q ↔ Lies l q) ∧ U.length ≤ n ∧ e = .returned (.tuple #[.slice a' U.length cap', .int .i64 0]) ∧ Own w' w.heap.size (.slice a' U.length cap') U)) := by
  have hlen := h.len
  have HCP : Hid (∀ W, Below w.heap.size w W → Calls Try.prog 15 #[.slice a n cap] W _) := fun W hb => spanCopied_any (h.below hb) hn
  go_enter Try.func4, Try.ntmps4
  go_wp2_with fail
  go_loopw [12] (fun i w' => ∃ j : Nat, j ≤ n ∧ i = .int .i64 j ∧ Below w.heap.size w w' ∧ Hid (∀ i, i < j → 0 ≤ (l.getD i (0, 0)).1 ∧ (l.getD i (0, 0)).1 ≤ (l.getD i (0, 0)).2 ∧ (l.getD i (0, 0)).2 ≤ 1048576)) (fun i _ => n - (RowKit.intOf i).toNat)
  case atStart => exact ⟨0, Nat.zero_le _, rfl, Below.refl _ _, fun i hi => by omega⟩
  case round =>
    obtain ⟨j, hjn, rfl, hb, HP⟩ := hrel
    have hsz := hb.size
    by_cases hj : j < n
    · obtain ⟨g, off, rfl, hg, hc, hd⟩ := h.cells j hj
      have c0 := (hb.cell (p := ⟨g, off + j * 2, none⟩) hg).trans hc
      have c1 := (hb.cell (p := ⟨g, off + j * 2 + 1, none⟩) hg).trans hd
      by_cases hp : 0 ≤ (l.getD j (0, 0)).1 ∧ (l.getD j (0, 0)).1 ≤ (l.getD j (0, 0)).2 ∧ (l.getD j (0, 0)).2 ≤ 1048576
      · have HP2 : Hid (∀ i, i < j + 1 → 0 ≤ (l.getD i (0, 0)).1 ∧ (l.getD i (0, 0)).1 ≤ (l.getD i (0, 0)).2 ∧ (l.getD i (0, 0)).2 ≤ 1048576) := fun i hi => by
          by_cases e : i = j
          · subst e; exact hp
          · exact HP.out i (by omega)
        have HI : Hid (∀ W, Calls Try.prog 14 #[.agg #[.int .i64 (l.getD j (0, 0)).1, .int .i64 (l.getD j (0, 0)).2]] W fun e w' => e = .returned (.bool true) ∧ Below W.heap.size W w') := isPart_yes _ _ hp
        clear hp HP hc hd
        generalize (l.getD j (0, 0)).1 = x at *
        generalize (l.getD j (0, 0)).2 = y at *
        go_wp2_with fail
        refine (HI.out _).mono ?_
        rintro e w1 ⟨rfl, hb1⟩
        have hB1 : Below w.heap.size w w1 := (hb.alloc (by omega) _).trans (hb1.mono (by simp; omega))
        clear hb1
        go_wp2_with fail
        go_roundw
        case rel => exact ⟨j + 1, by omega, by go_num, hB1, HP2⟩
        case measure => simp [RowKit.intOf]; omega
      · have HI : Hid (∀ W, Calls Try.prog 14 #[.agg #[.int .i64 (l.getD j (0, 0)).1, .int .i64 (l.getD j (0, 0)).2]] W fun e w' => e = .returned (.bool false) ∧ Below W.heap.size W w') := isPart_no _ _ hp
        have HNP : Hid (¬ Parts l) := fun hP => hp (hP _ (getD_mem' (by omega)))
        clear hp HP hc hd
        generalize (l.getD j (0, 0)).1 = x at *
        generalize (l.getD j (0, 0)).2 = y at *
        go_wp2_with fail
        refine (HI.out _).mono ?_
        rintro e w1 ⟨rfl, hb1⟩
        have hB1 : Below w.heap.size w w1 := (hb.alloc (by omega) _).trans (hb1.mono (by simp; omega))
        clear hb1
        go_wp2_with fail
        go_ret2
        exact ⟨hB1, .inl ⟨HNP.out, rfl⟩⟩
    · have hP : Parts l := fun r hr => by
        obtain ⟨i, hi, rfl⟩ := List.getElem_of_mem hr
        have := HP.out i (by omega)
        simpa [List.getD_eq_getElem?_getD, hi] using this
      have HPL : Hid (Parts l) := hP
      clear HP hP h
      go_wp2_with fail
      refine (HCP.out _ hb).mono ?_
      rintro e w1 ⟨g, rfl, ho1, hg1, hg2, hb1⟩
      have hB1 : Below w.heap.size w w1 := hb.trans (hb1.mono hsz)
      have hs1 := hB1.size
      clear hb1
      go_wp2_with fail
      refine (sort_any (B := w.heap.size) (ho1.mono hsz) (by omega) (by omega) hg2 hn).mono ?_
      rintro e w2 ⟨rfl, k, hkp, hks, hkr, hb2⟩
      have hB2 : Below w.heap.size w w2 := hB1.trans hb2
      obtain ⟨m1, m2, m3⟩ := made_all hkp hks HPL.out
      have HM1 : Hid (Norm (-1) (takenL [] k 0 1048576 0)) := m1
      have HM2 : Hid (∀ q, Lies (takenL [] k 0 1048576 0) q ↔ Lies l q) := m2
      have HT : Hid (Calls Try.prog 19 #[.slice none 0 0, .slice (some ⟨g, 0, none⟩) n n, .int .i64 0, .int .i64 1048576, .int .i64 0] w2 _) :=
        taken_any (B := w2.heap.size) (own_nil w2 _) (Nat.le_refl _) hkr hkr.under 0 1048576 0 (by omega) (by omega) (fun r hr => by have := HPL.out r (hkp.mem_iff.1 hr); omega) (by omega) (by omega) (by omega)
      clear m1 m2 hkp hks hkr hb2 ho1
      go_wp2_with fail
      refine HT.out.mono ?_
      rintro e w3 ⟨o3, no3, co3, rfl, ho3, hb3⟩
      have hB3 : Below w.heap.size w w3 := hB2.trans (hb3.mono hB2.size)
      have hl3 := ho3.rng.len
      have HO : Hid (Own w3 w.heap.size (.slice o3 no3 co3) (takenL [] k 0 1048576 0)) := ho3.mono hB2.size
      clear ho3 hb3
      go_wp2_with fail
      go_ret2
      exact ⟨hB3, .inr ⟨HPL.out, takenL [] k 0 1048576 0, o3, co3, HM1.out, HM2.out, by omega, (by rw [hl3]; rfl), (by rw [hl3]; exact HO.out)⟩⟩
end Go.Proofs.Ytjnglghhcbdpmaa
