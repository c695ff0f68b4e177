import Derived.Test.YtohfckcikincoaaSpOne
import Derived.Test.YtohfckcikincoaaSpT
import Derived.Deep.RegionHeld3
namespace Go.Proofs.Ytohfckcikincoaa
open Go.RowKit Go.Lib
set_option maxRecDepth 100000

theorem belowL_zero {b : Int} {l : List (Int × Int)} (h : Norm b l) {p : Int} (hp : p ≤ b) : belowL l p = 0 := by
  induction l generalizing b with
  | nil => rfl
  | cons r t ih =>
    have h1 := h.1
    have h2 := h.2.1
    rw [belowL, if_neg (by omega), ih h.2.2 (by omega)]
    rfl
theorem rank_at {b : Int} {l : List (Int × Int)} (h : Norm b l) (ht : ∀ r ∈ l, r.2 ≤ 1048576) (j : Nat) (hj : j < l.length) : belowL l (l.getD j (0, 0)).1 = belowL (l.take j) 1048576 := by
  induction l generalizing b j with
  | nil => simp at hj
  | cons r t ih =>
    have h2 := h.2.1
    have h3 := ht r List.mem_cons_self
    cases j with
    | zero =>
      show belowL (r :: t) r.1 = 0
      simp only [belowL]
      rw [if_neg (by omega), belowL_zero h.2.2 (by omega)]
      rfl
    | succ j =>
      have hj' : j < t.length := by simpa using hj
      have := ih h.2.2 (fun x hx => ht x (List.mem_cons_of_mem _ hx)) j hj'
      have hm := norm_lt h.2.2 (t.getD j (0, 0)) (getD_mem hj')
      simp only [List.getD_cons_succ, List.take_succ_cons, belowL]
      rw [this, if_pos (by omega), if_pos (by omega)]
      omega
theorem nthL_some {b : Int} {l : List (Int × Int)} (h : Norm b l) {k : Int} (hk : 0 ≤ k) {q : Int} (hq : nthL l k = some q) : belowL l q = k ∧ Lies l q := by
  induction l generalizing b k with
  | nil => simp [nthL] at hq
  | cons r t ih =>
    have h2 := h.2.1
    rw [nthL] at hq
    split at hq
    · simp only [Option.some.injEq] at hq
      subst hq
      refine ⟨?_, (lies_cons _ _ _).2 (.inl ⟨by omega, by omega⟩)⟩
      rw [belowL, belowL_zero h.2.2 (by omega)]
      split <;> omega
    · have := ih h.2.2 (by omega) hq
      have hl := norm_lies h.2.2 this.2
      refine ⟨?_, (lies_cons _ _ _).2 (.inr this.2)⟩
      rw [belowL, this.1, if_pos (by omega)]
      omega
theorem nthL_out {l : List (Int × Int)} (h : ∀ r ∈ l, 0 ≤ r.1 ∧ r.1 < r.2 ∧ r.2 ≤ 1048576) {k : Int} (hk : belowL l 1048576 ≤ k) : nthL l k = none := by
  induction l generalizing k with
  | nil => rfl
  | cons r t ih =>
    have h1 := h r List.mem_cons_self
    have hb := belowL_bounds t 1048576 (fun x hx => h x (List.mem_cons_of_mem _ hx))
    rw [belowL, if_pos (by omega), show min r.2 1048576 = r.2 by omega] at hk
    rw [nthL, if_neg (by omega)]
    exact ih (fun x hx => h x (List.mem_cons_of_mem _ hx)) (by omega)
theorem nthL_in {l : List (Int × Int)} (h : ∀ r ∈ l, 0 ≤ r.1 ∧ r.1 < r.2 ∧ r.2 ≤ 1048576) {k : Int} (h0 : 0 ≤ k) (hk : k < belowL l 1048576) : ∃ q, nthL l k = some q := by
  induction l generalizing k with
  | nil => simp only [belowL] at hk; omega
  | cons r t ih =>
    have h1 := h r List.mem_cons_self
    rw [belowL, if_pos (by omega), show min r.2 1048576 = r.2 by omega] at hk
    rw [nthL]
    by_cases hc : k < r.2 - r.1
    · exact ⟨_, if_pos hc⟩
    · rw [if_neg hc]
      exact ih (fun x hx => h x (List.mem_cons_of_mem _ hx)) (by omega) (by omega)
open Classical in
theorem belowL_step {b : Int} {l : List (Int × Int)} (h : Norm b l) (p : Int) : belowL l (p + 1) = belowL l p + (if Lies l p then 1 else 0) := by
  induction l generalizing b with
  | nil => simp [belowL, lies_nil]
  | cons r t ih =>
    have h2 := h.2.1
    have iht := ih h.2.2
    simp only [belowL, lies_cons]
    by_cases hin : r.1 ≤ p ∧ p < r.2
    · have hz : ¬ Lies t p := fun h' => by have := norm_lies h.2.2 h'; omega
      rw [if_neg hz] at iht
      rw [iht, if_pos (show r.1 < p + 1 by omega), if_pos (show (r.1 ≤ p ∧ p < r.2) ∨ Lies t p from .inl hin)]
      split <;> omega
    · by_cases ht : Lies t p
      · rw [if_pos ht] at iht
        rw [iht, if_pos (show (r.1 ≤ p ∧ p < r.2) ∨ Lies t p from .inr ht)]
        split <;> split <;> omega
      · rw [if_neg ht] at iht
        rw [iht, if_neg (show ¬ ((r.1 ≤ p ∧ p < r.2) ∨ Lies t p) by rintro (h' | h'); exact hin h'; exact ht h')]
        split <;> split <;> omega
/-- The union and the meet have together as many places as both lists. -/
theorem belowL_both {A B U V : List (Int × Int)} (hA : Norm (-1) A) (hB : Norm (-1) B) (hU : Norm (-1) U) (hV : Norm (-1) V) (mU : ∀ q, Lies U q ↔ Lies A q ∨ Lies B q) (mV : ∀ q, Lies V q ↔ Lies A q ∧ Lies B q) (p : Nat) :
    belowL U p + belowL V p = belowL A p + belowL B p := by
  classical
  have z : ∀ {l : List (Int × Int)}, Norm (-1) l → belowL l (-1) = 0 := fun h => belowL_zero h (Int.le_refl _)
  induction p with
  | zero =>
    have s : ∀ {l : List (Int × Int)}, Norm (-1) l → belowL l ((0 : Nat) : Int) = 0 := fun {l} h => by
      have := belowL_step h (-1)
      rw [z h, if_neg (fun h' => by have := norm_lies h h'; omega)] at this
      simpa using this
    rw [s hA, s hB, s hU, s hV]
  | succ p ih =>
    have e : ((p + 1 : Nat) : Int) = (p : Int) + 1 := by omega
    rw [e, belowL_step hA, belowL_step hB, belowL_step hU, belowL_step hV]
    by_cases a : Lies A p <;> by_cases b : Lies B p
    · rw [if_pos a, if_pos b, if_pos ((mU _).2 (.inl a)), if_pos ((mV _).2 ⟨a, b⟩)]; omega
    · rw [if_pos a, if_neg b, if_pos ((mU _).2 (.inl a)), if_neg (fun h => b ((mV _).1 h).2)]; omega
    · rw [if_neg a, if_pos b, if_pos ((mU _).2 (.inr b)), if_neg (fun h => a ((mV _).1 h).1)]; omega
    · rw [if_neg a, if_neg b, if_neg (fun h => by rcases (mU _).1 h with h | h; exact a h; exact b h), if_neg (fun h => a ((mV _).1 h).1)]; omega
theorem Lst.rank {l : List (Int × Int)} (h : Lst l) {p : Int} (hp : 0 ≤ p ∧ p ≤ 1048576) : rankAns l p = (belowL l p, 0) := by unfold rankAns; rw [h.check, if_pos rfl, if_pos hp]

/-- Does 'lies' say so? -/
def LiesP (w : World) (l : List (Int × Int)) (q : Int) (e : Ending) (w' : World) : Prop := Below w.heap.size w w' ∧ ((Lies l q ∧ e = .returned (.bool true)) ∨ (¬ Lies l q ∧ e = .returned (.bool false)))
set_option maxHeartbeats 1000000 in
theorem liesLaw_any {w : World} {a : Option Addr} {n cap : Nat} {l : List (Int × Int)} (h : Rng w a n cap l) (q : Int) :
    Calls Try.prog 20 #[.slice a n cap, .int .i64 q] w fun e w' => LiesP w l q e w' := by
  have hlen := h.len
  have hnb : (n : Int) ≤ 9223372036854775807 := by have := h.room; simp only [maxLen] at this; omega
  go_enter Try.func20, Try.ntmps20
  go_wp2_with fail
  go_loopw [5] (fun i w' => ∃ j : Nat, j ≤ n ∧ i = .int .i64 j ∧ Below w.heap.size w w' ∧ Hid (∀ i, i < j → ¬ ((l.getD i (0, 0)).1 ≤ q ∧ q < (l.getD i (0, 0)).2))) (fun i _ => n - (RowKit.intOf i).toNat)
  case atStart => exact ⟨0, Nat.zero_le _, rfl, Below.refl _ _, fun i hi => by omega⟩
  case round =>
    obtain ⟨j, hjn, rfl, hb, HN⟩ := hrel
    by_cases hj : j < n
    · obtain ⟨g, off, rfl, hg, hc, hd⟩ := h.cells j hj
      have c0 := (hb.cell (p := ⟨g, off + j * 2, none⟩) hg).trans hc
      have c1 := (hb.cell (p := ⟨g, off + j * 2 + 1, none⟩) hg).trans hd
      by_cases hin : (l.getD j (0, 0)).1 ≤ q ∧ q < (l.getD j (0, 0)).2
      · have HL : Hid (Lies l q) := ⟨_, getD_mem (show j < l.length by omega), hin.1, hin.2⟩
        obtain ⟨i1, i2⟩ := hin
        clear hc hd HN
        generalize (l.getD j (0, 0)).1 = x at *
        generalize (l.getD j (0, 0)).2 = y at *
        go_wp2_with fail
        go_ret
        exact ⟨hb, .inl ⟨HL.out, rfl⟩⟩
      · have HN2 : Hid (∀ i, i < j + 1 → ¬ ((l.getD i (0, 0)).1 ≤ q ∧ q < (l.getD i (0, 0)).2)) := fun i hi => by
          by_cases e : i = j
          · subst e; exact hin
          · exact HN.out i (by omega)
        have hcs : decide ((l.getD j (0, 0)).1 ≤ q) = false ∨ ((l.getD j (0, 0)).1 ≤ q ∧ decide (q < (l.getD j (0, 0)).2) = false) := by
          by_cases h1 : (l.getD j (0, 0)).1 ≤ q
          · exact .inr ⟨h1, decide_eq_false (fun h2 => hin ⟨h1, h2⟩)⟩
          · exact .inl (decide_eq_false h1)
        clear hc hd HN hin
        generalize (l.getD j (0, 0)).1 = x at *
        generalize (l.getD j (0, 0)).2 = y at *
        rcases hcs with d1 | ⟨d0, d1⟩
        · go_wp2_with fail
          go_roundw
          case rel => exact ⟨j + 1, by omega, by go_num, hb, HN2⟩
          case measure => simp [RowKit.intOf]; omega
        · go_wp2_with fail
          go_roundw
          case rel => exact ⟨j + 1, by omega, by go_num, hb, HN2⟩
          case measure => simp [RowKit.intOf]; omega
    · have HL : Hid (¬ Lies l q) := fun ⟨r, hr, h1, h2⟩ => by
        obtain ⟨i, hi, rfl⟩ := List.getElem_of_mem hr
        have := HN.out i (by omega)
        rw [List.getD_eq_getElem?_getD, List.getElem?_eq_getElem hi] at this
        exact this ⟨h1, h2⟩
      clear HN
      go_wp2_with fail
      go_ret
      exact ⟨hb, .inr ⟨HL.out, rfl⟩⟩
end Go.Proofs.Ytohfckcikincoaa
