import Derived.Test.YtchkeckblpmehaaWxB
import Derived.Deep.QuietTactic
/-! The reference's Next, Peek, Drop, Pass, Put. -/
namespace Go.Proofs.Ytchkeckblpmehaa
open Go.RowKit Go.Lib
set_option maxRecDepth 100000

theorem at_cases (L : List (Int × Int)) (n : Int) (hd : (L.map (·.1)).Nodup) : (hasN L n = false ∧ atI L n = -1 ∧ getN L n = none) ∨ ∃ (i : Nat) (x : Int × Int), L[i]? = some x ∧ x.1 = n ∧ hasN L n = true ∧ atI L n = (i : Int) ∧ getN L n = some x.2 ∧ delN L n = L.eraseIdx i := by
  induction L with
  | nil => exact .inl ⟨rfl, rfl, rfl⟩
  | cons p L ih =>
    simp only [List.map_cons, List.nodup_cons] at hd
    by_cases hp : p.1 = n
    · refine .inr ⟨0, p, rfl, hp, by simp [hasN, hp], by simp [atI, hp], by simp [getN, hp], ?_⟩
      have h0 : hasN L n = false := by
        rw [hasN_false]
        intro y hy e
        exact hd.1 (by rw [hp, ← e]; exact List.mem_map.2 ⟨y, hy, rfl⟩)
      have h1 := delN_none h0
      simp only [delN] at h1 ⊢
      rw [List.filter_cons]
      simp [hp, h1]
    · have hb : (p.1 == n) = false := beq_eq_false_iff_ne.2 hp
      rcases ih hd.2 with ⟨h1, h2, h3⟩ | ⟨i, x, h1, h2, h3, h4, h5, h6⟩
      · refine .inl ⟨?_, ?_, getN_none ?_⟩
        · simp only [hasN, List.any_cons, hb, Bool.false_or]; exact h1
        · simp [atI, hp, h2]
        · simp only [hasN, List.any_cons, hb, Bool.false_or]; exact h1
      · refine .inr ⟨i + 1, x, by simpa using h1, h2, ?_, ?_, ?_, ?_⟩
        · simp only [hasN, List.any_cons, hb, Bool.false_or]; exact h3
        · have h0 : ¬ (i : Int) < 0 := by omega
          simp only [atI, hp, if_false, h4, h0]
          omega
        · simp only [getN, List.find?_cons, hb] at h5 ⊢; exact h5
        · simp only [delN] at h6 ⊢
          rw [List.filter_cons]
          simp [hp, h6]
/-- What a call leaves of it. -/
def RNw (w w' : World) (B r : Nat) (v : Value) (S' : Wn Int) : Prop := ∃ v', RfW w' B r v' S' ∧ Chg (RWb r v) w w' ∧ ∀ g, v'.ownBlock = some g → v.ownBlock = some g ∨ w.heap.size ≤ g
theorem RfW.same {w : World} {B r : Nat} {v : Value} {S : Wn Int} (h : RfW w B r v S) (k : Nat) : RNw w (w.drewN k) B r v S := ⟨v, h.drewN k, (Chg.refl _ w).drewN, fun _ hg => .inl hg⟩
theorem rNext {w : World} {B r : Nat} {v : Value} {S : Wn Int} (h : RfW w B r v S) : Calls Try.prog 23 #[.pointer (some ⟨r, 0, none⟩)] w fun e w' => e = .returned (.int .i64 S.nx) ∧ w' = w := by
  obtain ⟨c0, c1, c2⟩ := box3 h.box
  clear h
  go_enter Try.func23, Try.ntmps23
  go_wp2_with fail
  go_ret
  exact ⟨rfl, rfl⟩
set_option maxHeartbeats 1000000 in
theorem rPeek {w : World} {B r : Nat} {v : Value} {S : Wn Int} (h : RfW w B r v S) (hd : (S.L.map (·.1)).Nodup) (hn : S.L.length ≤ 1073741824) : Calls Try.prog 13 #[.pointer (some ⟨r, 0, none⟩)] w fun e w' => e = .returned (.tuple #[.int .i64 ((getN S.L S.nx).getD 0), .int .i64 (if hasN S.L S.nx = true then 0 else 15)]) ∧ w' = w := by
  obtain ⟨a, cap, rfl⟩ := h.row.shape
  obtain ⟨c0, c1, c2⟩ := box3 h.box
  have HA := rAt h (by omega) S.nx
  rcases at_cases S.L S.nx hd with ⟨h1, h2, h3⟩ | ⟨i, x, h1, h2, h3, h4, h5, _⟩
  · rw [h2] at HA
    rw [h3, h1]
    have HA2 : Hid _ := HA
    clear HA h h1 h2 h3 hd hn
    go_enter Try.func13, Try.ntmps13
    go_wp2_with fail
    refine Calls.mono HA2.out ?_
    rintro e w1 ⟨rfl, rfl⟩
    go_wp2_with fail
    go_ret2
    exact ⟨rfl, rfl⟩
  · rw [h4] at HA
    rw [h5, h3]
    have HA2 : Hid _ := HA
    have hil := (List.getElem?_eq_some_iff.1 h1).1
    obtain ⟨g, off, o, hoa, hgl, hoi, hcell⟩ := (h.row.rw_ layTh).at i hil
    rw [h1] at hoi
    obtain rfl : x = o := by simpa using hoi
    subst hoa
    have o0 := hcell 0 _ rfl
    have o1 := hcell 1 _ rfl
    rw [Nat.add_zero] at o0
    have g1 : ¬ (i : Int) < 0 := by omega
    have g2 : (i : Int) < (S.L.length : Int) := by omega
    generalize S.L.length = ln at *
    clear HA h h1 h2 h3 h4 h5 hd hcell hgl hoi
    go_enter Try.func13, Try.ntmps13
    go_wp2_with fail
    refine Calls.mono HA2.out ?_
    rintro e w1 ⟨rfl, rfl⟩
    go_wp2_with fail
    go_ret2
    exact ⟨rfl, rfl⟩
set_option maxHeartbeats 1000000 in
theorem rDrop {w : World} {B r : Nat} {v : Value} {S : Wn Int} (h : RfW w B r v S) (hd : (S.L.map (·.1)).Nodup) (hn : S.L.length ≤ 1073741824) (n : Int) : Calls Try.prog 17 #[.pointer (some ⟨r, 0, none⟩), .int .i64 n] w fun e w' => e = .returned (.int .i64 (dropE S n)) ∧ RNw w w' B r v (dropS S n) := by
  have HA := rAt h (by omega) n
  rcases at_cases S.L n hd with ⟨h1, h2, h3⟩ | ⟨i, x, h1, h2, h3, h4, h5, h6⟩
  · rw [h2] at HA
    have e1 : dropE S n = 15 := by simp [dropE, h1]
    have e2 : dropS S n = S := by simp only [dropS]; rw [delN_none h1]
    rw [e1, e2]
    have HA2 : Hid _ := HA
    have HE : Hid (RNw w w B r v S) := ⟨v, h, Chg.refl _ _, fun _ hg => .inl hg⟩
    clear HA h h1 h2 h3 hd hn e1 e2
    go_enter Try.func17, Try.ntmps17
    go_wp2_with fail
    refine Calls.mono HA2.out ?_
    rintro e w1 ⟨rfl, rfl⟩
    go_wp2_with fail
    go_ret
    exact ⟨rfl, HE.out⟩
  · rw [h4] at HA
    have e1 : dropE S n = 0 := by simp [dropE, h3]
    have e2 : dropS S n = ⟨S.nx, S.sz, S.L.eraseIdx i⟩ := by simp only [dropS]; rw [h6]
    rw [e1, e2]
    have HA2 : Hid _ := HA
    have HO : Hid _ := rOut h hn i
    have HB : Hid (B ≤ w.heap.size) := h.base
    have g1 : ¬ (i : Int) < 0 := by omega
    clear HA h h1 h2 h3 h4 h5 h6 hd hn e1 e2
    go_enter Try.func17, Try.ntmps17
    go_wp2_with fail
    refine Calls.mono HA2.out ?_
    rintro e w1 ⟨rfl, rfl⟩
    go_wp2_with fail
    refine Calls.mono HO.out ?_
    rintro e w2 ⟨rfl, v', k1, k2⟩
    have HE : Hid (RNw w1 w2 B r v ⟨S.nx, S.sz, S.L.eraseIdx i⟩) := ⟨v', k1.mono HB.out, k2.mono (fun g _ e => .inl e), fun g hg => .inr (k1.row.ge hg)⟩
    clear k1 k2
    go_wp2_with fail
    go_ret
    exact ⟨rfl, HE.out⟩
end Go.Proofs.Ytchkeckblpmehaa
