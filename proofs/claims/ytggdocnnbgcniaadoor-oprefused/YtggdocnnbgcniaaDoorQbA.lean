import Derived.Test.YtggdocnnbgcniaaDoorQaAC
import Derived.Test.YtggdocnnbgcniaaDoorSpPC
import Derived.Laws.Cover4
/-! The sentences' own letters and pick. -/
namespace Go.Proofs.YtggdocnnbgcniaaDoor
open Go.RowKit Go.Lib Sp
set_option maxRecDepth 100000


/-- A rune that letters lets in. -/
def okL (r : Int) : Prop := r = 10 ∨ (32 ≤ r ∧ r ≤ 126) ∨ (161 ≤ r ∧ r ≤ 55295)
theorem okL_okR {r : Int} (h : okL r) : okR r := by
  unfold okL at h
  refine ⟨valid_of (by omega) (by omega) (by omega), ?_⟩
  unfold okRune; rw [decide_eq_true_iff]; omega

set_option maxHeartbeats 2000000 in
theorem letters_any {w : World} {a : Option Addr} {n cap : Nat} {zs : List Int} (h : Rw rune1 1 w a n cap zs) :
    Calls Tryd.prog 11 #[.slice a n cap] w fun e w' => ∃ v rs, e = .returned v ∧ OwnF rune1 1 21 w' w.heap.size v rs ∧ rs ≠ [] ∧ rs.length ≤ 256 ∧ (∀ r ∈ rs, okL r) ∧ Below w.heap.size w w' := by
  have hlen := h.len
  have hroom := h.room
  have hn : n ≤ 9223372036854775807 := by simp only [maxLen] at hroom; omega
  go_enter Tryd.func11, Tryd.ntmps11
  go_wp2_with fail
  go_loopw [3, 4, 5] (fun v vi _ W => ∃ rs : List Int, vi = .int .i64 (rs.length : Int) ∧ rs.length ≤ n ∧ rs.length ≤ 256 ∧ Hid (∀ r ∈ rs, okL r) ∧ OwnF rune1 1 21 W w.heap.size v rs ∧ Below w.heap.size w W) (fun _ vi _ _ => n - (RowKit.intOf vi).toNat)
  case atStart => exact ⟨[], rfl, Nat.zero_le _, by simp, (fun r hr => by cases hr), ownF_nil _ _, Below.refl _ _⟩
  case round =>
    obtain ⟨rs, rfl, hr1, hr2, HO, ho, hB⟩ := hrel
    by_cases hj : rs.length < n ∧ rs.length < 256
    · obtain ⟨hj1, hj2⟩ := hj
      have b1 : (rs.length : Int) < (n : Int) := by omega
      have b2 : (rs.length : Int) < 256 := by omega
      obtain ⟨g, off, x, rfl, hg, hx, hc⟩ := h.at rs.length hj1
      have c0 := (hB.cell (p := ⟨g, off + rs.length * 1 + 0, none⟩) hg).trans (hc 0 _ rfl)
      simp only [Nat.add_zero, Nat.mul_one] at c0
      clear hc hx
      have key : ∀ y : Int, okL y → Hid (∀ r ∈ rs ++ [y], okL r) := fun y hy r hr => by
        rcases List.mem_append.1 hr with hr | hr
        · exact HO.out r hr
        · simp only [List.mem_singleton] at hr; subst hr; exact hy
      have hcs : x = 10 ∨ (32 ≤ x ∧ x ≤ 126) ∨ (161 ≤ x ∧ x ≤ 55295) ∨ (x < 32 ∧ ¬ x = 10) ∨ (127 ≤ x ∧ x < 161) ∨ 55295 < x := by omega
      rcases hcs with rfl | ⟨e1, e2⟩ | ⟨e1, e2⟩ | ⟨e1, e2⟩ | ⟨e1, e2⟩ | e1
      · skip
        have HK := key 10 (by unfold okL; omega)
        clear key
        obtain ⟨g5, cap5, w6, hr, ho6, hb6, _, _⟩ := appendF_one kindU layU ho hB.size 10 #[.int .i32 10] rfl 21 (by omega) (by omega) 34
        have hb7 : Below w.heap.size w w6 := hB.trans hb6
        clear hb6 ho hB
        go_wp2_with (at_builtin; refine wpList_append_hr rfl _ _ 34 rfl _ _ rfl rfl hr ?_)
        go_roundw
        case rel => exact ⟨rs ++ [10], by simp, by simp; omega, by simp; omega, HK, by simpa using ho6, hb7⟩
        case measure => simp [RowKit.intOf]; omega
      · have t1 : (x == 10) = false := beq_eq_false_iff_ne.2 (by omega)
        have t2 : decide (x = 10) = false := decide_eq_false (by omega)
        have t3 : ¬ x = 10 := by omega
        have HK := key x (by unfold okL; omega)
        clear key
        obtain ⟨g5, cap5, w6, hr, ho6, hb6, _, _⟩ := appendF_one kindU layU ho hB.size x #[.int .i32 x] rfl 21 (by omega) (by omega) 34
        have hb7 : Below w.heap.size w w6 := hB.trans hb6
        clear hb6 ho hB
        go_wp2_with (at_builtin; refine wpList_append_hr rfl _ _ 34 rfl _ _ rfl rfl hr ?_)
        go_roundw
        case rel => exact ⟨rs ++ [x], by simp, by simp; omega, by simp; omega, HK, by simpa using ho6, hb7⟩
        case measure => simp [RowKit.intOf]; omega
      · have t1 : (x == 10) = false := beq_eq_false_iff_ne.2 (by omega)
        have t2 : decide (x = 10) = false := decide_eq_false (by omega)
        have t3 : ¬ x = 10 := by omega
        have HK := key x (by unfold okL; omega)
        clear key
        obtain ⟨g5, cap5, w6, hr, ho6, hb6, _, _⟩ := appendF_one kindU layU ho hB.size x #[.int .i32 x] rfl 21 (by omega) (by omega) 34
        have hb7 : Below w.heap.size w w6 := hB.trans hb6
        clear hb6 ho hB
        go_wp2_with (at_builtin; refine wpList_append_hr rfl _ _ 34 rfl _ _ rfl rfl hr ?_)
        go_roundw
        case rel => exact ⟨rs ++ [x], by simp, by simp; omega, by simp; omega, HK, by simpa using ho6, hb7⟩
        case measure => simp [RowKit.intOf]; omega
      · have t1 : (x == 10) = false := beq_eq_false_iff_ne.2 e2
        have t2 : decide (x = 10) = false := decide_eq_false e2
        have HK := key 97 (by unfold okL; omega)
        clear key
        obtain ⟨g5, cap5, w6, hr, ho6, hb6, _, _⟩ := appendF_one kindU layU ho hB.size 97 #[.int .i32 97] rfl 21 (by omega) (by omega) 34
        have hb7 : Below w.heap.size w w6 := hB.trans hb6
        clear hb6 ho hB
        go_wp2_with (at_builtin; refine wpList_append_hr rfl _ _ 34 rfl _ _ rfl rfl hr ?_)
        go_roundw
        case rel => exact ⟨rs ++ [97], by simp, by simp; omega, by simp; omega, HK, by simpa using ho6, hb7⟩
        case measure => simp [RowKit.intOf]; omega
      · have t1 : (x == 10) = false := beq_eq_false_iff_ne.2 (by omega)
        have t2 : decide (x = 10) = false := decide_eq_false (by omega)
        have t3 : ¬ x = 10 := by omega
        have q1 : (x != 10) = true := by simp; omega
        have q2 : ¬ x < 32 := by omega
        have q3 : 126 < x := by omega
        have HK := key 97 (by unfold okL; omega)
        clear key
        obtain ⟨g5, cap5, w6, hr, ho6, hb6, _, _⟩ := appendF_one kindU layU ho hB.size 97 #[.int .i32 97] rfl 21 (by omega) (by omega) 34
        have hb7 : Below w.heap.size w w6 := hB.trans hb6
        clear hb6 ho hB
        go_wp2_with (at_builtin; refine wpList_append_hr rfl _ _ 34 rfl _ _ rfl rfl hr ?_)
        go_roundw
        case rel => exact ⟨rs ++ [97], by simp, by simp; omega, by simp; omega, HK, by simpa using ho6, hb7⟩
        case measure => simp [RowKit.intOf]; omega
      · have t1 : (x == 10) = false := beq_eq_false_iff_ne.2 (by omega)
        have t2 : decide (x = 10) = false := decide_eq_false (by omega)
        have t3 : ¬ x = 10 := by omega
        have q1 : (x != 10) = true := by simp; omega
        have q2 : ¬ x < 32 := by omega
        have q3 : 126 < x := by omega
        have q4 : ¬ x < 161 := by omega
        have HK := key 97 (by unfold okL; omega)
        clear key
        obtain ⟨g5, cap5, w6, hr, ho6, hb6, _, _⟩ := appendF_one kindU layU ho hB.size 97 #[.int .i32 97] rfl 21 (by omega) (by omega) 34
        have hb7 : Below w.heap.size w w6 := hB.trans hb6
        clear hb6 ho hB
        go_wp2_with (at_builtin; refine wpList_append_hr rfl _ _ 34 rfl _ _ rfl rfl hr ?_)
        go_roundw
        case rel => exact ⟨rs ++ [97], by simp, by simp; omega, by simp; omega, HK, by simpa using ho6, hb7⟩
        case measure => simp [RowKit.intOf]; omega
    · have HF : Hid (∀ r ∈ rs, okL r) := HO
      obtain ⟨ao, co, rfl⟩ := ho.shape
      by_cases h0 : rs.length = 0
      · have e0 : rs = [] := List.eq_nil_of_length_eq_zero h0
        subst e0
        have hx : Hid (∀ r ∈ ([] : List Int) ++ [120], okL r) := fun r hr => by simp at hr; subst hr; unfold okL; omega
        have hn0 : n = 0 := by simp at hj; omega
        subst hn0
        obtain ⟨g5, cap5, w6, hr, ho6, hb6, _, _⟩ := appendF_one kindU layU ho hB.size 120 #[.int .i32 120] rfl 21 (by simp) (by simp) 34
        have hb7 : Below w.heap.size w w6 := hB.trans hb6
        clear hb6 ho hB HO HF
        simp only [List.length_nil] at hr ho6
        go_wp2_with (at_builtin; refine wpList_append_hr rfl _ _ 34 rfl _ _ rfl rfl hr ?_)
        go_ret
        exact ⟨_, _, rfl, ho6, by simp, by simp, hx.out, hb7⟩
      · have t0 : ((rs.length : Int) == 0) = false := beq_eq_false_iff_ne.2 (by omega)
        have hne : rs ≠ [] := fun e => h0 (by rw [e]; rfl)
        have HNE : Hid (rs ≠ []) := hne
        have HOW : Hid (OwnF rune1 1 21 wr w.heap.size (.slice ao rs.length co) rs) := ho
        by_cases hj1 : rs.length < n
        · have b1 : (rs.length : Int) < (n : Int) := by omega
          have b2 : ¬ (rs.length : Int) < 256 := by omega
          clear hne ho HF h0 hj
          go_wp2_with fail
          go_ret
          first | exact ⟨_, rs, rfl, HOW.out, HNE.out, hr2, HO.out, hB⟩ | exact ⟨_, rfl, rs, HOW.out, HNE.out, hr2, HO.out, hB⟩
        · have b1 : ¬ (rs.length : Int) < (n : Int) := by omega
          clear hne ho HF h0 hj
          go_wp2_with fail
          go_ret
          first | exact ⟨_, rs, rfl, HOW.out, HNE.out, hr2, HO.out, hB⟩ | exact ⟨_, rfl, rs, HOW.out, HNE.out, hr2, HO.out, hB⟩

theorem tmod_fix (k n : Int) (hn : 0 < n) : (k.tmod n < 0 → k.tmod n + n = k % n) ∧ (¬ k.tmod n < 0 → k.tmod n = k % n) := by
  have h0 := Int.emod_nonneg k (show n ≠ 0 by omega)
  have h1 := Int.emod_lt_of_pos k hn
  have h2 : k.tmod n = k % n ∨ k.tmod n = k % n - n := by
    rw [Int.tmod_eq_emod]
    split
    · left; omega
    · right; rw [show (n.natAbs : Int) = n by omega]
  omega
set_option maxHeartbeats 400000 in
theorem pick_any (k n : Int) (hn : 0 < n) (hn2 : n ≤ 1000000000) (w : World) :
    Calls Tryd.prog 10 #[.int .i64 k, .int .i64 n] w fun e w' => e = .returned (.int .i64 (k % n)) ∧ w' = w := by
  obtain ⟨f1, f2⟩ := tmod_fix k n hn
  have hb0 := Int.emod_nonneg k (show n ≠ 0 by omega)
  have hb1 := Int.emod_lt_of_pos k hn
  have t0 : (n == 0) = false := beq_eq_false_iff_ne.2 (by omega)
  have t1 : (n == -1) = false := beq_eq_false_iff_ne.2 (by omega)
  generalize hr : k % n = r at *
  generalize hm : k.tmod n = m at *
  by_cases h : m < 0
  · have e1 := f1 h
    subst e1
    clear f1 f2
    go_enter Tryd.func10, Tryd.ntmps10
    go_wp2_with fail
    go_ret
    exact ⟨rfl, rfl⟩
  · have e1 := f2 h
    subst e1
    clear f1 f2
    go_enter Tryd.func10, Tryd.ntmps10
    go_wp2_with fail
    go_ret
    exact ⟨rfl, rfl⟩

end Go.Proofs.YtggdocnnbgcniaaDoor
