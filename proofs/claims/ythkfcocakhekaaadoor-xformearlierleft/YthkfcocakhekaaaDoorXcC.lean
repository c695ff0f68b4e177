import Derived.Test.YthkfcocakhekaaaDoorXcB
namespace Go.Proofs.YthkfcocakhekaaaDoor
open Go.RowKit Go.Lib
set_option maxRecDepth 100000

set_option maxHeartbeats 2000000 in
theorem lawWidth_1 {c n p : Int} {s : ByteArray} {l : List (Int × Int)} {tc tn : Int} {on : Bool} {v : Value} {w : World} (hs : s.size ≤ 1000) :
    Calls Tryd.prog 19 #[opVal ⟨c, n, 1, p, s, l, tc, tn, on⟩ v] w fun e w' => e = .returned (.int .i64 (lawW s s.size : Nat)) ∧ Below w.heap.size w w' := by
  simp only [opVal]
  obtain ⟨W0, hW0⟩ : ∃ W0, w.alloc (Obj.cells #[.int .i64 c, .int .i64 n, .int .i64 1, .int .i64 p, .string s, v, .int .i64 tc, .int .i64 tn, .bool on] 41) = W0 := ⟨_, rfl⟩
  have hX : W0.heap[w.heap.size]? = some (Obj.cells #[.int .i64 c, .int .i64 n, .int .i64 1, .int .i64 p, .string s, v, .int .i64 tc, .int .i64 tn, .bool on] 41) := by rw [← hW0]; exact alloc_last _ _ _ rfl
  have hB0 : Below w.heap.size w W0 := by rw [← hW0]; exact (Below.refl w.heap.size w).alloc (Nat.le_refl _) _
  obtain ⟨ak0, ak1, ak2, ak3, ak4, ak5, ak6, ak7, ak8⟩ := box9 hX
  go_enter Tryd.func19, Tryd.ntmps19
  go_wp2_with fail
  clear hW0 hX
  go_loopw [3, 4] (fun vc vi W => ∃ j : Nat, j ≤ s.size ∧ vi = .int .i64 j ∧ vc = .int .i64 (lawW s j : Nat) ∧ W = W0) (fun _ vi _ => s.size - (RowKit.intOf vi).toNat)
  case atStart => exact ⟨0, Nat.zero_le _, rfl, rfl, rfl⟩
  case round =>
    obtain ⟨j, hj, rfl, rfl, rfl⟩ := hrel
    by_cases hlt : j < s.size
    · have b1 : (j : Int) < (s.size : Int) := by omega
      have b0 : (0 : Int) ≤ (j : Int) := by omega
      go_wp2_with fail
      all_goals first
        | (rename_i h1 h2; have e1 := lawW_no s j hlt (by omega) (by omega); exact ⟨⟨j + 1, by omega, by go_num, by rw [e1], trivial⟩, by simp [RowKit.intOf]; omega⟩)
        | (rename_i h1 h2; have e1 := lawW_yes s j hlt (by omega); have e2 := lawW_le s j; have e3 : wrap64 ((lawW s j : Int) + 1) = (lawW s j : Int) + 1 := IntWalk.wrap64_in _ (by omega); exact ⟨⟨j + 1, by omega, by go_num, by rw [e1, e3]; push_cast; rfl, trivial⟩, by simp [RowKit.intOf]; omega⟩)
        | (rename_i h1; have e1 := lawW_yes s j hlt (by omega); have e2 := lawW_le s j; have e3 : wrap64 ((lawW s j : Int) + 1) = (lawW s j : Int) + 1 := IntWalk.wrap64_in _ (by omega); exact ⟨⟨j + 1, by omega, by go_num, by rw [e1, e3]; push_cast; rfl, trivial⟩, by simp [RowKit.intOf]; omega⟩)
    · obtain rfl : j = s.size := by omega
      go_wp2_with fail
      go_ret
      exact ⟨rfl, hB0⟩

set_option maxHeartbeats 2000000 in
theorem lawWidth_0 {o : OpV} {v : Value} {w : World} (hk : o.k ≠ 1) :
    Calls Tryd.prog 19 #[opVal o v] w fun e w' => e = .returned (.int .i64 0) ∧ Below w.heap.size w w' := by
  obtain ⟨c, n, k, p, s, l, tc, tn, on⟩ := o
  simp only [opVal] at *
  have t1 : (k == 1) = false := beq_eq_false_iff_ne.2 hk
  have hB0 : Below w.heap.size w (w.alloc (Obj.cells #[.int .i64 c, .int .i64 n, .int .i64 k, .int .i64 p, .string s, v, .int .i64 tc, .int .i64 tn, .bool on] 41)) := (Below.refl w.heap.size w).alloc (Nat.le_refl _) _
  clear hk
  go_enter Tryd.func19, Tryd.ntmps19
  go_wp2_with fail
  go_ret
  exact ⟨rfl, hB0⟩
/-- What the sentences take for an operation's width. -/
def wdL (o : OpV) : Nat := if o.k = 1 then lawW o.s o.s.size else 0
theorem lawWidth_any {o : OpV} {v : Value} {w : World} (hs : o.s.size ≤ 1000) :
    Calls Tryd.prog 19 #[opVal o v] w fun e w' => e = .returned (.int .i64 (wdL o : Nat)) ∧ Below w.heap.size w w' := by
  by_cases hk : o.k = 1
  · obtain ⟨c, n, k, p, s, l, tc, tn, on⟩ := o
    simp only at hk
    subst hk
    exact lawWidth_1 hs
  · have e : wdL o = 0 := if_neg hk
    rw [e]
    exact lawWidth_0 hk

set_option maxHeartbeats 2000000 in
theorem row_any (n : Nat) (hn : n ≤ 1000) (w : World) : Calls Tryd.prog 10 #[.int .i64 n] w fun e w' => ∃ v, e = .returned v ∧ OwnF cellW 4 48 w' w.heap.size v ((List.range n).map fun i => ((0, 0), ((i : Nat) : Int), 0)) ∧ Below w.heap.size w w' := by
  go_enter Tryd.func10, Tryd.ntmps10
  go_wp2_with fail
  go_loopw [3, 4] (fun v vi W => ∃ j : Nat, j ≤ n ∧ vi = .int .i64 j ∧ OwnF cellW 4 48 W w.heap.size v ((List.range j).map fun i => ((0, 0), ((i : Nat) : Int), 0)) ∧ Below w.heap.size w W) (fun _ vi _ => n - (RowKit.intOf vi).toNat)
  case atStart => exact ⟨0, Nat.zero_le _, rfl, ownF_nil _ _, Below.refl _ _⟩
  case round =>
    obtain ⟨j, hj, rfl, ho, hb⟩ := hrel
    by_cases hlt : j < n
    · obtain ⟨ao, co, rfl⟩ := ho.shape
      obtain ⟨g5, cap5, w6, hr, ho6, hb6, _, _⟩ := appendF_one kindW layW ho hb.size ((0, 0), ((j : Nat) : Int), 0) #[.int .i64 0, .int .i64 0, .int .i64 j, .int .i64 0] rfl 48 (by simp; omega) (by simp; omega) 27
      have hb7 := hb.trans hb6
      have e1 : ((List.range j).map fun i => (((0, 0), ((i : Nat) : Int), 0) : CellW)) ++ [((0, 0), ((j : Nat) : Int), 0)] = (List.range (j + 1)).map fun i => ((0, 0), ((i : Nat) : Int), 0) := by rw [List.range_succ, List.map_append]; rfl
      rw [e1] at ho6
      simp only [List.length_map, List.length_range] at hr ho6
      have HO : Hid (OwnF cellW 4 48 w6 w.heap.size (.slice (some ⟨g5, 0, none⟩) (j + 1) cap5) ((List.range (j + 1)).map fun i => ((0, 0), ((i : Nat) : Int), 0))) := ho6
      clear ho ho6 hb hb6 e1
      simp only [List.length_map, List.length_range]
      go_wp2_with (at_builtin; refine wpList_append_hr rfl _ _ 27 rfl _ _ rfl rfl hr ?_)
      go_roundw
      case rel => exact ⟨j + 1, by omega, by go_num, HO.out, hb7⟩
      case measure => simp [RowKit.intOf]; omega
    · obtain rfl : j = n := by omega
      go_wp2_with fail
      go_ret
      exact ⟨_, rfl, ho, hb⟩
end Go.Proofs.YthkfcocakhekaaaDoor
