import Derived.Test.YtfnpmncmceocdaaDoorProg
import Derived.Test.YtfnpmncmceocdaaDoorTxt
import Derived.WalkKit
import Derived.WalkSpells
import Derived.WalkLawsBesides
import Derived.Lib.OthersKept
namespace Go.Proofs.YtfnpmncmceocdaaDoor
open Go.RowKit Go.Lib

set_option maxHeartbeats 400000 in
theorem hasPrefix_any (s p : ByteArray) (w : World) :
    Calls Tryd.prog 40 #[.string s, .string p] w fun e w' => e = .returned (.bool (pre s p)) ∧ w' = w := by
  by_cases h : p.size ≤ s.size
  · go_enter Tryd.func40, Tryd.ntmps40
    go_wp2
    go_ret
    exact ⟨congrArg (fun b => Ending.returned (.bool b)) (by simp [pre, h]), rfl⟩
  · go_enter Tryd.func40, Tryd.ntmps40
    go_wp2
    go_ret
    exact ⟨congrArg (fun b => Ending.returned (.bool b)) (by simp [pre, h]), rfl⟩

set_option maxHeartbeats 400000 in
theorem broken_any (s : ByteArray) (k : Nat) (r : Int) (w : World) (hk : k ≤ s.size) :
    Calls Tryd.prog 33 #[.string s, .int .i64 k, .int .i32 r] w fun e w' => e = .returned (.bool (brk s k r)) ∧ w' = w := by
  by_cases h : r = 65533
  · subst h
    go_enter Tryd.func33, Tryd.ntmps33
    go_wp2_with (go_at_call 40; refine (hasPrefix_any _ _ _).mono ?_; rintro e w' ⟨rfl, rfl⟩)
    go_ret
    exact ⟨congrArg (fun b => Ending.returned (.bool b)) (by simp [brk, ef]), rfl⟩
  · have h1 : (r == 65533) = false := by simp [h]
    go_enter Tryd.func33, Tryd.ntmps33
    go_wp2_with (go_at_call 40; refine (hasPrefix_any _ _ _).mono ?_; rintro e w' ⟨rfl, rfl⟩)
    go_ret
    exact ⟨congrArg (fun b => Ending.returned (.bool b)) (by simp [brk, h]), rfl⟩

/-- the table's cells -/
def barCells : Array Value := #[.int .i32 0, .int .i32 8, .int .i32 11, .int .i32 31, .int .i32 127, .int .i32 159, .int .i32 64976, .int .i32 65007, .int .i32 65279, .int .i32 65279]
theorem idx0 (w : World) : (Instr.index 98 (.agg barCells) (.int .i64 0)).run Tryd.prog w = .ok (.agg #[.int .i32 0, .int .i32 8]) w := by kernel_rfl
theorem idx1 (w : World) : (Instr.index 98 (.agg barCells) (.int .i64 1)).run Tryd.prog w = .ok (.agg #[.int .i32 11, .int .i32 31]) w := by kernel_rfl
theorem idx2 (w : World) : (Instr.index 98 (.agg barCells) (.int .i64 2)).run Tryd.prog w = .ok (.agg #[.int .i32 127, .int .i32 159]) w := by kernel_rfl
theorem idx3 (w : World) : (Instr.index 98 (.agg barCells) (.int .i64 3)).run Tryd.prog w = .ok (.agg #[.int .i32 64976, .int .i32 65007]) w := by kernel_rfl
theorem idx4 (w : World) : (Instr.index 98 (.agg barCells) (.int .i64 4)).run Tryd.prog w = .ok (.agg #[.int .i32 65279, .int .i32 65279]) w := by kernel_rfl

set_option maxHeartbeats 1000000 in
theorem letIn_any (r : Int) (h0 : 0 ≤ r) (h1 : r ≤ 1114111) (w : World) (fr : Nat × Nat) (t : TypeId) (hg : w.heap[2]? = some (.cells barCells t fr)) :
    Calls Tryd.prog 34 #[.int .i32 r] w fun e w' => e = .returned (.bool (okRune r)) ∧ Below w.heap.size w w' := by
  have i0 := idx0; have i1 := idx1; have i2 := idx2; have i3 := idx3; have i4 := idx4
  have hl := low16 r h0 h1
  go_enter Tryd.func34, Tryd.ntmps34
  go_wp2_with (refine wpList_load_row rfl 98 _ rfl 2 rfl t _ fr _ hg Tryd.underlying98 rfl (by kernel_rfl) ?_)
  clear hg
  go_loopw [6] (fun i w' => ∃ k : Nat, k ≤ 5 ∧ i = .int .i64 k ∧ clears r k ∧ Below w.heap.size w w') (fun i _ => 5 - (intOf i).toNat)
  case atStart => exact ⟨0, by omega, rfl, trivial, Below.refl _ _⟩
  case round =>
    obtain ⟨k, hk, rfl, hcl, hb⟩ := hrel
    have hsz := hb.size
    have hk5 : k = 0 ∨ k = 1 ∨ k = 2 ∨ k = 3 ∨ k = 4 ∨ k = 5 := by omega
    rcases hk5 with rfl | rfl | rfl | rfl | rfl | rfl
    all_goals simp only [clears] at hcl
    · go_wp2
      · go_ret
        exact ⟨congrArg (fun b => Ending.returned (.bool b)) (okRune_no (by omega)), hb.alloc hsz _⟩
      all_goals exact ⟨⟨1, by omega, rfl, by simp only [clears]; omega, hb.alloc hsz _⟩, by simp [intOf]⟩
    · go_wp2
      · go_ret
        exact ⟨congrArg (fun b => Ending.returned (.bool b)) (okRune_no (by omega)), hb.alloc hsz _⟩
      all_goals exact ⟨⟨2, by omega, rfl, by simp only [clears]; omega, hb.alloc hsz _⟩, by simp [intOf]⟩
    · go_wp2
      · go_ret
        exact ⟨congrArg (fun b => Ending.returned (.bool b)) (okRune_no (by omega)), hb.alloc hsz _⟩
      all_goals exact ⟨⟨3, by omega, rfl, by simp only [clears]; omega, hb.alloc hsz _⟩, by simp [intOf]⟩
    · go_wp2
      · go_ret
        exact ⟨congrArg (fun b => Ending.returned (.bool b)) (okRune_no (by omega)), hb.alloc hsz _⟩
      all_goals exact ⟨⟨4, by omega, rfl, by simp only [clears]; omega, hb.alloc hsz _⟩, by simp [intOf]⟩
    · go_wp2
      · go_ret
        exact ⟨congrArg (fun b => Ending.returned (.bool b)) (okRune_no (by omega)), hb.alloc hsz _⟩
      all_goals exact ⟨⟨5, by omega, rfl, by simp only [clears]; omega, hb.alloc hsz _⟩, by simp [intOf]⟩
    · go_wp2
      go_ret
      exact ⟨congrArg (fun b => Ending.returned (.bool b)) (okRune_yes hcl), hb⟩

set_option maxHeartbeats 1000000 in
theorem check_any (s : ByteArray) (hs : s.size ≤ maxLen) (w : World) (fr : Nat × Nat) (t : TypeId) (hg : w.heap[2]? = some (.cells barCells t fr)) :
    Calls Tryd.prog 22 #[.string s] w fun e w' =>
      e = .returned (.tuple #[.int .i64 (check s).1, .int .i64 (check s).2.1, .int .i64 (check s).2.2]) ∧ Below w.heap.size w w' := by
  unfold maxLen at hs
  have hgl : 2 < w.heap.size := (Array.getElem?_eq_some_iff.1 hg).1
  go_enter Tryd.func22, Tryd.ntmps22
  go_wp2_with fail
  go_loopw [2] (fun n w' => ∃ pos b k : Nat, w'.heap[w.heap.size]? = some (.stringIter s pos) ∧ Below w.heap.size w w' ∧ n = .int .i64 k ∧ Hid (chk s b pos k = check s) ∧ k ≤ pos ∧ pos ≤ s.size ∧ s.size ≤ pos + b) (fun _ w' => s.size - w'.iterPos w.heap.size)
  case atStart => exact ⟨0, s.size, 0, World.iter_heap _ _ _, (Below.refl _ _).alloc (Nat.le_refl _) _, rfl, rfl, by omega, by omega, by omega⟩
  case round =>
    obtain ⟨pos, b, k, hit, hb, rfl, hc, hkp, hps, hbb⟩ := hrel
    have hsz := hb.size
    have hbar : wr.heap[2]? = some (.cells barCells t fr) := (hb.block _ hgl).trans hg
    by_cases hp : pos < s.size
    · have hnx : ∀ ty, (Instr.next (.pointer (some ⟨w.heap.size, 0, none⟩)) true ty).run Tryd.prog wr = _ := fun ty => run_next_any_at wr w.heap.size s pos ty hit hp
      have hr0 := decode_le' s pos
      have hw1 := width_pos s pos
      have hw2 := width_fits s pos hp
      have hb2 : Below w.heap.size w (wr.iterAt w.heap.size s (pos + (Utf8.decode s pos).2)) := below_iterAt hb (Nat.le_refl _) _ _
      have hit2 := iterAt_heap wr w.heap.size s pos (pos + (Utf8.decode s pos).2) hit
      generalize hW : wr.iterAt w.heap.size s (pos + (Utf8.decode s pos).2) = W2 at *
      clear hW
      obtain ⟨b, rfl⟩ : ∃ b', b = b' + 1 := ⟨b - 1, by omega⟩
      have hc1 : chk s (b + 1) pos k = check s := hc
      simp only [chk, hp, if_true] at hc1
      generalize hr : (Utf8.decode s pos).1 = r at *
      generalize hwd : (Utf8.decode s pos).2 = wd at *
      have hsz2 := hb2.size
      have hW2 : w.heap.size < W2.heap.size := (Array.getElem?_eq_some_iff.1 hit2).1
      have hbar2 : W2.heap[2]? = some (.cells barCells t fr) := (hb2.block _ hgl).trans hg
      have HP : Hid (wr.iterPos w.heap.size = pos) := by simp [Hid, World.iterPos, hit]
      clear hr hwd hit hb hbar hc hsz
      cases hbk : brk s pos (r : Int) with
      | true =>
        simp only [hbk, if_true] at hc1
        have HC : Hid (((0 : Int), (pos : Int), (10 : Int)) = check s) := hc1
        clear hc1
        go_wp2_with (go_at_call 33; refine (broken_any _ _ _ _ (by omega)).mono ?_; rintro e w' ⟨rfl, rfl⟩)
        go_ret3
        rw [← HC.out]
        exact ⟨rfl, hb2⟩
      | false =>
        simp only [hbk, Bool.false_eq_true, if_false] at hc1
        cases hok : okRune (r : Int) with
        | true =>
          simp only [hok, if_true] at hc1
          have HC : Hid (chk s b (pos + wd) (k + 1) = check s) := hc1
          clear hc1
          go_wp2_with (first | (go_at_call 33; refine (broken_any _ _ _ _ (by omega)).mono ?_; rintro e w' ⟨rfl, rfl⟩) | (go_at_call 34; refine (letIn_any _ (by omega) (by omega) _ fr t hbar2).mono ?_; rintro e w3 ⟨rfl, hb3⟩))
          have hit3 : w3.heap[w.heap.size]? = some (.stringIter s (pos + wd)) := (hb3.block _ hW2).trans hit2
          refine ⟨⟨pos + wd, b, k + 1, hit3, hb2.trans (hb3.mono (by omega)), by go_num, HC, by omega, by omega, by omega⟩, ?_⟩
          rw [HP.out]
          have e3 : w3.iterPos w.heap.size = pos + wd := by simp [World.iterPos, hit3]
          omega
        | false =>
          simp only [hok, Bool.false_eq_true, if_false] at hc1
          have HC : Hid (((0 : Int), (pos : Int), (11 : Int)) = check s) := hc1
          clear hc1
          go_wp2_with (first | (go_at_call 33; refine (broken_any _ _ _ _ (by omega)).mono ?_; rintro e w' ⟨rfl, rfl⟩) | (go_at_call 34; refine (letIn_any _ (by omega) (by omega) _ fr t hbar2).mono ?_; rintro e w3 ⟨rfl, hb3⟩))
          go_ret3
          rw [← HC.out]
          exact ⟨rfl, hb2.trans (hb3.mono (by omega))⟩
    · have hnx : ∀ ty, (Instr.next (.pointer (some ⟨w.heap.size, 0, none⟩)) true ty).run Tryd.prog wr = _ := fun ty => run_next_end_at wr w.heap.size s pos ty hit hp
      have hc1 : chk s b pos k = check s := hc
      rw [chk_end s b pos k hp] at hc1
      have HC : Hid (((k : Int), (0 : Int), (0 : Int)) = check s) := hc1
      clear hc1 hc
      go_wp2_with fail
      go_ret3
      rw [← HC.out]
      exact ⟨rfl, hb⟩

/-- The same, where what Check answers is known. -/
theorem check_eq {n p c : Int} (s : ByteArray) (hs : s.size ≤ maxLen) (h : check s = (n, p, c)) (w : World) (fr : Nat × Nat) (t : TypeId) (hg : w.heap[2]? = some (.cells barCells t fr)) :
    Calls Tryd.prog 22 #[.string s] w fun e w' => e = .returned (.tuple #[.int .i64 n, .int .i64 p, .int .i64 c]) ∧ Below w.heap.size w w' := by
  have := check_any s hs w fr t hg
  rw [h] at this
  exact this

/-- The table stays where it is. -/
theorem bar_below {W W' : World} {B : Nat} {cs : Array Value} {t : TypeId} {fr : Nat × Nat} (hb : Below B W W') (hB : 2 < B) (hg : W.heap[2]? = some (.cells cs t fr)) :
    W'.heap[2]? = some (.cells cs t fr) := (hb.block _ hB).trans hg
theorem bar_alloc {W : World} {cs : Array Value} {t : TypeId} {fr : Nat × Nat} (hg : W.heap[2]? = some (.cells cs t fr)) (o : Obj) :
    (W.alloc o).heap[2]? = some (.cells cs t fr) := (Below.heap_alloc W o _ (Array.getElem?_eq_some_iff.1 hg).1).trans hg
end Go.Proofs.YtfnpmncmceocdaaDoor
