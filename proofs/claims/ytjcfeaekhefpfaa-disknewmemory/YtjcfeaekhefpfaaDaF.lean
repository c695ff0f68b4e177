import Derived.Test.YtjcfeaekhefpfaaDaE
/-! New, Up, Down, Arm, find, Used. -/
namespace Go.Proofs.Ytjcfeaekhefpfaa
open Go.RowKit Go.Lib
set_option maxRecDepth 100000

theorem makeMap_run (W : World) : (Instr.makeMap 59 none).run Try.prog W = .ok (.map (some W.heap.size)) (W.alloc (.map #[] 0)) := by
  simp [Instr.makeMap]
set_option maxHeartbeats 1000000 in
theorem diskNew_any (n : Nat) (hn : n ≤ 1099511627776) (w : World) : Calls Try.prog 5 #[.int .i64 (n : Int)] w fun e w' => e = .returned (.tuple #[.pointer (some ⟨w.heap.size + 1, 0, none⟩), .int .i64 0]) ∧ DiskAt w' (w.heap.size + 1) w.heap.size ⟨n, [], false, 0, 0⟩ [] 0 ∧ Below w.heap.size w w' := by
  have g1 : ¬ ((n : Int) < 0) := by omega
  have g2 : ¬ ((1099511627776 : Int) < (n : Int)) := by omega
  have HM := makeMap_run
  go_enter Try.func5, Try.ntmps5
  go_wp2_with fail
  go_ret2
  refine ⟨rfl, ?_, ?_⟩
  · refine ⟨?_, ⟨?_, by simp, by simp, by simp⟩, by simp, by simp, by simp, rfl⟩
    · have := (MapKept.heap_alloc (w.alloc (.map #[] 0)) (.cells #[.int .i64 (n : Int), .map (some w.heap.size), .bool false, .int .i64 0, .int .i64 0] 63)).1
      rw [World.size_alloc] at this
      exact this
    · have h1 := (MapKept.heap_alloc (w.alloc (.map #[] 0)) (.cells #[.int .i64 (n : Int), .map (some w.heap.size), .bool false, .int .i64 0, .int .i64 0] 63)).2 w.heap.size (by rw [World.size_alloc]; omega)
      exact h1.trans (MapKept.heap_alloc w _).1
  · exact ((Below.refl _ _).alloc (Nat.le_refl _) _).alloc (by rw [World.size_alloc]; omega) _
theorem setBox3 {W : World} {p : Nat} {v0 v1 v2 v3 v4 : Value} (h : W.heap[p]? = some (.cells #[v0, v1, v2, v3, v4] 63)) (u2 u3 u4 : Value) :
    (((W.setCell ⟨p, 2, none⟩ u2).setCell ⟨p, 3, none⟩ u3).setCell ⟨p, 4, none⟩ u4).heap[p]? = some (.cells #[v0, v1, u2, u3, u4] 63) ∧ Chg (fun g => g = p) W (((W.setCell ⟨p, 2, none⟩ u2).setCell ⟨p, 3, none⟩ u3).setCell ⟨p, 4, none⟩ u4) := by
  have e2 := heap_setCell_cells h 2 u2
  have e3 := heap_setCell_cells e2 3 u3
  have e4 := heap_setCell_cells e3 4 u4
  exact ⟨e4, ((Chg.set (D := fun g => g = p) (q := p) 2 _ _ rfl).trans (Chg.set (D := fun g => g = p) (q := p) 3 _ _ rfl)).trans (Chg.set (D := fun g => g = p) (q := p) 4 _ _ rfl)⟩
theorem setBox2 {W : World} {p : Nat} {v0 v1 v2 v3 v4 : Value} (h : W.heap[p]? = some (.cells #[v0, v1, v2, v3, v4] 63)) (u3 u4 : Value) :
    ((W.setCell ⟨p, 3, none⟩ u3).setCell ⟨p, 4, none⟩ u4).heap[p]? = some (.cells #[v0, v1, v2, u3, u4] 63) ∧ Chg (fun g => g = p) W ((W.setCell ⟨p, 3, none⟩ u3).setCell ⟨p, 4, none⟩ u4) := by
  have e3 := heap_setCell_cells h 3 u3
  have e4 := heap_setCell_cells e3 4 u4
  exact ⟨e4, (Chg.set (D := fun g => g = p) (q := p) 3 _ _ rfl).trans (Chg.set (D := fun g => g = p) (q := p) 4 _ _ rfl)⟩
set_option maxHeartbeats 1000000 in
theorem up_any {w : World} {p b ck : Nat} {S : Dk} {xs : List X} (h : DiskAt w p b S xs ck) :
    Calls Try.prog 20 #[.pointer (some ⟨p, 0, none⟩)] w fun e w' => e = .returned (.int .i64 0) ∧ DiskAt w' p b { S with down := false, steps := 0, keep := 0 } xs ck ∧ Chg (fun g => g = p) w w' ∧ w'.heap.size = w.heap.size := by
  have f2 := Lib.frozen_of_heap h.box 2
  have f3 := Lib.frozen_of_heap h.box 3
  have f4 := Lib.frozen_of_heap h.box 4
  obtain ⟨c0, c1, c2, c3, c4⟩ := box5 h.box
  have HH : Hid (DiskAt w p b S xs ck) := h
  clear h
  go_enter Try.func20, Try.ntmps20
  go_wp2_with fail
  go_ret
  have hb := setBox3 HH.out.box (.bool false) (.int .i64 0) (.int .i64 0)
  exact ⟨rfl, HH.out.setBox hb.2 hb.1 rfl, hb.2, by simp⟩
set_option maxHeartbeats 1000000 in
theorem down_any {w : World} {p b ck : Nat} {S : Dk} {xs : List X} (h : DiskAt w p b S xs ck) :
    Calls Try.prog 17 #[.pointer (some ⟨p, 0, none⟩)] w fun e w' => e = .returned (.bool S.down) ∧ w' = w := by
  obtain ⟨c0, c1, c2, c3, c4⟩ := box5 h.box
  clear h
  go_enter Try.func17, Try.ntmps17
  go_wp2_with fail
  go_ret
  exact ⟨rfl, rfl⟩
set_option maxHeartbeats 1000000 in
/-- Arm of a disk that runs, with steps above 0. -/
theorem arm_any {w : World} {p b ck : Nat} {S : Dk} {xs : List X} (h : DiskAt w p b S xs ck) (hd : S.down = false) (s k : Nat) (hs : 0 < s) :
    Calls Try.prog 37 #[.pointer (some ⟨p, 0, none⟩), .int .i64 (s : Int), .int .i64 (k : Int)] w fun e w' => e = .returned (.int .i64 0) ∧ DiskAt w' p b { S with steps := s, keep := k } xs ck ∧ Chg (fun g => g = p) w w' ∧ w'.heap.size = w.heap.size := by
  have f3 := Lib.frozen_of_heap h.box 3
  have f4 := Lib.frozen_of_heap h.box 4
  obtain ⟨c0, c1, c2, c3, c4⟩ := box5 h.box
  rw [hd] at c2
  have HH : Hid (DiskAt w p b S xs ck ∧ S.down = false) := ⟨h, hd⟩
  have g1 : ((s : Int) == 0) = false := beq_eq_false_iff_ne.2 (by omega)
  have g2 : ¬ ((s : Int) < 0) := by omega
  have g3 : ¬ ((k : Int) < 0) := by omega
  clear h hd hs
  go_enter Try.func37, Try.ntmps37
  go_wp2_with fail
  go_ret
  have hb := setBox2 HH.out.1.box (.int .i64 (s : Int)) (.int .i64 (k : Int))
  exact ⟨rfl, HH.out.1.setBox hb.2 hb.1 rfl, hb.2, by simp⟩
set_option maxHeartbeats 1000000 in
theorem find_hit {w : World} {p b ck : Nat} {S : Dk} {l r : List X} {x : X} (h : DiskAt w p b S (l ++ x :: r) ck) {nm : List UInt8} (hl : nm.length ≤ 9223372036854775807) (hr : readyP S nm = 0) (hx : x.nm = nm) (hn : ∀ y ∈ l, y.nm ≠ nm) :
    Calls Try.prog 26 #[.pointer (some ⟨p, 0, none⟩), .string ⟨nm.toArray⟩] w fun e w' => e = .returned (.tuple #[.pointer (some ⟨x.q, 0, none⟩), .int .i64 0]) ∧ w' = w := by
  obtain ⟨c0, c1, c2, c3, c4⟩ := box5 h.box
  have HR : Hid (Calls Try.prog 22 #[.pointer (some ⟨p, 0, none⟩), .string ⟨nm.toArray⟩] w fun e w' => e = .returned (.int .i64 0) ∧ w' = w) := by
    have := ready_any h nm hl
    rw [hr] at this
    exact this
  have HL := look_hit h.map hx hn
  clear h hl hr hx hn
  generalize (⟨nm.toArray⟩ : ByteArray) = s at *
  go_enter Try.func26, Try.ntmps26
  go_wp2_with fail
  refine HR.out.mono ?_
  rintro e w1 ⟨rfl, rfl⟩
  go_wp2_with fail
  go_ret2
  exact ⟨rfl, rfl⟩
end Go.Proofs.Ytjcfeaekhefpfaa
