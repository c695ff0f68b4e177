import Derived.Test.YtjcfeaekhefpfaaDaB
import Derived.BigQuiet
/-! cut, sync, lose; names; ready; due. -/
namespace Go.Proofs.Ytjcfeaekhefpfaa
open Go.RowKit Go.Lib
set_option maxRecDepth 100000

theorem FileAt.cut {W W' : World} {x : X} (h : FileAt W x) (n : Nat) (hn : n ≤ x.bs.length) (hC : Chg (fun g => g = x.q) W W') (hb : W'.heap[x.q]? = some (.cells #[cutV x.v n, .int .i64 ((min x.syn n : Nat) : Int)] 68)) : FileAt W' (x.cut n) :=
  ⟨hb, own_cut (h.own.chg hC (fun g hg e => q_ne_g h h hg e.symm)) n hn, by
    show min x.syn n ≤ (x.bs.take n).length
    rw [List.length_take]; omega⟩
set_option maxHeartbeats 1000000 in
theorem cut_any {w : World} {x : X} (h : FileAt w x) (n : Nat) (hn : n ≤ x.bs.length) :
    Calls Try.prog 49 #[.pointer (some ⟨x.q, 0, none⟩), .int .i64 (n : Int)] w fun e w' => e = .returned (.tuple #[]) ∧ FileAt w' (x.cut n) ∧ Chg (fun g => g = x.q) w w' ∧ w'.heap.size = w.heap.size := by
  obtain ⟨c0, c1⟩ := box2 h.box
  obtain ⟨a, cap, hv, h1, h2, hrw⟩ := own_shape h.own
  have f0 := Lib.frozen_of_heap h.box 0
  have f1 := Lib.frozen_of_heap h.box 1
  have HC : ∀ W : World, (Instr.slice 22 (.slice a x.bs.length cap) none (some (.int .i64 (n : Int))) none).run Try.prog W = .ok (.slice a n cap) W := fun W => cutU W a _ cap n (by omega)
  have HM : ∀ ats ty W, (Builtin.min_ ats ty #[.int .i64 (x.syn : Int), .int .i64 (n : Int)]).run Try.prog W = .ok (.int .i64 ((min x.syn n : Nat) : Int)) W := fun ats ty W => by
    rw [min_run]; congr 2; omega
  rw [hv] at c0
  have hlt := h.lt
  have HH : Hid (FileAt w x ∧ n ≤ x.bs.length ∧ x.v = .slice a x.bs.length cap ∧ x.q < w.heap.size) := ⟨h, hn, hv, hlt⟩
  clear h hn hv h1 h2 hlt hrw
  generalize hq : x.q = q at *
  go_enter Try.func49, Try.ntmps49
  go_wp2_with fail
  obtain ⟨h, hn, hv, hlt⟩ := HH.out
  have hb0 : w.heap[q]? = some (.cells #[.slice a x.bs.length cap, .int .i64 (x.syn : Int)] 68) := by rw [← hq, ← hv]; exact h.box
  have e0 := heap_setCell_cells hb0 0 (.slice a n cap)
  have e1 := heap_setCell_cells e0 1 (.int .i64 ((min x.syn n : Nat) : Int))
  have hC : Chg (fun g => g = x.q) w ((w.setCell ⟨q, 0, none⟩ (.slice a n cap)).setCell ⟨q, 1, none⟩ (.int .i64 ((min x.syn n : Nat) : Int))) := (Chg.set (D := fun g => g = x.q) (q := q) 0 _ _ hq.symm).trans (Chg.set (D := fun g => g = x.q) (q := q) 1 _ _ hq.symm)
  go_end0
  refine ⟨rfl, h.cut n hn hC ?_, hq ▸ hC, by simp⟩
  rw [hq, e1, hv]
  rfl
set_option maxHeartbeats 1000000 in
theorem sync_any {w : World} {x : X} (h : FileAt w x) :
    Calls Try.prog 48 #[.pointer (some ⟨x.q, 0, none⟩)] w fun e w' => e = .returned (.tuple #[]) ∧ FileAt w' x.sync ∧ Chg (fun g => g = x.q) w w' ∧ w'.heap.size = w.heap.size := by
  obtain ⟨c0, c1⟩ := box2 h.box
  obtain ⟨a, cap, hv, h1, h2, hrw⟩ := own_shape h.own
  have f1 := Lib.frozen_of_heap h.box 1
  rw [hv] at c0
  have HH : Hid (FileAt w x ∧ x.v = .slice a x.bs.length cap) := ⟨h, hv⟩
  clear h hv h1 h2 hrw
  generalize hq : x.q = q at *
  go_enter Try.func48, Try.ntmps48
  go_wp2_with fail
  obtain ⟨h, hv⟩ := HH.out
  have hC : Chg (fun g => g = x.q) w (w.setCell ⟨q, 1, none⟩ (.int .i64 (x.bs.length : Int))) := Chg.set (D := fun g => g = x.q) (q := q) 1 _ _ hq.symm
  have e1 := heap_setCell_cells h.box 1 (.int .i64 (x.bs.length : Int))
  rw [hq] at e1
  go_end0
  refine ⟨rfl, ⟨?_, h.own.chg hC (fun g hg e => q_ne_g h h hg e.symm), Nat.le_refl _⟩, hq ▸ hC, by simp⟩
  rw [show x.sync.q = q from hq]
  exact e1
theorem X.cut_len (x : X) (n : Nat) (hn : n ≤ x.bs.length) : (x.cut n).bs.length = n := by
  show (x.bs.take n).length = n
  rw [List.length_take]; omega
theorem loseN_le {W : World} {x : X} (h : FileAt W x) (k : Nat) : loseN k x ≤ x.bs.length := by
  have := h.syn
  unfold loseN
  omega
set_option maxHeartbeats 1000000 in
theorem lose_any {w : World} {x : X} (h : FileAt w x) (hl : x.bs.length ≤ 1099511627776) (k : Nat) (hk : k ≤ 9223372036854775807) :
    Calls Try.prog 51 #[.pointer (some ⟨x.q, 0, none⟩), .int .i64 (k : Int)] w fun e w' => e = .returned (.tuple #[]) ∧ FileAt w' (x.lose k) ∧ Chg (fun g => g = x.q) w w' ∧ w'.heap.size = w.heap.size := by
  obtain ⟨c0, c1⟩ := box2 h.box
  obtain ⟨a, cap, hv, h1, h2, hrw⟩ := own_shape h.own
  have hs := h.syn
  rw [hv] at c0
  have g0 : IntKind.i64.wrap ((x.bs.length : Int) - (x.syn : Int)) = ((x.bs.length - x.syn : Nat) : Int) := by rw [IntWalk.i64_in _ (by omega)]; omega
  have HM : ∀ ats ty W, (Builtin.min_ ats ty #[.int .i64 ((x.bs.length - x.syn : Nat) : Int), .int .i64 (k : Int)]).run Try.prog W = .ok (.int .i64 ((min (x.bs.length - x.syn) k : Nat) : Int)) W := fun ats ty W => by
    rw [min_run]; congr 2; omega
  have g1 : IntKind.i64.wrap ((x.syn : Int) + ((min (x.bs.length - x.syn) k : Nat) : Int)) = ((loseN k x : Nat) : Int) := by rw [IntWalk.i64_in _ (by omega)]; unfold loseN; omega
  have hn := loseN_le h k
  have HF1 : Hid (∀ W : World, FileAt W x → Calls Try.prog 49 #[.pointer (some ⟨x.q, 0, none⟩), .int .i64 ((loseN k x : Nat) : Int)] W fun e w' => e = .returned (.tuple #[]) ∧ FileAt w' (x.cut (loseN k x)) ∧ Chg (fun g => g = x.q) W w' ∧ w'.heap.size = W.heap.size) := fun W hW => cut_any hW _ hn
  have HF2 : Hid (∀ W : World, FileAt W (x.cut (loseN k x)) → Calls Try.prog 48 #[.pointer (some ⟨x.q, 0, none⟩)] W fun e w' => e = .returned (.tuple #[]) ∧ FileAt w' (x.lose k) ∧ Chg (fun g => g = x.q) W w' ∧ w'.heap.size = W.heap.size) := fun W hW => sync_any hW
  have HH : Hid (FileAt w x) := h
  clear h hv h1 h2 hrw hs hl hk hn
  go_enter Try.func51, Try.ntmps51
  go_wp2_with fail
  go_quiet (fail)
  go_wp2_with fail
  refine (HF1.out _ (HH.out.chg (D := fun _ => False) (Chg.refl _ _).drewN (fun f => f) (fun _ _ f => f))).mono ?_
  rintro e w1 ⟨rfl, h1, hC1, hs1⟩
  have HX : Hid (FileAt w1 (x.cut (loseN k x)) ∧ Chg (fun g => g = x.q) w w1 ∧ w1.heap.size = w.heap.size) := ⟨h1, (Chg.refl _ _).drewN.trans hC1, hs1⟩
  clear h1 hC1 hs1
  go_wp2_with fail
  refine (HF2.out _ HX.out.1).mono ?_
  rintro e w2 ⟨rfl, h2, hC2, hs2⟩
  go_wp2_with fail
  go_end0
  exact ⟨rfl, h2, HX.out.2.1.trans hC2, hs2.trans HX.out.2.2⟩
end Go.Proofs.Ytjcfeaekhefpfaa
