import Derived.Test.YthkfcocakhekaaaDoorXcC
namespace Go.Proofs.YthkfcocakhekaaaDoor
open Go.RowKit Go.Lib
set_option maxRecDepth 100000

/-- The cells that an Ins puts in. -/
def newL (c n : Int) (k : Nat) : List CellW := (List.range k).map fun i => ((c, n), ((i : Nat) : Int), 0)
theorem newL_length (c n : Int) (k : Nat) : (newL c n k).length = k := by simp [newL]
theorem newL_succ (c n : Int) (k : Nat) : newL c n k ++ [((c, n), ((k : Nat) : Int), 0)] = newL c n (k + 1) := by unfold newL; rw [List.range_succ, List.map_append]; rfl
def insL (R : List CellW) (p : Nat) (N : List CellW) : List CellW := R.take p ++ N ++ R.drop p
theorem insL_length (R : List CellW) (p : Nat) (N : List CellW) (h : p ≤ R.length) : (insL R p N).length = R.length + N.length := by
  simp only [insL, List.length_append, List.length_take, List.length_drop]; omega

set_option maxHeartbeats 4000000 in
theorem does_ins {c n : Int} {pn : Nat} {s : ByteArray} {l : List (Int × Int)} {tc tn : Int} {on : Bool} {w : World} {a : Option Addr} {m cap : Nat} {R : List CellW} (h : Rw cellW 4 w a m cap R) (hm : m ≤ 1000) (hp : pn ≤ m) (hs : s.size ≤ 1000) {a2 : Option Addr} {m2 cap2 : Nat} :
    Calls Tryd.prog 40 #[.slice a m cap, opVal ⟨c, n, 1, pn, s, l, tc, tn, on⟩ (.slice a2 m2 cap2)] w fun e w' => ∃ v, e = .returned (.tuple #[v, .bool true]) ∧ OwnF cellW 4 48 w' w.heap.size v (insL R pn (newL c n (lawW s s.size))) ∧ Below w.heap.size w w' := by
  have hln := h.len
  have hro := h.room
  have hwl := lawW_le s s.size
  have HW : Hid (∀ W : World, Calls Tryd.prog 19 #[opVal ⟨c, n, 1, pn, s, l, tc, tn, on⟩ (.slice a2 m2 cap2)] W fun e w' => e = .returned (.int .i64 (lawW s s.size : Nat)) ∧ Below W.heap.size W w') := fun W => lawWidth_1 hs
  generalize lawW s s.size = wd at *
  simp only [opVal] at *
  obtain ⟨W0, hW0⟩ : ∃ W0, w.alloc (Obj.cells #[.int .i64 c, .int .i64 n, .int .i64 1, .int .i64 pn, .string s, .slice a2 m2 cap2, .int .i64 tc, .int .i64 tn, .bool on] 41) = W0 := ⟨_, rfl⟩
  have hX : W0.heap[w.heap.size]? = some (Obj.cells #[.int .i64 c, .int .i64 n, .int .i64 1, .int .i64 pn, .string s, .slice a2 m2 cap2, .int .i64 tc, .int .i64 tn, .bool on] 41) := by rw [← hW0]; exact alloc_last _ _ _ rfl
  have hB0 : Below w.heap.size w W0 := by rw [← hW0]; exact (Below.refl w.heap.size w).alloc (Nat.le_refl _) _
  have alt : w.heap.size < W0.heap.size := (Array.getElem?_eq_some_iff.1 hX).1
  have h0 := h.below hB0
  obtain ⟨va, vc, w1, hr1, ho1, hb1, _⟩ := appendF_all kindW layW (ownF_nil (f := cellW) (k := 4) (T := 48) W0 W0.heap.size) (Nat.le_refl _) h0 (by simp; omega) (by simp; omega) 27
  simp only [List.length_nil, List.nil_append, Nat.zero_add] at hr1 ho1
  have h1 := h0.below hb1
  obtain ⟨va2, vc2, w2, hr2, ho2, hb2, _⟩ := appendF_all kindW layW (ownF_nil (f := cellW) (k := 4) (T := 48) w1 W0.heap.size) hb1.size (h1.take pn hp) (by simp; omega) (by simp; omega) 27
  simp only [List.length_nil, List.nil_append, Nat.zero_add] at hr2 ho2
  have hcut : ∀ W, (Instr.slice 27 (.slice a m cap) none (some (.int .i64 (pn : Int))) none).run Tryd.prog W = .ok (.slice a pn cap) W := fun W => cut_high kindW elemW W _ _ _ pn (by omega)
  obtain ⟨a', cap', htail, hRt⟩ := cut_tail kindW elemW h pn hp
  have hB2 : Below W0.heap.size W0 w2 := hb1.trans hb2
  have H0 : Hid (Rw cellW 4 W0 a m cap R) := h0
  have HT : Hid (∀ W, Rw cellW 4 W a m cap R → Rw cellW 4 W a' (m - pn) cap' (R.drop pn)) := hRt
  have HO2 : Hid (OwnF cellW 4 48 w2 W0.heap.size (.slice va2 pn vc2) (R.take pn ++ newL c n 0)) := by
    show OwnF _ _ _ _ _ _ _
    rw [show newL c n 0 = [] from rfl, List.append_nil]
    exact ho2
  have t1 : decide ((pn : Int) < 0) = false := decide_eq_false (by omega)
  have t2 : decide ((m : Int) < (pn : Int)) = false := decide_eq_false (by omega)
  clear h h0 h1 ho1 ho2 hRt hb2
  obtain ⟨ak0, ak1, ak2, ak3, ak4, ak5, ak6, ak7, ak8⟩ := box9 hX
  have hX1 := (hb1.block _ alt).trans hX
  obtain ⟨bk0, bk1, bk2, bk3, bk4, bk5, bk6, bk7, bk8⟩ := box9 hX1
  go_enter Tryd.func40, Tryd.ntmps40
  go_upto_region 6 with (at_builtin; refine wpList_append_hr rfl _ _ 27 rfl _ _ rfl rfl hr1 ?_)
  go_wp2_with (at_builtin; refine wpList_append_hr rfl _ _ 27 rfl _ _ rfl rfl hr2 ?_)
  clear hr1 hr2 hb1 hX1 ak0 ak1 ak2 ak3 ak4 ak5 ak6 ak7 ak8 bk0 bk1 bk2 bk3 bk4 bk5 bk6 bk7 bk8 hcut t1 t2 hW0
  go_loopw [6, 7] (fun v vi W => ∃ j : Nat, j ≤ wd ∧ vi = .int .i64 j ∧ OwnF cellW 4 48 W W0.heap.size v (R.take pn ++ newL c n j) ∧ Below W0.heap.size W0 W) (fun _ vi _ => wd - (RowKit.intOf vi).toNat)
  case atStart => exact ⟨0, Nat.zero_le _, rfl, HO2.out, hB2⟩
  case round =>
    obtain ⟨j, hj, rfl, ho, hb⟩ := hrel
    clear HO2 hB2
    have hX1 := (hb.block _ alt).trans hX
    obtain ⟨bk0, bk1, bk2, bk3, bk4, bk5, bk6, bk7, bk8⟩ := box9 hX1
    have htl : (R.take pn ++ newL c n j).length = pn + j := by rw [List.length_append, List.length_take, newL_length]; omega
    go_wp2_with fail
    refine (HW.out _).mono ?_
    rintro e w3 ⟨rfl, hb3⟩
    have hb4 := hb.trans (hb3.mono hb.size)
    have ho4 := ho.below hb3
    have hX2 := (hb3.block _ (by have := hb.size; omega)).trans hX1
    clear bk0 bk1 bk2 bk3 bk4 bk5 bk6 bk7 bk8 hX1 hb3 ho hb
    obtain ⟨bk0, bk1, bk2, bk3, bk4, bk5, bk6, bk7, bk8⟩ := box9 hX2
    obtain ⟨ao, co, rfl⟩ := ho4.shape
    by_cases hlt : j < wd
    · obtain ⟨g5, cap5, w6, hr, ho6, hb6, _, _⟩ := appendF_one kindW layW ho4 hb4.size ((c, n), ((j : Nat) : Int), 0) #[.int .i64 c, .int .i64 n, .int .i64 j, .int .i64 0] rfl 48 (by omega) (by omega) 27
      rw [List.append_assoc, newL_succ] at ho6
      rw [htl] at hr ho6 ⊢
      have hb7 := hb4.trans hb6
      have HO : Hid (OwnF cellW 4 48 w6 W0.heap.size (.slice (some ⟨g5, 0, none⟩) (pn + j + 1) cap5) (R.take pn ++ newL c n (j + 1))) := ho6
      have b1 : (j : Int) < (wd : Int) := by omega
      clear ho4 ho6 hb4 hb6 htl
      go_wp2_with (at_builtin; refine wpList_append_hr rfl _ _ 27 rfl _ _ rfl rfl hr ?_)
      go_roundw
      case rel => exact ⟨j + 1, by omega, by go_num, HO.out, hb7⟩
      case measure => simp [RowKit.intOf]; omega
    · obtain rfl : j = wd := by omega
      obtain ⟨va9, vc9, w9, hr9, ho9, hb9, _⟩ := appendF_all kindW layW ho4 hb4.size (HT.out _ (H0.out.below hb4)) (by omega) (by omega) 27
      rw [htl] at hr9 ho9 ⊢
      have hb8 : Below w.heap.size w w9 := hB0.trans ((hb4.trans hb9).mono hB0.size)
      have HO : Hid (OwnF cellW 4 48 w9 w.heap.size (.slice va9 (pn + j + (m - pn)) vc9) (insL R pn (newL c n j))) := ho9.mono hB0.size
      clear ho4 ho9 hb4 hb9 htl
      go_wp2_with (at_builtin; refine wpList_append_hr rfl _ _ 27 rfl _ _ rfl rfl hr9 ?_)
      go_ret2
      exact ⟨_, rfl, HO.out, hb8⟩
end Go.Proofs.YthkfcocakhekaaaDoor
