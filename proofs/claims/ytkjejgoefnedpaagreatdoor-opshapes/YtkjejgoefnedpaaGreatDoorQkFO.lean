import Derived.Test.YtkjejgoefnedpaaGreatDoorTxtF
import Derived.ProofKit
import Derived.OpenShut
import Derived.Deep.DeepHandedRow
import Derived.Lib.LaidTab
import Derived.Test.YtkjejgoefnedpaaGreatDoorQhSA
import Derived.Test.YtkjejgoefnedpaaGreatDoorQkAE
import Derived.Deep.Cut
import Derived.Deep.MidRow
import Derived.Deep.WholeRow
import Derived.Test.YtkjejgoefnedpaaGreatDoorQaAC
import Derived.Test.YtkjejgoefnedpaaGreatDoorRows
import Derived.SizedLaws
import Derived.Test.YtkjejgoefnedpaaGreatDoorQkC
import Derived.Test.YtkjejgoefnedpaaGreatDoorRpV
import Derived.Test.YtkjejgoefnedpaaGreatDoorOpLR
import Derived.Test.YtkjejgoefnedpaaGreatDoorQdAH
namespace Go.Proofs.YtkjejgoefnedpaaGreatDoor
open Go.ChangeShapes Go.WideShapes Go.ChangeAt Go.RowKit
theorem own : ownKnob Tryz.prog.godebug = none := by kernel_rfl
theorem gBar : Tryz.prog.globalNamed "redraft/utext.barred" = some 0 := by kernel_rfl
theorem gBarType : (Tryz.prog.globals[0]?).map (·.type) = some 164 := by kernel_rfl
theorem cellsArr : Tryz.prog.cellsOf 164 = 10 := by kernel_rfl
theorem cellsStr : Tryz.prog.cellsOf 163 = 2 := by kernel_rfl
theorem cells32 : Tryz.prog.cellsOf 21 = 1 := by kernel_rfl
theorem pairCells {H : Type} {enc : TypeId × Value → H} {W : World} {base m : Nat} {sp : Nat → Bool} {held : Bool} {l : List Value} {lo hi : Int} {p : List MemPlace}
    (h : DataW.trod enc Tryz.prog W base sp held m 163 l = some (.agg [.lit (.int .i32 lo), .lit (.int .i32 hi)], p)) : l = [.int .i32 lo, .int .i32 hi] := by
  obtain ⟨y0, y1, n, hx, hl, h0, h1⟩ := trod_struct2 Tryz.underlying163 h
  rw [cellsStr] at hl
  simp only [cells32] at h0 h1
  obtain ⟨a, e0, f0, _⟩ := DataW.trod_int Tryz.underlying21 h0
  obtain ⟨b, e1, f1, _⟩ := DataW.trod_int Tryz.underlying21 h1
  subst f0 f1
  simp only [Prod.mk.injEq, DataW.agg.injEq, List.cons.injEq, DataW.lit.injEq, Lit.int.injEq] at hx
  obtain ⟨⟨⟨_, ra⟩, ⟨_, rb⟩, _⟩, _⟩ := hx
  subst ra rb
  match l, hl, e0, e1 with
  | [x, y], _, e0, e1 =>
    simp at e0 e1
    simp [e0, e1]
theorem table {W : World} {cs0 : Array Value} {f0 : Nat} {p0 : List MemPlace} (hv0 : World.var? Tryz.prog W "redraft/utext.barred" = some cs0)
    (hd0 : DataW.trod (fun _ => ()) Tryz.prog W 0 (fun _ => true) false f0 164 cs0.toList = some (.agg [.agg [.lit (.int .i32 0), .lit (.int .i32 8)], .agg [.lit (.int .i32 11), .lit (.int .i32 31)], .agg [.lit (.int .i32 127), .lit (.int .i32 159)], .agg [.lit (.int .i32 64976), .lit (.int .i32 65007)], .agg [.lit (.int .i32 65279), .lit (.int .i32 65279)]], p0)) :
    ∃ t fr, W.heap[0]? = some (.cells barCells t fr) := by
  obtain ⟨xs, m, _, hx, hlen, hn, hel⟩ := DataW.trod_array Tryz.underlying164 hd0
  rw [cellsArr] at hlen
  rw [cellsStr] at hel
  have hcs : cs0.toList = barCells.toList := by
    match xs, hn, hx with
    | [x0, x1, x2, x3, x4], _, hx =>
      simp only [Prod.mk.injEq, DataW.agg.injEq, List.map_cons, List.map_nil, List.cons.injEq] at hx
      obtain ⟨⟨r0, r1, r2, r3, r4, _⟩, _⟩ := hx
      have q0 := pairCells ((hel 0 (by decide)).trans (congrArg some (Prod.ext r0.symm rfl)))
      have q1 := pairCells ((hel 1 (by decide)).trans (congrArg some (Prod.ext r1.symm rfl)))
      have q2 := pairCells ((hel 2 (by decide)).trans (congrArg some (Prod.ext r2.symm rfl)))
      have q3 := pairCells ((hel 3 (by decide)).trans (congrArg some (Prod.ext r3.symm rfl)))
      have q4 := pairCells ((hel 4 (by decide)).trans (congrArg some (Prod.ext r4.symm rfl)))
      generalize cs0.toList = l at *
      match l, hlen, q0, q1, q2, q3, q4 with
      | [c0, c1, c2, c3, c4, c5, c6, c7, c8, c9], _, q0, q1, q2, q3, q4 =>
        simp at q0 q1 q2 q3 q4
        simp [barCells, q0, q1, q2, q3, q4]
  have hcs' : cs0 = barCells := Array.toList_inj.1 hcs
  subst hcs'
  unfold World.var? at hv0
  rw [gBar] at hv0
  simp only [Option.bind_some] at hv0
  split at hv0
  · rename_i c t fr he
    refine ⟨t, fr, ?_⟩
    rw [he]
    simp only [Option.some.injEq] at hv0
    rw [hv0]
  · cases hv0
end Go.Proofs.YtkjejgoefnedpaaGreatDoor

namespace Go.Proofs.YtkjejgoefnedpaaGreatDoor
open Go.RowKit Go.Lib
set_option maxRecDepth 100000
set_option maxHeartbeats 8000000 in
theorem asks_3 {c n k p tc tn c2 n2 k2 p2 tc2 tn2 tot : Int} {s s2 ln : ByteArray} {on on2 : Bool} {l : List (Int × Int)} {w : World} {a a1 b2 : Option Addr} {m cap cap1 m2 cap2 : Nat} (h1 : Sp.Rng w a1 m cap1 l) (h2 : Sp.Rng w a m cap l) (hs : s.size ≤ 2097152) (hm : m ≤ 1048576) (hw : Bar w) :
    Calls Tryz.prog 14 #[.agg #[.int .i64 3, .int .i64 c, .int .i64 n, .int .i64 k, .int .i64 p, .string s, .slice a m cap, .int .i64 tc, .int .i64 tn, .bool on, .int .i64 c2, .int .i64 n2, .int .i64 k2, .int .i64 p2, .string s2, .slice b2 m2 cap2, .int .i64 tc2, .int .i64 tn2, .bool on2, .int .i64 tot, .string ln], .agg #[.int .i64 c, .int .i64 n, .int .i64 k, .int .i64 p, .string s, .slice a1 m cap1, .int .i64 tc, .int .i64 tn, .bool on]] w fun e w' => e = .returned (.bool true) ∧ Below w.heap.size w w' := by
  go_enter Tryz.func14, Tryz.ntmps14
  go_wp2_with fail
  generalize hW0 : (w.alloc (Obj.cells #[.int .i64 3, .int .i64 c, .int .i64 n, .int .i64 k, .int .i64 p, .string s, .slice a m cap, .int .i64 tc, .int .i64 tn, .bool on, .int .i64 c2, .int .i64 n2, .int .i64 k2, .int .i64 p2, .string s2, .slice b2 m2 cap2, .int .i64 tc2, .int .i64 tn2, .bool on2, .int .i64 tot, .string ln] 46)).alloc (Obj.cells #[.int .i64 c, .int .i64 n, .int .i64 k, .int .i64 p, .string s, .slice a1 m cap1, .int .i64 tc, .int .i64 tn, .bool on] 44) = W0
  have hX : W0.heap[w.heap.size]? = some (Obj.cells #[.int .i64 3, .int .i64 c, .int .i64 n, .int .i64 k, .int .i64 p, .string s, .slice a m cap, .int .i64 tc, .int .i64 tn, .bool on, .int .i64 c2, .int .i64 n2, .int .i64 k2, .int .i64 p2, .string s2, .slice b2 m2 cap2, .int .i64 tc2, .int .i64 tn2, .bool on2, .int .i64 tot, .string ln] 46) := by rw [← hW0]; exact (Below.heap_alloc _ _ _ (by simp)).trans (alloc_last _ _ _ rfl)
  have hZ : W0.heap[w.heap.size + 1]? = some (Obj.cells #[.int .i64 c, .int .i64 n, .int .i64 k, .int .i64 p, .string s, .slice a1 m cap1, .int .i64 tc, .int .i64 tn, .bool on] 44) := by rw [← hW0]; exact alloc_last _ _ _ (by simp)
  have hB0 : Below w.heap.size w W0 := by rw [← hW0]; exact ((Below.refl w.heap.size w).alloc (Nat.le_refl _) _).alloc (by simp) _
  clear hW0
  have g1 := h1.below hB0
  have g2 := h2.below hB0
  have gw := hw.below hB0
  clear h1 h2 hw
  obtain ⟨x0, x1, x2, x3, x4, x5, x6, x7, x8, x9, x10, x11, x12, x13, x14, x15, x16, x17, x18, x19, x20⟩ := box21 hX
  obtain ⟨y0, y1, y2, y3, y4, y5, y6, y7, y8⟩ := box9 hZ
  have T1 := opCovers_any (o := ⟨c, n, k, p, s, l, tc, tn, on⟩) g1 (by omega) (Nat.le_trans hs (by decide)) gw
  simp only [opVal] at T1
  go_wp2_with fail
  refine T1.mono ?_
  rintro e w1 ⟨v1, rfl, ho1, hb1⟩
  obtain ⟨va, vc, rfl⟩ := ho1.shape
  have hX1 := (hb1.block _ (Array.getElem?_eq_some_iff.1 hX).1).trans hX
  have hZ1 := (hb1.block _ (Array.getElem?_eq_some_iff.1 hZ).1).trans hZ
  have hB1 := hB0.trans (hb1.mono hB0.size)
  clear T1
  clear x0 x1 x2 x3 x4 x5 x6 x7 x8 x9 x10 x11 x12 x13 x14 x15 x16 x17 x18 x19 x20 y0 y1 y2 y3 y4 y5 y6 y7 y8
  obtain ⟨x0, x1, x2, x3, x4, x5, x6, x7, x8, x9, x10, x11, x12, x13, x14, x15, x16, x17, x18, x19, x20⟩ := box21 hX1
  obtain ⟨y0, y1, y2, y3, y4, y5, y6, y7, y8⟩ := box9 hZ1
  have T2 := gCovers_any (o := ⟨c, n, k, p, s, l, tc, tn, on⟩) (g2.below hb1) (by omega) hs
  simp only [opVal] at T2
  go_wp2_with fail
  refine T2.mono ?_
  rintro e w2 ⟨v2, rfl, ho2, hb2⟩
  obtain ⟨vb, vd, rfl⟩ := ho2.shape
  have hB2 := hB1.trans (hb2.mono hB1.size)
  clear T2
  clear x0 x1 x2 x3 x4 x5 x6 x7 x8 x9 x10 x11 x12 x13 x14 x15 x16 x17 x18 x19 x20 y0 y1 y2 y3 y4 y5 y6 y7 y8
  have T3 := gSame_any ((rng_own ho1).below hb2) (rng_own ho2)
  rw [decide_eq_true rfl] at T3
  generalize coversV ⟨c, n, k, p, s, l, tc, tn, on⟩ = CL at *
  obtain ⟨nl, hnl⟩ : ∃ nl, CL.length = nl := ⟨_, rfl⟩
  rw [hnl] at T3 ⊢
  clear hX1 hZ1 hX hZ ho1 ho2 hnl
  go_wp2_with fail
  refine T3.mono ?_
  rintro e w3 ⟨rfl, hb3⟩
  have hB3 := hB2.trans (hb3.mono hB2.size)
  clear T3
  go_wp2_with fail
  go_ret
  exact ⟨rfl, hB3⟩
set_option maxHeartbeats 8000000 in
theorem asks_5 {c n k p tc tn c2 n2 k2 p2 tc2 tn2 tot : Int} {s s2 ln : ByteArray} {on on2 : Bool} {l : List (Int × Int)} {w : World} {a a1 b2 : Option Addr} {m cap cap1 m2 cap2 : Nat} (h1 : Sp.Rng w a1 m cap1 l) (h2 : Sp.Rng w a m cap l) (hs : s.size ≤ 2097152) (hm : m ≤ 1048576) (hw : Bar w) :
    Calls Tryz.prog 14 #[.agg #[.int .i64 5, .int .i64 c, .int .i64 n, .int .i64 k, .int .i64 p, .string s, .slice a m cap, .int .i64 tc, .int .i64 tn, .bool on, .int .i64 c2, .int .i64 n2, .int .i64 k2, .int .i64 p2, .string s2, .slice b2 m2 cap2, .int .i64 tc2, .int .i64 tn2, .bool on2, .int .i64 tot, .string ln], .agg #[.int .i64 c, .int .i64 n, .int .i64 k, .int .i64 p, .string s, .slice a1 m cap1, .int .i64 tc, .int .i64 tn, .bool on]] w fun e w' => e = .returned (.bool true) ∧ Below w.heap.size w w' := by
  go_enter Tryz.func14, Tryz.ntmps14
  go_wp2_with fail
  generalize hW0 : (w.alloc (Obj.cells #[.int .i64 5, .int .i64 c, .int .i64 n, .int .i64 k, .int .i64 p, .string s, .slice a m cap, .int .i64 tc, .int .i64 tn, .bool on, .int .i64 c2, .int .i64 n2, .int .i64 k2, .int .i64 p2, .string s2, .slice b2 m2 cap2, .int .i64 tc2, .int .i64 tn2, .bool on2, .int .i64 tot, .string ln] 46)).alloc (Obj.cells #[.int .i64 c, .int .i64 n, .int .i64 k, .int .i64 p, .string s, .slice a1 m cap1, .int .i64 tc, .int .i64 tn, .bool on] 44) = W0
  have hX : W0.heap[w.heap.size]? = some (Obj.cells #[.int .i64 5, .int .i64 c, .int .i64 n, .int .i64 k, .int .i64 p, .string s, .slice a m cap, .int .i64 tc, .int .i64 tn, .bool on, .int .i64 c2, .int .i64 n2, .int .i64 k2, .int .i64 p2, .string s2, .slice b2 m2 cap2, .int .i64 tc2, .int .i64 tn2, .bool on2, .int .i64 tot, .string ln] 46) := by rw [← hW0]; exact (Below.heap_alloc _ _ _ (by simp)).trans (alloc_last _ _ _ rfl)
  have hZ : W0.heap[w.heap.size + 1]? = some (Obj.cells #[.int .i64 c, .int .i64 n, .int .i64 k, .int .i64 p, .string s, .slice a1 m cap1, .int .i64 tc, .int .i64 tn, .bool on] 44) := by rw [← hW0]; exact alloc_last _ _ _ (by simp)
  have hB0 : Below w.heap.size w W0 := by rw [← hW0]; exact ((Below.refl w.heap.size w).alloc (Nat.le_refl _) _).alloc (by simp) _
  clear hW0
  have g1 := h1.below hB0
  have g2 := h2.below hB0
  have gw := hw.below hB0
  clear h1 h2 hw
  obtain ⟨x0, x1, x2, x3, x4, x5, x6, x7, x8, x9, x10, x11, x12, x13, x14, x15, x16, x17, x18, x19, x20⟩ := box21 hX
  obtain ⟨y0, y1, y2, y3, y4, y5, y6, y7, y8⟩ := box9 hZ
  have T1 := opClone_any (o := ⟨c, n, k, p, s, l, tc, tn, on⟩) g1 (by omega) (Nat.le_trans hs (by decide))
  simp only [opVal] at T1
  go_wp2_with fail
  refine T1.mono ?_
  rintro e w1 ⟨a3, c3, rfl, ho1, hb1⟩
  have hX1 := (hb1.block _ (Array.getElem?_eq_some_iff.1 hX).1).trans hX
  have hZ1 := (hb1.block _ (Array.getElem?_eq_some_iff.1 hZ).1).trans hZ
  have hB1 := hB0.trans (hb1.mono hB0.size)
  clear T1
  clear x0 x1 x2 x3 x4 x5 x6 x7 x8 x9 x10 x11 x12 x13 x14 x15 x16 x17 x18 x19 x20 y0 y1 y2 y3 y4 y5 y6 y7 y8
  go_upto_region 21 with fail
  generalize hW3 : w1.alloc (Obj.cells #[.int .i64 c, .int .i64 n, .int .i64 k, .int .i64 p, .string s, .slice a3 m c3, .int .i64 tc, .int .i64 tn, .bool on] 44) = W3
  have hb3 : Below w1.heap.size w1 W3 := hW3 ▸ (Below.refl w1.heap.size w1).alloc (Nat.le_refl _) _
  have hA3 : W3.heap[w1.heap.size]? = some (Obj.cells #[.int .i64 c, .int .i64 n, .int .i64 k, .int .i64 p, .string s, .slice a3 m c3, .int .i64 tc, .int .i64 tn, .bool on] 44) := hW3 ▸ alloc_last _ _ _ rfl
  clear hW3
  have hX3 := (hb3.block _ (Array.getElem?_eq_some_iff.1 hX1).1).trans hX1
  have hZ3 := (hb3.block _ (Array.getElem?_eq_some_iff.1 hZ1).1).trans hZ1
  have hB3 := hB1.trans (hb3.mono hB1.size)
  obtain ⟨x0, x1, x2, x3, x4, x5, x6, x7, x8, x9, x10, x11, x12, x13, x14, x15, x16, x17, x18, x19, x20⟩ := box21 hX3
  obtain ⟨y0, y1, y2, y3, y4, y5, y6, y7, y8⟩ := box9 hZ3
  obtain ⟨u0, u1, u2, u3, u4, u5, u6, u7, u8⟩ := box9 hA3
  have T2 := gEqual_self (o := ⟨c, n, k, p, s, l, tc, tn, on⟩) ((rng_own ho1).below hb3) ((g2.below hb1).below hb3)
  simp only [opVal] at T2
  clear hX1 hZ1 hX hZ hX3 hZ3 hA3 ho1
  go_wp2_with fail
  refine T2.mono ?_
  rintro e w4 ⟨rfl, hb4⟩
  have hB4 := hB3.trans (hb4.mono hB3.size)
  clear T2
  clear x0 x1 x2 x3 x4 x5 x6 x7 x8 x9 x10 x11 x12 x13 x14 x15 x16 x17 x18 x19 x20 y0 y1 y2 y3 y4 y5 y6 y7 y8
  clear u0 u1 u2 u3 u4 u5 u6 u7 u8
  go_wp2_with fail
  go_ret
  exact ⟨rfl, hB4⟩
set_option maxHeartbeats 8000000 in
theorem asks_6 {c n k p tc tn c2 n2 k2 p2 tc2 tn2 tot : Int} {s s2 ln : ByteArray} {on on2 : Bool} {l : List (Int × Int)} {w : World} {a a1 b2 : Option Addr} {m cap cap1 m2 cap2 : Nat} (h1 : Sp.Rng w a1 m cap1 l) (h2 : Sp.Rng w a m cap l) (hs : s.size ≤ 2097152) (hm : m ≤ 1048576) (hw : Bar w) :
    Calls Tryz.prog 14 #[.agg #[.int .i64 6, .int .i64 c, .int .i64 n, .int .i64 k, .int .i64 p, .string s, .slice a m cap, .int .i64 tc, .int .i64 tn, .bool on, .int .i64 c2, .int .i64 n2, .int .i64 k2, .int .i64 p2, .string s2, .slice b2 m2 cap2, .int .i64 tc2, .int .i64 tn2, .bool on2, .int .i64 tot, .string ln], .agg #[.int .i64 c, .int .i64 n, .int .i64 k, .int .i64 p, .string s, .slice a1 m cap1, .int .i64 tc, .int .i64 tn, .bool on]] w fun e w' => e = .returned (.bool true) ∧ Below w.heap.size w w' := by
  go_enter Tryz.func14, Tryz.ntmps14
  go_wp2_with fail
  generalize hW0 : (w.alloc (Obj.cells #[.int .i64 6, .int .i64 c, .int .i64 n, .int .i64 k, .int .i64 p, .string s, .slice a m cap, .int .i64 tc, .int .i64 tn, .bool on, .int .i64 c2, .int .i64 n2, .int .i64 k2, .int .i64 p2, .string s2, .slice b2 m2 cap2, .int .i64 tc2, .int .i64 tn2, .bool on2, .int .i64 tot, .string ln] 46)).alloc (Obj.cells #[.int .i64 c, .int .i64 n, .int .i64 k, .int .i64 p, .string s, .slice a1 m cap1, .int .i64 tc, .int .i64 tn, .bool on] 44) = W0
  have hX : W0.heap[w.heap.size]? = some (Obj.cells #[.int .i64 6, .int .i64 c, .int .i64 n, .int .i64 k, .int .i64 p, .string s, .slice a m cap, .int .i64 tc, .int .i64 tn, .bool on, .int .i64 c2, .int .i64 n2, .int .i64 k2, .int .i64 p2, .string s2, .slice b2 m2 cap2, .int .i64 tc2, .int .i64 tn2, .bool on2, .int .i64 tot, .string ln] 46) := by rw [← hW0]; exact (Below.heap_alloc _ _ _ (by simp)).trans (alloc_last _ _ _ rfl)
  have hZ : W0.heap[w.heap.size + 1]? = some (Obj.cells #[.int .i64 c, .int .i64 n, .int .i64 k, .int .i64 p, .string s, .slice a1 m cap1, .int .i64 tc, .int .i64 tn, .bool on] 44) := by rw [← hW0]; exact alloc_last _ _ _ (by simp)
  have hB0 : Below w.heap.size w W0 := by rw [← hW0]; exact ((Below.refl w.heap.size w).alloc (Nat.le_refl _) _).alloc (by simp) _
  clear hW0
  have g1 := h1.below hB0
  have g2 := h2.below hB0
  have gw := hw.below hB0
  clear h1 h2 hw
  obtain ⟨x0, x1, x2, x3, x4, x5, x6, x7, x8, x9, x10, x11, x12, x13, x14, x15, x16, x17, x18, x19, x20⟩ := box21 hX
  obtain ⟨y0, y1, y2, y3, y4, y5, y6, y7, y8⟩ := box9 hZ
  have T1 := opInverse_any (o := ⟨c, n, k, p, s, l, tc, tn, on⟩) g1 (by omega) (Nat.le_trans hs (by decide)) gw
  have T2 := fun w1 (hb1 : Below W0.heap.size W0 w1) => gInverse_any (o := ⟨c, n, k, p, s, l, tc, tn, on⟩) (w := w1) (g2.below hb1) (by omega) hs
  generalize invV ⟨c, n, k, p, s, l, tc, tn, on⟩ = z at *
  generalize ownP ⟨c, n, k, p, s, l, tc, tn, on⟩ = C at *
  obtain ⟨zc, zn, zk, zp, zs, zl, ztc, ztn, zon⟩ := z
  simp only [opVal] at T1 T2
  have HT2 : Hid (∀ w1, Below W0.heap.size W0 w1 → _) := T2
  clear T2
  go_wp2_with fail
  refine T1.mono ?_
  rintro e w1 ⟨a3, m3, c3, rfl, hr1, hb1⟩
  have hX1 := (hb1.block _ (Array.getElem?_eq_some_iff.1 hX).1).trans hX
  have hZ1 := (hb1.block _ (Array.getElem?_eq_some_iff.1 hZ).1).trans hZ
  have hB1 := hB0.trans (hb1.mono hB0.size)
  clear T1
  clear x0 x1 x2 x3 x4 x5 x6 x7 x8 x9 x10 x11 x12 x13 x14 x15 x16 x17 x18 x19 x20 y0 y1 y2 y3 y4 y5 y6 y7 y8
  go_upto_region 24 with fail
  generalize hW3 : w1.alloc (Obj.cells #[.int .i64 zc, .int .i64 zn, .int .i64 zk, .int .i64 zp, .string zs, .slice a3 m3 c3, .int .i64 ztc, .int .i64 ztn, .bool zon] 44) = W3
  have hb3 : Below w1.heap.size w1 W3 := hW3 ▸ (Below.refl w1.heap.size w1).alloc (Nat.le_refl _) _
  have hA3 : W3.heap[w1.heap.size]? = some (Obj.cells #[.int .i64 zc, .int .i64 zn, .int .i64 zk, .int .i64 zp, .string zs, .slice a3 m3 c3, .int .i64 ztc, .int .i64 ztn, .bool zon] 44) := hW3 ▸ alloc_last _ _ _ rfl
  clear hW3
  have hX3 := (hb3.block _ (Array.getElem?_eq_some_iff.1 hX1).1).trans hX1
  have hZ3 := (hb3.block _ (Array.getElem?_eq_some_iff.1 hZ1).1).trans hZ1
  have hB3 := hB1.trans (hb3.mono hB1.size)
  obtain ⟨x0, x1, x2, x3, x4, x5, x6, x7, x8, x9, x10, x11, x12, x13, x14, x15, x16, x17, x18, x19, x20⟩ := box21 hX3
  obtain ⟨y0, y1, y2, y3, y4, y5, y6, y7, y8⟩ := box9 hZ3
  have T2 := HT2.out W3 (hb1.trans (hb3.mono hb1.size))
  clear HT2
  go_wp2_with fail
  refine T2.mono ?_
  rintro e w4 ⟨a5, m5, c5, rfl, hr4, hb4⟩
  have hA4 := (hb4.block _ (Array.getElem?_eq_some_iff.1 hA3).1).trans hA3
  have hB4 := hB3.trans (hb4.mono hB3.size)
  clear T2
  clear x0 x1 x2 x3 x4 x5 x6 x7 x8 x9 x10 x11 x12 x13 x14 x15 x16 x17 x18 x19 x20 y0 y1 y2 y3 y4 y5 y6 y7 y8
  go_upto_region 25 with fail
  generalize hW5 : w4.alloc (Obj.cells #[.int .i64 zc, .int .i64 zn, .int .i64 zk, .int .i64 zp, .string zs, .slice a5 m5 c5, .int .i64 ztc, .int .i64 ztn, .bool zon] 44) = W5
  have hb5 : Below w4.heap.size w4 W5 := hW5 ▸ (Below.refl w4.heap.size w4).alloc (Nat.le_refl _) _
  have hA5 : W5.heap[w4.heap.size]? = some (Obj.cells #[.int .i64 zc, .int .i64 zn, .int .i64 zk, .int .i64 zp, .string zs, .slice a5 m5 c5, .int .i64 ztc, .int .i64 ztn, .bool zon] 44) := hW5 ▸ alloc_last _ _ _ rfl
  clear hW5
  have hA6 := (hb5.block _ (Array.getElem?_eq_some_iff.1 hA4).1).trans hA4
  have hB5 := hB4.trans (hb5.mono hB4.size)
  obtain ⟨u0, u1, u2, u3, u4, u5, u6, u7, u8⟩ := box9 hA6
  obtain ⟨v0, v1, v2, v3, v4, v5, v6, v7, v8⟩ := box9 hA5
  have T3 := gEqual_self (o := ⟨zc, zn, zk, zp, zs, zl, ztc, ztn, zon⟩) (((hr1.below hb3).below hb4).below hb5) (hr4.below hb5)
  simp only [opVal] at T3
  have er : (C == C) = true := beq_self_eq_true _
  clear hX1 hZ1 hX hZ hX3 hZ3 hA3 hA4 hA5 hA6 hr1 hr4
  go_wp2_with fail
  refine T3.mono ?_
  rintro e w6 ⟨rfl, hb6⟩
  have hB6 := hB5.trans (hb6.mono hB5.size)
  clear T3
  clear u0 u1 u2 u3 u4 u5 u6 u7 u8 v0 v1 v2 v3 v4 v5 v6 v7 v8
  go_wp2_with fail
  go_ret
  exact ⟨rfl, hB6⟩
def StepOk2 (W : World) (x : StepV) : Prop := StepOk W x ∧ x.m ≤ 1048576 ∧ Sp.Rng W x.a2 x.m2 x.cap2 x.o2.l ∧ x.m2 ≤ 1048576 ∧ x.o2.s.size ≤ 2097152
end Go.Proofs.YtkjejgoefnedpaaGreatDoor

namespace Go.Proofs.YtkjejgoefnedpaaGreatDoor
open Go.ChangeShapes Go.WideShapes Go.ChangeAt Go.RowKit Go.WideMaps Go.WideElems Go.Lib
set_option maxRecDepth 100000
theorem cellsI64 : Tryz.prog.cellsOf 3 = 1 := by kernel_rfl
theorem cellsKind : Tryz.prog.cellsOf 39 = 1 := by kernel_rfl
theorem cellsBool : Tryz.prog.cellsOf 4 = 1 := by kernel_rfl
theorem cellsStrg : Tryz.prog.cellsOf 9 = 1 := by kernel_rfl
theorem cellsRgs : Tryz.prog.cellsOf 42 = 1 := by kernel_rfl
theorem cellsRg : Tryz.prog.cellsOf 76 = 2 := by kernel_rfl
theorem cellsID : Tryz.prog.cellsOf 38 = 2 := by kernel_rfl
theorem cellsHead : Tryz.prog.cellsOf 41 = 3 := by kernel_rfl
theorem cellsOp9 : Tryz.prog.cellsOf 44 = 9 := by kernel_rfl
theorem cellsStep : Tryz.prog.cellsOf 46 = 21 := by kernel_rfl
theorem cellsSteps : Tryz.prog.cellsOf 23 = 1 := by kernel_rfl
theorem cellsPlay : Tryz.prog.cellsOf 25 = 2 := by kernel_rfl
theorem cellsCell : Tryz.prog.cellsOf 61 = 2 := by kernel_rfl
theorem cellsCells : Tryz.prog.cellsOf 22 = 1 := by kernel_rfl
theorem bytesRg : Tryz.prog.bytesOf 76 = 16 := by kernel_rfl
theorem reach_is : reachBytes = 140737488351232 := rfl
theorem array2 {α : Type} {cs : Array α} (h : cs.size = 2) : ∃ c0 c1, cs = #[c0, c1] := by
  obtain ⟨l⟩ := cs
  match l, h with
  | [c0, c1], _ => exact ⟨c0, c1, rfl⟩
theorem list_ofE {α : Type} {P : Nat → α → Prop} : ∀ m : Nat, (∀ j, j < m → ∃ x, P j x) → ∃ l : List α, l.length = m ∧ ∀ (j : Nat) x, l[j]? = some x → P j x
  | 0, _ => ⟨[], rfl, fun j x h => by simp at h⟩
  | m + 1, h => by
    obtain ⟨l, hl, hp⟩ := list_ofE m (fun j hj => h j (by omega))
    obtain ⟨x, hx⟩ := h m (by omega)
    refine ⟨l ++ [x], by simp [hl], fun j y hy => ?_⟩
    by_cases hj : j < l.length
    · rw [List.getElem?_append_left hj] at hy
      exact hp j y hy
    · rw [List.getElem?_append_right (by omega)] at hy
      obtain ⟨hk, rfl⟩ := List.getElem?_eq_some_iff.1 hy
      simp at hk
      have : j = m := by omega
      subst this
      simpa using hx
theorem rw_of_cells {α : Type} {f : α → List Value} {k : Nat} (hf : Lay f k) {W : World} {a : Addr} {len cap : Nat} {P : α → Prop} (hl : len ≤ cap) (hm : cap ≤ maxLen)
    (hel : ∀ j, j < len → ∃ p : α, P p ∧ ∃ cs, W.cells? 0 (a.add (j * k)) k = some cs ∧ cs = f p) : ∃ l : List α, Rw f k W (some a) len cap l ∧ ∀ x ∈ l, P x := by
  by_cases h0 : len = 0
  · subst h0
    exact ⟨[], ⟨rfl, ⟨hl, hm⟩, fun h => absurd h (Nat.lt_irrefl _)⟩, fun x hx => by cases hx⟩
  · have hk := hf.pos
    obtain ⟨g, off, spot⟩ := a
    have hcell : ∀ j, j < len → ∃ p : α, P p ∧ ∀ i v, (f p)[i]? = some v → W.cell? (((⟨g, off, spot⟩ : Addr).add (j * k)).add i) = some v := fun j hj => by
      obtain ⟨p, hP, cs, hcs, rfl⟩ := hel j hj
      obtain ⟨_, _, hc⟩ := World.cells?_some hcs
      refine ⟨p, hP, fun i v hv => ?_⟩
      obtain ⟨hi, _⟩ := List.getElem?_eq_some_iff.1 hv
      exact (hc i (by rw [hf.len] at hi; exact hi)).trans hv
    have hspot : spot = none := by
      obtain ⟨p, _, h1⟩ := hcell 0 (by omega)
      have hlp : 0 < (f p).length := by rw [hf.len]; exact hk
      have := h1 0 _ (List.getElem?_eq_getElem hlp)
      simpa [Addr.add] using World.cell?_spot this
    subst hspot
    obtain ⟨l, hll, hp⟩ := list_ofE len hcell
    refine ⟨l, ⟨hll, ⟨hl, hm⟩, fun _ => ⟨g, off, rfl, ?_, fun j x hj i v hv => ?_⟩⟩, fun x hx => ?_⟩
    · obtain ⟨p, _, h1⟩ := hcell 0 (by omega)
      have hlp : 0 < (f p).length := by rw [hf.len]; exact hk
      exact World.block_lt_of_cell? _ _ (by
        have := h1 0 _ (List.getElem?_eq_getElem hlp)
        rw [addr_add', addr_add'] at this
        exact this)
    · have := (hp j x hj).2 i v hv
      rw [addr_add', addr_add'] at this
      exact this
    · obtain ⟨j, hj⟩ := List.getElem?_of_mem hx
      exact (hp j x hj).1
theorem weightsAll_mem {H : Type} {P : Program} {e : TypeId} {q : Nat → Bool} : ∀ {ds : List (DataW H)} {d : DataW H}, d ∈ ds → (DataW.weightsAll P e ds).all q = true → (d.weights P e).all q = true
  | [], _, h, _ => by cases h
  | x :: r, d, h, ha => by
    simp only [DataW.weightsAll, List.all_append, Bool.and_eq_true] at ha
    rcases List.mem_cons.1 h with rfl | h
    · exact ha.1
    · exact weightsAll_mem h ha.2
theorem open_cell2 {H : Type} {enc : TypeId × Value → H} {W : World} {fuel : Nat} {cs : List Value} {x : DataW H × List MemPlace}
    (h : DataW.trod enc Tryz.prog W 0 (fun _ => true) true fuel 61 cs = some x) : ∃ p : Int × Int, cs = cellV p := by
  obtain ⟨xs, m, _, hx, hl, hlen, hel⟩ := DataW.trod_struct Tryz.underlying61 h
  rw [cellsCell] at hl
  match cs, hl, xs, hlen, hel with
  | [c0, c1], _, [y0, y1], _, hel =>
    have q0 : DataW.trod enc Tryz.prog W 0 (fun _ => true) true m 21 [c0] = some y0 := by simpa [cells32] using hel 0 _ rfl
    have q1 : DataW.trod enc Tryz.prog W 0 (fun _ => true) true m 3 [c1] = some y1 := by simpa [cellsI64] using hel 1 _ rfl
    obtain ⟨x0, e0, _, _⟩ := DataW.trod_int Tryz.underlying21 q0
    obtain ⟨x1, e1, _, _⟩ := DataW.trod_int Tryz.underlying3 q1
    simp only [List.cons.injEq, and_true] at e0 e1
    subst e0 e1
    exact ⟨(x0, x1), rfl⟩
theorem open_cells1 {H : Type} {enc : TypeId × Value → H} {W : World} {fuel : Nat} {c : Value} {y : DataW H × List MemPlace}
    (h : DataW.trod enc Tryz.prog W 0 (fun _ => true) true fuel 22 [c] = some y) : ∃ a n cap L, c = .slice a n cap ∧ Rw cellV 2 W a n cap L := by
  rcases DataW.trod_slice Tryz.underlying22 h with ⟨hc, _⟩ | ⟨a, len, cap, elems, rest, m, _, hc, hx, _, hl, hm, hlen, hel, _, _⟩
  · simp only [List.cons.injEq, and_true] at hc
    exact ⟨none, 0, 0, [], hc, rw_nil W⟩
  · simp only [List.cons.injEq, and_true] at hc
    obtain ⟨L, hr, _⟩ := rw_of_cells layC hl hm (a := a) (W := W) (P := fun _ => True) (fun j hj => by
      have he := hel j hj
      rw [List.getElem?_eq_getElem (by omega : j < elems.length), cellsCell] at he
      obtain ⟨cs, hcs, htr⟩ := Option.bind_eq_some_iff.1 he
      obtain ⟨p, hcsp⟩ := open_cell2 htr
      exact ⟨p, trivial, cs, hcs, hcsp⟩)
    exact ⟨some a, len, cap, L, hc, hr⟩
theorem open_rg {H : Type} {enc : TypeId × Value → H} {W : World} {fuel : Nat} {cs : List Value} {x : DataW H × List MemPlace}
    (h : DataW.trod enc Tryz.prog W 0 (fun _ => true) true fuel 76 cs = some x) : ∃ p : Int × Int, cs = rngV p := by
  obtain ⟨xs, m, _, hx, hl, hlen, hel⟩ := DataW.trod_struct Tryz.underlying76 h
  rw [cellsRg] at hl
  match cs, hl, xs, hlen, hel with
  | [c0, c1], _, [y0, y1], _, hel =>
    have q0 : DataW.trod enc Tryz.prog W 0 (fun _ => true) true m 3 [c0] = some y0 := by simpa [cellsI64] using hel 0 _ rfl
    have q1 : DataW.trod enc Tryz.prog W 0 (fun _ => true) true m 3 [c1] = some y1 := by simpa [cellsI64] using hel 1 _ rfl
    obtain ⟨x0, e0, _, _⟩ := DataW.trod_int Tryz.underlying3 q0
    obtain ⟨x1, e1, _, _⟩ := DataW.trod_int Tryz.underlying3 q1
    simp only [List.cons.injEq, and_true] at e0 e1
    subst e0 e1
    exact ⟨(x0, x1), rfl⟩
theorem bulk_one {H : Type} (d : DataW H) : 1 ≤ Rows.uptoBulk d := by
  cases d with
  | lit l => cases l <;> simp [Rows.uptoBulk]
  | nil => simp [Rows.uptoBulk]
  | ptr d => simp [Rows.uptoBulk]
  | slice elems spare => simp [Rows.uptoBulk]
  | agg parts => simp [Rows.uptoBulk]
  | iface t d => simp [Rows.uptoBulk]
  | map entries => simp [Rows.uptoBulk]
  | held h => simp [Rows.uptoBulk]
theorem bulk_length {H : Type} (l : List (DataW H)) : l.length ≤ Rows.uptoBulkAll l := by
  induction l with
  | nil => simp [Rows.uptoBulkAll]
  | cons x r ih => have := bulk_one x; simp only [Rows.uptoBulkAll, List.length_cons]; omega
theorem open_rgs {H : Type} {enc : TypeId × Value → H} {W : World} {fuel : Nat} {c : Value} {y : DataW H × List MemPlace}
    (h : DataW.trod enc Tryz.prog W 0 (fun _ => true) true fuel 42 [c] = some y) (hz : (y.1.weights Tryz.prog 42).all (· ≤ reachBytes) = true) : ∃ a n cap l, c = .slice a n cap ∧ Rw rngV 2 W a n cap l ∧ n * 16 ≤ 140737488351232 ∧ n ≤ Rows.uptoBulk y.1 := by
  rcases DataW.trod_slice Tryz.underlying42 h with ⟨hc, _⟩ | ⟨a, len, cap, elems, rest, m, _, hc, hx, _, hl, hm, hlen, hel, _, _⟩
  · simp only [List.cons.injEq, and_true] at hc
    exact ⟨none, 0, 0, [], hc, rw_nil W, by omega, Nat.zero_le _⟩
  · simp only [List.cons.injEq, and_true] at hc
    have hz' : (DataW.weightsEach Tryz.prog [42] [y.1]).all (· ≤ reachBytes) = true := by simpa [DataW.weightsEach] using hz
    rw [hx] at hz'
    have h1 := sized_slice hz' (j := 0) rfl rfl Tryz.underlying42
    rw [bytesRg, reach_is] at h1
    simp only [List.length_map] at h1
    obtain ⟨L, hr, _⟩ := rw_of_cells layRo hl hm (a := a) (W := W) (P := fun _ => True) (fun j hj => by
      have he := hel j hj
      rw [List.getElem?_eq_getElem (by omega : j < elems.length), cellsRg] at he
      obtain ⟨cs, hcs, htr⟩ := Option.bind_eq_some_iff.1 he
      obtain ⟨p, hcsp⟩ := open_rg htr
      exact ⟨p, trivial, cs, hcs, hcsp⟩)
    have h9 := bulk_length (elems.map (·.1))
    rw [List.length_map] at h9
    exact ⟨some a, len, cap, L, hc, hr, by omega, by rw [hx]; simp only [Rows.uptoBulk]; omega⟩
theorem open_id2 {H : Type} {enc : TypeId × Value → H} {W : World} {fuel : Nat} {cs : List Value} {x : DataW H × List MemPlace}
    (h : DataW.trod enc Tryz.prog W 0 (fun _ => true) true fuel 38 cs = some x) : ∃ a b, cs = [.int .i64 a, .int .i64 b] := by
  obtain ⟨xs, m, _, hx, hl, hlen, hel⟩ := DataW.trod_array Tryz.underlying38 h
  rw [cellsID] at hl
  rw [cellsI64] at hel
  match cs, hl, xs, hlen, hx, hel with
  | [c0, c1], _, [y0, y1], _, hx, hel =>
    have q0 : DataW.trod enc Tryz.prog W 0 (fun _ => true) true m 3 [c0] = some y0 := by simpa using hel 0 (by decide)
    have q1 : DataW.trod enc Tryz.prog W 0 (fun _ => true) true m 3 [c1] = some y1 := by simpa using hel 1 (by decide)
    obtain ⟨a, e0, _, _⟩ := DataW.trod_int Tryz.underlying3 q0
    obtain ⟨b, e1, _, _⟩ := DataW.trod_int Tryz.underlying3 q1
    simp only [List.cons.injEq, and_true] at e0 e1
    subst e0 e1
    exact ⟨a, b, rfl⟩
theorem open_head {H : Type} {enc : TypeId × Value → H} {W : World} {fuel : Nat} {cs : List Value} {x : DataW H × List MemPlace}
    (h : DataW.trod enc Tryz.prog W 0 (fun _ => true) true fuel 41 cs = some x) : ∃ a b k, cs = [.int .i64 a, .int .i64 b, .int .i64 k] := by
  obtain ⟨xs, m, _, hx, hl, hlen, hel⟩ := DataW.trod_struct Tryz.underlying41 h
  rw [cellsHead] at hl
  match cs, hl, xs, hlen, hx, hel with
  | [c0, c1, c2], _, [y0, y1], _, hx, hel =>
    have q0 : DataW.trod enc Tryz.prog W 0 (fun _ => true) true m 38 [c0, c1] = some y0 := by simpa [cellsID] using hel 0 _ rfl
    have q1 : DataW.trod enc Tryz.prog W 0 (fun _ => true) true m 39 [c2] = some y1 := by simpa [cellsKind] using hel 1 _ rfl
    obtain ⟨a, b, e0⟩ := open_id2 q0
    obtain ⟨k, e1, _, _⟩ := DataW.trod_int Tryz.underlying39 q1
    simp only [List.cons.injEq, and_true] at e0 e1
    obtain ⟨rfl, rfl⟩ := e0
    subst e1
    exact ⟨a, b, k, rfl⟩
def opC (o : OpV) (a : Option Addr) (m cap : Nat) : List Value := [.int .i64 o.c, .int .i64 o.n, .int .i64 o.k, .int .i64 o.p, .string o.s, .slice a m cap, .int .i64 o.tc, .int .i64 o.tn, .bool o.on]
theorem open_op {H : Type} {enc : TypeId × Value → H} {W : World} {fuel : Nat} {cs : List Value} {x : DataW H × List MemPlace}
    (h : DataW.trod enc Tryz.prog W 0 (fun _ => true) true fuel 44 cs = some x) (hz : (x.1.weights Tryz.prog 44).all (· ≤ reachBytes) = true) (hb : Rows.uptoBulk x.1 ≤ 1048576) :
    ∃ (o : OpV) (a : Option Addr) (m cap : Nat), cs = opC o a m cap ∧ Sp.Rng W a m cap o.l ∧ m * 16 ≤ 140737488351232 ∧ o.s.size ≤ 2097152 ∧ m ≤ 1048576 := by
  obtain ⟨xs, f, _, hx, hl, hlen, hel⟩ := DataW.trod_struct Tryz.underlying44 h
  rw [cellsOp9] at hl
  match cs, hl, xs, hlen, hx, hel with
  | [c0, c1, c2, c3, c4, c5, c6, c7, c8], _, [y0, y1, y2, y3, y4, y5], _, hx, hel =>
    have q0 : DataW.trod enc Tryz.prog W 0 (fun _ => true) true f 41 [c0, c1, c2] = some y0 := by simpa [cellsHead] using hel 0 _ rfl
    have q1 : DataW.trod enc Tryz.prog W 0 (fun _ => true) true f 3 [c3] = some y1 := by simpa [cellsI64] using hel 1 _ rfl
    have q2 : DataW.trod enc Tryz.prog W 0 (fun _ => true) true f 9 [c4] = some y2 := by simpa [cellsStrg] using hel 2 _ rfl
    have q3 : DataW.trod enc Tryz.prog W 0 (fun _ => true) true f 42 [c5] = some y3 := by simpa [cellsRgs] using hel 3 _ rfl
    have q4 : DataW.trod enc Tryz.prog W 0 (fun _ => true) true f 38 [c6, c7] = some y4 := by simpa [cellsID] using hel 4 _ rfl
    have q5 : DataW.trod enc Tryz.prog W 0 (fun _ => true) true f 4 [c8] = some y5 := by simpa [cellsBool] using hel 5 _ rfl
    have hd : x.1 = .agg [y0.1, y1.1, y2.1, y3.1, y4.1, y5.1] := by
      have := congrArg Prod.fst hx
      simpa using this
    rw [hd] at hz hb
    simp only [Rows.uptoBulk, Rows.uptoBulkAll] at hb
    have hz3 : (y3.1.weights Tryz.prog 42).all (· ≤ reachBytes) = true := by
      simp only [DataW.weights, Tryz.underlying44, List.map_cons, List.map_nil, DataW.weightsEach, List.all_append, Bool.and_eq_true] at hz
      exact hz.2.2.2.1
    obtain ⟨a0, b0, k0, e0⟩ := open_head q0
    obtain ⟨p, e1, _, _⟩ := DataW.trod_int Tryz.underlying3 q1
    obtain ⟨s, e2, hy2, hs⟩ := DataW.trod_string Tryz.underlying9 q2
    obtain ⟨ra, rm, rc, l, e3, hr, hm, hm8⟩ := open_rgs q3 hz3
    have hm9 : rm ≤ 1048576 := by omega
    obtain ⟨ta, tb, e4⟩ := open_id2 q4
    obtain ⟨on, e5, _⟩ := DataW.trod_bool Tryz.underlying4 q5
    simp only [List.cons.injEq, and_true] at e0 e1 e2 e4 e5
    obtain ⟨rfl, rfl, rfl⟩ := e0
    obtain ⟨rfl, rfl⟩ := e4
    subst e1 e2 e3 e5
    have hs2 : s.size ≤ 2097152 := by
      rw [hy2] at hb
      simp only [Rows.uptoBulk, Array.length_toList] at hb
      have e : s.size = s.data.size := rfl
      omega
    exact ⟨⟨a0, b0, k0, p, s, l, ta, tb, on⟩, ra, rm, rc, rfl, rng_of_rw hr, hm, hs2, hm9⟩
theorem open_step {H : Type} {enc : TypeId × Value → H} {W : World} {fuel : Nat} {cs : List Value} {x : DataW H × List MemPlace}
    (h : DataW.trod enc Tryz.prog W 0 (fun _ => true) true fuel 46 cs = some x) (hz : (x.1.weights Tryz.prog 46).all (· ≤ reachBytes) = true) (hb : Rows.uptoBulk x.1 ≤ 1048576) : ∃ p : StepV, StepOk2 W p ∧ cs = stepF p := by
  obtain ⟨xs, f, _, hx, hl, hlen, hel⟩ := DataW.trod_struct Tryz.underlying46 h
  rw [cellsStep] at hl
  match cs, hl, xs, hlen, hx, hel with
  | [c0, c1, c2, c3, c4, c5, c6, c7, c8, c9, c10, c11, c12, c13, c14, c15, c16, c17, c18, c19, c20], _, [y0, y1, y2, y3, y4], _, hx, hel =>
    have q0 : DataW.trod enc Tryz.prog W 0 (fun _ => true) true f 3 [c0] = some y0 := by simpa [cellsI64] using hel 0 _ rfl
    have q1 : DataW.trod enc Tryz.prog W 0 (fun _ => true) true f 44 [c1, c2, c3, c4, c5, c6, c7, c8, c9] = some y1 := by simpa [cellsOp9] using hel 1 _ rfl
    have q2 : DataW.trod enc Tryz.prog W 0 (fun _ => true) true f 44 [c10, c11, c12, c13, c14, c15, c16, c17, c18] = some y2 := by simpa [cellsOp9] using hel 2 _ rfl
    have q3 : DataW.trod enc Tryz.prog W 0 (fun _ => true) true f 3 [c19] = some y3 := by simpa [cellsI64] using hel 3 _ rfl
    have q4 : DataW.trod enc Tryz.prog W 0 (fun _ => true) true f 9 [c20] = some y4 := by simpa [cellsStrg] using hel 4 _ rfl
    have hd : x.1 = .agg [y0.1, y1.1, y2.1, y3.1, y4.1] := by
      have := congrArg Prod.fst hx
      simpa using this
    rw [hd] at hz hb
    simp only [Rows.uptoBulk, Rows.uptoBulkAll] at hb
    simp only [DataW.weights, Tryz.underlying46, List.map_cons, List.map_nil, DataW.weightsEach, List.all_append, Bool.and_eq_true] at hz
    obtain ⟨k, e0, _, _⟩ := DataW.trod_int Tryz.underlying3 q0
    obtain ⟨o1, a1, m1, k1, e1, r1, z1, s1, b1⟩ := open_op q1 hz.2.1 (by omega)
    obtain ⟨o2, a2, m2, k2, e2, r2, _, s2, b2⟩ := open_op q2 hz.2.2.1 (by omega)
    obtain ⟨t, e3, _, _⟩ := DataW.trod_int Tryz.underlying3 q3
    obtain ⟨ln, e4, _, _⟩ := DataW.trod_string Tryz.underlying9 q4
    refine ⟨⟨k, o1, a1, m1, k1, o2, a2, m2, k2, t, ln⟩, ⟨⟨r1, z1, s1⟩, b1, r2, b2, s2⟩, ?_⟩
    have e : [c0, c1, c2, c3, c4, c5, c6, c7, c8, c9, c10, c11, c12, c13, c14, c15, c16, c17, c18, c19, c20] = [c0] ++ [c1, c2, c3, c4, c5, c6, c7, c8, c9] ++ [c10, c11, c12, c13, c14, c15, c16, c17, c18] ++ [c19] ++ [c20] := rfl
    rw [e, e0, e1, e2, e3, e4]
    rfl
theorem bulk_mem {H : Type} : ∀ {ds : List (DataW H)} {d : DataW H}, d ∈ ds → Rows.uptoBulk d ≤ Rows.uptoBulkAll ds
  | [], _, h => by cases h
  | x :: r, d, h => by
    simp only [Rows.uptoBulkAll]
    rcases List.mem_cons.1 h with rfl | h
    · omega
    · have := bulk_mem h
      omega
theorem open_playU2 {H : Type} {enc : TypeId × Value → H} {W : World} {base : Nat} {v : Value} {d : DataW H} {p : List MemPlace}
    (hv : Value.okWide Tryz.prog W .any base 25 v) (h : DataW.Trod enc Tryz.prog W 0 (fun _ => true) true 25 v d p) (hz : (d.weights Tryz.prog 25).all (· ≤ reachBytes) = true) (hb : Rows.uptoBulk d ≤ 1048576) :
    ∃ (aC aS : Option Addr) (nC cC nS cS : Nat) (zs : List (Int × Int)) (L : List StepV), v = .agg #[.slice aC nC cC, .slice aS nS cS] ∧ Rw cellV 2 W aC nC cC zs ∧ Rw stepF 21 W aS nS cS L ∧ ∀ x ∈ L, StepOk2 W x := by
  obtain ⟨cs, rfl, hsz⟩ := okWide_struct Tryz.underlying25 hv
  obtain ⟨c0, c1, rfl⟩ := array2 (hsz.trans cellsPlay)
  obtain ⟨fuel, hf⟩ := h
  obtain ⟨xs, m, _, hx, _, hlen, hel⟩ := DataW.trod_struct Tryz.underlying25 hf
  match xs, hlen, hx, hel with
  | [y0, y1], _, hx, hel =>
    have q0 : DataW.trod enc Tryz.prog W 0 (fun _ => true) true m 22 [c0] = some y0 := by simpa [Value.cells, cellsCells] using hel 0 _ rfl
    have q1 : DataW.trod enc Tryz.prog W 0 (fun _ => true) true m 23 [c1] = some y1 := by simpa [Value.cells, cellsSteps] using hel 1 _ rfl
    have hd : d = .agg [y0.1, y1.1] := by
      have := congrArg Prod.fst hx
      simpa using this
    rw [hd] at hz hb
    simp only [Rows.uptoBulk, Rows.uptoBulkAll] at hb
    simp only [DataW.weights, Tryz.underlying25, List.map_cons, List.map_nil, DataW.weightsEach, List.all_append, Bool.and_eq_true] at hz
    have hz1 := hz.2.1
    obtain ⟨a0, n0, k0, zs, e0, h0⟩ := open_cells1 q0
    rcases DataW.trod_slice Tryz.underlying23 q1 with ⟨hc, _⟩ | ⟨a, len, cap, elems, rest, f, _, hc, hx1, _, hl, hm, hln, hel1, _, _⟩
    · simp only [List.cons.injEq, and_true] at hc
      subst e0 hc
      exact ⟨_, _, _, _, _, _, zs, [], rfl, h0, rw_nil W, fun x hx => by cases hx⟩
    · simp only [List.cons.injEq, and_true] at hc
      rw [hx1] at hz1 hb
      simp only [Rows.uptoBulk] at hb
      simp only [DataW.weights, Tryz.underlying23, List.all_cons, Bool.and_eq_true, List.all_append] at hz1
      obtain ⟨L, hr, hP⟩ := rw_of_cells layS hl hm (a := a) (W := W) (P := StepOk2 W) (fun j hj => by
        have he := hel1 j hj
        rw [List.getElem?_eq_getElem (by omega : j < elems.length), cellsStep] at he
        obtain ⟨cs, hcs, htr⟩ := Option.bind_eq_some_iff.1 he
        have hmem := (List.mem_map.2 ⟨_, List.getElem_mem (by omega : j < elems.length), rfl⟩ : (elems[j]).1 ∈ elems.map (·.1))
        have hbm := bulk_mem hmem
        obtain ⟨p, hp, hcsp⟩ := open_step htr (weightsAll_mem hmem hz1.2.1) (by omega)
        exact ⟨p, hp, cs, hcs, hcsp⟩)
      subst e0 hc
      exact ⟨_, _, _, _, _, _, zs, L, rfl, h0, hr, hP⟩
end Go.Proofs.YtkjejgoefnedpaaGreatDoor

namespace Go.Proofs.YtkjejgoefnedpaaGreatDoor
open Go.RowKit Go.Lib
set_option maxRecDepth 100000
theorem rw_frontK {α : Type} {f : α → List Value} {k : Nat} {w : World} {a : Option Addr} {n m cap : Nat} {l r : List α} (h : Rw f k w a n cap (l ++ r)) (hl : l.length = m) : Rw f k w a m cap l := by
  have hn := h.len
  simp only [List.length_append] at hn
  refine ⟨hl, ⟨by have := h.room.1; omega, h.room.2⟩, fun hm => ?_⟩
  obtain ⟨g, off, e, hg, hc⟩ := h.cells (by omega)
  exact ⟨g, off, e, hg, fun j x hj => hc j x (by rw [List.getElem?_append_left (List.getElem?_eq_some_iff.1 hj).1]; exact hj)⟩
set_option maxHeartbeats 8000000 in
theorem asks_4 {c n k p tc tn c2 n2 k2 p2 tc2 tn2 tot : Int} {s s2 ln : ByteArray} {on on2 : Bool} {l l2 : List (Int × Int)} {w : World} {a a1 b2 : Option Addr} {m cap cap1 m2 cap2 : Nat} (h1 : Sp.Rng w a1 m cap1 l) (h2 : Sp.Rng w a m cap l) (_hs : s.size ≤ 2097152) (_hm : m ≤ 1048576) (hw : Bar w) (h3 : Sp.Rng w b2 m2 cap2 l2) (hm2 : m2 ≤ 1048576) :
    Calls Tryz.prog 14 #[.agg #[.int .i64 4, .int .i64 c, .int .i64 n, .int .i64 k, .int .i64 p, .string s, .slice a m cap, .int .i64 tc, .int .i64 tn, .bool on, .int .i64 c2, .int .i64 n2, .int .i64 k2, .int .i64 p2, .string s2, .slice b2 m2 cap2, .int .i64 tc2, .int .i64 tn2, .bool on2, .int .i64 tot, .string ln], .agg #[.int .i64 c, .int .i64 n, .int .i64 k, .int .i64 p, .string s, .slice a1 m cap1, .int .i64 tc, .int .i64 tn, .bool on]] w fun e w' => e = .returned (.bool true) ∧ Below w.heap.size w w' := by
  go_enter Tryz.func14, Tryz.ntmps14
  go_wp2_with fail
  generalize hW0 : (w.alloc (Obj.cells #[.int .i64 4, .int .i64 c, .int .i64 n, .int .i64 k, .int .i64 p, .string s, .slice a m cap, .int .i64 tc, .int .i64 tn, .bool on, .int .i64 c2, .int .i64 n2, .int .i64 k2, .int .i64 p2, .string s2, .slice b2 m2 cap2, .int .i64 tc2, .int .i64 tn2, .bool on2, .int .i64 tot, .string ln] 46)).alloc (Obj.cells #[.int .i64 c, .int .i64 n, .int .i64 k, .int .i64 p, .string s, .slice a1 m cap1, .int .i64 tc, .int .i64 tn, .bool on] 44) = W0
  have hX : W0.heap[w.heap.size]? = some (Obj.cells #[.int .i64 4, .int .i64 c, .int .i64 n, .int .i64 k, .int .i64 p, .string s, .slice a m cap, .int .i64 tc, .int .i64 tn, .bool on, .int .i64 c2, .int .i64 n2, .int .i64 k2, .int .i64 p2, .string s2, .slice b2 m2 cap2, .int .i64 tc2, .int .i64 tn2, .bool on2, .int .i64 tot, .string ln] 46) := by rw [← hW0]; exact (Below.heap_alloc _ _ _ (by simp)).trans (alloc_last _ _ _ rfl)
  have hZ : W0.heap[w.heap.size + 1]? = some (Obj.cells #[.int .i64 c, .int .i64 n, .int .i64 k, .int .i64 p, .string s, .slice a1 m cap1, .int .i64 tc, .int .i64 tn, .bool on] 44) := by rw [← hW0]; exact alloc_last _ _ _ (by simp)
  have hB0 : Below w.heap.size w W0 := by rw [← hW0]; exact ((Below.refl w.heap.size w).alloc (Nat.le_refl _) _).alloc (by simp) _
  clear hW0
  have g1 := h1.below hB0
  have g2 := h2.below hB0
  have gw := hw.below hB0
  have g3 := h3.below hB0
  clear h3
  clear h1 h2 hw
  obtain ⟨x0, x1, x2, x3, x4, x5, x6, x7, x8, x9, x10, x11, x12, x13, x14, x15, x16, x17, x18, x19, x20⟩ := box21 hX
  obtain ⟨y0, y1, y2, y3, y4, y5, y6, y7, y8⟩ := box9 hZ
  have T1 := copied4S_any (o := ⟨c2, n2, k2, p2, s2, l2, tc2, tn2, on2⟩) g3 (by omega)
  simp only [opVal] at T1
  go_wp2_with fail
  refine T1.mono ?_
  rintro e w1 ⟨a3, c3, rfl, hrw1, hb1⟩
  have hX1 := (hb1.block _ (Array.getElem?_eq_some_iff.1 hX).1).trans hX
  have hZ1 := (hb1.block _ (Array.getElem?_eq_some_iff.1 hZ).1).trans hZ
  have hB1 := hB0.trans (hb1.mono hB0.size)
  clear T1
  clear x0 x1 x2 x3 x4 x5 x6 x7 x8 x9 x10 x11 x12 x13 x14 x15 x16 x17 x18 x19 x20 y0 y1 y2 y3 y4 y5 y6 y7 y8
  go_upto_region 16 with fail
  generalize hW3 : w1.alloc (Obj.cells #[.int .i64 c2, .int .i64 n2, .int .i64 k2, .int .i64 p2, .string s2, .slice a3 m2 c3, .int .i64 tc2, .int .i64 tn2, .bool on2] 44) = W3
  have hb3 : Below w1.heap.size w1 W3 := hW3 ▸ (Below.refl w1.heap.size w1).alloc (Nat.le_refl _) _
  have hA3 : W3.heap[w1.heap.size]? = some (Obj.cells #[.int .i64 c2, .int .i64 n2, .int .i64 k2, .int .i64 p2, .string s2, .slice a3 m2 c3, .int .i64 tc2, .int .i64 tn2, .bool on2] 44) := hW3 ▸ alloc_last _ _ _ rfl
  clear hW3
  have hX3 := (hb3.block _ (Array.getElem?_eq_some_iff.1 hX1).1).trans hX1
  have hZ3 := (hb3.block _ (Array.getElem?_eq_some_iff.1 hZ1).1).trans hZ1
  have hB3 := hB1.trans (hb3.mono hB1.size)
  obtain ⟨x0, x1, x2, x3, x4, x5, x6, x7, x8, x9, x10, x11, x12, x13, x14, x15, x16, x17, x18, x19, x20⟩ := box21 hX3
  obtain ⟨y0, y1, y2, y3, y4, y5, y6, y7, y8⟩ := box9 hZ3
  obtain ⟨u0, u1, u2, u3, u4, u5, u6, u7, u8⟩ := box9 hA3
  have hrw3 := hrw1.below hb3
  have hb13 := hb1.trans (hb3.mono hb1.size)
  have g13 := g1.below hb13
  have g23 := g2.below hb13
  have g33 := g3.below hb13
  have hl3 : Sp.Rng W3 a3 m2 c3 l2 := rng_of_rw (rw_frontK hrw3 g33.len)
  have T2 := opEqual_any (o := ⟨c, n, k, p, s, l, tc, tn, on⟩) (x := ⟨c2, n2, k2, p2, s2, l2, tc2, tn2, on2⟩) g13 hl3
  simp only [opVal] at T2
  go_wp2_with fail
  refine T2.mono ?_
  rintro e w4 ⟨rfl, hb4⟩
  have hX4 := (hb4.block _ (Array.getElem?_eq_some_iff.1 hX3).1).trans hX3
  have hZ4 := (hb4.block _ (Array.getElem?_eq_some_iff.1 hZ3).1).trans hZ3
  have hB4 := hB3.trans (hb4.mono hB3.size)
  have hA4 := (hb4.block _ (Array.getElem?_eq_some_iff.1 hA3).1).trans hA3
  clear T2
  clear x0 x1 x2 x3 x4 x5 x6 x7 x8 x9 x10 x11 x12 x13 x14 x15 x16 x17 x18 x19 x20 y0 y1 y2 y3 y4 y5 y6 y7 y8
  clear u0 u1 u2 u3 u4 u5 u6 u7 u8
  obtain ⟨x0, x1, x2, x3, x4, x5, x6, x7, x8, x9, x10, x11, x12, x13, x14, x15, x16, x17, x18, x19, x20⟩ := box21 hX4
  obtain ⟨y0, y1, y2, y3, y4, y5, y6, y7, y8⟩ := box9 hZ4
  have T3 := gEqual_any (o := ⟨c, n, k, p, s, l, tc, tn, on⟩) (x := ⟨c2, n2, k2, p2, s2, l2, tc2, tn2, on2⟩) (g23.below hb4) (g33.below hb4)
  simp only [opVal] at T3
  generalize eqP ⟨c, n, k, p, s, l, tc, tn, on⟩ ⟨c2, n2, k2, p2, s2, l2, tc2, tn2, on2⟩ = r at *
  go_wp2_with fail
  refine T3.mono ?_
  rintro e w5 ⟨rfl, hb5⟩
  have hX5 := (hb5.block _ (Array.getElem?_eq_some_iff.1 hX4).1).trans hX4
  have hZ5 := (hb5.block _ (Array.getElem?_eq_some_iff.1 hZ4).1).trans hZ4
  have hB5 := hB4.trans (hb5.mono hB4.size)
  have hA5 := (hb5.block _ (Array.getElem?_eq_some_iff.1 hA4).1).trans hA4
  clear T3
  clear x0 x1 x2 x3 x4 x5 x6 x7 x8 x9 x10 x11 x12 x13 x14 x15 x16 x17 x18 x19 x20 y0 y1 y2 y3 y4 y5 y6 y7 y8
  obtain ⟨x0, x1, x2, x3, x4, x5, x6, x7, x8, x9, x10, x11, x12, x13, x14, x15, x16, x17, x18, x19, x20⟩ := box21 hX5
  obtain ⟨y0, y1, y2, y3, y4, y5, y6, y7, y8⟩ := box9 hZ5
  obtain ⟨u0, u1, u2, u3, u4, u5, u6, u7, u8⟩ := box9 hA5
  have hb35 := hb4.trans (hb5.mono hb4.size)
  have T4 := gEqual_self (o := ⟨c2, n2, k2, p2, s2, l2, tc2, tn2, on2⟩) (hl3.below hb35) (g33.below hb35)
  simp only [opVal] at T4
  have er : (r == r) = true := beq_self_eq_true _
  go_wp2_with fail
  refine T4.mono ?_
  rintro e w6 ⟨rfl, hb6⟩
  have hA6 := (hb6.block _ (Array.getElem?_eq_some_iff.1 hA5).1).trans hA5
  have hB6 := hB5.trans (hb6.mono hB5.size)
  clear T4
  clear x0 x1 x2 x3 x4 x5 x6 x7 x8 x9 x10 x11 x12 x13 x14 x15 x16 x17 x18 x19 x20 y0 y1 y2 y3 y4 y5 y6 y7 y8
  clear u0 u1 u2 u3 u4 u5 u6 u7 u8
  obtain ⟨u0, u1, u2, u3, u4, u5, u6, u7, u8⟩ := box9 hA6
  have T5 := spare_any (o := ⟨c2, n2, k2, p2, s2, l2, tc2, tn2, on2⟩) ((hrw3.below hb35).below hb6)
  simp only [opVal] at T5
  clear hX1 hZ1 hX hZ hX3 hZ3 hX4 hZ4 hX5 hZ5 hA3 hA4 hA5 hA6
  go_wp2_with fail
  refine T5.mono ?_
  rintro e w7 ⟨rfl, hb7⟩
  have hB7 := hB6.trans (hb7.mono hB6.size)
  clear T5
  clear u0 u1 u2 u3 u4 u5 u6 u7 u8
  go_wp2_with fail
  go_ret
  exact ⟨rfl, hB7⟩
end Go.Proofs.YtkjejgoefnedpaaGreatDoor

namespace Go.Proofs.YtkjejgoefnedpaaGreatDoor
open Go.RowKit Go.Lib
set_option maxRecDepth 100000
set_option maxHeartbeats 16000000 in
theorem kinds36_any {w : World} {aC : Option Addr} {nC cC : Nat} {zs : List (Int × Int)} (hC : Rw cellV 2 w aC nC cC zs) {aS : Option Addr} {nS cS : Nat} {L : List StepV} (hS : Rw stepF 21 w aS nS cS L) (hok : ∀ x ∈ L, StepOk2 w x) (hBar : Bar w) (hPow : Pow w) (hDeb : Deb w) :
    Calls Tryz.prog 4 #[.agg #[.slice aC nC cC, .slice aS nS cS], .int .i64 3, .int .i64 6] w fun e w' => e = .returned (.bool true) ∧ Below w.heap.size w w' := by
  go_enter Tryz.func4, Tryz.ntmps4
  go_wp2_with fail
  generalize hWB : w.alloc (Obj.cells #[.slice aC nC cC, .slice aS nS cS] 25) = WB
  have hB0 : Below w.heap.size w WB := hWB ▸ (Below.refl w.heap.size w).alloc (Nat.le_refl _) _
  have hbp : WB.heap[w.heap.size]? = some (.cells #[.slice aC nC cC, .slice aS nS cS] 25) := hWB ▸ alloc_last _ _ _ rfl
  clear hWB
  refine (opFixed_any WB (hBar.below hB0) (hPow.below hB0) (hDeb.below hB0)).mono ?_
  rintro e wf ⟨rfl, hbf⟩
  have hBf : Below w.heap.size w wf := hB0.trans (hbf.mono hB0.size)
  have hbpf := (hbf.block _ (Array.getElem?_eq_some_iff.1 hbp).1).trans hbp
  have hCf := hC.below hBf
  clear hC hbf hbp hB0
  have pf0 : wf.cell? ⟨w.heap.size, 0, none⟩ = some (.slice aC nC cC) := by rw [Lib.cell_of_heap hbpf]; rfl
  go_wp2_with fail
  refine (made_any hCf).mono ?_
  rintro e w0 ⟨v1, rfl, ho1, hb1⟩
  obtain ⟨a1, c1, rfl⟩ := ho1.shape
  have HR := runsW_any (ho1.rw_ layC) (Nat.le_trans (madeP_len zs) (by decide)) (madeP_ok zs) (madeP_cnt zs)
  have hB1 : Below w.heap.size w w0 := hBf.trans (hb1.mono hBf.size)
  have hbp1 := (hb1.block _ (Array.getElem?_eq_some_iff.1 hbpf).1).trans hbpf
  clear ho1 hb1 hbpf hBf hCf pf0
  generalize madeP zs = M at *
  go_wp2_with fail
  refine HR.mono ?_
  rintro e w2 ⟨v2, L2, rfl, ho2, hF, hcl, hb2⟩
  obtain ⟨a2, c2, rfl⟩ := ho2.shape
  have hB2 : Below w.heap.size w w2 := hB1.trans (hb2.mono hB1.size)
  have hbp2 := (hb2.block _ (Array.getElem?_eq_some_iff.1 hbp1).1).trans hbp1
  have HFR := from_any (ho2.rw_ layR) hF (hBar.below hB2)
  have HB2 : Hid (Below w.heap.size w w2) := hB2
  have HBAR : Hid (Bar w2) := hBar.below hB2
  have hs0 := hB2.size
  have hs1 := (Array.getElem?_eq_some_iff.1 hbp2).1
  have HBP : Hid (∀ W, Below w2.heap.size w2 W → W.cell? ⟨w.heap.size, 1, none⟩ = some (.slice aS nS cS)) := fun W hb => by
    have := (hb.block _ hs1).trans hbp2
    rw [Lib.cell_of_heap this]
    rfl
  have HS : Hid (Rw stepF 21 w2 aS nS cS L) := hS.below hB2
  have HOK : Hid (∀ x ∈ L, StepOk2 w2 x) := fun x hx => by obtain ⟨⟨h1, h2, h3⟩, h4, h5, h6, h7⟩ := hok x hx; exact ⟨⟨h1.below hB2, h2, h3⟩, h4, h5.below hB2, h6, h7⟩
  have hnS := hS.room
  clear hbp1 hbp2 ho2 hF hcl hb2 hB1 hB2 hS hok hBar hPow hDeb HR
  go_wp2_with fail
  refine HFR.mono ?_
  rintro e w3 ⟨q, t, ts, rfl, hRp, hBt, hPt, hb3, hq3⟩
  clear HFR hRp hBt hPt
  unfold ptr
  go_wp2_with fail
  go_loopw [11] (fun vi W => ∃ i : Nat, vi = .int .i64 (i : Int) ∧ i ≤ 60 ∧ Below w2.heap.size w2 W) (fun vi _ => 60 - (RowKit.intOf vi).toNat)
  case atStart => exact ⟨0, rfl, by omega, hb3⟩
  case round =>
    obtain ⟨i, rfl, hi60, hH⟩ := hrel
    have p1 := HBP.out _ hH
    by_cases hin : i < nS ∧ i < 60
    · obtain ⟨hin1, hin2⟩ := hin
      have b1 : (i : Int) < (nS : Int) := by omega
      have b2 : (i : Int) < 60 := by omega
      obtain ⟨g, off, x, rfl, hg, hx, hc⟩ := HS.out.at i hin1
      obtain ⟨⟨hrx, hmx, hsx⟩, hm6, hr2x, hm26, hs2x⟩ := HOK.out _ (List.mem_of_getElem? hx)
      obtain ⟨K, ⟨c, n, k, p, s, l, tc, tn, on⟩, a, m, cap, ⟨c2, n2, k2, p2, s2, l2, tc2, tn2, on2⟩, b2, m2, cap2, tot, ln⟩ := x
      simp only at hrx hmx hsx hm6 hr2x hm26 hs2x
      have hrg : wr.rangeAt g (off + i * 21) [.int .i64 K, .int .i64 c, .int .i64 n, .int .i64 k, .int .i64 p, .string s, .slice a m cap, .int .i64 tc, .int .i64 tn, .bool on, .int .i64 c2, .int .i64 n2, .int .i64 k2, .int .i64 p2, .string s2, .slice b2 m2 cap2, .int .i64 tc2, .int .i64 tn2, .bool on2, .int .i64 tot, .string ln] := fun j v hv => (hH.cell (p := ⟨g, off + i * 21 + j, none⟩) hg).trans (hc j v hv)
      have h1c : (Array.all (#[.int .i64 K, .int .i64 c, .int .i64 n, .int .i64 k, .int .i64 p, .string s, .slice a m cap, .int .i64 tc, .int .i64 tn, .bool on, .int .i64 c2, .int .i64 n2, .int .i64 k2, .int .i64 p2, .string s2, .slice b2 m2 cap2, .int .i64 tc2, .int .i64 tn2, .bool on2, .int .i64 tot, .string ln] : Array Value) (fun v => v.oneCell')) = true := all_oneCell_toArray (layS.one ⟨K, ⟨c, n, k, p, s, l, tc, tn, on⟩, a, m, cap, ⟨c2, n2, k2, p2, s2, l2, tc2, tn2, on2⟩, b2, m2, cap2, tot, ln⟩)
      have HRG : Hid (wr.rangeAt g (off + i * 21) [.int .i64 K, .int .i64 c, .int .i64 n, .int .i64 k, .int .i64 p, .string s, .slice a m cap, .int .i64 tc, .int .i64 tn, .bool on, .int .i64 c2, .int .i64 n2, .int .i64 k2, .int .i64 p2, .string s2, .slice b2 m2 cap2, .int .i64 tc2, .int .i64 tn2, .bool on2, .int .i64 tot, .string ln]) := hrg
      have H1C : Hid ((Array.all (#[.int .i64 K, .int .i64 c, .int .i64 n, .int .i64 k, .int .i64 p, .string s, .slice a m cap, .int .i64 tc, .int .i64 tn, .bool on, .int .i64 c2, .int .i64 n2, .int .i64 k2, .int .i64 p2, .string s2, .slice b2 m2 cap2, .int .i64 tc2, .int .i64 tn2, .bool on2, .int .i64 tot, .string ln] : Array Value) (fun v => v.oneCell')) = true) := h1c
      clear hrg h1c
      have hr0 := hrx.below hH
      have HR2 : Hid (Sp.Rng w2 b2 m2 cap2 l2 ∧ m2 ≤ 1048576 ∧ m ≤ 1048576) := ⟨hr2x, hm26, hm6⟩
      clear hc hx hrx HOK HS hr2x hm26 hs2x hm6
      go_upto_region 10 with (first | refine wpList_load_mid rfl 46 _ rfl g (off + i * 21) rfl [.int .i64 K, .int .i64 c, .int .i64 n, .int .i64 k, .int .i64 p, .string s, .slice a m cap, .int .i64 tc, .int .i64 tn, .bool on, .int .i64 c2, .int .i64 n2, .int .i64 k2, .int .i64 p2, .string s2, .slice b2 m2 cap2, .int .i64 tc2, .int .i64 tn2, .bool on2, .int .i64 tot, .string ln] _ HRG.out Tryz.underlying46 rfl (by kernel_rfl) ?_ | (refine wpList_store_row rfl 46 _ _ rfl wr.heap.size #[.int .i64 K, .int .i64 c, .int .i64 n, .int .i64 k, .int .i64 p, .string s, .slice a m cap, .int .i64 tc, .int .i64 tn, .bool on, .int .i64 c2, .int .i64 n2, .int .i64 k2, .int .i64 p2, .string s2, .slice b2 m2 cap2, .int .i64 tc2, .int .i64 tn2, .bool on2, .int .i64 tot, .string ln] rfl rfl 46 _ (heap_alloc_last _ _) (by kernel_rfl) rfl H1C.out ?_; rw [World.setRow_alloc_new]))
      generalize hX1 : wr.alloc (Obj.cells #[.int .i64 K, .int .i64 c, .int .i64 n, .int .i64 k, .int .i64 p, .string s, .slice a m cap, .int .i64 tc, .int .i64 tn, .bool on, .int .i64 c2, .int .i64 n2, .int .i64 k2, .int .i64 p2, .string s2, .slice b2 m2 cap2, .int .i64 tc2, .int .i64 tn2, .bool on2, .int .i64 tot, .string ln] 46) = X1
      have hc1 : Below wr.heap.size wr X1 := hX1 ▸ (Below.refl wr.heap.size wr).alloc (Nat.le_refl _) _
      have hb1 : X1.heap[wr.heap.size]? = some (.cells #[.int .i64 K, .int .i64 c, .int .i64 n, .int .i64 k, .int .i64 p, .string s, .slice a m cap, .int .i64 tc, .int .i64 tn, .bool on, .int .i64 c2, .int .i64 n2, .int .i64 k2, .int .i64 p2, .string s2, .slice b2 m2 cap2, .int .i64 tc2, .int .i64 tn2, .bool on2, .int .i64 tot, .string ln] 46) := hX1 ▸ alloc_last _ _ _ rfl
      clear hX1
      have hH1 := hH.trans (hc1.mono hH.size)
      have hr1 := hr0.below hc1
      have hlt1 := (Array.getElem?_eq_some_iff.1 hb1).1
      clear HRG H1C
      obtain ⟨x0, x1, x2, x3, x4, x5, x6, x7, x8, x9, x10, x11, x12, x13, x14, x15, x16, x17, x18, x19, x20⟩ := box21 hb1
      by_cases hK1 : K < 3
      · go_wp2_with fail
        go_roundw
        case rel => first | exact ⟨i + 1, by go_num, by omega, hH1⟩ | ((repeat apply Exists.intro); exact ⟨⟨i + 1, by go_num, by omega, hH1⟩, rfl⟩)
        case measure => simp [RowKit.intOf]; omega
      · by_cases hK2 : 6 < K
        · go_wp2_with fail
          go_roundw
          case rel => first | exact ⟨i + 1, by go_num, by omega, hH1⟩ | ((repeat apply Exists.intro); exact ⟨⟨i + 1, by go_num, by omega, hH1⟩, rfl⟩)
          case measure => simp [RowKit.intOf]; omega
        · have hK12 : K = 3 ∨ K = 4 ∨ K = 5 ∨ K = 6 := by omega
          clear hK1 hK2
          rcases hK12 with rfl | rfl | rfl | rfl
          · have T1 := copied4S_any (o := ⟨c, n, k, p, s, l, tc, tn, on⟩) hr1 hmx
            simp only [opVal] at T1
            go_wp2_with fail
            refine T1.mono ?_
            rintro e X2 ⟨a1, cap1, rfl, hrw, hc2⟩
            clear T1
            clear x0 x1 x2 x3 x4 x5 x6 x7 x8 x9 x10 x11 x12 x13 x14 x15 x16 x17 x18 x19 x20
            go_upto_region 12 with fail
            generalize hX3 : X2.alloc (Obj.cells #[.int .i64 c, .int .i64 n, .int .i64 k, .int .i64 p, .string s, .slice a1 m cap1, .int .i64 tc, .int .i64 tn, .bool on] 44) = X3
            have hc3 : Below X2.heap.size X2 X3 := hX3 ▸ (Below.refl X2.heap.size X2).alloc (Nat.le_refl _) _
            have ho3 : X3.heap[X2.heap.size]? = some (.cells #[.int .i64 c, .int .i64 n, .int .i64 k, .int .i64 p, .string s, .slice a1 m cap1, .int .i64 tc, .int .i64 tn, .bool on] 44) := hX3 ▸ alloc_last _ _ _ rfl
            clear hX3
            have hcc := hc2.trans (hc3.mono hc2.size)
            have hb3' := (hcc.block _ hlt1).trans hb1
            have hH3 := hH1.trans (hcc.mono hH1.size)
            have hr3 := hr1.below hcc
            have hrw3 := hrw.below hc3
            have hlt3 := (Array.getElem?_eq_some_iff.1 ho3).1
            have hlt3' := (Array.getElem?_eq_some_iff.1 hb3').1
            clear hc2 hc3 hcc hb1 hH1 hr1 hrw hlt1
            obtain ⟨x0, x1, x2, x3, x4, x5, x6, x7, x8, x9, x10, x11, x12, x13, x14, x15, x16, x17, x18, x19, x20⟩ := box21 hb3'
            obtain ⟨y0, y1, y2, y3, y4, y5, y6, y7, y8⟩ := box9 ho3
            have hl3 : Sp.Rng X3 a1 m cap1 l := rng_of_rw (rw_frontK hrw3 hr3.len)
            have T2 := asks_3 (c := c) (n := n) (k := k) (p := p) (s := s) (tc := tc) (tn := tn) (on := on) (c2 := c2) (n2 := n2) (k2 := k2) (p2 := p2) (tc2 := tc2) (tn2 := tn2) (tot := tot) (s2 := s2) (ln := ln) (on2 := on2) (b2 := b2) (m2 := m2) (cap2 := cap2) hl3 hr3 hsx HR2.out.2.2 (HBAR.out.below hH3)
            have HBX : Hid (X3.rangeAt wr.heap.size 0 [.int .i64 3, .int .i64 c, .int .i64 n, .int .i64 k, .int .i64 p, .string s, .slice a m cap, .int .i64 tc, .int .i64 tn, .bool on, .int .i64 c2, .int .i64 n2, .int .i64 k2, .int .i64 p2, .string s2, .slice b2 m2 cap2, .int .i64 tc2, .int .i64 tn2, .bool on2, .int .i64 tot, .string ln]) := range_block hb3'
            go_wp2_with (refine wpList_load_mid rfl 46 _ rfl wr.heap.size 0 rfl [.int .i64 3, .int .i64 c, .int .i64 n, .int .i64 k, .int .i64 p, .string s, .slice a m cap, .int .i64 tc, .int .i64 tn, .bool on, .int .i64 c2, .int .i64 n2, .int .i64 k2, .int .i64 p2, .string s2, .slice b2 m2 cap2, .int .i64 tc2, .int .i64 tn2, .bool on2, .int .i64 tot, .string ln] _ HBX.out Tryz.underlying46 rfl (by kernel_rfl) ?_)
            refine T2.mono ?_
            clear HBX
            rintro e X4 ⟨rfl, hc4⟩
            clear T2
            clear x0 x1 x2 x3 x4 x5 x6 x7 x8 x9 x10 x11 x12 x13 x14 x15 x16 x17 x18 x19 x20
            clear y0 y1 y2 y3 y4 y5 y6 y7 y8
            have hb4 := (hc4.block _ hlt3').trans hb3'
            have ho4 := (hc4.block _ hlt3).trans ho3
            have hH4 := hH3.trans (hc4.mono hH3.size)
            have hr4 := hr3.below hc4
            have hrw4 := hrw3.below hc4
            have hl4 := hl3.below hc4
            clear hb3' ho3 hH3 hr3 hrw3 hl3
            obtain ⟨x0, x1, x2, x3, x4, x5, x6, x7, x8, x9, x10, x11, x12, x13, x14, x15, x16, x17, x18, x19, x20⟩ := box21 hb4
            obtain ⟨y0, y1, y2, y3, y4, y5, y6, y7, y8⟩ := box9 ho4
            have T3 := gEqual_self (o := ⟨c, n, k, p, s, l, tc, tn, on⟩) hl4 hr4
            simp only [opVal] at T3
            go_wp2_with fail
            refine T3.mono ?_
            rintro e X5 ⟨rfl, hc5⟩
            clear T3
            clear x0 x1 x2 x3 x4 x5 x6 x7 x8 x9 x10 x11 x12 x13 x14 x15 x16 x17 x18 x19 x20
            clear y0 y1 y2 y3 y4 y5 y6 y7 y8
            have hs4 := hc4.size
            have ho5 := (hc5.block _ (by omega)).trans ho4
            have hH5 := hH4.trans (hc5.mono hH4.size)
            have hrw5 := hrw4.below hc5
            clear hb4 ho4 hH4 hr4 hrw4 hl4 hc4
            obtain ⟨y0, y1, y2, y3, y4, y5, y6, y7, y8⟩ := box9 ho5
            have T4 := spare_any (o := ⟨c, n, k, p, s, l, tc, tn, on⟩) hrw5
            simp only [opVal] at T4
            go_wp2_with fail
            refine T4.mono ?_
            rintro e X6 ⟨rfl, hc6⟩
            have hH6 := hH5.trans (hc6.mono hH5.size)
            clear T4 hc6 hrw5 ho5 hH5
            clear y0 y1 y2 y3 y4 y5 y6 y7 y8
            go_wp2_with fail
            go_roundw
            case rel => first | exact ⟨i + 1, by go_num, by omega, hH6⟩ | ((repeat apply Exists.intro); exact ⟨⟨i + 1, by go_num, by omega, hH6⟩, rfl⟩)
            case measure => simp [RowKit.intOf]; omega
          · have T1 := copied4S_any (o := ⟨c, n, k, p, s, l, tc, tn, on⟩) hr1 hmx
            simp only [opVal] at T1
            go_wp2_with fail
            refine T1.mono ?_
            rintro e X2 ⟨a1, cap1, rfl, hrw, hc2⟩
            clear T1
            clear x0 x1 x2 x3 x4 x5 x6 x7 x8 x9 x10 x11 x12 x13 x14 x15 x16 x17 x18 x19 x20
            go_upto_region 12 with fail
            generalize hX3 : X2.alloc (Obj.cells #[.int .i64 c, .int .i64 n, .int .i64 k, .int .i64 p, .string s, .slice a1 m cap1, .int .i64 tc, .int .i64 tn, .bool on] 44) = X3
            have hc3 : Below X2.heap.size X2 X3 := hX3 ▸ (Below.refl X2.heap.size X2).alloc (Nat.le_refl _) _
            have ho3 : X3.heap[X2.heap.size]? = some (.cells #[.int .i64 c, .int .i64 n, .int .i64 k, .int .i64 p, .string s, .slice a1 m cap1, .int .i64 tc, .int .i64 tn, .bool on] 44) := hX3 ▸ alloc_last _ _ _ rfl
            clear hX3
            have hcc := hc2.trans (hc3.mono hc2.size)
            have hb3' := (hcc.block _ hlt1).trans hb1
            have hH3 := hH1.trans (hcc.mono hH1.size)
            have hr3 := hr1.below hcc
            have hrw3 := hrw.below hc3
            have hlt3 := (Array.getElem?_eq_some_iff.1 ho3).1
            have hlt3' := (Array.getElem?_eq_some_iff.1 hb3').1
            clear hc2 hc3 hcc hb1 hH1 hr1 hrw hlt1
            obtain ⟨x0, x1, x2, x3, x4, x5, x6, x7, x8, x9, x10, x11, x12, x13, x14, x15, x16, x17, x18, x19, x20⟩ := box21 hb3'
            obtain ⟨y0, y1, y2, y3, y4, y5, y6, y7, y8⟩ := box9 ho3
            have hl3 : Sp.Rng X3 a1 m cap1 l := rng_of_rw (rw_frontK hrw3 hr3.len)
            have T2 := asks_4 (c := c) (n := n) (k := k) (p := p) (s := s) (tc := tc) (tn := tn) (on := on) (c2 := c2) (n2 := n2) (k2 := k2) (p2 := p2) (tc2 := tc2) (tn2 := tn2) (tot := tot) (s2 := s2) (ln := ln) (on2 := on2) (b2 := b2) (m2 := m2) (cap2 := cap2) hl3 hr3 hsx HR2.out.2.2 (HBAR.out.below hH3) (HR2.out.1.below hH3) HR2.out.2.1
            have HBX : Hid (X3.rangeAt wr.heap.size 0 [.int .i64 4, .int .i64 c, .int .i64 n, .int .i64 k, .int .i64 p, .string s, .slice a m cap, .int .i64 tc, .int .i64 tn, .bool on, .int .i64 c2, .int .i64 n2, .int .i64 k2, .int .i64 p2, .string s2, .slice b2 m2 cap2, .int .i64 tc2, .int .i64 tn2, .bool on2, .int .i64 tot, .string ln]) := range_block hb3'
            go_wp2_with (refine wpList_load_mid rfl 46 _ rfl wr.heap.size 0 rfl [.int .i64 4, .int .i64 c, .int .i64 n, .int .i64 k, .int .i64 p, .string s, .slice a m cap, .int .i64 tc, .int .i64 tn, .bool on, .int .i64 c2, .int .i64 n2, .int .i64 k2, .int .i64 p2, .string s2, .slice b2 m2 cap2, .int .i64 tc2, .int .i64 tn2, .bool on2, .int .i64 tot, .string ln] _ HBX.out Tryz.underlying46 rfl (by kernel_rfl) ?_)
            refine T2.mono ?_
            clear HBX
            rintro e X4 ⟨rfl, hc4⟩
            clear T2
            clear x0 x1 x2 x3 x4 x5 x6 x7 x8 x9 x10 x11 x12 x13 x14 x15 x16 x17 x18 x19 x20
            clear y0 y1 y2 y3 y4 y5 y6 y7 y8
            have hb4 := (hc4.block _ hlt3').trans hb3'
            have ho4 := (hc4.block _ hlt3).trans ho3
            have hH4 := hH3.trans (hc4.mono hH3.size)
            have hr4 := hr3.below hc4
            have hrw4 := hrw3.below hc4
            have hl4 := hl3.below hc4
            clear hb3' ho3 hH3 hr3 hrw3 hl3
            obtain ⟨x0, x1, x2, x3, x4, x5, x6, x7, x8, x9, x10, x11, x12, x13, x14, x15, x16, x17, x18, x19, x20⟩ := box21 hb4
            obtain ⟨y0, y1, y2, y3, y4, y5, y6, y7, y8⟩ := box9 ho4
            have T3 := gEqual_self (o := ⟨c, n, k, p, s, l, tc, tn, on⟩) hl4 hr4
            simp only [opVal] at T3
            go_wp2_with fail
            refine T3.mono ?_
            rintro e X5 ⟨rfl, hc5⟩
            clear T3
            clear x0 x1 x2 x3 x4 x5 x6 x7 x8 x9 x10 x11 x12 x13 x14 x15 x16 x17 x18 x19 x20
            clear y0 y1 y2 y3 y4 y5 y6 y7 y8
            have hs4 := hc4.size
            have ho5 := (hc5.block _ (by omega)).trans ho4
            have hH5 := hH4.trans (hc5.mono hH4.size)
            have hrw5 := hrw4.below hc5
            clear hb4 ho4 hH4 hr4 hrw4 hl4 hc4
            obtain ⟨y0, y1, y2, y3, y4, y5, y6, y7, y8⟩ := box9 ho5
            have T4 := spare_any (o := ⟨c, n, k, p, s, l, tc, tn, on⟩) hrw5
            simp only [opVal] at T4
            go_wp2_with fail
            refine T4.mono ?_
            rintro e X6 ⟨rfl, hc6⟩
            have hH6 := hH5.trans (hc6.mono hH5.size)
            clear T4 hc6 hrw5 ho5 hH5
            clear y0 y1 y2 y3 y4 y5 y6 y7 y8
            go_wp2_with fail
            go_roundw
            case rel => first | exact ⟨i + 1, by go_num, by omega, hH6⟩ | ((repeat apply Exists.intro); exact ⟨⟨i + 1, by go_num, by omega, hH6⟩, rfl⟩)
            case measure => simp [RowKit.intOf]; omega
          · have T1 := copied4S_any (o := ⟨c, n, k, p, s, l, tc, tn, on⟩) hr1 hmx
            simp only [opVal] at T1
            go_wp2_with fail
            refine T1.mono ?_
            rintro e X2 ⟨a1, cap1, rfl, hrw, hc2⟩
            clear T1
            clear x0 x1 x2 x3 x4 x5 x6 x7 x8 x9 x10 x11 x12 x13 x14 x15 x16 x17 x18 x19 x20
            go_upto_region 12 with fail
            generalize hX3 : X2.alloc (Obj.cells #[.int .i64 c, .int .i64 n, .int .i64 k, .int .i64 p, .string s, .slice a1 m cap1, .int .i64 tc, .int .i64 tn, .bool on] 44) = X3
            have hc3 : Below X2.heap.size X2 X3 := hX3 ▸ (Below.refl X2.heap.size X2).alloc (Nat.le_refl _) _
            have ho3 : X3.heap[X2.heap.size]? = some (.cells #[.int .i64 c, .int .i64 n, .int .i64 k, .int .i64 p, .string s, .slice a1 m cap1, .int .i64 tc, .int .i64 tn, .bool on] 44) := hX3 ▸ alloc_last _ _ _ rfl
            clear hX3
            have hcc := hc2.trans (hc3.mono hc2.size)
            have hb3' := (hcc.block _ hlt1).trans hb1
            have hH3 := hH1.trans (hcc.mono hH1.size)
            have hr3 := hr1.below hcc
            have hrw3 := hrw.below hc3
            have hlt3 := (Array.getElem?_eq_some_iff.1 ho3).1
            have hlt3' := (Array.getElem?_eq_some_iff.1 hb3').1
            clear hc2 hc3 hcc hb1 hH1 hr1 hrw hlt1
            obtain ⟨x0, x1, x2, x3, x4, x5, x6, x7, x8, x9, x10, x11, x12, x13, x14, x15, x16, x17, x18, x19, x20⟩ := box21 hb3'
            obtain ⟨y0, y1, y2, y3, y4, y5, y6, y7, y8⟩ := box9 ho3
            have hl3 : Sp.Rng X3 a1 m cap1 l := rng_of_rw (rw_frontK hrw3 hr3.len)
            have T2 := asks_5 (c := c) (n := n) (k := k) (p := p) (s := s) (tc := tc) (tn := tn) (on := on) (c2 := c2) (n2 := n2) (k2 := k2) (p2 := p2) (tc2 := tc2) (tn2 := tn2) (tot := tot) (s2 := s2) (ln := ln) (on2 := on2) (b2 := b2) (m2 := m2) (cap2 := cap2) hl3 hr3 hsx HR2.out.2.2 (HBAR.out.below hH3)
            have HBX : Hid (X3.rangeAt wr.heap.size 0 [.int .i64 5, .int .i64 c, .int .i64 n, .int .i64 k, .int .i64 p, .string s, .slice a m cap, .int .i64 tc, .int .i64 tn, .bool on, .int .i64 c2, .int .i64 n2, .int .i64 k2, .int .i64 p2, .string s2, .slice b2 m2 cap2, .int .i64 tc2, .int .i64 tn2, .bool on2, .int .i64 tot, .string ln]) := range_block hb3'
            go_wp2_with (refine wpList_load_mid rfl 46 _ rfl wr.heap.size 0 rfl [.int .i64 5, .int .i64 c, .int .i64 n, .int .i64 k, .int .i64 p, .string s, .slice a m cap, .int .i64 tc, .int .i64 tn, .bool on, .int .i64 c2, .int .i64 n2, .int .i64 k2, .int .i64 p2, .string s2, .slice b2 m2 cap2, .int .i64 tc2, .int .i64 tn2, .bool on2, .int .i64 tot, .string ln] _ HBX.out Tryz.underlying46 rfl (by kernel_rfl) ?_)
            refine T2.mono ?_
            clear HBX
            rintro e X4 ⟨rfl, hc4⟩
            clear T2
            clear x0 x1 x2 x3 x4 x5 x6 x7 x8 x9 x10 x11 x12 x13 x14 x15 x16 x17 x18 x19 x20
            clear y0 y1 y2 y3 y4 y5 y6 y7 y8
            have hb4 := (hc4.block _ hlt3').trans hb3'
            have ho4 := (hc4.block _ hlt3).trans ho3
            have hH4 := hH3.trans (hc4.mono hH3.size)
            have hr4 := hr3.below hc4
            have hrw4 := hrw3.below hc4
            have hl4 := hl3.below hc4
            clear hb3' ho3 hH3 hr3 hrw3 hl3
            obtain ⟨x0, x1, x2, x3, x4, x5, x6, x7, x8, x9, x10, x11, x12, x13, x14, x15, x16, x17, x18, x19, x20⟩ := box21 hb4
            obtain ⟨y0, y1, y2, y3, y4, y5, y6, y7, y8⟩ := box9 ho4
            have T3 := gEqual_self (o := ⟨c, n, k, p, s, l, tc, tn, on⟩) hl4 hr4
            simp only [opVal] at T3
            go_wp2_with fail
            refine T3.mono ?_
            rintro e X5 ⟨rfl, hc5⟩
            clear T3
            clear x0 x1 x2 x3 x4 x5 x6 x7 x8 x9 x10 x11 x12 x13 x14 x15 x16 x17 x18 x19 x20
            clear y0 y1 y2 y3 y4 y5 y6 y7 y8
            have hs4 := hc4.size
            have ho5 := (hc5.block _ (by omega)).trans ho4
            have hH5 := hH4.trans (hc5.mono hH4.size)
            have hrw5 := hrw4.below hc5
            clear hb4 ho4 hH4 hr4 hrw4 hl4 hc4
            obtain ⟨y0, y1, y2, y3, y4, y5, y6, y7, y8⟩ := box9 ho5
            have T4 := spare_any (o := ⟨c, n, k, p, s, l, tc, tn, on⟩) hrw5
            simp only [opVal] at T4
            go_wp2_with fail
            refine T4.mono ?_
            rintro e X6 ⟨rfl, hc6⟩
            have hH6 := hH5.trans (hc6.mono hH5.size)
            clear T4 hc6 hrw5 ho5 hH5
            clear y0 y1 y2 y3 y4 y5 y6 y7 y8
            go_wp2_with fail
            go_roundw
            case rel => first | exact ⟨i + 1, by go_num, by omega, hH6⟩ | ((repeat apply Exists.intro); exact ⟨⟨i + 1, by go_num, by omega, hH6⟩, rfl⟩)
            case measure => simp [RowKit.intOf]; omega
          · have T1 := copied4S_any (o := ⟨c, n, k, p, s, l, tc, tn, on⟩) hr1 hmx
            simp only [opVal] at T1
            go_wp2_with fail
            refine T1.mono ?_
            rintro e X2 ⟨a1, cap1, rfl, hrw, hc2⟩
            clear T1
            clear x0 x1 x2 x3 x4 x5 x6 x7 x8 x9 x10 x11 x12 x13 x14 x15 x16 x17 x18 x19 x20
            go_upto_region 12 with fail
            generalize hX3 : X2.alloc (Obj.cells #[.int .i64 c, .int .i64 n, .int .i64 k, .int .i64 p, .string s, .slice a1 m cap1, .int .i64 tc, .int .i64 tn, .bool on] 44) = X3
            have hc3 : Below X2.heap.size X2 X3 := hX3 ▸ (Below.refl X2.heap.size X2).alloc (Nat.le_refl _) _
            have ho3 : X3.heap[X2.heap.size]? = some (.cells #[.int .i64 c, .int .i64 n, .int .i64 k, .int .i64 p, .string s, .slice a1 m cap1, .int .i64 tc, .int .i64 tn, .bool on] 44) := hX3 ▸ alloc_last _ _ _ rfl
            clear hX3
            have hcc := hc2.trans (hc3.mono hc2.size)
            have hb3' := (hcc.block _ hlt1).trans hb1
            have hH3 := hH1.trans (hcc.mono hH1.size)
            have hr3 := hr1.below hcc
            have hrw3 := hrw.below hc3
            have hlt3 := (Array.getElem?_eq_some_iff.1 ho3).1
            have hlt3' := (Array.getElem?_eq_some_iff.1 hb3').1
            clear hc2 hc3 hcc hb1 hH1 hr1 hrw hlt1
            obtain ⟨x0, x1, x2, x3, x4, x5, x6, x7, x8, x9, x10, x11, x12, x13, x14, x15, x16, x17, x18, x19, x20⟩ := box21 hb3'
            obtain ⟨y0, y1, y2, y3, y4, y5, y6, y7, y8⟩ := box9 ho3
            have hl3 : Sp.Rng X3 a1 m cap1 l := rng_of_rw (rw_frontK hrw3 hr3.len)
            have T2 := asks_6 (c := c) (n := n) (k := k) (p := p) (s := s) (tc := tc) (tn := tn) (on := on) (c2 := c2) (n2 := n2) (k2 := k2) (p2 := p2) (tc2 := tc2) (tn2 := tn2) (tot := tot) (s2 := s2) (ln := ln) (on2 := on2) (b2 := b2) (m2 := m2) (cap2 := cap2) hl3 hr3 hsx HR2.out.2.2 (HBAR.out.below hH3)
            have HBX : Hid (X3.rangeAt wr.heap.size 0 [.int .i64 6, .int .i64 c, .int .i64 n, .int .i64 k, .int .i64 p, .string s, .slice a m cap, .int .i64 tc, .int .i64 tn, .bool on, .int .i64 c2, .int .i64 n2, .int .i64 k2, .int .i64 p2, .string s2, .slice b2 m2 cap2, .int .i64 tc2, .int .i64 tn2, .bool on2, .int .i64 tot, .string ln]) := range_block hb3'
            go_wp2_with (refine wpList_load_mid rfl 46 _ rfl wr.heap.size 0 rfl [.int .i64 6, .int .i64 c, .int .i64 n, .int .i64 k, .int .i64 p, .string s, .slice a m cap, .int .i64 tc, .int .i64 tn, .bool on, .int .i64 c2, .int .i64 n2, .int .i64 k2, .int .i64 p2, .string s2, .slice b2 m2 cap2, .int .i64 tc2, .int .i64 tn2, .bool on2, .int .i64 tot, .string ln] _ HBX.out Tryz.underlying46 rfl (by kernel_rfl) ?_)
            refine T2.mono ?_
            clear HBX
            rintro e X4 ⟨rfl, hc4⟩
            clear T2
            clear x0 x1 x2 x3 x4 x5 x6 x7 x8 x9 x10 x11 x12 x13 x14 x15 x16 x17 x18 x19 x20
            clear y0 y1 y2 y3 y4 y5 y6 y7 y8
            have hb4 := (hc4.block _ hlt3').trans hb3'
            have ho4 := (hc4.block _ hlt3).trans ho3
            have hH4 := hH3.trans (hc4.mono hH3.size)
            have hr4 := hr3.below hc4
            have hrw4 := hrw3.below hc4
            have hl4 := hl3.below hc4
            clear hb3' ho3 hH3 hr3 hrw3 hl3
            obtain ⟨x0, x1, x2, x3, x4, x5, x6, x7, x8, x9, x10, x11, x12, x13, x14, x15, x16, x17, x18, x19, x20⟩ := box21 hb4
            obtain ⟨y0, y1, y2, y3, y4, y5, y6, y7, y8⟩ := box9 ho4
            have T3 := gEqual_self (o := ⟨c, n, k, p, s, l, tc, tn, on⟩) hl4 hr4
            simp only [opVal] at T3
            go_wp2_with fail
            refine T3.mono ?_
            rintro e X5 ⟨rfl, hc5⟩
            clear T3
            clear x0 x1 x2 x3 x4 x5 x6 x7 x8 x9 x10 x11 x12 x13 x14 x15 x16 x17 x18 x19 x20
            clear y0 y1 y2 y3 y4 y5 y6 y7 y8
            have hs4 := hc4.size
            have ho5 := (hc5.block _ (by omega)).trans ho4
            have hH5 := hH4.trans (hc5.mono hH4.size)
            have hrw5 := hrw4.below hc5
            clear hb4 ho4 hH4 hr4 hrw4 hl4 hc4
            obtain ⟨y0, y1, y2, y3, y4, y5, y6, y7, y8⟩ := box9 ho5
            have T4 := spare_any (o := ⟨c, n, k, p, s, l, tc, tn, on⟩) hrw5
            simp only [opVal] at T4
            go_wp2_with fail
            refine T4.mono ?_
            rintro e X6 ⟨rfl, hc6⟩
            have hH6 := hH5.trans (hc6.mono hH5.size)
            clear T4 hc6 hrw5 ho5 hH5
            clear y0 y1 y2 y3 y4 y5 y6 y7 y8
            go_wp2_with fail
            go_roundw
            case rel => first | exact ⟨i + 1, by go_num, by omega, hH6⟩ | ((repeat apply Exists.intro); exact ⟨⟨i + 1, by go_num, by omega, hH6⟩, rfl⟩)
            case measure => simp [RowKit.intOf]; omega
    · by_cases hin1 : i < nS
      · have b1 : (i : Int) < (nS : Int) := by omega
        have b2 : ¬ (i : Int) < 60 := fun e => hin ⟨hin1, by omega⟩
        clear hin
        go_wp2_with fail
        go_ret
        exact ⟨rfl, HB2.out.trans (hH.mono HB2.out.size)⟩
      · have b1 : ¬ (i : Int) < (nS : Int) := by omega
        clear hin
        go_wp2_with fail
        go_ret
        exact ⟨rfl, HB2.out.trans (hH.mono HB2.out.size)⟩
set_option maxHeartbeats 2000000 in
theorem opShapes_any {w : World} {aC : Option Addr} {nC cC : Nat} {zs : List (Int × Int)} (hC : Rw cellV 2 w aC nC cC zs) {aS : Option Addr} {nS cS : Nat} {L : List StepV} (hS : Rw stepF 21 w aS nS cS L) (hok : ∀ x ∈ L, StepOk2 w x) (hBar : Bar w) (hPow : Pow w) (hDeb : Deb w) :
    Calls Tryz.prog 3 #[.agg #[.slice aC nC cC, .slice aS nS cS]] w fun e w' => e = .returned (.bool true) ∧ Below w.heap.size w w' := by
  go_enter Tryz.func3, Tryz.ntmps3
  go_wp2_with fail
  have hB0 : Below w.heap.size w (w.alloc (Obj.cells #[.slice aC nC cC, .slice aS nS cS] 25)) := (Below.refl w.heap.size w).alloc (Nat.le_refl _) _
  refine (kinds36_any (hC.below hB0) (hS.below hB0) (fun x hx => by obtain ⟨⟨h1, h2, h3⟩, h4, h5, h6, h7⟩ := hok x hx; exact ⟨⟨h1.below hB0, h2, h3⟩, h4, h5.below hB0, h6, h7⟩) (hBar.below hB0) (hPow.below hB0) (hDeb.below hB0)).mono ?_
  rintro e w1 ⟨rfl, hb1⟩
  have hB1 := hB0.trans (hb1.mono hB0.size)
  clear hb1
  go_wp2_with fail
  go_ret
  exact ⟨rfl, hB1⟩
end Go.Proofs.YtkjejgoefnedpaaGreatDoor
