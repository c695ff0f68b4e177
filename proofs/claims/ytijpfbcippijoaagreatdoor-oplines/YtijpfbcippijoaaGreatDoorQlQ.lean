import Derived.Test.YtijpfbcippijoaaGreatDoorQhSA
import Derived.Test.YtijpfbcippijoaaGreatDoorQkF
import Derived.Test.YtijpfbcippijoaaGreatDoorQlP
import Derived.Deep.Cut
import Derived.Deep.MidRow
import Derived.Deep.WholeRow
namespace Go.Proofs.YtijpfbcippijoaaGreatDoor
open Go.RowKit Go.Lib
set_option maxRecDepth 100000
structure Tabq (w : World) : Prop where
  bar : Bar w
  pow : Pow w
  deb : Deb w
  errs : Errs w
theorem Tabq.below {w w' : World} (h : Tabq w) (hb : Below w.heap.size w w') : Tabq w' := ⟨h.bar.below hb, h.pow.below hb, h.deb.below hb, h.errs.below hb⟩
theorem opPrint_any {o : OpV} {w : World} {a : Option Addr} {m cap : Nat} (h : Sp.Rng w a m cap o.l) (hs : o.s.size ≤ 2097152) (hw : Tabq w) :
    Calls Tryz.prog 20 #[opVal o (.slice a m cap)] w fun e w' => e = .returned (.tuple #[.string (if ownP o = 0 then bs (printP o) else ⟨#[]⟩), .int .i64 (ownP o)]) ∧ Below w.heap.size w w' := by
  by_cases hok : ownP o = 0
  · rw [if_pos hok, hok]
    exact print_right h hok (by omega) hw.bar hw.pow hw.deb
  · rw [if_neg hok]
    exact print_wrong h hok (by omega) hw.bar
theorem parse_both (ln : ByteArray) (hl : ln.size ≤ 1048576) : ∃ (z : OpV) (C : Int),
    (∀ w : World, Tabq w → Calls Tryz.prog 44 #[.string ln] w fun e w' => ∃ a m cap, e = .returned (.tuple #[opVal z (.slice a m cap), .int .i64 C]) ∧ Sp.Rng w' a m cap z.l ∧ Below w.heap.size w w') ∧
    (∀ w : World, Calls Tryz.prog 45 #[.string ln] w fun e w' => ∃ a m cap, e = .returned (.tuple #[opVal z (.slice a m cap), .int .i64 C]) ∧ Sp.Rng w' a m cap z.l ∧ Below w.heap.size w w') := by
  obtain ⟨l, rfl⟩ : ∃ l, ln = bs l := ⟨_, (bs_id ln).symm⟩
  rw [bs_size] at hl
  by_cases hT : Taken l
  · refine ⟨readP l, 0, fun w hw => ?_, fun w => ?_⟩
    · refine (parse_yes l hl hT w hw.bar hw.pow hw.deb hw.errs).mono ?_
      rintro e w' ⟨a, m, cap, h1, h2, _, h3⟩
      exact ⟨a, m, cap, h1, h2, h3⟩
    · refine (gParse_yes l hl ((taken_both l).1 hT) w).mono ?_
      rintro e w' ⟨a, m, cap, h1, h2, _, h3⟩
      rw [taken_same hT] at h1 h2
      exact ⟨a, m, cap, h1, h2, h3⟩
  · refine ⟨zeroOp, 44, fun w hw => ?_, fun w => ?_⟩
    · refine (parse_no l hl hT w hw.bar hw.pow hw.deb hw.errs).mono ?_
      rintro e w' ⟨h1, h3⟩
      exact ⟨none, 0, 0, h1, rng_nilk _, h3⟩
    · refine (gParse_no l hl hT w).mono ?_
      rintro e w' ⟨h1, h3⟩
      exact ⟨none, 0, 0, h1, rng_nilk _, h3⟩
set_option maxHeartbeats 8000000 in
theorem asks_8 {c n k p tc tn c2 n2 k2 p2 tc2 tn2 tot : Int} {s s2 ln : ByteArray} {on on2 : Bool} {l : List (Int × Int)} {w : World} {a a1 b2 : Option Addr} {m cap cap1 m2 cap2 : Nat} (h1 : Sp.Rng w a1 m cap1 l) (h2 : Sp.Rng w a m cap l) (hs : s.size ≤ 2097152) (_hm : m ≤ 1048576) (hw : Tabq w) :
    Calls Tryz.prog 15 #[.agg #[.int .i64 8, .int .i64 c, .int .i64 n, .int .i64 k, .int .i64 p, .string s, .slice a m cap, .int .i64 tc, .int .i64 tn, .bool on, .int .i64 c2, .int .i64 n2, .int .i64 k2, .int .i64 p2, .string s2, .slice b2 m2 cap2, .int .i64 tc2, .int .i64 tn2, .bool on2, .int .i64 tot, .string ln], .agg #[.int .i64 c, .int .i64 n, .int .i64 k, .int .i64 p, .string s, .slice a1 m cap1, .int .i64 tc, .int .i64 tn, .bool on]] w fun e w' => e = .returned (.bool true) ∧ Below w.heap.size w w' := by
  go_enter Tryz.func15, Tryz.ntmps15
  go_wp2_with fail
  generalize hW0 : (w.alloc (Obj.cells #[.int .i64 8, .int .i64 c, .int .i64 n, .int .i64 k, .int .i64 p, .string s, .slice a m cap, .int .i64 tc, .int .i64 tn, .bool on, .int .i64 c2, .int .i64 n2, .int .i64 k2, .int .i64 p2, .string s2, .slice b2 m2 cap2, .int .i64 tc2, .int .i64 tn2, .bool on2, .int .i64 tot, .string ln] 46)).alloc (Obj.cells #[.int .i64 c, .int .i64 n, .int .i64 k, .int .i64 p, .string s, .slice a1 m cap1, .int .i64 tc, .int .i64 tn, .bool on] 44) = W0
  have hX : W0.heap[w.heap.size]? = some (Obj.cells #[.int .i64 8, .int .i64 c, .int .i64 n, .int .i64 k, .int .i64 p, .string s, .slice a m cap, .int .i64 tc, .int .i64 tn, .bool on, .int .i64 c2, .int .i64 n2, .int .i64 k2, .int .i64 p2, .string s2, .slice b2 m2 cap2, .int .i64 tc2, .int .i64 tn2, .bool on2, .int .i64 tot, .string ln] 46) := by rw [← hW0]; exact (Below.heap_alloc _ _ _ (by simp)).trans (alloc_last _ _ _ rfl)
  have hZ : W0.heap[w.heap.size + 1]? = some (Obj.cells #[.int .i64 c, .int .i64 n, .int .i64 k, .int .i64 p, .string s, .slice a1 m cap1, .int .i64 tc, .int .i64 tn, .bool on] 44) := by rw [← hW0]; exact alloc_last _ _ _ (by simp)
  have hB0 : Below w.heap.size w W0 := by rw [← hW0]; exact ((Below.refl w.heap.size w).alloc (Nat.le_refl _) _).alloc (by simp) _
  clear hW0
  have g1 := h1.below hB0
  have g2 := h2.below hB0
  have gw := hw.below hB0
  clear h1 h2 hw
  obtain ⟨x0, x1, x2, x3, x4, x5, x6, x7, x8, x9, x10, x11, x12, x13, x14, x15, x16, x17, x18, x19, x20⟩ := box21 hX
  obtain ⟨y0, y1, y2, y3, y4, y5, y6, y7, y8⟩ := box9 hZ
  have T1 := opPrint_any (o := ⟨c, n, k, p, s, l, tc, tn, on⟩) g1 hs gw
  have T2 := fun w1 (hb1 : Below W0.heap.size W0 w1) => gPrint_any (o := ⟨c, n, k, p, s, l, tc, tn, on⟩) (w := w1) (g2.below hb1) hs
  generalize (if ownP ⟨c, n, k, p, s, l, tc, tn, on⟩ = 0 then bs (printP ⟨c, n, k, p, s, l, tc, tn, on⟩) else ⟨#[]⟩) = S at *
  generalize ownP ⟨c, n, k, p, s, l, tc, tn, on⟩ = C at *
  simp only [opVal] at T1 T2
  have HT2 : Hid (∀ w1, Below W0.heap.size W0 w1 → _) := T2
  clear T2
  go_wp2_with fail
  refine T1.mono ?_
  rintro e w1 ⟨rfl, hb1⟩
  have hX1 := (hb1.block _ (Array.getElem?_eq_some_iff.1 hX).1).trans hX
  have hZ1 := (hb1.block _ (Array.getElem?_eq_some_iff.1 hZ).1).trans hZ
  have hB1 := hB0.trans (hb1.mono hB0.size)
  clear T1
  clear x0 x1 x2 x3 x4 x5 x6 x7 x8 x9 x10 x11 x12 x13 x14 x15 x16 x17 x18 x19 x20 y0 y1 y2 y3 y4 y5 y6 y7 y8
  obtain ⟨x0, x1, x2, x3, x4, x5, x6, x7, x8, x9, x10, x11, x12, x13, x14, x15, x16, x17, x18, x19, x20⟩ := box21 hX1
  obtain ⟨y0, y1, y2, y3, y4, y5, y6, y7, y8⟩ := box9 hZ1
  have T2 := HT2.out w1 hb1
  clear HT2
  go_wp2_with fail
  refine T2.mono ?_
  rintro e w2 ⟨rfl, hb2⟩
  have hB2 := hB1.trans (hb2.mono hB1.size)
  clear T2
  clear x0 x1 x2 x3 x4 x5 x6 x7 x8 x9 x10 x11 x12 x13 x14 x15 x16 x17 x18 x19 x20 y0 y1 y2 y3 y4 y5 y6 y7 y8
  have er : (C == C) = true := beq_self_eq_true _
  clear hX1 hZ1 hX hZ
  go_wp2_with fail
  go_ret
  exact ⟨rfl, hB2⟩
set_option maxHeartbeats 8000000 in
theorem asks_9 {c n k p tc tn c2 n2 k2 p2 tc2 tn2 tot : Int} {s s2 ln : ByteArray} {on on2 : Bool} {l : List (Int × Int)} {w : World} {a a1 b2 : Option Addr} {m cap cap1 m2 cap2 : Nat} (h1 : Sp.Rng w a1 m cap1 l) (h2 : Sp.Rng w a m cap l) (_hs : s.size ≤ 2097152) (_hm : m ≤ 1048576) (hw : Tabq w) (hln : ln.size ≤ 1048576) :
    Calls Tryz.prog 15 #[.agg #[.int .i64 9, .int .i64 c, .int .i64 n, .int .i64 k, .int .i64 p, .string s, .slice a m cap, .int .i64 tc, .int .i64 tn, .bool on, .int .i64 c2, .int .i64 n2, .int .i64 k2, .int .i64 p2, .string s2, .slice b2 m2 cap2, .int .i64 tc2, .int .i64 tn2, .bool on2, .int .i64 tot, .string ln], .agg #[.int .i64 c, .int .i64 n, .int .i64 k, .int .i64 p, .string s, .slice a1 m cap1, .int .i64 tc, .int .i64 tn, .bool on]] w fun e w' => e = .returned (.bool true) ∧ Below w.heap.size w w' := by
  go_enter Tryz.func15, Tryz.ntmps15
  go_wp2_with fail
  generalize hW0 : (w.alloc (Obj.cells #[.int .i64 9, .int .i64 c, .int .i64 n, .int .i64 k, .int .i64 p, .string s, .slice a m cap, .int .i64 tc, .int .i64 tn, .bool on, .int .i64 c2, .int .i64 n2, .int .i64 k2, .int .i64 p2, .string s2, .slice b2 m2 cap2, .int .i64 tc2, .int .i64 tn2, .bool on2, .int .i64 tot, .string ln] 46)).alloc (Obj.cells #[.int .i64 c, .int .i64 n, .int .i64 k, .int .i64 p, .string s, .slice a1 m cap1, .int .i64 tc, .int .i64 tn, .bool on] 44) = W0
  have hX : W0.heap[w.heap.size]? = some (Obj.cells #[.int .i64 9, .int .i64 c, .int .i64 n, .int .i64 k, .int .i64 p, .string s, .slice a m cap, .int .i64 tc, .int .i64 tn, .bool on, .int .i64 c2, .int .i64 n2, .int .i64 k2, .int .i64 p2, .string s2, .slice b2 m2 cap2, .int .i64 tc2, .int .i64 tn2, .bool on2, .int .i64 tot, .string ln] 46) := by rw [← hW0]; exact (Below.heap_alloc _ _ _ (by simp)).trans (alloc_last _ _ _ rfl)
  have hZ : W0.heap[w.heap.size + 1]? = some (Obj.cells #[.int .i64 c, .int .i64 n, .int .i64 k, .int .i64 p, .string s, .slice a1 m cap1, .int .i64 tc, .int .i64 tn, .bool on] 44) := by rw [← hW0]; exact alloc_last _ _ _ (by simp)
  have hB0 : Below w.heap.size w W0 := by rw [← hW0]; exact ((Below.refl w.heap.size w).alloc (Nat.le_refl _) _).alloc (by simp) _
  clear hW0
  have g1 := h1.below hB0
  have g2 := h2.below hB0
  have gw := hw.below hB0
  clear h1 h2 hw
  obtain ⟨x0, x1, x2, x3, x4, x5, x6, x7, x8, x9, x10, x11, x12, x13, x14, x15, x16, x17, x18, x19, x20⟩ := box21 hX
  obtain ⟨y0, y1, y2, y3, y4, y5, y6, y7, y8⟩ := box9 hZ
  obtain ⟨z, C, HZ1, T2⟩ := parse_both ln hln
  have T1 := HZ1 W0 gw
  obtain ⟨zc, zn, zk, zp, zs, zl, ztc, ztn, zon⟩ := z
  simp only [opVal] at T1 T2
  have HT2 : Hid (∀ w1 : World, _) := T2
  clear T2 HZ1 hln
  go_wp2_with fail
  refine T1.mono ?_
  rintro e w1 ⟨a3, m3, c3, rfl, hr1, hb1⟩
  have hX1 := (hb1.block _ (Array.getElem?_eq_some_iff.1 hX).1).trans hX
  have hZ1 := (hb1.block _ (Array.getElem?_eq_some_iff.1 hZ).1).trans hZ
  have hB1 := hB0.trans (hb1.mono hB0.size)
  clear T1
  clear x0 x1 x2 x3 x4 x5 x6 x7 x8 x9 x10 x11 x12 x13 x14 x15 x16 x17 x18 x19 x20 y0 y1 y2 y3 y4 y5 y6 y7 y8
  go_upto_region 32 with fail
  generalize hW3 : w1.alloc (Obj.cells #[.int .i64 zc, .int .i64 zn, .int .i64 zk, .int .i64 zp, .string zs, .slice a3 m3 c3, .int .i64 ztc, .int .i64 ztn, .bool zon] 44) = W3
  have hb3 : Below w1.heap.size w1 W3 := hW3 ▸ (Below.refl w1.heap.size w1).alloc (Nat.le_refl _) _
  have hA3 : W3.heap[w1.heap.size]? = some (Obj.cells #[.int .i64 zc, .int .i64 zn, .int .i64 zk, .int .i64 zp, .string zs, .slice a3 m3 c3, .int .i64 ztc, .int .i64 ztn, .bool zon] 44) := hW3 ▸ alloc_last _ _ _ rfl
  clear hW3
  have hX3 := (hb3.block _ (Array.getElem?_eq_some_iff.1 hX1).1).trans hX1
  have hZ3 := (hb3.block _ (Array.getElem?_eq_some_iff.1 hZ1).1).trans hZ1
  have hB3 := hB1.trans (hb3.mono hB1.size)
  obtain ⟨x0, x1, x2, x3, x4, x5, x6, x7, x8, x9, x10, x11, x12, x13, x14, x15, x16, x17, x18, x19, x20⟩ := box21 hX3
  obtain ⟨y0, y1, y2, y3, y4, y5, y6, y7, y8⟩ := box9 hZ3
  have T2 := HT2.out W3
  clear HT2
  go_wp2_with fail
  refine T2.mono ?_
  rintro e w4 ⟨a5, m5, c5, rfl, hr4, hb4⟩
  have hA4 := (hb4.block _ (Array.getElem?_eq_some_iff.1 hA3).1).trans hA3
  have hB4 := hB3.trans (hb4.mono hB3.size)
  clear T2
  clear x0 x1 x2 x3 x4 x5 x6 x7 x8 x9 x10 x11 x12 x13 x14 x15 x16 x17 x18 x19 x20 y0 y1 y2 y3 y4 y5 y6 y7 y8
  go_upto_region 33 with fail
  generalize hW5 : w4.alloc (Obj.cells #[.int .i64 zc, .int .i64 zn, .int .i64 zk, .int .i64 zp, .string zs, .slice a5 m5 c5, .int .i64 ztc, .int .i64 ztn, .bool zon] 44) = W5
  have hb5 : Below w4.heap.size w4 W5 := hW5 ▸ (Below.refl w4.heap.size w4).alloc (Nat.le_refl _) _
  have hA5 : W5.heap[w4.heap.size]? = some (Obj.cells #[.int .i64 zc, .int .i64 zn, .int .i64 zk, .int .i64 zp, .string zs, .slice a5 m5 c5, .int .i64 ztc, .int .i64 ztn, .bool zon] 44) := hW5 ▸ alloc_last _ _ _ rfl
  clear hW5
  have hA6 := (hb5.block _ (Array.getElem?_eq_some_iff.1 hA4).1).trans hA4
  have hB5 := hB4.trans (hb5.mono hB4.size)
  obtain ⟨u0, u1, u2, u3, u4, u5, u6, u7, u8⟩ := box9 hA6
  obtain ⟨v0, v1, v2, v3, v4, v5, v6, v7, v8⟩ := box9 hA5
  have T3 := gEqual_self (o := ⟨zc, zn, zk, zp, zs, zl, ztc, ztn, zon⟩) (((hr1.below hb3).below hb4).below hb5) (hr4.below hb5)
  simp only [opVal] at T3
  have er : (C == C) = true := beq_self_eq_true _
  clear hX1 hZ1 hX hZ hX3 hZ3 hA3 hA4 hA5 hA6 hr1 hr4
  go_wp2_with fail
  refine T3.mono ?_
  rintro e w6 ⟨rfl, hb6⟩
  have hB6 := hB5.trans (hb6.mono hB5.size)
  clear T3
  clear u0 u1 u2 u3 u4 u5 u6 u7 u8 v0 v1 v2 v3 v4 v5 v6 v7 v8
  go_wp2_with fail
  go_ret
  exact ⟨rfl, hB6⟩
def StepOk3 (W : World) (x : StepV) : Prop := StepOk2 W x ∧ x.ln.size ≤ 1048576
theorem StepOk3.below {W W' : World} {x : StepV} (h : StepOk3 W x) (hb : Below W.heap.size W W') : StepOk3 W' x := by
  obtain ⟨⟨⟨h1, h2, h3⟩, h4, h5, h6, h7⟩, h8⟩ := h
  exact ⟨⟨⟨h1.below hb, h2, h3⟩, h4, h5.below hb, h6, h7⟩, h8⟩
end Go.Proofs.YtijpfbcippijoaaGreatDoor
