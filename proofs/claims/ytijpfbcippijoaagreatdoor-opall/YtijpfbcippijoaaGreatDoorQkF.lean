import Derived.Test.YtijpfbcippijoaaGreatDoorGr41
import Derived.Test.YtijpfbcippijoaaGreatDoorQkAE
import Derived.Deep.Cut
import Derived.Deep.MidRow
import Derived.Deep.WholeRow
namespace Go.Proofs.YtijpfbcippijoaaGreatDoor
open Go.RowKit Go.Lib
set_option maxRecDepth 100000
set_option maxHeartbeats 8000000 in
theorem asks_3 {c n k p tc tn c2 n2 k2 p2 tc2 tn2 tot : Int} {s s2 ln : ByteArray} {on on2 : Bool} {l : List (Int × Int)} {w : World} {a a1 b2 : Option Addr} {m cap cap1 m2 cap2 : Nat} (h1 : Sp.Rng w a1 m cap1 l) (h2 : Sp.Rng w a m cap l) (hs : s.size≤2097152) (hm : m≤1048576) (hw : Bar w) :
    Calls Tryz.prog 15 #[.agg #[.int .i64 3,.int .i64 c,.int .i64 n,.int .i64 k,.int .i64 p,.string s,.slice a m cap,.int .i64 tc,.int .i64 tn,.bool on,.int .i64 c2,.int .i64 n2,.int .i64 k2,.int .i64 p2,.string s2,.slice b2 m2 cap2,.int .i64 tc2,.int .i64 tn2,.bool on2,.int .i64 tot,.string ln],.agg #[.int .i64 c,.int .i64 n,.int .i64 k,.int .i64 p,.string s,.slice a1 m cap1,.int .i64 tc,.int .i64 tn,.bool on]] w fun e w'=>e = .returned (.bool true)∧Below w.heap.size w w':=by
  go_enter Tryz.func15,Tryz.ntmps15
  go_wp2_with fail
  generalize hW0 : (w.alloc (Obj.cells #[.int .i64 3,.int .i64 c,.int .i64 n,.int .i64 k,.int .i64 p,.string s,.slice a m cap,.int .i64 tc,.int .i64 tn,.bool on,.int .i64 c2,.int .i64 n2,.int .i64 k2,.int .i64 p2,.string s2,.slice b2 m2 cap2,.int .i64 tc2,.int .i64 tn2,.bool on2,.int .i64 tot,.string ln] 46)).alloc (Obj.cells #[.int .i64 c,.int .i64 n,.int .i64 k,.int .i64 p,.string s,.slice a1 m cap1,.int .i64 tc,.int .i64 tn,.bool on] 44) = W0
  have hX : W0.heap[w.heap.size]? = some (Obj.cells #[.int .i64 3,.int .i64 c,.int .i64 n,.int .i64 k,.int .i64 p,.string s,.slice a m cap,.int .i64 tc,.int .i64 tn,.bool on,.int .i64 c2,.int .i64 n2,.int .i64 k2,.int .i64 p2,.string s2,.slice b2 m2 cap2,.int .i64 tc2,.int .i64 tn2,.bool on2,.int .i64 tot,.string ln] 46):=by rw [← hW0]; exact (Below.heap_alloc _ _ _ (by simp)).trans (alloc_last _ _ _ rfl)
  have hZ : W0.heap[w.heap.size + 1]? = some (Obj.cells #[.int .i64 c,.int .i64 n,.int .i64 k,.int .i64 p,.string s,.slice a1 m cap1,.int .i64 tc,.int .i64 tn,.bool on] 44):=by rw [← hW0]; exact alloc_last _ _ _ (by simp)
  have hB0 : Below w.heap.size w W0:=by rw [← hW0]; exact ((Below.refl w.heap.size w).alloc (Nat.le_refl _) _).alloc (by simp) _
  clear hW0
  have g1:=h1.below hB0
  have g2:=h2.below hB0
  have gw:=hw.below hB0
  clear h1 h2 hw
  obtain ⟨x0,x1,x2,x3,x4,x5,x6,x7,x8,x9,x10,x11,x12,x13,x14,x15,x16,x17,x18,x19,x20⟩:=box21 hX
  obtain ⟨y0,y1,y2,y3,y4,y5,y6,y7,y8⟩:=box9 hZ
  have T1:=opCovers_any (o:=⟨c,n,k,p,s,l,tc,tn,on⟩) g1 (by omega) (Nat.le_trans hs (by decide)) gw
  simp only [opVal] at T1
  go_wp2_with fail
  refine T1.mono ?_
  rintro e w1 ⟨v1,rfl,ho1,hb1⟩
  obtain ⟨va,vc,rfl⟩:=ho1.shape
  have hX1:=(hb1.block _ (Array.getElem?_eq_some_iff.1 hX).1).trans hX
  have hZ1:=(hb1.block _ (Array.getElem?_eq_some_iff.1 hZ).1).trans hZ
  have hB1:=hB0.trans (hb1.mono hB0.size)
  clear T1
  clear x0 x1 x2 x3 x4 x5 x6 x7 x8 x9 x10 x11 x12 x13 x14 x15 x16 x17 x18 x19 x20 y0 y1 y2 y3 y4 y5 y6 y7 y8
  obtain ⟨x0,x1,x2,x3,x4,x5,x6,x7,x8,x9,x10,x11,x12,x13,x14,x15,x16,x17,x18,x19,x20⟩:=box21 hX1
  obtain ⟨y0,y1,y2,y3,y4,y5,y6,y7,y8⟩:=box9 hZ1
  have T2:=gCovers_any (o:=⟨c,n,k,p,s,l,tc,tn,on⟩) (g2.below hb1) (by omega) hs
  simp only [opVal] at T2
  go_wp2_with fail
  refine T2.mono ?_
  rintro e w2 ⟨v2,rfl,ho2,hb2⟩
  obtain ⟨vb,vd,rfl⟩:=ho2.shape
  have hB2:=hB1.trans (hb2.mono hB1.size)
  clear T2
  clear x0 x1 x2 x3 x4 x5 x6 x7 x8 x9 x10 x11 x12 x13 x14 x15 x16 x17 x18 x19 x20 y0 y1 y2 y3 y4 y5 y6 y7 y8
  have T3:=gSame_any ((rng_own ho1).below hb2) (rng_own ho2)
  rw [decide_eq_true rfl] at T3
  generalize coversV ⟨c,n,k,p,s,l,tc,tn,on⟩ = CL at *
  obtain ⟨nl,hnl⟩ : ∃ nl,CL.length = nl:=⟨_,rfl⟩
  rw [hnl] at T3 ⊢
  clear hX1 hZ1 hX hZ ho1 ho2 hnl
  go_wp2_with fail
  refine T3.mono ?_
  rintro e w3 ⟨rfl,hb3⟩
  have hB3:=hB2.trans (hb3.mono hB2.size)
  clear T3
  go_wp2_with fail
  go_ret
  exact ⟨rfl,hB3⟩
set_option maxHeartbeats 8000000 in
theorem asks_5 {c n k p tc tn c2 n2 k2 p2 tc2 tn2 tot : Int} {s s2 ln : ByteArray} {on on2 : Bool} {l : List (Int × Int)} {w : World} {a a1 b2 : Option Addr} {m cap cap1 m2 cap2 : Nat} (h1 : Sp.Rng w a1 m cap1 l) (h2 : Sp.Rng w a m cap l) (hs : s.size≤2097152) (hm : m≤1048576) (hw : Bar w) :
    Calls Tryz.prog 15 #[.agg #[.int .i64 5,.int .i64 c,.int .i64 n,.int .i64 k,.int .i64 p,.string s,.slice a m cap,.int .i64 tc,.int .i64 tn,.bool on,.int .i64 c2,.int .i64 n2,.int .i64 k2,.int .i64 p2,.string s2,.slice b2 m2 cap2,.int .i64 tc2,.int .i64 tn2,.bool on2,.int .i64 tot,.string ln],.agg #[.int .i64 c,.int .i64 n,.int .i64 k,.int .i64 p,.string s,.slice a1 m cap1,.int .i64 tc,.int .i64 tn,.bool on]] w fun e w'=>e = .returned (.bool true)∧Below w.heap.size w w':=by
  go_enter Tryz.func15,Tryz.ntmps15
  go_wp2_with fail
  generalize hW0 : (w.alloc (Obj.cells #[.int .i64 5,.int .i64 c,.int .i64 n,.int .i64 k,.int .i64 p,.string s,.slice a m cap,.int .i64 tc,.int .i64 tn,.bool on,.int .i64 c2,.int .i64 n2,.int .i64 k2,.int .i64 p2,.string s2,.slice b2 m2 cap2,.int .i64 tc2,.int .i64 tn2,.bool on2,.int .i64 tot,.string ln] 46)).alloc (Obj.cells #[.int .i64 c,.int .i64 n,.int .i64 k,.int .i64 p,.string s,.slice a1 m cap1,.int .i64 tc,.int .i64 tn,.bool on] 44) = W0
  have hX : W0.heap[w.heap.size]? = some (Obj.cells #[.int .i64 5,.int .i64 c,.int .i64 n,.int .i64 k,.int .i64 p,.string s,.slice a m cap,.int .i64 tc,.int .i64 tn,.bool on,.int .i64 c2,.int .i64 n2,.int .i64 k2,.int .i64 p2,.string s2,.slice b2 m2 cap2,.int .i64 tc2,.int .i64 tn2,.bool on2,.int .i64 tot,.string ln] 46):=by rw [← hW0]; exact (Below.heap_alloc _ _ _ (by simp)).trans (alloc_last _ _ _ rfl)
  have hZ : W0.heap[w.heap.size + 1]? = some (Obj.cells #[.int .i64 c,.int .i64 n,.int .i64 k,.int .i64 p,.string s,.slice a1 m cap1,.int .i64 tc,.int .i64 tn,.bool on] 44):=by rw [← hW0]; exact alloc_last _ _ _ (by simp)
  have hB0 : Below w.heap.size w W0:=by rw [← hW0]; exact ((Below.refl w.heap.size w).alloc (Nat.le_refl _) _).alloc (by simp) _
  clear hW0
  have g1:=h1.below hB0
  have g2:=h2.below hB0
  have gw:=hw.below hB0
  clear h1 h2 hw
  obtain ⟨x0,x1,x2,x3,x4,x5,x6,x7,x8,x9,x10,x11,x12,x13,x14,x15,x16,x17,x18,x19,x20⟩:=box21 hX
  obtain ⟨y0,y1,y2,y3,y4,y5,y6,y7,y8⟩:=box9 hZ
  have T1:=opClone_any (o:=⟨c,n,k,p,s,l,tc,tn,on⟩) g1 (by omega) (Nat.le_trans hs (by decide))
  simp only [opVal] at T1
  go_wp2_with fail
  refine T1.mono ?_
  rintro e w1 ⟨a3,c3,rfl,ho1,hb1⟩
  have hX1:=(hb1.block _ (Array.getElem?_eq_some_iff.1 hX).1).trans hX
  have hZ1:=(hb1.block _ (Array.getElem?_eq_some_iff.1 hZ).1).trans hZ
  have hB1:=hB0.trans (hb1.mono hB0.size)
  clear T1
  clear x0 x1 x2 x3 x4 x5 x6 x7 x8 x9 x10 x11 x12 x13 x14 x15 x16 x17 x18 x19 x20 y0 y1 y2 y3 y4 y5 y6 y7 y8
  go_upto_region 21 with fail
  generalize hW3 : w1.alloc (Obj.cells #[.int .i64 c,.int .i64 n,.int .i64 k,.int .i64 p,.string s,.slice a3 m c3,.int .i64 tc,.int .i64 tn,.bool on] 44) = W3
  have hb3 : Below w1.heap.size w1 W3:=hW3 ▸ (Below.refl w1.heap.size w1).alloc (Nat.le_refl _) _
  have hA3 : W3.heap[w1.heap.size]? = some (Obj.cells #[.int .i64 c,.int .i64 n,.int .i64 k,.int .i64 p,.string s,.slice a3 m c3,.int .i64 tc,.int .i64 tn,.bool on] 44):=hW3 ▸ alloc_last _ _ _ rfl
  clear hW3
  have hX3:=(hb3.block _ (Array.getElem?_eq_some_iff.1 hX1).1).trans hX1
  have hZ3:=(hb3.block _ (Array.getElem?_eq_some_iff.1 hZ1).1).trans hZ1
  have hB3:=hB1.trans (hb3.mono hB1.size)
  obtain ⟨x0,x1,x2,x3,x4,x5,x6,x7,x8,x9,x10,x11,x12,x13,x14,x15,x16,x17,x18,x19,x20⟩:=box21 hX3
  obtain ⟨y0,y1,y2,y3,y4,y5,y6,y7,y8⟩:=box9 hZ3
  obtain ⟨u0,u1,u2,u3,u4,u5,u6,u7,u8⟩:=box9 hA3
  have T2:=gEqual_self (o:=⟨c,n,k,p,s,l,tc,tn,on⟩) ((rng_own ho1).below hb3) ((g2.below hb1).below hb3)
  simp only [opVal] at T2
  clear hX1 hZ1 hX hZ hX3 hZ3 hA3 ho1
  go_wp2_with fail
  refine T2.mono ?_
  rintro e w4 ⟨rfl,hb4⟩
  have hB4:=hB3.trans (hb4.mono hB3.size)
  clear T2
  clear x0 x1 x2 x3 x4 x5 x6 x7 x8 x9 x10 x11 x12 x13 x14 x15 x16 x17 x18 x19 x20 y0 y1 y2 y3 y4 y5 y6 y7 y8
  clear u0 u1 u2 u3 u4 u5 u6 u7 u8
  go_wp2_with fail
  go_ret
  exact ⟨rfl,hB4⟩
set_option maxHeartbeats 8000000 in
theorem asks_6 {c n k p tc tn c2 n2 k2 p2 tc2 tn2 tot : Int} {s s2 ln : ByteArray} {on on2 : Bool} {l : List (Int × Int)} {w : World} {a a1 b2 : Option Addr} {m cap cap1 m2 cap2 : Nat} (h1 : Sp.Rng w a1 m cap1 l) (h2 : Sp.Rng w a m cap l) (hs : s.size≤2097152) (hm : m≤1048576) (hw : Bar w) :
    Calls Tryz.prog 15 #[.agg #[.int .i64 6,.int .i64 c,.int .i64 n,.int .i64 k,.int .i64 p,.string s,.slice a m cap,.int .i64 tc,.int .i64 tn,.bool on,.int .i64 c2,.int .i64 n2,.int .i64 k2,.int .i64 p2,.string s2,.slice b2 m2 cap2,.int .i64 tc2,.int .i64 tn2,.bool on2,.int .i64 tot,.string ln],.agg #[.int .i64 c,.int .i64 n,.int .i64 k,.int .i64 p,.string s,.slice a1 m cap1,.int .i64 tc,.int .i64 tn,.bool on]] w fun e w'=>e = .returned (.bool true)∧Below w.heap.size w w':=by
  go_enter Tryz.func15,Tryz.ntmps15
  go_wp2_with fail
  generalize hW0 : (w.alloc (Obj.cells #[.int .i64 6,.int .i64 c,.int .i64 n,.int .i64 k,.int .i64 p,.string s,.slice a m cap,.int .i64 tc,.int .i64 tn,.bool on,.int .i64 c2,.int .i64 n2,.int .i64 k2,.int .i64 p2,.string s2,.slice b2 m2 cap2,.int .i64 tc2,.int .i64 tn2,.bool on2,.int .i64 tot,.string ln] 46)).alloc (Obj.cells #[.int .i64 c,.int .i64 n,.int .i64 k,.int .i64 p,.string s,.slice a1 m cap1,.int .i64 tc,.int .i64 tn,.bool on] 44) = W0
  have hX : W0.heap[w.heap.size]? = some (Obj.cells #[.int .i64 6,.int .i64 c,.int .i64 n,.int .i64 k,.int .i64 p,.string s,.slice a m cap,.int .i64 tc,.int .i64 tn,.bool on,.int .i64 c2,.int .i64 n2,.int .i64 k2,.int .i64 p2,.string s2,.slice b2 m2 cap2,.int .i64 tc2,.int .i64 tn2,.bool on2,.int .i64 tot,.string ln] 46):=by rw [← hW0]; exact (Below.heap_alloc _ _ _ (by simp)).trans (alloc_last _ _ _ rfl)
  have hZ : W0.heap[w.heap.size + 1]? = some (Obj.cells #[.int .i64 c,.int .i64 n,.int .i64 k,.int .i64 p,.string s,.slice a1 m cap1,.int .i64 tc,.int .i64 tn,.bool on] 44):=by rw [← hW0]; exact alloc_last _ _ _ (by simp)
  have hB0 : Below w.heap.size w W0:=by rw [← hW0]; exact ((Below.refl w.heap.size w).alloc (Nat.le_refl _) _).alloc (by simp) _
  clear hW0
  have g1:=h1.below hB0
  have g2:=h2.below hB0
  have gw:=hw.below hB0
  clear h1 h2 hw
  obtain ⟨x0,x1,x2,x3,x4,x5,x6,x7,x8,x9,x10,x11,x12,x13,x14,x15,x16,x17,x18,x19,x20⟩:=box21 hX
  obtain ⟨y0,y1,y2,y3,y4,y5,y6,y7,y8⟩:=box9 hZ
  have T1:=opInverse_any (o:=⟨c,n,k,p,s,l,tc,tn,on⟩) g1 (by omega) (Nat.le_trans hs (by decide)) gw
  have T2:=fun w1 (hb1 : Below W0.heap.size W0 w1)=>gInverse_any (o:=⟨c,n,k,p,s,l,tc,tn,on⟩) (w:=w1) (g2.below hb1) (by omega) hs
  generalize invV ⟨c,n,k,p,s,l,tc,tn,on⟩ = z at *
  generalize ownP ⟨c,n,k,p,s,l,tc,tn,on⟩ = C at *
  obtain ⟨zc,zn,zk,zp,zs,zl,ztc,ztn,zon⟩:=z
  simp only [opVal] at T1 T2
  have HT2 : Hid (∀ w1,Below W0.heap.size W0 w1→_):=T2
  clear T2
  go_wp2_with fail
  refine T1.mono ?_
  rintro e w1 ⟨a3,m3,c3,rfl,hr1,hb1⟩
  have hX1:=(hb1.block _ (Array.getElem?_eq_some_iff.1 hX).1).trans hX
  have hZ1:=(hb1.block _ (Array.getElem?_eq_some_iff.1 hZ).1).trans hZ
  have hB1:=hB0.trans (hb1.mono hB0.size)
  clear T1
  clear x0 x1 x2 x3 x4 x5 x6 x7 x8 x9 x10 x11 x12 x13 x14 x15 x16 x17 x18 x19 x20 y0 y1 y2 y3 y4 y5 y6 y7 y8
  go_upto_region 24 with fail
  generalize hW3 : w1.alloc (Obj.cells #[.int .i64 zc,.int .i64 zn,.int .i64 zk,.int .i64 zp,.string zs,.slice a3 m3 c3,.int .i64 ztc,.int .i64 ztn,.bool zon] 44) = W3
  have hb3 : Below w1.heap.size w1 W3:=hW3 ▸ (Below.refl w1.heap.size w1).alloc (Nat.le_refl _) _
  have hA3 : W3.heap[w1.heap.size]? = some (Obj.cells #[.int .i64 zc,.int .i64 zn,.int .i64 zk,.int .i64 zp,.string zs,.slice a3 m3 c3,.int .i64 ztc,.int .i64 ztn,.bool zon] 44):=hW3 ▸ alloc_last _ _ _ rfl
  clear hW3
  have hX3:=(hb3.block _ (Array.getElem?_eq_some_iff.1 hX1).1).trans hX1
  have hZ3:=(hb3.block _ (Array.getElem?_eq_some_iff.1 hZ1).1).trans hZ1
  have hB3:=hB1.trans (hb3.mono hB1.size)
  obtain ⟨x0,x1,x2,x3,x4,x5,x6,x7,x8,x9,x10,x11,x12,x13,x14,x15,x16,x17,x18,x19,x20⟩:=box21 hX3
  obtain ⟨y0,y1,y2,y3,y4,y5,y6,y7,y8⟩:=box9 hZ3
  have T2:=HT2.out W3 (hb1.trans (hb3.mono hb1.size))
  clear HT2
  go_wp2_with fail
  refine T2.mono ?_
  rintro e w4 ⟨a5,m5,c5,rfl,hr4,hb4⟩
  have hA4:=(hb4.block _ (Array.getElem?_eq_some_iff.1 hA3).1).trans hA3
  have hB4:=hB3.trans (hb4.mono hB3.size)
  clear T2
  clear x0 x1 x2 x3 x4 x5 x6 x7 x8 x9 x10 x11 x12 x13 x14 x15 x16 x17 x18 x19 x20 y0 y1 y2 y3 y4 y5 y6 y7 y8
  go_upto_region 25 with fail
  generalize hW5 : w4.alloc (Obj.cells #[.int .i64 zc,.int .i64 zn,.int .i64 zk,.int .i64 zp,.string zs,.slice a5 m5 c5,.int .i64 ztc,.int .i64 ztn,.bool zon] 44) = W5
  have hb5 : Below w4.heap.size w4 W5:=hW5 ▸ (Below.refl w4.heap.size w4).alloc (Nat.le_refl _) _
  have hA5 : W5.heap[w4.heap.size]? = some (Obj.cells #[.int .i64 zc,.int .i64 zn,.int .i64 zk,.int .i64 zp,.string zs,.slice a5 m5 c5,.int .i64 ztc,.int .i64 ztn,.bool zon] 44):=hW5 ▸ alloc_last _ _ _ rfl
  clear hW5
  have hA6:=(hb5.block _ (Array.getElem?_eq_some_iff.1 hA4).1).trans hA4
  have hB5:=hB4.trans (hb5.mono hB4.size)
  obtain ⟨u0,u1,u2,u3,u4,u5,u6,u7,u8⟩:=box9 hA6
  obtain ⟨v0,v1,v2,v3,v4,v5,v6,v7,v8⟩:=box9 hA5
  have T3:=gEqual_self (o:=⟨zc,zn,zk,zp,zs,zl,ztc,ztn,zon⟩) (((hr1.below hb3).below hb4).below hb5) (hr4.below hb5)
  simp only [opVal] at T3
  have er : (C == C) = true:=beq_self_eq_true _
  clear hX1 hZ1 hX hZ hX3 hZ3 hA3 hA4 hA5 hA6 hr1 hr4
  go_wp2_with fail
  refine T3.mono ?_
  rintro e w6 ⟨rfl,hb6⟩
  have hB6:=hB5.trans (hb6.mono hB5.size)
  clear T3
  clear u0 u1 u2 u3 u4 u5 u6 u7 u8 v0 v1 v2 v3 v4 v5 v6 v7 v8
  go_wp2_with fail
  go_ret
  exact ⟨rfl,hB6⟩
def StepOk2 (W : World) (x : StepV) : Prop:=StepOk W x∧x.m≤1048576∧Sp.Rng W x.a2 x.m2 x.cap2 x.o2.l∧x.m2≤1048576∧x.o2.s.size≤2097152
end Go.Proofs.YtijpfbcippijoaaGreatDoor
