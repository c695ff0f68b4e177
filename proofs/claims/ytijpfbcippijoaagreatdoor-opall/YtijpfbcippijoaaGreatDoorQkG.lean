import Derived.Test.YtijpfbcippijoaaGreatDoorGr124
import Derived.Test.YtijpfbcippijoaaGreatDoorQkC
import Derived.Deep.Cut
import Derived.Deep.MidRow
import Derived.Deep.WholeRow
namespace Go.Proofs.YtijpfbcippijoaaGreatDoor
open Go.RowKit Go.Lib
set_option maxRecDepth 100000
theorem rw_frontK {α:Type} {f:α→List Value} {k:Nat} {w:World} {a:Option Addr} {n m cap:Nat} {l r:List α} (h:Rw f k w a n cap (l++r)) (hl:l.length=m):Rw f k w a m cap l:=by
 have hn:=h.len
 simp only [List.length_append] at hn
 refine ⟨hl,⟨by have:=h.room.1;omega,h.room.2⟩,fun hm=>?_⟩
 obtain ⟨g,off,e,hg,hc⟩:=h.cells (by omega)
 exact ⟨g,off,e,hg,fun j x hj=>hc j x (by rw [List.getElem?_append_left (List.getElem?_eq_some_iff.1 hj).1];exact hj)⟩
set_option maxHeartbeats 8000000 in
theorem asks_4 {c n k p tc tn c2 n2 k2 p2 tc2 tn2 tot:Int} {s s2 ln:ByteArray} {on on2:Bool} {l l2:List (Int×Int)} {w:World} {a a1 b2:Option Addr} {m cap cap1 m2 cap2:Nat} (h1:Sp.Rng w a1 m cap1 l) (h2:Sp.Rng w a m cap l) (_hs:s.size≤2097152) (_hm:m≤1048576) (hw:Bar w) (h3:Sp.Rng w b2 m2 cap2 l2) (hm2:m2≤1048576) :
  Calls Tryz.prog 15 #[.agg #[.int .i64 4,.int .i64 c,.int .i64 n,.int .i64 k,.int .i64 p,.string s,.slice a m cap,.int .i64 tc,.int .i64 tn,.bool on,.int .i64 c2,.int .i64 n2,.int .i64 k2,.int .i64 p2,.string s2,.slice b2 m2 cap2,.int .i64 tc2,.int .i64 tn2,.bool on2,.int .i64 tot,.string ln],.agg #[.int .i64 c,.int .i64 n,.int .i64 k,.int .i64 p,.string s,.slice a1 m cap1,.int .i64 tc,.int .i64 tn,.bool on]] w fun e w'=>e=.returned (.bool true)∧Below w.heap.size w w':=by
 go_enter Tryz.func15,Tryz.ntmps15
 go_wp2_with fail
 generalize hW0:(w.alloc (Obj.cells #[.int .i64 4,.int .i64 c,.int .i64 n,.int .i64 k,.int .i64 p,.string s,.slice a m cap,.int .i64 tc,.int .i64 tn,.bool on,.int .i64 c2,.int .i64 n2,.int .i64 k2,.int .i64 p2,.string s2,.slice b2 m2 cap2,.int .i64 tc2,.int .i64 tn2,.bool on2,.int .i64 tot,.string ln] 46)).alloc (Obj.cells #[.int .i64 c,.int .i64 n,.int .i64 k,.int .i64 p,.string s,.slice a1 m cap1,.int .i64 tc,.int .i64 tn,.bool on] 44)=W0
 have hX:W0.heap[w.heap.size]?=some (Obj.cells #[.int .i64 4,.int .i64 c,.int .i64 n,.int .i64 k,.int .i64 p,.string s,.slice a m cap,.int .i64 tc,.int .i64 tn,.bool on,.int .i64 c2,.int .i64 n2,.int .i64 k2,.int .i64 p2,.string s2,.slice b2 m2 cap2,.int .i64 tc2,.int .i64 tn2,.bool on2,.int .i64 tot,.string ln] 46):=by rw [← hW0];exact (Below.heap_alloc _ _ _ (by simp)).trans (alloc_last _ _ _ rfl)
 have hZ:W0.heap[w.heap.size+1]?=some (Obj.cells #[.int .i64 c,.int .i64 n,.int .i64 k,.int .i64 p,.string s,.slice a1 m cap1,.int .i64 tc,.int .i64 tn,.bool on] 44):=by rw [← hW0];exact alloc_last _ _ _ (by simp)
 have hB0:Below w.heap.size w W0:=by rw [← hW0];exact ((Below.refl w.heap.size w).alloc (Nat.le_refl _) _).alloc (by simp) _
 clear hW0
 have g1:=h1.below hB0
 have g2:=h2.below hB0
 have gw:=hw.below hB0
 have g3:=h3.below hB0
 clear h3
 clear h1 h2 hw
 obtain ⟨x0,x1,x2,x3,x4,x5,x6,x7,x8,x9,x10,x11,x12,x13,x14,x15,x16,x17,x18,x19,x20⟩:=box21 hX
 obtain ⟨y0,y1,y2,y3,y4,y5,y6,y7,y8⟩:=box9 hZ
 have T1:=copied4S_any (o:=⟨c2,n2,k2,p2,s2,l2,tc2,tn2,on2⟩) g3 (by omega)
 simp only [opVal] at T1
 go_wp2_with fail
 refine T1.mono ?_
 rintro e w1 ⟨a3,c3,rfl,hrw1,hb1⟩
 have hX1:=(hb1.block _ (Array.getElem?_eq_some_iff.1 hX).1).trans hX
 have hZ1:=(hb1.block _ (Array.getElem?_eq_some_iff.1 hZ).1).trans hZ
 have hB1:=hB0.trans (hb1.mono hB0.size)
 clear T1
 clear x0 x1 x2 x3 x4 x5 x6 x7 x8 x9 x10 x11 x12 x13 x14 x15 x16 x17 x18 x19 x20 y0 y1 y2 y3 y4 y5 y6 y7 y8
 go_upto_region 16 with fail
 generalize hW3:w1.alloc (Obj.cells #[.int .i64 c2,.int .i64 n2,.int .i64 k2,.int .i64 p2,.string s2,.slice a3 m2 c3,.int .i64 tc2,.int .i64 tn2,.bool on2] 44)=W3
 have hb3:Below w1.heap.size w1 W3:=hW3▸(Below.refl w1.heap.size w1).alloc (Nat.le_refl _) _
 have hA3:W3.heap[w1.heap.size]?=some (Obj.cells #[.int .i64 c2,.int .i64 n2,.int .i64 k2,.int .i64 p2,.string s2,.slice a3 m2 c3,.int .i64 tc2,.int .i64 tn2,.bool on2] 44):=hW3▸alloc_last _ _ _ rfl
 clear hW3
 have hX3:=(hb3.block _ (Array.getElem?_eq_some_iff.1 hX1).1).trans hX1
 have hZ3:=(hb3.block _ (Array.getElem?_eq_some_iff.1 hZ1).1).trans hZ1
 have hB3:=hB1.trans (hb3.mono hB1.size)
 obtain ⟨x0,x1,x2,x3,x4,x5,x6,x7,x8,x9,x10,x11,x12,x13,x14,x15,x16,x17,x18,x19,x20⟩:=box21 hX3
 obtain ⟨y0,y1,y2,y3,y4,y5,y6,y7,y8⟩:=box9 hZ3
 obtain ⟨u0,u1,u2,u3,u4,u5,u6,u7,u8⟩:=box9 hA3
 have hrw3:=hrw1.below hb3
 have hb13:=hb1.trans (hb3.mono hb1.size)
 have g13:=g1.below hb13
 have g23:=g2.below hb13
 have g33:=g3.below hb13
 have hl3:Sp.Rng W3 a3 m2 c3 l2:=rng_of_rw (rw_frontK hrw3 g33.len)
 have T2:=opEqual_any (o:=⟨c,n,k,p,s,l,tc,tn,on⟩) (x:=⟨c2,n2,k2,p2,s2,l2,tc2,tn2,on2⟩) g13 hl3
 simp only [opVal] at T2
 go_wp2_with fail
 refine T2.mono ?_
 rintro e w4 ⟨rfl,hb4⟩
 have hX4:=(hb4.block _ (Array.getElem?_eq_some_iff.1 hX3).1).trans hX3
 have hZ4:=(hb4.block _ (Array.getElem?_eq_some_iff.1 hZ3).1).trans hZ3
 have hB4:=hB3.trans (hb4.mono hB3.size)
 have hA4:=(hb4.block _ (Array.getElem?_eq_some_iff.1 hA3).1).trans hA3
 clear T2
 clear x0 x1 x2 x3 x4 x5 x6 x7 x8 x9 x10 x11 x12 x13 x14 x15 x16 x17 x18 x19 x20 y0 y1 y2 y3 y4 y5 y6 y7 y8
 clear u0 u1 u2 u3 u4 u5 u6 u7 u8
 obtain ⟨x0,x1,x2,x3,x4,x5,x6,x7,x8,x9,x10,x11,x12,x13,x14,x15,x16,x17,x18,x19,x20⟩:=box21 hX4
 obtain ⟨y0,y1,y2,y3,y4,y5,y6,y7,y8⟩:=box9 hZ4
 have T3:=gEqual_any (o:=⟨c,n,k,p,s,l,tc,tn,on⟩) (x:=⟨c2,n2,k2,p2,s2,l2,tc2,tn2,on2⟩) (g23.below hb4) (g33.below hb4)
 simp only [opVal] at T3
 generalize eqP ⟨c,n,k,p,s,l,tc,tn,on⟩ ⟨c2,n2,k2,p2,s2,l2,tc2,tn2,on2⟩=r at *
 go_wp2_with fail
 refine T3.mono ?_
 rintro e w5 ⟨rfl,hb5⟩
 have hX5:=(hb5.block _ (Array.getElem?_eq_some_iff.1 hX4).1).trans hX4
 have hZ5:=(hb5.block _ (Array.getElem?_eq_some_iff.1 hZ4).1).trans hZ4
 have hB5:=hB4.trans (hb5.mono hB4.size)
 have hA5:=(hb5.block _ (Array.getElem?_eq_some_iff.1 hA4).1).trans hA4
 clear T3
 clear x0 x1 x2 x3 x4 x5 x6 x7 x8 x9 x10 x11 x12 x13 x14 x15 x16 x17 x18 x19 x20 y0 y1 y2 y3 y4 y5 y6 y7 y8
 obtain ⟨x0,x1,x2,x3,x4,x5,x6,x7,x8,x9,x10,x11,x12,x13,x14,x15,x16,x17,x18,x19,x20⟩:=box21 hX5
 obtain ⟨y0,y1,y2,y3,y4,y5,y6,y7,y8⟩:=box9 hZ5
 obtain ⟨u0,u1,u2,u3,u4,u5,u6,u7,u8⟩:=box9 hA5
 have hb35:=hb4.trans (hb5.mono hb4.size)
 have T4:=gEqual_self (o:=⟨c2,n2,k2,p2,s2,l2,tc2,tn2,on2⟩) (hl3.below hb35) (g33.below hb35)
 simp only [opVal] at T4
 have er:(r==r)=true:=beq_self_eq_true _
 go_wp2_with fail
 refine T4.mono ?_
 rintro e w6 ⟨rfl,hb6⟩
 have hA6:=(hb6.block _ (Array.getElem?_eq_some_iff.1 hA5).1).trans hA5
 have hB6:=hB5.trans (hb6.mono hB5.size)
 clear T4
 clear x0 x1 x2 x3 x4 x5 x6 x7 x8 x9 x10 x11 x12 x13 x14 x15 x16 x17 x18 x19 x20 y0 y1 y2 y3 y4 y5 y6 y7 y8
 clear u0 u1 u2 u3 u4 u5 u6 u7 u8
 obtain ⟨u0,u1,u2,u3,u4,u5,u6,u7,u8⟩:=box9 hA6
 have T5:=spare_any (o:=⟨c2,n2,k2,p2,s2,l2,tc2,tn2,on2⟩) ((hrw3.below hb35).below hb6)
 simp only [opVal] at T5
 clear hX1 hZ1 hX hZ hX3 hZ3 hX4 hZ4 hX5 hZ5 hA3 hA4 hA5 hA6
 go_wp2_with fail
 refine T5.mono ?_
 rintro e w7 ⟨rfl,hb7⟩
 have hB7:=hB6.trans (hb7.mono hB6.size)
 clear T5
 clear u0 u1 u2 u3 u4 u5 u6 u7 u8
 go_wp2_with fail
 go_ret
 exact ⟨rfl,hB7⟩
end Go.Proofs.YtijpfbcippijoaaGreatDoor
