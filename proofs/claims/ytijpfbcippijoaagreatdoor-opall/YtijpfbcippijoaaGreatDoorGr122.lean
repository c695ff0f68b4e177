import Derived.Test.YtijpfbcippijoaaGreatDoorAl
import Derived.Test.YtijpfbcippijoaaGreatDoorQkD
import Derived.Test.YtijpfbcippijoaaGreatDoorGr125
import Derived.Deep.Cut
import Derived.Deep.MidRow
import Derived.Deep.WholeRow
import Derived.Shelf.Strings.Search2
import Derived.Shelf.Strconv.AtoiAll
import Derived.Test.YtijpfbcippijoaaGreatDoorProg
import Derived.Shelf.Strconv.Itoa3
import Derived.Test.YtijpfbcippijoaaGreatDoorGr131
import Derived.Deep.RegionHeld3
import Derived.Lib.ItoaLen
set_option maxHeartbeats 8000000
set_option maxRecDepth 100000
namespace Go.Proofs.YtijpfbcippijoaaGreatDoor
open Go.RowKit Go.Lib Sp
def invV (o:OpV):OpV:=if ownP o=0 then inverseP o else zeroOp
theorem rng_own {w:World} {B:Nat} {a:Option Addr} {m c:Nat} {l:List (Int×Int)} (h:OwnF rngV 2 76 w B (.slice a m c) l):Rng w a m c l:=rng_of_rw (h.rw_ layRo)
theorem rng_none (w:World):Rng w none 0 0 []:=rng_of_rw (rw_nil w)
theorem opInverse_any {o:OpV} {w:World} {a:Option Addr} {m cap:Nat} (h:Rng w a m cap o.l) (hm:m≤1000000000) (hs:o.s.size≤9223372036854775807) (hw:Bar w) :
  Calls Tryz.prog 41 #[opVal o (.slice a m cap)] w fun e w'=>∃ a' m' c',e=.returned (.tuple #[opVal (invV o) (.slice a' m' c'),.int .i64 (ownP o)])∧Rng w' a' m' c' (invV o).l∧Below w.heap.size w w':=by
 obtain ⟨c,n,k,p,s,l,tc,tn,on⟩:=o;by_cases hok:ownP ⟨c,n,k,p,s,l,tc,tn,on⟩=0
 ·have hk:=(right_of hok).kind;have e1:invV ⟨c,n,k,p,s,l,tc,tn,on⟩=inverseP ⟨c,n,k,p,s,l,tc,tn,on⟩:=by unfold invV;rw [if_pos hok]
  rw [e1,hok];have hk4:k=1∨k=2∨k=3∨k=4:=by simp only at hk;omega
  rcases hk4 with rfl|rfl|rfl|rfl
  ·refine (inverse_1 h hm hs hw hok).mono ?_;rintro e w' ⟨a',m',c',h1,h2,h3⟩;exact ⟨a',m',c',h1,rng_own h2,h3⟩
  ·refine (inverse_2 h hm hs hw hok).mono ?_;rintro e w' ⟨a',m',c',h1,h2,h3⟩;exact ⟨a',m',c',h1,rng_own h2,h3⟩
  ·refine (inverse_3 h hm hs hw hok).mono ?_;rintro e w' ⟨a',m',c',h1,h2,h3⟩;exact ⟨a',m',c',h1,rng_own h2,h3⟩
  ·refine (inverse_4 h hm hs hw hok).mono ?_;rintro e w' ⟨h1,h3⟩;exact ⟨none,0,0,h1,rng_none _,h3⟩
 ·have e1:invV ⟨c,n,k,p,s,l,tc,tn,on⟩=zeroOp:=by unfold invV;rw [if_neg hok]
  rw [e1];refine (inverse_wrong h hm hs hw hok).mono ?_;rintro e w' ⟨h1,h3⟩;exact ⟨none,0,0,h1,rng_none _,h3⟩
theorem gInverse_any {o:OpV} {w:World} {a:Option Addr} {m cap:Nat} (h:Rng w a m cap o.l) (hm:m≤1000000000) (hs:o.s.size≤2097152) :
  Calls Tryz.prog 42 #[opVal o (.slice a m cap)] w fun e w'=>∃ a' m' c',e=.returned (.tuple #[opVal (invV o) (.slice a' m' c'),.int .i64 (ownP o)])∧Rng w' a' m' c' (invV o).l∧Below w.heap.size w w':=by
 obtain ⟨c,n,k,p,s,l,tc,tn,on⟩:=o;by_cases hok:ownP ⟨c,n,k,p,s,l,tc,tn,on⟩=0
 ·have hk:=(right_of hok).kind;have e1:invV ⟨c,n,k,p,s,l,tc,tn,on⟩=inverseP ⟨c,n,k,p,s,l,tc,tn,on⟩:=by unfold invV;rw [if_pos hok]
  rw [e1,hok];have hk4:k=1∨k=2∨k=3∨k=4:=by simp only at hk;omega
  rcases hk4 with rfl|rfl|rfl|rfl
  ·refine (gInverse_1 h hm hs hok).mono ?_;rintro e w' ⟨a',m',c',h1,h2,h3⟩;exact ⟨a',m',c',h1,rng_own h2,h3⟩
  ·refine (gInverse_2 h hm hs hok).mono ?_;rintro e w' ⟨a',m',c',h1,h2,h3⟩;exact ⟨a',m',c',h1,rng_own h2,h3⟩
  ·refine (gInverse_3 h hm hs hok).mono ?_;rintro e w' ⟨a',m',c',h1,h2,h3⟩;exact ⟨a',m',c',h1,rng_own h2,h3⟩
  ·refine (gInverse_4 h hm hs hok).mono ?_;rintro e w' ⟨h1,h3⟩;exact ⟨none,0,0,h1,rng_none _,h3⟩
 ·have e1:invV ⟨c,n,k,p,s,l,tc,tn,on⟩=zeroOp:=by unfold invV;rw [if_neg hok]
  rw [e1];refine (gInverse_wrong h hm hs hok).mono ?_;rintro e w' ⟨h1,h3⟩;exact ⟨none,0,0,h1,rng_none _,h3⟩
end Go.Proofs.YtijpfbcippijoaaGreatDoor
namespace Go.Proofs.YtijpfbcippijoaaGreatDoor
open Go.RowKit Go.Lib
theorem asks_3 {c n k p tc tn c2 n2 k2 p2 tc2 tn2 tot:Int} {s s2 ln:ByteArray} {on on2:Bool} {l:List (Int×Int)} {w:World} {a a1 b2:Option Addr} {m cap cap1 m2 cap2:Nat} (h1:Sp.Rng w a1 m cap1 l) (h2:Sp.Rng w a m cap l) (hs:s.size≤2097152) (hm:m≤1048576) (hw:Bar w) :
  Calls Tryz.prog 15 #[.agg #[.int .i64 3,.int .i64 c,.int .i64 n,.int .i64 k,.int .i64 p,.string s,.slice a m cap,.int .i64 tc,.int .i64 tn,.bool on,.int .i64 c2,.int .i64 n2,.int .i64 k2,.int .i64 p2,.string s2,.slice b2 m2 cap2,.int .i64 tc2,.int .i64 tn2,.bool on2,.int .i64 tot,.string ln],.agg #[.int .i64 c,.int .i64 n,.int .i64 k,.int .i64 p,.string s,.slice a1 m cap1,.int .i64 tc,.int .i64 tn,.bool on]] w fun e w'=>e=.returned (.bool true)∧Below w.heap.size w w':=by
 go_enter Tryz.func15,Tryz.ntmps15;go_wp2_with fail;generalize hW0:(w.alloc (Obj.cells #[.int .i64 3,.int .i64 c,.int .i64 n,.int .i64 k,.int .i64 p,.string s,.slice a m cap,.int .i64 tc,.int .i64 tn,.bool on,.int .i64 c2,.int .i64 n2,.int .i64 k2,.int .i64 p2,.string s2,.slice b2 m2 cap2,.int .i64 tc2,.int .i64 tn2,.bool on2,.int .i64 tot,.string ln] 46)).alloc (Obj.cells #[.int .i64 c,.int .i64 n,.int .i64 k,.int .i64 p,.string s,.slice a1 m cap1,.int .i64 tc,.int .i64 tn,.bool on] 44)=W0;have hX:W0.heap[w.heap.size]?=some (Obj.cells #[.int .i64 3,.int .i64 c,.int .i64 n,.int .i64 k,.int .i64 p,.string s,.slice a m cap,.int .i64 tc,.int .i64 tn,.bool on,.int .i64 c2,.int .i64 n2,.int .i64 k2,.int .i64 p2,.string s2,.slice b2 m2 cap2,.int .i64 tc2,.int .i64 tn2,.bool on2,.int .i64 tot,.string ln] 46):=by rw [← hW0];exact (Below.heap_alloc _ _ _ (by simp)).trans (alloc_last _ _ _ rfl)
 have hZ:W0.heap[w.heap.size+1]?=some (Obj.cells #[.int .i64 c,.int .i64 n,.int .i64 k,.int .i64 p,.string s,.slice a1 m cap1,.int .i64 tc,.int .i64 tn,.bool on] 44):=by rw [← hW0];exact alloc_last _ _ _ (by simp)
 have hB0:Below w.heap.size w W0:=by rw [← hW0];exact ((bE w.heap.size w).alloc (lR _) _).alloc (by simp) _
 clear hW0;have g1:=h1.below hB0;have g2:=h2.below hB0;have gw:=hw.below hB0;clear h1 h2 hw;obtain ⟨x0,x1,x2,x3,x4,x5,x6,x7,x8,x9,x10,x11,x12,x13,x14,x15,x16,x17,x18,x19,x20⟩:=box21 hX;obtain ⟨y0,y1,y2,y3,y4,y5,y6,y7,y8⟩:=box9 hZ;have T1:=opCovers_any (o:=⟨c,n,k,p,s,l,tc,tn,on⟩) g1 (by omega) (Nat.le_trans hs (by decide)) gw;simp only [opVal] at T1;go_wp2_with fail;refine T1.mono ?_;rintro e w1 ⟨v1,rfl,ho1,hb1⟩;obtain ⟨va,vc,rfl⟩:=ho1.shape;have hX1:=(hb1.block _ (gA hX)).trans hX;have hZ1:=(hb1.block _ (gA hZ)).trans hZ;have hB1:=hB0.trans (hb1.mono hB0.size);clear T1;clear x0 x1 x2 x3 x4 x5 x6 x7 x8 x9 x10 x11 x12 x13 x14 x15 x16 x17 x18 x19 x20 y0 y1 y2 y3 y4 y5 y6 y7 y8;obtain ⟨x0,x1,x2,x3,x4,x5,x6,x7,x8,x9,x10,x11,x12,x13,x14,x15,x16,x17,x18,x19,x20⟩:=box21 hX1;obtain ⟨y0,y1,y2,y3,y4,y5,y6,y7,y8⟩:=box9 hZ1;have T2:=gCovers_any (o:=⟨c,n,k,p,s,l,tc,tn,on⟩) (g2.below hb1) (by omega) hs;simp only [opVal] at T2;go_wp2_with fail;refine T2.mono ?_;rintro e w2 ⟨v2,rfl,ho2,hb2⟩;obtain ⟨vb,vd,rfl⟩:=ho2.shape;have hB2:=hB1.trans (hb2.mono hB1.size);clear T2;clear x0 x1 x2 x3 x4 x5 x6 x7 x8 x9 x10 x11 x12 x13 x14 x15 x16 x17 x18 x19 x20 y0 y1 y2 y3 y4 y5 y6 y7 y8;have T3:=gSame_any ((rng_own ho1).below hb2) (rng_own ho2);rw [decide_eq_true rfl] at T3;generalize coversV ⟨c,n,k,p,s,l,tc,tn,on⟩=CL at *;obtain ⟨nl,hnl⟩:∃ nl,CL.length=nl:=⟨_,rfl⟩;rw [hnl] at T3 ⊢;clear hX1 hZ1 hX hZ ho1 ho2 hnl;go_wp2_with fail;refine T3.mono ?_;rintro e w3 ⟨rfl,hb3⟩;have hB3:=hB2.trans (hb3.mono hB2.size);clear T3;go_wp2_with fail;go_ret;exact ⟨rfl,hB3⟩
theorem asks_5 {c n k p tc tn c2 n2 k2 p2 tc2 tn2 tot:Int} {s s2 ln:ByteArray} {on on2:Bool} {l:List (Int×Int)} {w:World} {a a1 b2:Option Addr} {m cap cap1 m2 cap2:Nat} (h1:Sp.Rng w a1 m cap1 l) (h2:Sp.Rng w a m cap l) (hs:s.size≤2097152) (hm:m≤1048576) (hw:Bar w) :
  Calls Tryz.prog 15 #[.agg #[.int .i64 5,.int .i64 c,.int .i64 n,.int .i64 k,.int .i64 p,.string s,.slice a m cap,.int .i64 tc,.int .i64 tn,.bool on,.int .i64 c2,.int .i64 n2,.int .i64 k2,.int .i64 p2,.string s2,.slice b2 m2 cap2,.int .i64 tc2,.int .i64 tn2,.bool on2,.int .i64 tot,.string ln],.agg #[.int .i64 c,.int .i64 n,.int .i64 k,.int .i64 p,.string s,.slice a1 m cap1,.int .i64 tc,.int .i64 tn,.bool on]] w fun e w'=>e=.returned (.bool true)∧Below w.heap.size w w':=by
 go_enter Tryz.func15,Tryz.ntmps15;go_wp2_with fail;generalize hW0:(w.alloc (Obj.cells #[.int .i64 5,.int .i64 c,.int .i64 n,.int .i64 k,.int .i64 p,.string s,.slice a m cap,.int .i64 tc,.int .i64 tn,.bool on,.int .i64 c2,.int .i64 n2,.int .i64 k2,.int .i64 p2,.string s2,.slice b2 m2 cap2,.int .i64 tc2,.int .i64 tn2,.bool on2,.int .i64 tot,.string ln] 46)).alloc (Obj.cells #[.int .i64 c,.int .i64 n,.int .i64 k,.int .i64 p,.string s,.slice a1 m cap1,.int .i64 tc,.int .i64 tn,.bool on] 44)=W0;have hX:W0.heap[w.heap.size]?=some (Obj.cells #[.int .i64 5,.int .i64 c,.int .i64 n,.int .i64 k,.int .i64 p,.string s,.slice a m cap,.int .i64 tc,.int .i64 tn,.bool on,.int .i64 c2,.int .i64 n2,.int .i64 k2,.int .i64 p2,.string s2,.slice b2 m2 cap2,.int .i64 tc2,.int .i64 tn2,.bool on2,.int .i64 tot,.string ln] 46):=by rw [← hW0];exact (Below.heap_alloc _ _ _ (by simp)).trans (alloc_last _ _ _ rfl)
 have hZ:W0.heap[w.heap.size+1]?=some (Obj.cells #[.int .i64 c,.int .i64 n,.int .i64 k,.int .i64 p,.string s,.slice a1 m cap1,.int .i64 tc,.int .i64 tn,.bool on] 44):=by rw [← hW0];exact alloc_last _ _ _ (by simp)
 have hB0:Below w.heap.size w W0:=by rw [← hW0];exact ((bE w.heap.size w).alloc (lR _) _).alloc (by simp) _
 clear hW0;have g1:=h1.below hB0;have g2:=h2.below hB0;have gw:=hw.below hB0;clear h1 h2 hw;obtain ⟨x0,x1,x2,x3,x4,x5,x6,x7,x8,x9,x10,x11,x12,x13,x14,x15,x16,x17,x18,x19,x20⟩:=box21 hX;obtain ⟨y0,y1,y2,y3,y4,y5,y6,y7,y8⟩:=box9 hZ;have T1:=opClone_any (o:=⟨c,n,k,p,s,l,tc,tn,on⟩) g1 (by omega) (Nat.le_trans hs (by decide));simp only [opVal] at T1;go_wp2_with fail;refine T1.mono ?_;rintro e w1 ⟨a3,c3,rfl,ho1,hb1⟩;have hX1:=(hb1.block _ (gA hX)).trans hX;have hZ1:=(hb1.block _ (gA hZ)).trans hZ;have hB1:=hB0.trans (hb1.mono hB0.size);clear T1;clear x0 x1 x2 x3 x4 x5 x6 x7 x8 x9 x10 x11 x12 x13 x14 x15 x16 x17 x18 x19 x20 y0 y1 y2 y3 y4 y5 y6 y7 y8;go_upto_region 21 with fail
 generalize hW3:w1.alloc (Obj.cells #[.int .i64 c,.int .i64 n,.int .i64 k,.int .i64 p,.string s,.slice a3 m c3,.int .i64 tc,.int .i64 tn,.bool on] 44)=W3;have hb3:Below w1.heap.size w1 W3:=hW3▸(bE w1.heap.size w1).alloc (lR _) _;have hA3:W3.heap[w1.heap.size]?=some (Obj.cells #[.int .i64 c,.int .i64 n,.int .i64 k,.int .i64 p,.string s,.slice a3 m c3,.int .i64 tc,.int .i64 tn,.bool on] 44):=hW3▸alloc_last _ _ _ rfl;clear hW3;have hX3:=(hb3.block _ (gA hX1)).trans hX1;have hZ3:=(hb3.block _ (gA hZ1)).trans hZ1;have hB3:=hB1.trans (hb3.mono hB1.size);obtain ⟨x0,x1,x2,x3,x4,x5,x6,x7,x8,x9,x10,x11,x12,x13,x14,x15,x16,x17,x18,x19,x20⟩:=box21 hX3;obtain ⟨y0,y1,y2,y3,y4,y5,y6,y7,y8⟩:=box9 hZ3;obtain ⟨u0,u1,u2,u3,u4,u5,u6,u7,u8⟩:=box9 hA3;have T2:=gEqual_self (o:=⟨c,n,k,p,s,l,tc,tn,on⟩) ((rng_own ho1).below hb3) ((g2.below hb1).below hb3);simp only [opVal] at T2;clear hX1 hZ1 hX hZ hX3 hZ3 hA3 ho1;go_wp2_with fail;refine T2.mono ?_;rintro e w4 ⟨rfl,hb4⟩;have hB4:=hB3.trans (hb4.mono hB3.size);clear T2;clear x0 x1 x2 x3 x4 x5 x6 x7 x8 x9 x10 x11 x12 x13 x14 x15 x16 x17 x18 x19 x20 y0 y1 y2 y3 y4 y5 y6 y7 y8;clear u0 u1 u2 u3 u4 u5 u6 u7 u8;go_wp2_with fail;go_ret;exact ⟨rfl,hB4⟩
theorem asks_6 {c n k p tc tn c2 n2 k2 p2 tc2 tn2 tot:Int} {s s2 ln:ByteArray} {on on2:Bool} {l:List (Int×Int)} {w:World} {a a1 b2:Option Addr} {m cap cap1 m2 cap2:Nat} (h1:Sp.Rng w a1 m cap1 l) (h2:Sp.Rng w a m cap l) (hs:s.size≤2097152) (hm:m≤1048576) (hw:Bar w) :
  Calls Tryz.prog 15 #[.agg #[.int .i64 6,.int .i64 c,.int .i64 n,.int .i64 k,.int .i64 p,.string s,.slice a m cap,.int .i64 tc,.int .i64 tn,.bool on,.int .i64 c2,.int .i64 n2,.int .i64 k2,.int .i64 p2,.string s2,.slice b2 m2 cap2,.int .i64 tc2,.int .i64 tn2,.bool on2,.int .i64 tot,.string ln],.agg #[.int .i64 c,.int .i64 n,.int .i64 k,.int .i64 p,.string s,.slice a1 m cap1,.int .i64 tc,.int .i64 tn,.bool on]] w fun e w'=>e=.returned (.bool true)∧Below w.heap.size w w':=by
 go_enter Tryz.func15,Tryz.ntmps15;go_wp2_with fail;generalize hW0:(w.alloc (Obj.cells #[.int .i64 6,.int .i64 c,.int .i64 n,.int .i64 k,.int .i64 p,.string s,.slice a m cap,.int .i64 tc,.int .i64 tn,.bool on,.int .i64 c2,.int .i64 n2,.int .i64 k2,.int .i64 p2,.string s2,.slice b2 m2 cap2,.int .i64 tc2,.int .i64 tn2,.bool on2,.int .i64 tot,.string ln] 46)).alloc (Obj.cells #[.int .i64 c,.int .i64 n,.int .i64 k,.int .i64 p,.string s,.slice a1 m cap1,.int .i64 tc,.int .i64 tn,.bool on] 44)=W0;have hX:W0.heap[w.heap.size]?=some (Obj.cells #[.int .i64 6,.int .i64 c,.int .i64 n,.int .i64 k,.int .i64 p,.string s,.slice a m cap,.int .i64 tc,.int .i64 tn,.bool on,.int .i64 c2,.int .i64 n2,.int .i64 k2,.int .i64 p2,.string s2,.slice b2 m2 cap2,.int .i64 tc2,.int .i64 tn2,.bool on2,.int .i64 tot,.string ln] 46):=by rw [← hW0];exact (Below.heap_alloc _ _ _ (by simp)).trans (alloc_last _ _ _ rfl)
 have hZ:W0.heap[w.heap.size+1]?=some (Obj.cells #[.int .i64 c,.int .i64 n,.int .i64 k,.int .i64 p,.string s,.slice a1 m cap1,.int .i64 tc,.int .i64 tn,.bool on] 44):=by rw [← hW0];exact alloc_last _ _ _ (by simp)
 have hB0:Below w.heap.size w W0:=by rw [← hW0];exact ((bE w.heap.size w).alloc (lR _) _).alloc (by simp) _
 clear hW0;have g1:=h1.below hB0;have g2:=h2.below hB0;have gw:=hw.below hB0;clear h1 h2 hw;obtain ⟨x0,x1,x2,x3,x4,x5,x6,x7,x8,x9,x10,x11,x12,x13,x14,x15,x16,x17,x18,x19,x20⟩:=box21 hX;obtain ⟨y0,y1,y2,y3,y4,y5,y6,y7,y8⟩:=box9 hZ;have T1:=opInverse_any (o:=⟨c,n,k,p,s,l,tc,tn,on⟩) g1 (by omega) (Nat.le_trans hs (by decide)) gw;have T2:=fun w1 (hb1:Below W0.heap.size W0 w1)=>gInverse_any (o:=⟨c,n,k,p,s,l,tc,tn,on⟩) (w:=w1) (g2.below hb1) (by omega) hs
 generalize invV ⟨c,n,k,p,s,l,tc,tn,on⟩=z at *;generalize ownP ⟨c,n,k,p,s,l,tc,tn,on⟩=C at *;obtain ⟨zc,zn,zk,zp,zs,zl,ztc,ztn,zon⟩:=z;simp only [opVal] at T1 T2;have HT2:Hid (∀ w1,Below W0.heap.size W0 w1→_):=T2;clear T2;go_wp2_with fail;refine T1.mono ?_;rintro e w1 ⟨a3,m3,c3,rfl,hr1,hb1⟩;have hX1:=(hb1.block _ (gA hX)).trans hX;have hZ1:=(hb1.block _ (gA hZ)).trans hZ;have hB1:=hB0.trans (hb1.mono hB0.size);clear T1;clear x0 x1 x2 x3 x4 x5 x6 x7 x8 x9 x10 x11 x12 x13 x14 x15 x16 x17 x18 x19 x20 y0 y1 y2 y3 y4 y5 y6 y7 y8;go_upto_region 24 with fail
 generalize hW3:w1.alloc (Obj.cells #[.int .i64 zc,.int .i64 zn,.int .i64 zk,.int .i64 zp,.string zs,.slice a3 m3 c3,.int .i64 ztc,.int .i64 ztn,.bool zon] 44)=W3;have hb3:Below w1.heap.size w1 W3:=hW3▸(bE w1.heap.size w1).alloc (lR _) _;have hA3:W3.heap[w1.heap.size]?=some (Obj.cells #[.int .i64 zc,.int .i64 zn,.int .i64 zk,.int .i64 zp,.string zs,.slice a3 m3 c3,.int .i64 ztc,.int .i64 ztn,.bool zon] 44):=hW3▸alloc_last _ _ _ rfl;clear hW3;have hX3:=(hb3.block _ (gA hX1)).trans hX1;have hZ3:=(hb3.block _ (gA hZ1)).trans hZ1;have hB3:=hB1.trans (hb3.mono hB1.size);obtain ⟨x0,x1,x2,x3,x4,x5,x6,x7,x8,x9,x10,x11,x12,x13,x14,x15,x16,x17,x18,x19,x20⟩:=box21 hX3;obtain ⟨y0,y1,y2,y3,y4,y5,y6,y7,y8⟩:=box9 hZ3;have T2:=HT2.out W3 (hb1.trans (hb3.mono hb1.size));clear HT2;go_wp2_with fail;refine T2.mono ?_;rintro e w4 ⟨a5,m5,c5,rfl,hr4,hb4⟩;have hA4:=(hb4.block _ (gA hA3)).trans hA3;have hB4:=hB3.trans (hb4.mono hB3.size);clear T2;clear x0 x1 x2 x3 x4 x5 x6 x7 x8 x9 x10 x11 x12 x13 x14 x15 x16 x17 x18 x19 x20 y0 y1 y2 y3 y4 y5 y6 y7 y8;go_upto_region 25 with fail
 generalize hW5:w4.alloc (Obj.cells #[.int .i64 zc,.int .i64 zn,.int .i64 zk,.int .i64 zp,.string zs,.slice a5 m5 c5,.int .i64 ztc,.int .i64 ztn,.bool zon] 44)=W5;have hb5:Below w4.heap.size w4 W5:=hW5▸(bE w4.heap.size w4).alloc (lR _) _;have hA5:W5.heap[w4.heap.size]?=some (Obj.cells #[.int .i64 zc,.int .i64 zn,.int .i64 zk,.int .i64 zp,.string zs,.slice a5 m5 c5,.int .i64 ztc,.int .i64 ztn,.bool zon] 44):=hW5▸alloc_last _ _ _ rfl;clear hW5;have hA6:=(hb5.block _ (gA hA4)).trans hA4;have hB5:=hB4.trans (hb5.mono hB4.size);obtain ⟨u0,u1,u2,u3,u4,u5,u6,u7,u8⟩:=box9 hA6;obtain ⟨v0,v1,v2,v3,v4,v5,v6,v7,v8⟩:=box9 hA5;have T3:=gEqual_self (o:=⟨zc,zn,zk,zp,zs,zl,ztc,ztn,zon⟩) (((hr1.below hb3).below hb4).below hb5) (hr4.below hb5);simp only [opVal] at T3;have er:(C==C)=true:=beq_self_eq_true _;clear hX1 hZ1 hX hZ hX3 hZ3 hA3 hA4 hA5 hA6 hr1 hr4;go_wp2_with fail;refine T3.mono ?_;rintro e w6 ⟨rfl,hb6⟩;have hB6:=hB5.trans (hb6.mono hB5.size);clear T3;clear u0 u1 u2 u3 u4 u5 u6 u7 u8 v0 v1 v2 v3 v4 v5 v6 v7 v8;go_wp2_with fail;go_ret;exact ⟨rfl,hB6⟩
def StepOk2 (W:World) (x:StepV):Prop:=StepOk W x∧x.m≤1048576∧Sp.Rng W x.a2 x.m2 x.cap2 x.o2.l∧x.m2≤1048576∧x.o2.s.size≤2097152
end Go.Proofs.YtijpfbcippijoaaGreatDoor
namespace Go.Proofs
open Go.Shelf
def Tryz.lays219_ren:Go.Shelf.Ren:=⟨fun|219=>136|217=>146|225=>147|224=>148|267=>149|266=>162|314=>163|n=>n,fun|9=>9|3=>3|4=>4|5=>5|46=>183|146=>207|51=>175|n=>n,fun|1=>1|n=>n⟩
theorem Tryz.lays219:Go.Proofs.Lays.n219 Tryz.prog Tryz.lays219_ren:={
 mixed:=by kernel_rfl
 f217:=Tryz.func146.trans (congrArg some (by kernel_rfl))
 f219:=Tryz.func136.trans (congrArg some (by kernel_rfl))
 f224:=Tryz.func148.trans (congrArg some (by kernel_rfl))
 f225:=Tryz.func147.trans (congrArg some (by kernel_rfl))
 f266:=Tryz.func162.trans (congrArg some (by kernel_rfl))
 f267:=Tryz.func149.trans (congrArg some (by kernel_rfl))
 f314:=Tryz.func163.trans (congrArg some (by kernel_rfl))
 t3:=Tryz.underlying3
 a3:=Tryz.isAgg3
 z3:=Tryz.sizeOf3
 v3:=Tryz.zeroValue3
 t4:=Tryz.underlying4
 a4:=Tryz.isAgg4
 z4:=Tryz.sizeOf4
 v4:=Tryz.zeroValue4
 t5:=Tryz.underlying5
 a5:=Tryz.isAgg5
 z5:=Tryz.sizeOf5
 v5:=Tryz.zeroValue5
 t9:=Tryz.underlying9
 a9:=Tryz.isAgg9
 z9:=Tryz.sizeOf9
 v9:=Tryz.zeroValue9
 t46:=Tryz.underlying183
 a46:=Tryz.isAgg183
 z46:=Tryz.sizeOf183
 v46:=Tryz.zeroValue183
 t51:=Tryz.underlying175
 a51:=Tryz.isAgg175
 z51:=Tryz.sizeOf175
 v51:=Tryz.zeroValue175
 t146:=Tryz.underlying207
 a146:=Tryz.isAgg207
 z146:=Tryz.sizeOf207
 v146:=Tryz.zeroValue207
 g1:=by kernel_rfl }
def Tryz.lays172_ren:Go.Shelf.Ren:=⟨fun|172=>129|244=>137|245=>138|247=>150|279=>151|280=>152|281=>153|282=>154|287=>164|316=>102|171=>86|205=>165|321=>171|322=>172|243=>115|246=>133|283=>142|284=>143|285=>144|286=>145|129=>158|317=>157|318=>159|319=>160|320=>161|337=>169|338=>170|n=>n,fun|9=>9|3=>3|75=>129|76=>130|4=>4|5=>5|167=>197|37=>85|0=>0|85=>198|2=>2|168=>200|53=>190|175=>209|46=>183|210=>212|127=>127|145=>219|143=>217|21=>21|171=>189|173=>193|212=>204|51=>175|20=>20|213=>205|232=>220|233=>221|80=>97|n=>n,fun|15=>3|16=>4|17=>2|18=>5|19=>6|n=>n⟩
theorem Tryz.lays172:Go.Proofs.LaysC.n172 Tryz.prog Tryz.lays172_ren:={
 mixed:=by kernel_rfl
 f129:=Tryz.func158.trans (congrArg some (by kernel_rfl))
 f171:=Tryz.func86.trans (congrArg some (by kernel_rfl))
 f172:=Tryz.func129.trans (congrArg some (by kernel_rfl))
 f205:=Tryz.func165.trans (congrArg some (by kernel_rfl))
 f243:=Tryz.func115.trans (congrArg some (by kernel_rfl))
 f244:=Tryz.func137.trans (congrArg some (by kernel_rfl))
 f245:=Tryz.func138.trans (congrArg some (by kernel_rfl))
 f246:=Tryz.func133.trans (congrArg some (by kernel_rfl))
 f247:=Tryz.func150.trans (congrArg some (by kernel_rfl))
 f279:=Tryz.func151.trans (congrArg some (by kernel_rfl))
 f280:=Tryz.func152.trans (congrArg some (by kernel_rfl))
 f281:=Tryz.func153.trans (congrArg some (by kernel_rfl))
 f282:=Tryz.func154.trans (congrArg some (by kernel_rfl))
 f283:=Tryz.func142.trans (congrArg some (by kernel_rfl))
 f284:=Tryz.func143.trans (congrArg some (by kernel_rfl))
 f285:=Tryz.func144.trans (congrArg some (by kernel_rfl))
 f286:=Tryz.func145.trans (congrArg some (by kernel_rfl))
 f287:=Tryz.func164.trans (congrArg some (by kernel_rfl))
 f316:=Tryz.func102.trans (congrArg some (by kernel_rfl))
 f317:=Tryz.func157.trans (congrArg some (by kernel_rfl))
 f318:=Tryz.func159.trans (congrArg some (by kernel_rfl))
 f319:=Tryz.func160.trans (congrArg some (by kernel_rfl))
 f320:=Tryz.func161.trans (congrArg some (by kernel_rfl))
 f321:=Tryz.func171.trans (congrArg some (by kernel_rfl))
 f322:=Tryz.func172.trans (congrArg some (by kernel_rfl))
 f337:=Tryz.func169.trans (congrArg some (by kernel_rfl))
 f338:=Tryz.func170.trans (congrArg some (by kernel_rfl))
 t0:=Tryz.underlying0
 a0:=Tryz.isAgg0
 z0:=Tryz.sizeOf0
 v0:=Tryz.zeroValue0
 t2:=Tryz.underlying2
 a2:=Tryz.isAgg2
 z2:=Tryz.sizeOf2
 v2:=Tryz.zeroValue2
 t3:=Tryz.underlying3
 a3:=Tryz.isAgg3
 z3:=Tryz.sizeOf3
 v3:=Tryz.zeroValue3
 t4:=Tryz.underlying4
 a4:=Tryz.isAgg4
 z4:=Tryz.sizeOf4
 v4:=Tryz.zeroValue4
 t5:=Tryz.underlying5
 a5:=Tryz.isAgg5
 z5:=Tryz.sizeOf5
 v5:=Tryz.zeroValue5
 t9:=Tryz.underlying9
 a9:=Tryz.isAgg9
 z9:=Tryz.sizeOf9
 v9:=Tryz.zeroValue9
 t20:=Tryz.underlying20
 a20:=Tryz.isAgg20
 z20:=Tryz.sizeOf20
 v20:=Tryz.zeroValue20
 t21:=Tryz.underlying21
 a21:=Tryz.isAgg21
 z21:=Tryz.sizeOf21
 v21:=Tryz.zeroValue21
 t37:=Tryz.underlying85
 a37:=Tryz.isAgg85
 z37:=Tryz.sizeOf85
 v37:=Tryz.zeroValue85
 t46:=Tryz.underlying183
 a46:=Tryz.isAgg183
 z46:=Tryz.sizeOf183
 v46:=Tryz.zeroValue183
 t51:=Tryz.underlying175
 a51:=Tryz.isAgg175
 z51:=Tryz.sizeOf175
 v51:=Tryz.zeroValue175
 t53:=Tryz.underlying190
 a53:=Tryz.isAgg190
 z53:=Tryz.sizeOf190
 v53:=Tryz.zeroValue190
 t75:=Tryz.underlying129
 a75:=Tryz.isAgg129
 z75:=Tryz.sizeOf129
 v75:=Tryz.zeroValue129
 t76:=Tryz.underlying130
 a76:=Tryz.isAgg130
 z76:=Tryz.sizeOf130
 v76:=Tryz.zeroValue130
 t85:=Tryz.underlying198
 a85:=Tryz.isAgg198
 z85:=Tryz.sizeOf198
 v85:=Tryz.zeroValue198
 t127:=Tryz.underlying127
 a127:=Tryz.isAgg127
 z127:=Tryz.sizeOf127
 v127:=Tryz.zeroValue127
 t143:=Tryz.underlying217
 a143:=Tryz.isAgg217
 z143:=Tryz.sizeOf217
 v143:=Tryz.zeroValue217
 t145:=Tryz.underlying219
 a145:=Tryz.isAgg219
 z145:=Tryz.sizeOf219
 v145:=Tryz.zeroValue219
 t167:=Tryz.underlying197
 a167:=Tryz.isAgg197
 z167:=Tryz.sizeOf197
 v167:=Tryz.zeroValue197
 t168:=Tryz.underlying200
 a168:=Tryz.isAgg200
 z168:=Tryz.sizeOf200
 v168:=Tryz.zeroValue200
 t171:=Tryz.underlying189
 a171:=Tryz.isAgg189
 z171:=Tryz.sizeOf189
 v171:=Tryz.zeroValue189
 t173:=Tryz.underlying193
 a173:=Tryz.isAgg193
 z173:=Tryz.sizeOf193
 v173:=Tryz.zeroValue193
 t175:=Tryz.underlying209
 a175:=Tryz.isAgg209
 z175:=Tryz.sizeOf209
 v175:=Tryz.zeroValue209
 t210:=Tryz.underlying212
 a210:=Tryz.isAgg212
 z210:=Tryz.sizeOf212
 v210:=Tryz.zeroValue212
 t212:=Tryz.underlying204
 a212:=Tryz.isAgg204
 z212:=Tryz.sizeOf204
 v212:=Tryz.zeroValue204
 t213:=Tryz.underlying205
 a213:=Tryz.isAgg205
 z213:=Tryz.sizeOf205
 t232:=Tryz.underlying220
 a232:=Tryz.isAgg220
 z232:=Tryz.sizeOf220
 v232:=Tryz.zeroValue220
 t233:=Tryz.underlying221
 a233:=Tryz.isAgg221
 z233:=Tryz.sizeOf221
 v233:=Tryz.zeroValue221
 g15:=by kernel_rfl
 g16:=by kernel_rfl
 g17:=by kernel_rfl
 g18:=by kernel_rfl
 g19:=by kernel_rfl
 t80:=Tryz.underlying97
 a80:=Tryz.isAgg97
 z80:=Tryz.sizeOf97
 v80:=Tryz.zeroValue97
 i0:=by kernel_rfl
 i2:=by kernel_rfl
 i3:=by kernel_rfl
 i4:=by kernel_rfl
 i5:=by kernel_rfl
 i9:=by kernel_rfl
 i20:=by kernel_rfl
 i21:=by kernel_rfl
 i37:=by kernel_rfl
 i46:=by kernel_rfl
 i51:=by kernel_rfl
 i53:=by kernel_rfl
 i75:=by kernel_rfl
 i76:=by kernel_rfl
 i80:=by kernel_rfl
 i85:=by kernel_rfl
 i127:=by kernel_rfl
 i143:=by kernel_rfl
 i145:=by kernel_rfl
 i167:=by kernel_rfl
 i168:=by kernel_rfl
 i171:=by kernel_rfl
 i173:=by kernel_rfl
 i175:=by kernel_rfl
 i210:=by kernel_rfl
 i212:=by kernel_rfl
 i232:=by kernel_rfl
 i233:=by kernel_rfl
 m15:=by kernel_rfl
 m16:=by kernel_rfl
 m17:=by kernel_rfl
 m18:=by kernel_rfl
 m19:=by kernel_rfl
 c0:=by kernel_rfl
 c2:=by kernel_rfl
 c3:=by kernel_rfl
 c4:=by kernel_rfl
 c5:=by kernel_rfl
 c9:=by kernel_rfl
 c20:=by kernel_rfl
 c21:=by kernel_rfl
 c37:=by kernel_rfl
 c46:=by kernel_rfl
 c51:=by kernel_rfl
 c53:=by kernel_rfl
 c75:=by kernel_rfl
 c76:=by kernel_rfl
 c80:=by kernel_rfl
 c85:=by kernel_rfl
 c127:=by kernel_rfl
 c143:=by kernel_rfl
 c145:=by kernel_rfl
 c167:=by kernel_rfl
 c168:=by kernel_rfl
 c171:=by kernel_rfl
 c173:=by kernel_rfl
 c175:=by kernel_rfl
 c210:=by kernel_rfl
 c212:=by kernel_rfl
 c213:=by kernel_rfl
 c232:=by kernel_rfl
 c233:=by kernel_rfl }
end Go.Proofs
namespace Go.Proofs
open Go.Shelf
def Tryz.lays171_ren:Go.Shelf.Ren:=⟨fun|171=>86|243=>115|246=>133|283=>142|284=>143|285=>144|286=>145|129=>158|317=>157|318=>159|319=>160|320=>161|337=>169|338=>170|n=>n,fun|3=>3|9=>9|2=>2|4=>4|171=>189|0=>0|53=>190|37=>85|5=>5|173=>193|212=>204|51=>175|20=>20|213=>205|46=>183|232=>220|233=>221|n=>n,fun|17=>2|18=>5|19=>6|n=>n⟩
theorem Tryz.lays171:Go.Proofs.LaysM.n171 Tryz.prog Tryz.lays171_ren:={
 mixed:=by kernel_rfl
 f129:=Tryz.func158.trans (congrArg some (by kernel_rfl))
 f171:=Tryz.func86.trans (congrArg some (by kernel_rfl))
 f243:=Tryz.func115.trans (congrArg some (by kernel_rfl))
 f246:=Tryz.func133.trans (congrArg some (by kernel_rfl))
 f283:=Tryz.func142.trans (congrArg some (by kernel_rfl))
 f284:=Tryz.func143.trans (congrArg some (by kernel_rfl))
 f285:=Tryz.func144.trans (congrArg some (by kernel_rfl))
 f286:=Tryz.func145.trans (congrArg some (by kernel_rfl))
 f317:=Tryz.func157.trans (congrArg some (by kernel_rfl))
 f318:=Tryz.func159.trans (congrArg some (by kernel_rfl))
 f319:=Tryz.func160.trans (congrArg some (by kernel_rfl))
 f320:=Tryz.func161.trans (congrArg some (by kernel_rfl))
 f337:=Tryz.func169.trans (congrArg some (by kernel_rfl))
 f338:=Tryz.func170.trans (congrArg some (by kernel_rfl))
 t0:=Tryz.underlying0
 a0:=Tryz.isAgg0
 z0:=Tryz.sizeOf0
 v0:=Tryz.zeroValue0
 t2:=Tryz.underlying2
 a2:=Tryz.isAgg2
 z2:=Tryz.sizeOf2
 v2:=Tryz.zeroValue2
 t3:=Tryz.underlying3
 a3:=Tryz.isAgg3
 z3:=Tryz.sizeOf3
 v3:=Tryz.zeroValue3
 t4:=Tryz.underlying4
 a4:=Tryz.isAgg4
 z4:=Tryz.sizeOf4
 v4:=Tryz.zeroValue4
 t5:=Tryz.underlying5
 a5:=Tryz.isAgg5
 z5:=Tryz.sizeOf5
 v5:=Tryz.zeroValue5
 t9:=Tryz.underlying9
 a9:=Tryz.isAgg9
 z9:=Tryz.sizeOf9
 v9:=Tryz.zeroValue9
 t20:=Tryz.underlying20
 a20:=Tryz.isAgg20
 z20:=Tryz.sizeOf20
 v20:=Tryz.zeroValue20
 t37:=Tryz.underlying85
 a37:=Tryz.isAgg85
 z37:=Tryz.sizeOf85
 v37:=Tryz.zeroValue85
 t46:=Tryz.underlying183
 a46:=Tryz.isAgg183
 z46:=Tryz.sizeOf183
 v46:=Tryz.zeroValue183
 t51:=Tryz.underlying175
 a51:=Tryz.isAgg175
 z51:=Tryz.sizeOf175
 v51:=Tryz.zeroValue175
 t53:=Tryz.underlying190
 a53:=Tryz.isAgg190
 z53:=Tryz.sizeOf190
 v53:=Tryz.zeroValue190
 t171:=Tryz.underlying189
 a171:=Tryz.isAgg189
 z171:=Tryz.sizeOf189
 v171:=Tryz.zeroValue189
 t173:=Tryz.underlying193
 a173:=Tryz.isAgg193
 z173:=Tryz.sizeOf193
 v173:=Tryz.zeroValue193
 t212:=Tryz.underlying204
 a212:=Tryz.isAgg204
 z212:=Tryz.sizeOf204
 v212:=Tryz.zeroValue204
 t213:=Tryz.underlying205
 a213:=Tryz.isAgg205
 z213:=Tryz.sizeOf205
 t232:=Tryz.underlying220
 a232:=Tryz.isAgg220
 z232:=Tryz.sizeOf220
 v232:=Tryz.zeroValue220
 t233:=Tryz.underlying221
 a233:=Tryz.isAgg221
 z233:=Tryz.sizeOf221
 v233:=Tryz.zeroValue221
 g17:=by kernel_rfl
 g18:=by kernel_rfl
 g19:=by kernel_rfl
 i0:=by kernel_rfl
 i2:=by kernel_rfl
 i3:=by kernel_rfl
 i4:=by kernel_rfl
 i5:=by kernel_rfl
 i9:=by kernel_rfl
 i20:=by kernel_rfl
 i37:=by kernel_rfl
 i46:=by kernel_rfl
 i51:=by kernel_rfl
 i53:=by kernel_rfl
 i171:=by kernel_rfl
 i173:=by kernel_rfl
 i212:=by kernel_rfl
 i232:=by kernel_rfl
 i233:=by kernel_rfl
 m17:=by kernel_rfl
 m18:=by kernel_rfl
 m19:=by kernel_rfl }
end Go.Proofs
namespace Go.Proofs.YtijpfbcippijoaaGreatDoor
open Go.RowKit Go.Lib Sp Go.Sort
def powCells:Array Value:=(Lib.pow10Tab.map fun z=>Value.int .u64 z).toArray
structure Pow (w:World):Prop where
 lies:∃ t fr,w.heap[2]?=some (.cells powCells t fr)
theorem Pow.below {w w':World} (h:Pow w) (hb:Below w.heap.size w w'):Pow w':=by
 obtain ⟨t,fr,hg⟩:=h.lies;exact ⟨t,fr,(hb.block _ (gA hg)).trans hg⟩
theorem gPow : Tryz.prog.globalNamed "internal/strconv.uint64pow10" = some 2 := by kernel_rfl
theorem itoa_any (n:Int) (h0:-9223372036854775808≤n) (h1:n≤9223372036854775807) (w:World) (hp:Pow w) :
  Calls Tryz.prog 86 #[.int .i64 n] w fun e w'=>e=.returned (.string ⟨(Lib.itoa n).toArray⟩)∧Below w.heap.size w w':=by
 obtain ⟨t,fr,hg⟩:=hp.lies;refine Calls.mono (Any.strconv_Itoa Tryz.lays171 n h0 h1 w ?_) ?_
 ·unfold Lib.TabIs World.var?;rw [gPow];simp only [Option.bind_some,hg];rfl
 ·rintro e w' ⟨rfl,k,os,rfl⟩;refine ⟨rfl,rfl,rfl,rfl,?_,fun j hj=>?_⟩
  ·show w.heap.size≤(w.heap++os).size;rw [Array.size_append];omega
  ·show (w.heap++os)[j]?=_;rw [Array.getElem?_append_left hj]
end Go.Proofs.YtijpfbcippijoaaGreatDoor
namespace Go.Proofs.YtijpfbcippijoaaGreatDoor
open Go.RowKit Go.Lib Sp
def bs (l:List UInt8):ByteArray:=⟨l.toArray⟩
theorem bs_append (a b:List UInt8):bs a++bs b=bs (a++b):=by
 apply ByteArray.ext;rw [ByteArray.data_append];simp [bs]
theorem bs_size (a:List UInt8):(bs a).size=a.length:=by simp [bs,ByteArray.size]
theorem bs_itoa (n:Int) (h0:-9223372036854775808≤n) (h1:n≤9223372036854775807):(bs (Lib.itoa n)).size≤21:=by
 rw [bs_size];exact Lib.itoa_length_le n h0 h1
def idB (c n:Int):List UInt8:=if c=0∧n=0 then [45] else Lib.itoa c++[46]++Lib.itoa n
theorem printID_any {c n:Int} (hc0:0≤c) (hc1:c≤1048576) (hn0:0≤n) (hn1:n≤1048576) (w:World) (hp:Pow w) :
  Calls Tryz.prog 53 #[.agg #[.int .i64 c,.int .i64 n]] w fun e w'=>e=.returned (.string (bs (idB c n)))∧Below w.heap.size w w':=by
 have HG:Tryz.prog.eqGuardType Tryz.prog.depth 38=false:=by kernel_rfl
 have hw2:=(bE w.heap.size w).alloc (lR _) (Obj.cells #[.int .i64 c,.int .i64 n] 38);by_cases hz:c=0∧n=0
 ·obtain ⟨rfl,rfl⟩:=hz;have HI:∀ w,(Op.equalIn 10000 38 (.agg #[.int .i64 0,.int .i64 0]) (.agg #[.int .i64 0,.int .i64 0])).run Tryz.prog w=.ok true w:=fun w=>run_eqID w 0 0 0 0
  go_enter Tryz.func53,Tryz.ntmps53;go_wp2_with fail;go_ret;exact ⟨rfl,hw2⟩
 ·have hz2:(c==0&&n==0)=false:=by
   rw [Bool.and_eq_false_iff];by_cases h1:c=0
   ·right;exact nB fun e=>hz ⟨h1,e⟩
   ·left;exact nB h1
  have HI:∀ w,(Op.equalIn 10000 38 (.agg #[.int .i64 c,.int .i64 n]) (.agg #[.int .i64 0,.int .i64 0])).run Tryz.prog w=.ok false w:=fun w=>by rw [run_eqID,hz2]
  have HR:Hid (idB c n=Lib.itoa c++[46]++Lib.itoa n):=by show _=_;unfold idB;rw [if_neg hz]
  clear hz hz2;have HT:Hid (∀ (x:Int) (w':World),0≤x→x≤1048576→Below w.heap.size w w'→Calls Tryz.prog 86 #[.int .i64 x] w' fun e w''=>e=.returned (.string (bs (Lib.itoa x)))∧Below w'.heap.size w' w''):=fun x w' h0 h1 hb=>itoa_any x (by omega) (by omega) w' (hp.below hb)
  have k0:(w.alloc (Obj.cells #[.int .i64 c,.int .i64 n] 38)).cell? ⟨w.heap.size,0,none⟩=some (.int .i64 c):=cM ..;have k1:(w.alloc (Obj.cells #[.int .i64 c,.int .i64 n] 38)).cell? ⟨w.heap.size,1,none⟩=some (.int .i64 n):=cM ..;have hcur:Below (w.alloc (Obj.cells #[.int .i64 c,.int .i64 n] 38)).heap.size (w.alloc (Obj.cells #[.int .i64 c,.int .i64 n] 38)) (w.alloc (Obj.cells #[.int .i64 c,.int .i64 n] 38)):=bE _ _;go_enter Tryz.func53,Tryz.ntmps53;have q1:(bs (Lib.itoa c)).size≤21:=bs_itoa c (by omega) (by omega);have q2:(bs (Lib.itoa n)).size≤21:=bs_itoa n (by omega) (by omega);have g1:¬ 9223372036854775807<(bs (Lib.itoa c)).size+1:=by omega
  have g2:¬ 9223372036854775807<(bs (Lib.itoa c)).size+1+(bs (Lib.itoa n)).size:=by omega
  have hk:w.heap.size<(w.alloc (Obj.cells #[.int .i64 c,.int .i64 n] 38)).heap.size:=by simp
  go_wp2_with fail
  go_region_held3 (fun W=>W.cell? ⟨w.heap.size,0,none⟩=some (.int .i64 c)∧W.cell? ⟨w.heap.size,1,none⟩=some (.int .i64 n)) (first|exact ⟨k0,k1⟩|exact ⟨e0,e1⟩)
   (first
    | (go_at_call 86;refine (HT.out _ _ (by assumption) (by assumption) ?_).mono ?_;(first|exact hw2.trans (hcur.mono hw2.size)|exact hw2.trans (hcur.drew.mono hw2.size));rintro e w1 ⟨rfl,hb1⟩;have hcur:Below (w.alloc (Obj.cells #[.int .i64 c,.int .i64 n] 38)).heap.size (w.alloc (Obj.cells #[.int .i64 c,.int .i64 n] 38)) w1:=(by first|exact hcur.trans (hb1.mono hcur.size)|exact hcur.drew.trans (hb1.mono hcur.size));have e0:=(hcur.cell (p:=⟨w.heap.size,0,none⟩) hk).trans k0;have e1:=(hcur.cell (p:=⟨w.heap.size,1,none⟩) hk).trans k1))
  all_goals
   go_wp2_with fail;go_ret;refine ⟨congrArg (fun b=>Ending.returned (.string b)) ?_,hw2.trans (hcur.mono hw2.size)⟩;rw [HR.out,← bs_append,← bs_append];rfl
end Go.Proofs.YtijpfbcippijoaaGreatDoor
