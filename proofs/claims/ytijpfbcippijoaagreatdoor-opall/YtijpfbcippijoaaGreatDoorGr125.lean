import Derived.Test.YtijpfbcippijoaaGreatDoorAl
import Derived.Test.YtijpfbcippijoaaGreatDoorGr106
import Derived.Test.YtijpfbcippijoaaGreatDoorGr137
import Derived.Test.YtijpfbcippijoaaGreatDoorGr104
import Derived.Test.YtijpfbcippijoaaGreatDoorGr131
import Derived.Deep.MidRow
import Derived.Test.YtijpfbcippijoaaGreatDoorGr138
set_option maxHeartbeats 4000000
set_option maxRecDepth 100000
namespace Go.Proofs.YtijpfbcippijoaaGreatDoor
open Go.RowKit Go.Lib
theorem Rw.stands {α:Type} {f:α→List Value} {k:Nat} {w w':World} {b off n cap:Nat} {l:List α} (h:Rw f k w (some ⟨b,off,none⟩) n cap l) {o:Obj} (h1:w.heap[b]?=some o) (h2:w'.heap[b]?=some o):Rw f k w' (some ⟨b,off,none⟩) n cap l :=
 ⟨h.len,h.room,fun hn=>by
  obtain ⟨g,off',e,_,hc⟩:=h.cells hn
  obtain ⟨rfl,rfl⟩:b=g∧off=off':=by simpa using e
  refine ⟨b,off,rfl,(gA h2),fun j x hj i v hv=>?_⟩
  have:=hc j x hj i v hv
  simp only [World.cell?,h1,h2] at this ⊢
  exact this⟩
theorem wr9 {W:World} {b:Nat} {T:TypeId} {v0 v1 v2 v3 v4 v5 v6 v7 v8:Value} (h:W.heap[b]?=some (.cells #[v0,v1,v2,v3,v4,v5,v6,v7,v8] T)) :
  W.frozen? ⟨b,0,none⟩=false∧W.frozen? ⟨b,1,none⟩=false∧W.frozen? ⟨b,2,none⟩=false∧W.frozen? ⟨b,3,none⟩=false∧W.frozen? ⟨b,4,none⟩=false∧W.frozen? ⟨b,5,none⟩=false∧W.frozen? ⟨b,6,none⟩=false∧W.frozen? ⟨b,7,none⟩=false∧W.frozen? ⟨b,8,none⟩=false :=
 ⟨Lib.frozen_of_heap h 0,Lib.frozen_of_heap h 1,Lib.frozen_of_heap h 2,Lib.frozen_of_heap h 3,Lib.frozen_of_heap h 4,Lib.frozen_of_heap h 5,Lib.frozen_of_heap h 6,Lib.frozen_of_heap h 7,Lib.frozen_of_heap h 8⟩
def But (b:Nat) (w w':World):Prop:=w'.heap.size=w.heap.size∧∀ k,k≠b→w'.heap[k]?=w.heap[k]?
theorem But.trans {b:Nat} {w w' w'':World} (h:But b w w') (h':But b w' w''):But b w w'':=⟨h'.1.trans h.1,fun k hk=>(h'.2 k hk).trans (h.2 k hk)⟩
theorem But.set (b i:Nat) (w:World) (u:Value):But b w (w.setCell ⟨b,i,none⟩ u):=⟨by simp [World.setCell],fun k hk=>Below.heap_setCell _ _ _ _ (by simp only;omega)⟩
theorem store9 {W:World} {b n:Nat} {w0:World} {T:TypeId} {u0 u1 u2 u3 u4 u5 u6 u7 u8:Value} (h:W.heap[b]?=some (.cells #[u0,u1,u2,u3,u4,u5,u6,u7,u8] T)) (hB:Below n w0 W) (hn:n≤b) (v0 v1 v2 v3 v4 v5 v6 v7 v8:Value) :
  ∃ W9,(((((((((W.setCell ⟨b,0,none⟩ v0).setCell ⟨b,1,none⟩ v1).setCell ⟨b,2,none⟩ v2).setCell ⟨b,3,none⟩ v3).setCell ⟨b,4,none⟩ v4).setCell ⟨b,5,none⟩ v5).setCell ⟨b,6,none⟩ v6).setCell ⟨b,7,none⟩ v7).setCell ⟨b,8,none⟩ v8)=W9 ∧
   W9.heap[b]?=some (.cells #[v0,v1,v2,v3,v4,v5,v6,v7,v8] T)∧Below n w0 W9∧But b W W9 :=
 ⟨_,rfl,set9g h,by
  refine Below.setCell ?_ (by simp only;omega) _
  refine Below.setCell ?_ (by simp only;omega) _
  refine Below.setCell ?_ (by simp only;omega) _
  refine Below.setCell ?_ (by simp only;omega) _
  refine Below.setCell ?_ (by simp only;omega) _
  refine Below.setCell ?_ (by simp only;omega) _
  refine Below.setCell ?_ (by simp only;omega) _
  refine Below.setCell ?_ (by simp only;omega) _
  exact Below.setCell hB (by simp only;omega) _,
  ((((((((But.set _ _ _ _).trans (But.set _ _ _ _)).trans (But.set _ _ _ _)).trans (But.set _ _ _ _)).trans (But.set _ _ _ _)).trans (But.set _ _ _ _)).trans (But.set _ _ _ _)).trans (But.set _ _ _ _)).trans (But.set _ _ _ _)⟩
theorem rw_lit2 {α:Type} {f:α→List Value} {k:Nat} (hf:Lay f k) (w:World) (x y:α) (cs:Array Value) (hcs:f x++f y=cs.toList) (t:TypeId):Rw f k (w.alloc (.cells cs t)) (some ⟨w.heap.size,0,none⟩) 2 2 [x,y]:=by
 refine ⟨rfl,⟨lR _,by simp [maxLen]⟩,fun _=>⟨w.heap.size,0,rfl,by simp,fun j z hj i v hv=>?_⟩⟩;have hh:=heap_alloc_new w (.cells cs t);have hlx:=hf.len x;simp only [World.cell?,hh]
 match j,hj with
 | 0,hj =>
  simp at hj;subst hj;have hi:=(List.getElem?_eq_some_iff.1 hv).1;have:cs.toList[i]?=some v:=by rw [← hcs,List.getElem?_append_left hi];exact hv
  simpa using this
 | 1,hj =>
  simp at hj;subst hj;have:cs.toList[k+i]?=some v:=by rw [← hcs,List.getElem?_append_right (by omega),hlx,Nat.add_sub_cancel_left];exact hv
  simpa using this
theorem elemG4:Tryz.prog.elem 42=76:=by kernel_rfl
theorem copied4S_any {o:OpV} {w:World} {a:Option Addr} {m cap:Nat} (h:Sp.Rng w a m cap o.l) (hm:m*16≤140737488351232) :
  Calls Tryz.prog 10 #[opVal o (.slice a m cap)] w fun e w'=>∃ a' cap',e=.returned (opVal o (.slice a' m cap'))∧Rw rngV 2 w' a' (m+2) cap' (o.l++[(-7,-8),(-9,-9)])∧Below w.heap.size w w':=by
 obtain ⟨c,n,k,p,s,l,tc,tn,on⟩:=o;simp only [opVal] at *;have hl:=rw_of_rng h;have HLL:Hid (l.length=m):=hl.len;clear h;go_enter Tryz.func10,Tryz.ntmps10;go_wp2_with fail;generalize hW0:(w.alloc (Obj.cells #[.int .i64 c,.int .i64 n,.int .i64 k,.int .i64 p,.string s,.slice a m cap,.int .i64 tc,.int .i64 tn,.bool on] 44)).alloc (Obj.cells #[.int .i64 0,.int .i64 0,.int .i64 0,.int .i64 0,.string ⟨#[]⟩,.slice none 0 0,.int .i64 0,.int .i64 0,.bool false] 44)=W0;have hX:W0.heap[w.heap.size]?=some (Obj.cells #[.int .i64 c,.int .i64 n,.int .i64 k,.int .i64 p,.string s,.slice a m cap,.int .i64 tc,.int .i64 tn,.bool on] 44):=by rw [← hW0];exact (Below.heap_alloc _ _ _ (by simp)).trans (alloc_last _ _ _ rfl)
 have hZ:W0.heap[w.heap.size+1]?=some (Obj.cells #[.int .i64 0,.int .i64 0,.int .i64 0,.int .i64 0,.string ⟨#[]⟩,.slice none 0 0,.int .i64 0,.int .i64 0,.bool false] 44):=by rw [← hW0];exact alloc_last _ _ _ (by simp)
 have hB0:Below w.heap.size w W0:=by rw [← hW0];exact ((bE w.heap.size w).alloc (lR _) _).alloc (by simp) _
 have hl0:=hl.below hB0;have hlt:w.heap.size+1<W0.heap.size:=(gA hZ);clear hW0 hl;go_loopw [3,4] (fun v vi W=>∃ i:Nat,vi=.int .i64 (i:Int)∧i≤m∧OwnF rngV 2 76 W W0.heap.size v (l.take i)∧Below W0.heap.size W0 W) (fun _ vi _=>m-(RowKit.intOf vi).toNat)
 case atStart=>exact ⟨0,rfl,Nat.zero_le _,by rw [List.take_zero];exact ownF_nil _ _,bE _ _⟩
 case round =>
  obtain ⟨i,rfl,him,ho,hB⟩:=hrel;have hX1:=(hB.block _ (by omega)).trans hX;obtain ⟨d0,d1,d2,d3,d4,d5,d6,d7,d8⟩:=box9 hX1;have hli:(l.take i).length=i:=by rw [List.length_take];have:=HLL.out;omega
  by_cases hi:i<m
  ·obtain ⟨g,off,x,rfl,hg,hx,hc⟩:=hl0.at i hi;have ht:l.take i++[x]=l.take (i+1):=by
    obtain ⟨hj,rfl⟩:=List.getElem?_eq_some_iff.1 hx;rw [List.take_succ_eq_append_getElem hj]
   have HT:Hid (l.take i++[x]=l.take (i+1)):=ht;clear ht;obtain ⟨xlo,xhi⟩:=x;have k0:wr.cell? ⟨g,off+i*2,none⟩=some (.int .i64 xlo):=(hB.cell (p:=⟨g,off+i*2+0,none⟩) hg).trans (hc 0 _ rfl);have k1:wr.cell? ⟨g,off+i*2+1,none⟩=some (.int .i64 xhi):=(hB.cell (p:=⟨g,off+i*2+1,none⟩) hg).trans (hc 1 _ rfl);have hBs:=hB.size;obtain ⟨av,cv,rfl⟩:=ho.shape;obtain ⟨g5,cap5,w6,hr,ho6,hb6,_,_⟩:=appendF_one kindRo layRo ho hBs (xlo,xhi) #[.int .i64 xlo,.int .i64 xhi] rfl 76 (by rw [hli];omega) (by rw [hli];omega) 42;rw [HT.out] at ho6;rw [hli] at hr ho6;rw [hli];clear hc hx ho;go_wp2_with (at_builtin;refine wpList_append_hr rfl _ _ 42 rfl _ _ rfl rfl hr ?_);go_roundw
   case rel=>exact ⟨i+1,by go_num,by omega,ho6,hB.trans hb6⟩
   case measure=>simp [RowKit.intOf];omega
  ·obtain rfl:i=m:=by omega
   rw [show l.take i=l from List.take_of_length_le (by have:=HLL.out;omega)] at ho;have hBs:=hB.size;obtain ⟨av,cv,rfl⟩:=ho.shape;have hlm:=HLL.out;rw [hlm] at ho;rw [hlm];have hX2:=((bE wr.heap.size wr).alloc (lR _) (Obj.cells #[.int .i64 (-7),.int .i64 (-8),.int .i64 (-9),.int .i64 (-9)] 76));obtain ⟨g7,cap7,w7,hr7,ho7,hb7,hk7,hat7⟩:=appendF kindRo layRo (ho.below hX2) (by have:=hX2.size;omega) (rw_lit2 layRo wr (-7,-8) (-9,-9) #[.int .i64 (-7),.int .i64 (-8),.int .i64 (-9),.int .i64 (-9)] rfl 76) (by omega) (by rw [hlm];omega) (by rw [hlm];omega) 42;rw [hlm] at hr7 ho7;have hro:=(ho7.rw_ layRo);have hroom:=hro.room;have hrw:Rw rngV 2 w7 (some ⟨g7,0,none⟩) (i+2) cap7 (l++[(-7,-8),(-9,-9)]):=hro;have hge:W0.heap.size≤g7:=ho7.ge rfl;have hlt7:g7<w7.heap.size:=ho7.lt rfl;have hB7:Below W0.heap.size W0 w7:=(hB.trans (hX2.mono hBs)).trans hb7;have hct:=fun W=>cut_high kindRo elemG4 W (some ⟨g7,0,none⟩) (i+2) cap7 i (by omega)
   have hX7:=(hB7.block _ (by omega)).trans hX;have hZ7:=(hB7.block _ (by omega)).trans hZ;have hC7:Below w.heap.size w w7:=hB0.trans (hB7.mono hB0.size);have HRW:Hid (Rw rngV 2 w7 (some ⟨g7,0,none⟩) (i+2) cap7 (l++[(-7,-8),(-9,-9)])):=hrw;clear hrw hro ho7 ho hX1 hX hZ hB0 hl0 hk7 hat7 hb7;obtain ⟨bk0,bk1,bk2,bk3,bk4,bk5,bk6,bk7,bk8⟩:=box9 hX7;obtain ⟨bz0,bz1,bz2,bz3,bz4,bz5,bz6,bz7,bz8⟩:=wr9 hX7;have hB2:=hC7.setCell (p:=⟨w.heap.size,5,none⟩) (lR _) (.slice (some ⟨g7,0,none⟩) i cap7);have hZ2:(w7.setCell ⟨w.heap.size,5,none⟩ (.slice (some ⟨g7,0,none⟩) i cap7)).heap[w.heap.size+1]?=some (Obj.cells #[.int .i64 0,.int .i64 0,.int .i64 0,.int .i64 0,.string ⟨#[]⟩,.slice none 0 0,.int .i64 0,.int .i64 0,.bool false] 44):=(Below.heap_setCell _ _ _ _ (by simp)).trans hZ7;have hR2:Rw rngV 2 (w7.setCell ⟨w.heap.size,5,none⟩ (.slice (some ⟨g7,0,none⟩) i cap7)) (some ⟨g7,0,none⟩) (i+2) cap7 (l++[(-7,-8),(-9,-9)]):=by
    obtain ⟨ob,hob⟩:∃ ob,w7.heap[g7]?=some ob:=⟨_,Array.getElem?_eq_getElem hlt7⟩;exact HRW.out.stands hob ((Below.heap_setCell _ _ _ _ (by simp only;omega)).trans hob)
   obtain ⟨W9,e9,hx9,hB9,hK9⟩:=store9 hZ2 hB2 (by omega) (.int .i64 c) (.int .i64 n) (.int .i64 k) (.int .i64 p) (.string s) (.slice (some ⟨g7,0,none⟩) i cap7) (.int .i64 tc) (.int .i64 tn) (.bool on);have HR9:Hid (Rw rngV 2 W9 (some ⟨g7,0,none⟩) (i+2) cap7 (l++[(-7,-8),(-9,-9)])):=by
    obtain ⟨ob,hob⟩:∃ ob,(w7.setCell ⟨w.heap.size,5,none⟩ (.slice (some ⟨g7,0,none⟩) i cap7)).heap[g7]?=some ob:=⟨_,Array.getElem?_eq_getElem (by simpa [World.setCell] using hlt7)⟩;exact hR2.stands hob ((hK9.2 g7 (by omega)).trans hob)
   obtain ⟨zz0,zz1,zz2,zz3,zz4,zz5,zz6,zz7,zz8⟩:=box9 hZ2;obtain ⟨dz0,dz1,dz2,dz3,dz4,dz5,dz6,dz7,dz8⟩:=wr9 hZ2;obtain ⟨d10,d11,d12,d13,d14,d15,d16,d17,d18⟩:=box9 hZ7;obtain ⟨dy0,dy1,dy2,dy3,dy4,dy5,dy6,dy7,dy8⟩:=wr9 hZ7;obtain ⟨r0,r1,r2,r3,r4,r5,r6,r7,r8⟩:=box9 hx9;clear hR2 HRW hX7 hZ7 hZ2 hK9 hx9 hB2;go_wp2_with (at_builtin;refine wpList_append_hr rfl _ _ 42 rfl _ _ rfl rfl hr7 ?_)
   try rw [e9]
   refine bodyPost_ret (v:=.agg #[.int .i64 c,.int .i64 n,.int .i64 k,.int .i64 p,.string s,.slice (some ⟨g7,0,none⟩) i cap7,.int .i64 tc,.int .i64 tn,.bool on]) (by simp [results,Tryz.results10,go_sem,r0,r1,r2,r3,r4,r5,r6,r7,r8]) rfl ⟨_,_,rfl,HR9.out,hB9⟩
theorem gEqual_self {o:OpV} {w:World} {a b:Option Addr} {n m cap capb:Nat} (h:Sp.Rng w a n cap o.l) (hk:Sp.Rng w b m capb o.l) :
  Calls Tryz.prog 16 #[opVal o (.slice a n cap),opVal o (.slice b m capb)] w fun e w'=>e=.returned (.bool true)∧Below w.heap.size w w':=by
 obtain ⟨c1,n1,k1,p1,s1,l1,tc1,tn1,on1⟩:=o;simp only [opVal] at *;have HS:Hid (∀ w':World,Below w.heap.size w w'→Calls Tryz.prog 38 #[.slice a n cap,.slice b m capb] w' fun e w''=>e=.returned (.bool true)∧Below w'.heap.size w' w''):=fun w' hb=>by
  have:=gSame_any (h.below hb) (hk.below hb)
  rwa [decide_eq_true rfl] at this
 clear h hk;go_enter Tryz.func16,Tryz.ntmps16;go_wp2_with fail;generalize hW0:(w.alloc (Obj.cells #[.int .i64 c1,.int .i64 n1,.int .i64 k1,.int .i64 p1,.string s1,.slice a n cap,.int .i64 tc1,.int .i64 tn1,.bool on1] 44)).alloc (Obj.cells #[.int .i64 c1,.int .i64 n1,.int .i64 k1,.int .i64 p1,.string s1,.slice b m capb,.int .i64 tc1,.int .i64 tn1,.bool on1] 44)=W0;have hX:W0.heap[w.heap.size]?=some (Obj.cells #[.int .i64 c1,.int .i64 n1,.int .i64 k1,.int .i64 p1,.string s1,.slice a n cap,.int .i64 tc1,.int .i64 tn1,.bool on1] 44):=by rw [← hW0];exact (Below.heap_alloc _ _ _ (by simp)).trans (alloc_last _ _ _ rfl)
 have hZ:W0.heap[w.heap.size+1]?=some (Obj.cells #[.int .i64 c1,.int .i64 n1,.int .i64 k1,.int .i64 p1,.string s1,.slice b m capb,.int .i64 tc1,.int .i64 tn1,.bool on1] 44):=by rw [← hW0];exact alloc_last _ _ _ (by simp)
 have hB0:Below w.heap.size w W0:=by rw [← hW0];exact ((bE w.heap.size w).alloc (lR _) _).alloc (by simp) _
 have hlt:w.heap.size+1<W0.heap.size:=(gA hZ);clear hW0;refine (HS.out _ hB0).mono ?_;rintro e w1 ⟨rfl,hb1⟩;have hX1:=(hb1.block _ (by omega)).trans hX;have hZ1:=(hb1.block _ (by omega)).trans hZ;have hB:=hB0.trans (hb1.mono hB0.size);obtain ⟨d0,d1,d2,d3,d4,d5,d6,d7,d8⟩:=box9 hX1;obtain ⟨f0,f1,f2,f3,f4,f5,f6,f7,f8⟩:=box9 hZ1;clear hX hZ hX1 hZ1 hB0 hb1 HS hlt;have e0:(c1==c1)=true:=beq_self_eq_true _;have e1:(n1==n1)=true:=beq_self_eq_true _;have e2:(k1==k1)=true:=beq_self_eq_true _;have e3:(p1==p1)=true:=beq_self_eq_true _;have e5:(tc1==tc1)=true:=beq_self_eq_true _;have e6:(tn1==tn1)=true:=beq_self_eq_true _;have e7:(on1==on1)=true:=beq_self_eq_true _;go_wp2_with fail;go_ret;exact ⟨rfl,hB⟩
theorem spare_any {o:OpV} {w:World} {a:Option Addr} {n cap:Nat} (h:Rw rngV 2 w a (n+2) cap (o.l++[(-7,-8),(-9,-9)])) :
  Calls Tryz.prog 17 #[opVal o (.slice a n cap)] w fun e w'=>e=.returned (.bool true)∧Below w.heap.size w w':=by
 obtain ⟨c,k0,k,p,s,l,tc,tn,on⟩:=o;simp only [opVal] at *;have hlen:l.length=n:=by have:=h.len;simp at this;omega
 have hroom:=h.room;have hcap:n+2≤9223372036854775807:=by have:=hroom.2;simp only [maxLen] at this;omega
 obtain ⟨g,off,rfl,hg,hc⟩:=h.cells (by omega);have x0:(l++[((-7:Int),(-8:Int)),(-9,-9)])[n]?=some (-7,-8):=by rw [List.getElem?_append_right (by omega),hlen];simp
 have x1:(l++[((-7:Int),(-8:Int)),(-9,-9)])[n+1]?=some (-9,-9):=by rw [List.getElem?_append_right (by omega),hlen,show n+1-n=1 by omega];rfl
 have c0:=hc n _ x0 0 _ rfl;have c1:=hc n _ x0 1 _ rfl;have c2:=hc (n+1) _ x1 0 _ rfl;have c3:=hc (n+1) _ x1 1 _ rfl;have hct:=fun W=>cut_high kindRo elemG4 W (some ⟨g,off,none⟩) n cap (n+2) (by omega)
 clear h hc x0 x1;have hB0:Below w.heap.size w (w.alloc (Obj.cells #[.int .i64 c,.int .i64 k0,.int .i64 k,.int .i64 p,.string s,.slice (some ⟨g,off,none⟩) n cap,.int .i64 tc,.int .i64 tn,.bool on] 44)):=(bE w.heap.size w).alloc (lR _) _;have z0:(w.alloc (Obj.cells #[.int .i64 c,.int .i64 k0,.int .i64 k,.int .i64 p,.string s,.slice (some ⟨g,off,none⟩) n cap,.int .i64 tc,.int .i64 tn,.bool on] 44)).cell? ⟨g,off+n*2,none⟩=some (.int .i64 (-7)):=(hB0.cell (p:=⟨g,off+n*2,none⟩) hg).trans c0;have z1:(w.alloc (Obj.cells #[.int .i64 c,.int .i64 k0,.int .i64 k,.int .i64 p,.string s,.slice (some ⟨g,off,none⟩) n cap,.int .i64 tc,.int .i64 tn,.bool on] 44)).cell? ⟨g,off+n*2+1,none⟩=some (.int .i64 (-8)):=(hB0.cell (p:=⟨g,off+n*2+1,none⟩) hg).trans c1;have z2:(w.alloc (Obj.cells #[.int .i64 c,.int .i64 k0,.int .i64 k,.int .i64 p,.string s,.slice (some ⟨g,off,none⟩) n cap,.int .i64 tc,.int .i64 tn,.bool on] 44)).cell? ⟨g,off+(n+1)*2,none⟩=some (.int .i64 (-9)):=(hB0.cell (p:=⟨g,off+(n+1)*2,none⟩) hg).trans c2;have z3:(w.alloc (Obj.cells #[.int .i64 c,.int .i64 k0,.int .i64 k,.int .i64 p,.string s,.slice (some ⟨g,off,none⟩) n cap,.int .i64 tc,.int .i64 tn,.bool on] 44)).cell? ⟨g,off+(n+1)*2+1,none⟩=some (.int .i64 (-9)):=(hB0.cell (p:=⟨g,off+(n+1)*2+1,none⟩) hg).trans c3;clear c0 c1 c2 c3;go_enter Tryz.func17,Tryz.ntmps17;go_wp2_with fail;go_ret;exact ⟨rfl,hB0⟩
structure StepV where
 k:Int
 o:OpV
 a:Option Addr
 m:Nat
 cap:Nat
 o2:OpV
 a2:Option Addr
 m2:Nat
 cap2:Nat
 tot:Int
 ln:ByteArray
def stepF (x:StepV):List Value:=[.int .i64 x.k,.int .i64 x.o.c,.int .i64 x.o.n,.int .i64 x.o.k,.int .i64 x.o.p,.string x.o.s,.slice x.a x.m x.cap,.int .i64 x.o.tc,.int .i64 x.o.tn,.bool x.o.on,.int .i64 x.o2.c,.int .i64 x.o2.n,.int .i64 x.o2.k,.int .i64 x.o2.p,.string x.o2.s,.slice x.a2 x.m2 x.cap2,.int .i64 x.o2.tc,.int .i64 x.o2.tn,.bool x.o2.on,.int .i64 x.tot,.string x.ln]
theorem layS:Lay stepF 21:=⟨fun _=>rfl,by decide,fun x u hu=>by
 simp only [stepF,List.mem_cons,List.not_mem_nil,or_false] at hu
 rcases hu with h|h|h|h|h|h|h|h|h|h|h|h|h|h|h|h|h|h|h|h|h<;>(subst h;rfl)⟩
def StepOk (W:World) (x:StepV):Prop:=Sp.Rng W x.a x.m x.cap x.o.l∧x.m*16≤140737488351232∧x.o.s.size≤2097152
theorem box21 {W:World} {b:Nat} {T:TypeId} {v0 v1 v2 v3 v4 v5 v6 v7 v8 v9 v10 v11 v12 v13 v14 v15 v16 v17 v18 v19 v20:Value} (h:W.heap[b]?=some (.cells #[v0,v1,v2,v3,v4,v5,v6,v7,v8,v9,v10,v11,v12,v13,v14,v15,v16,v17,v18,v19,v20] T)) :
  W.cell? ⟨b,0,none⟩=some v0∧W.cell? ⟨b,1,none⟩=some v1∧W.cell? ⟨b,2,none⟩=some v2∧W.cell? ⟨b,3,none⟩=some v3∧W.cell? ⟨b,4,none⟩=some v4∧W.cell? ⟨b,5,none⟩=some v5∧W.cell? ⟨b,6,none⟩=some v6∧W.cell? ⟨b,7,none⟩=some v7∧W.cell? ⟨b,8,none⟩=some v8∧W.cell? ⟨b,9,none⟩=some v9∧W.cell? ⟨b,10,none⟩=some v10∧W.cell? ⟨b,11,none⟩=some v11∧W.cell? ⟨b,12,none⟩=some v12∧W.cell? ⟨b,13,none⟩=some v13∧W.cell? ⟨b,14,none⟩=some v14∧W.cell? ⟨b,15,none⟩=some v15∧W.cell? ⟨b,16,none⟩=some v16∧W.cell? ⟨b,17,none⟩=some v17∧W.cell? ⟨b,18,none⟩=some v18∧W.cell? ⟨b,19,none⟩=some v19∧W.cell? ⟨b,20,none⟩=some v20:=by
 simp only [cH h];exact ⟨rfl,rfl,rfl,rfl,rfl,rfl,rfl,rfl,rfl,rfl,rfl,rfl,rfl,rfl,rfl,rfl,rfl,rfl,rfl,rfl,rfl⟩
theorem range_block {W:World} {b:Nat} {T:TypeId} {l:List Value} (h:W.heap[b]?=some (.cells l.toArray T)):W.rangeAt b 0 l:=fun j v hv=>by
 rw [cell_of_row W b (0+j) _ _ _ h,Nat.zero_add,List.getElem?_toArray];exact hv
theorem cl9 {W:World} {b:Nat} {T:TypeId} {v0 v1 v2 v3 v4 v5 v6 v7 v8:Value} (h:W.heap[b]?=some (.cells #[v0,v1,v2,v3,v4,v5,v6,v7,v8] T)) :
  W.cell? ⟨b,0,none⟩=some v0∧W.cell? ⟨b,1,none⟩=some v1∧W.cell? ⟨b,2,none⟩=some v2∧W.cell? ⟨b,3,none⟩=some v3∧W.cell? ⟨b,4,none⟩=some v4∧W.cell? ⟨b,5,none⟩=some v5∧W.cell? ⟨b,6,none⟩=some v6∧W.cell? ⟨b,7,none⟩=some v7∧W.cell? ⟨b,8,none⟩=some v8:=by
 simp only [cH h];exact ⟨rfl,rfl,rfl,rfl,rfl,rfl,rfl,rfl,rfl⟩
theorem fz9 {W:World} {b:Nat} {T:TypeId} {v0 v1 v2 v3 v4 v5 v6 v7 v8:Value} (h:W.heap[b]?=some (.cells #[v0,v1,v2,v3,v4,v5,v6,v7,v8] T)) :
  W.frozen? ⟨b,0,none⟩=false∧W.frozen? ⟨b,1,none⟩=false∧W.frozen? ⟨b,2,none⟩=false∧W.frozen? ⟨b,3,none⟩=false∧W.frozen? ⟨b,4,none⟩=false∧W.frozen? ⟨b,5,none⟩=false∧W.frozen? ⟨b,6,none⟩=false∧W.frozen? ⟨b,7,none⟩=false∧W.frozen? ⟨b,8,none⟩=false:=⟨Lib.frozen_of_heap h 0,Lib.frozen_of_heap h 1,Lib.frozen_of_heap h 2,Lib.frozen_of_heap h 3,Lib.frozen_of_heap h 4,Lib.frozen_of_heap h 5,Lib.frozen_of_heap h 6,Lib.frozen_of_heap h 7,Lib.frozen_of_heap h 8⟩
theorem cf9 {W:World} {b:Nat} {T:TypeId} {v0 v1 v2 v3 v4 v5 v6 v7 v8:Value} (h:W.heap[b]?=some (.cells #[v0,v1,v2,v3,v4,v5,v6,v7,v8] T)) :
  (W.cell? ⟨b,0,none⟩=some v0∧W.cell? ⟨b,1,none⟩=some v1∧W.cell? ⟨b,2,none⟩=some v2∧W.cell? ⟨b,3,none⟩=some v3∧W.cell? ⟨b,4,none⟩=some v4∧W.cell? ⟨b,5,none⟩=some v5∧W.cell? ⟨b,6,none⟩=some v6∧W.cell? ⟨b,7,none⟩=some v7∧W.cell? ⟨b,8,none⟩=some v8)∧W.frozen? ⟨b,0,none⟩=false∧W.frozen? ⟨b,1,none⟩=false∧W.frozen? ⟨b,2,none⟩=false∧W.frozen? ⟨b,3,none⟩=false∧W.frozen? ⟨b,4,none⟩=false∧W.frozen? ⟨b,5,none⟩=false∧W.frozen? ⟨b,6,none⟩=false∧W.frozen? ⟨b,7,none⟩=false∧W.frozen? ⟨b,8,none⟩=false:=⟨cl9 h,fz9 h⟩
theorem q9 {n:Nat} {w W:World} (h:Below n w W) {b:Nat} (hb:n≤b) (v0 v1 v2 v3 v4 v5 v6 v7 v8:Value) :
  Below n w (((((((((W.setCell ⟨b,0,none⟩ v0).setCell ⟨b,1,none⟩ v1).setCell ⟨b,2,none⟩ v2).setCell ⟨b,3,none⟩ v3).setCell ⟨b,4,none⟩ v4).setCell ⟨b,5,none⟩ v5).setCell ⟨b,6,none⟩ v6).setCell ⟨b,7,none⟩ v7).setCell ⟨b,8,none⟩ v8):=(((((((((h.setCell (p:=⟨b,0,none⟩) hb v0).setCell (p:=⟨b,1,none⟩) hb v1).setCell (p:=⟨b,2,none⟩) hb v2).setCell (p:=⟨b,3,none⟩) hb v3).setCell (p:=⟨b,4,none⟩) hb v4).setCell (p:=⟨b,5,none⟩) hb v5).setCell (p:=⟨b,6,none⟩) hb v6).setCell (p:=⟨b,7,none⟩) hb v7).setCell (p:=⟨b,8,none⟩) hb v8)
theorem exW {W:World} {b:Nat} {o:Option Obj} (_:W.heap[b]?=o):∃ V,W=V:=⟨W,rfl⟩
theorem st9_0 {n:Nat} {w V:World} {o:Option Obj} {T:TypeId} {u0 u1 u2 u3 u4 u5 u6 u7 u8:Value} (hx:V.heap[n]?=o) (hy:V.heap[n+1]?=some (.cells #[u0,u1,u2,u3,u4,u5,u6,u7,u8] T)) (hb:Below n w V) (v:Value) :
  ∃ V',(V.setCell ⟨n+1,0,none⟩ v)=V'∧V'.heap[n+1]?=some (.cells #[v,u1,u2,u3,u4,u5,u6,u7,u8] T)∧V'.heap[n]?=o∧Below n w V' :=
 ⟨_,rfl,(heap_setCell_same _ (n+1) 0 _ _ v hy).trans (by simp),(Below.heap_setCell V ⟨n+1,0,none⟩ v n (by simp)).trans hx,hb.setCell (p:=⟨n+1,0,none⟩) (by simp) v⟩
theorem st9_1 {n:Nat} {w V:World} {o:Option Obj} {T:TypeId} {u0 u1 u2 u3 u4 u5 u6 u7 u8:Value} (hx:V.heap[n]?=o) (hy:V.heap[n+1]?=some (.cells #[u0,u1,u2,u3,u4,u5,u6,u7,u8] T)) (hb:Below n w V) (v:Value) :
  ∃ V',(V.setCell ⟨n+1,1,none⟩ v)=V'∧V'.heap[n+1]?=some (.cells #[u0,v,u2,u3,u4,u5,u6,u7,u8] T)∧V'.heap[n]?=o∧Below n w V' :=
 ⟨_,rfl,(heap_setCell_same _ (n+1) 1 _ _ v hy).trans (by simp),(Below.heap_setCell V ⟨n+1,1,none⟩ v n (by simp)).trans hx,hb.setCell (p:=⟨n+1,1,none⟩) (by simp) v⟩
theorem st9_2 {n:Nat} {w V:World} {o:Option Obj} {T:TypeId} {u0 u1 u2 u3 u4 u5 u6 u7 u8:Value} (hx:V.heap[n]?=o) (hy:V.heap[n+1]?=some (.cells #[u0,u1,u2,u3,u4,u5,u6,u7,u8] T)) (hb:Below n w V) (v:Value) :
  ∃ V',(V.setCell ⟨n+1,2,none⟩ v)=V'∧V'.heap[n+1]?=some (.cells #[u0,u1,v,u3,u4,u5,u6,u7,u8] T)∧V'.heap[n]?=o∧Below n w V' :=
 ⟨_,rfl,(heap_setCell_same _ (n+1) 2 _ _ v hy).trans (by simp),(Below.heap_setCell V ⟨n+1,2,none⟩ v n (by simp)).trans hx,hb.setCell (p:=⟨n+1,2,none⟩) (by simp) v⟩
theorem st9_3 {n:Nat} {w V:World} {o:Option Obj} {T:TypeId} {u0 u1 u2 u3 u4 u5 u6 u7 u8:Value} (hx:V.heap[n]?=o) (hy:V.heap[n+1]?=some (.cells #[u0,u1,u2,u3,u4,u5,u6,u7,u8] T)) (hb:Below n w V) (v:Value) :
  ∃ V',(V.setCell ⟨n+1,3,none⟩ v)=V'∧V'.heap[n+1]?=some (.cells #[u0,u1,u2,v,u4,u5,u6,u7,u8] T)∧V'.heap[n]?=o∧Below n w V' :=
 ⟨_,rfl,(heap_setCell_same _ (n+1) 3 _ _ v hy).trans (by simp),(Below.heap_setCell V ⟨n+1,3,none⟩ v n (by simp)).trans hx,hb.setCell (p:=⟨n+1,3,none⟩) (by simp) v⟩
theorem st9_4 {n:Nat} {w V:World} {o:Option Obj} {T:TypeId} {u0 u1 u2 u3 u4 u5 u6 u7 u8:Value} (hx:V.heap[n]?=o) (hy:V.heap[n+1]?=some (.cells #[u0,u1,u2,u3,u4,u5,u6,u7,u8] T)) (hb:Below n w V) (v:Value) :
  ∃ V',(V.setCell ⟨n+1,4,none⟩ v)=V'∧V'.heap[n+1]?=some (.cells #[u0,u1,u2,u3,v,u5,u6,u7,u8] T)∧V'.heap[n]?=o∧Below n w V' :=
 ⟨_,rfl,(heap_setCell_same _ (n+1) 4 _ _ v hy).trans (by simp),(Below.heap_setCell V ⟨n+1,4,none⟩ v n (by simp)).trans hx,hb.setCell (p:=⟨n+1,4,none⟩) (by simp) v⟩
theorem st9_5 {n:Nat} {w V:World} {o:Option Obj} {T:TypeId} {u0 u1 u2 u3 u4 u5 u6 u7 u8:Value} (hx:V.heap[n]?=o) (hy:V.heap[n+1]?=some (.cells #[u0,u1,u2,u3,u4,u5,u6,u7,u8] T)) (hb:Below n w V) (v:Value) :
  ∃ V',(V.setCell ⟨n+1,5,none⟩ v)=V'∧V'.heap[n+1]?=some (.cells #[u0,u1,u2,u3,u4,v,u6,u7,u8] T)∧V'.heap[n]?=o∧Below n w V' :=
 ⟨_,rfl,(heap_setCell_same _ (n+1) 5 _ _ v hy).trans (by simp),(Below.heap_setCell V ⟨n+1,5,none⟩ v n (by simp)).trans hx,hb.setCell (p:=⟨n+1,5,none⟩) (by simp) v⟩
theorem st9_6 {n:Nat} {w V:World} {o:Option Obj} {T:TypeId} {u0 u1 u2 u3 u4 u5 u6 u7 u8:Value} (hx:V.heap[n]?=o) (hy:V.heap[n+1]?=some (.cells #[u0,u1,u2,u3,u4,u5,u6,u7,u8] T)) (hb:Below n w V) (v:Value) :
  ∃ V',(V.setCell ⟨n+1,6,none⟩ v)=V'∧V'.heap[n+1]?=some (.cells #[u0,u1,u2,u3,u4,u5,v,u7,u8] T)∧V'.heap[n]?=o∧Below n w V' :=
 ⟨_,rfl,(heap_setCell_same _ (n+1) 6 _ _ v hy).trans (by simp),(Below.heap_setCell V ⟨n+1,6,none⟩ v n (by simp)).trans hx,hb.setCell (p:=⟨n+1,6,none⟩) (by simp) v⟩
theorem st9_7 {n:Nat} {w V:World} {o:Option Obj} {T:TypeId} {u0 u1 u2 u3 u4 u5 u6 u7 u8:Value} (hx:V.heap[n]?=o) (hy:V.heap[n+1]?=some (.cells #[u0,u1,u2,u3,u4,u5,u6,u7,u8] T)) (hb:Below n w V) (v:Value) :
  ∃ V',(V.setCell ⟨n+1,7,none⟩ v)=V'∧V'.heap[n+1]?=some (.cells #[u0,u1,u2,u3,u4,u5,u6,v,u8] T)∧V'.heap[n]?=o∧Below n w V' :=
 ⟨_,rfl,(heap_setCell_same _ (n+1) 7 _ _ v hy).trans (by simp),(Below.heap_setCell V ⟨n+1,7,none⟩ v n (by simp)).trans hx,hb.setCell (p:=⟨n+1,7,none⟩) (by simp) v⟩
theorem st9_8 {n:Nat} {w V:World} {o:Option Obj} {T:TypeId} {u0 u1 u2 u3 u4 u5 u6 u7 u8:Value} (hx:V.heap[n]?=o) (hy:V.heap[n+1]?=some (.cells #[u0,u1,u2,u3,u4,u5,u6,u7,u8] T)) (hb:Below n w V) (v:Value) :
  ∃ V',(V.setCell ⟨n+1,8,none⟩ v)=V'∧V'.heap[n+1]?=some (.cells #[u0,u1,u2,u3,u4,u5,u6,u7,v] T)∧V'.heap[n]?=o∧Below n w V' :=
 ⟨_,rfl,(heap_setCell_same _ (n+1) 8 _ _ v hy).trans (by simp),(Below.heap_setCell V ⟨n+1,8,none⟩ v n (by simp)).trans hx,hb.setCell (p:=⟨n+1,8,none⟩) (by simp) v⟩
theorem st9_01 {n:Nat} {w V:World} {o:Option Obj} {T:TypeId} {u0 u1 u2 u3 u4 u5 u6 u7 u8:Value} (hx:V.heap[n]?=o) (hy:V.heap[n+1]?=some (.cells #[u0,u1,u2,u3,u4,u5,u6,u7,u8] T)) (hb:Below n w V) (v v2:Value) :
  ∃ V',((V.setCell ⟨n+1,0,none⟩ v).setCell ⟨n+1,1,none⟩ v2)=V'∧V'.heap[n+1]?=some (.cells #[v,v2,u2,u3,u4,u5,u6,u7,u8] T)∧V'.heap[n]?=o∧Below n w V':=by
 obtain ⟨A,rfl,y,x,b⟩:=st9_0 hx hy hb v;obtain ⟨B,rfl,y2,x2,b2⟩:=st9_1 x y b v2;exact ⟨_,rfl,y2,x2,b2⟩
theorem st9_67 {n:Nat} {w V:World} {o:Option Obj} {T:TypeId} {u0 u1 u2 u3 u4 u5 u6 u7 u8:Value} (hx:V.heap[n]?=o) (hy:V.heap[n+1]?=some (.cells #[u0,u1,u2,u3,u4,u5,u6,u7,u8] T)) (hb:Below n w V) (v v2:Value) :
  ∃ V',((V.setCell ⟨n+1,6,none⟩ v).setCell ⟨n+1,7,none⟩ v2)=V'∧V'.heap[n+1]?=some (.cells #[u0,u1,u2,u3,u4,u5,v,v2,u8] T)∧V'.heap[n]?=o∧Below n w V':=by
 obtain ⟨A,rfl,y,x,b⟩:=st9_6 hx hy hb v;obtain ⟨B,rfl,y2,x2,b2⟩:=st9_7 x y b v2;exact ⟨_,rfl,y2,x2,b2⟩
end Go.Proofs.YtijpfbcippijoaaGreatDoor
namespace Go.Proofs.YtijpfbcippijoaaGreatDoor
open Go.RowKit Go.Lib Sp
theorem ownError_any {o:OpV} {w:World} {a:Option Addr} {m cap:Nat} (h:Rng w a m cap o.l) (hs:o.s.size≤9223372036854775807) (hw:Bar w) :
  Calls Tryz.prog 52 #[opVal o (.slice a m cap)] w fun e w'=>e=.returned (.int .i64 (ownP o))∧Below w.heap.size w w':=by
 have HC:Hid (∀ (total:Int) (w':World),Below w.heap.size w w'→Calls Tryz.prog 18 #[opVal o (.slice a m cap),.int .i64 total] w' fun e w''=>e=.returned (.int .i64 (opCheck o total))∧Below w'.heap.size w' w''):=fun total w' hb=>opCheck_any (h.below hb) hs (hw.below hb)
 clear h hs hw;obtain ⟨c,n,k,p,s,l,tc,tn,on⟩:=o;have hw2:=(bE w.heap.size w).alloc (lR _) (Obj.cells #[.int .i64 c,.int .i64 n,.int .i64 k,.int .i64 p,.string s,.slice a m cap,.int .i64 tc,.int .i64 tn,.bool on] 44);obtain ⟨r,hr⟩:∃ r,ownP ⟨c,n,k,p,s,l,tc,tn,on⟩=r:=⟨_,rfl⟩;rw [hr];simp only [ownP] at hr;simp only [opVal] at *;by_cases hk:k=1
 ·subst hk;by_cases hp0:0≤p
  ·by_cases hp1:p≤1048576
   ·rw [if_pos ⟨rfl,hp0,hp1⟩] at hr;subst hr;go_enter Tryz.func52,Tryz.ntmps52;go_wp2_with fail;refine (HC.out _ _ hw2).mono ?_;rintro e w1 ⟨rfl,hb1⟩;have hB:=hw2.trans (hb1.mono hw2.size);clear hw2 hb1 HC;go_wp2_with fail;go_ret;exact ⟨rfl,hB⟩
   ·rw [if_neg (fun e=>hp1 e.2.2)] at hr;subst hr;go_enter Tryz.func52,Tryz.ntmps52;go_wp2_with fail;refine (HC.out _ _ hw2).mono ?_;rintro e w1 ⟨rfl,hb1⟩;have hB:=hw2.trans (hb1.mono hw2.size);clear hw2 hb1 HC;go_wp2_with fail;go_ret;exact ⟨rfl,hB⟩
  ·rw [if_neg (fun e=>hp0 e.2.1)] at hr;subst hr;go_enter Tryz.func52,Tryz.ntmps52;go_wp2_with fail;refine (HC.out _ _ hw2).mono ?_;rintro e w1 ⟨rfl,hb1⟩;have hB:=hw2.trans (hb1.mono hw2.size);clear hw2 hb1 HC;go_wp2_with fail;go_ret;exact ⟨rfl,hB⟩
 ·rw [if_neg (fun e=>hk e.1)] at hr;subst hr;have t1:(k==1)=false:=nB hk;clear hk;go_enter Tryz.func52,Tryz.ntmps52;go_wp2_with fail;refine (HC.out _ _ hw2).mono ?_;rintro e w1 ⟨rfl,hb1⟩;have hB:=hw2.trans (hb1.mono hw2.size);clear hw2 hb1 HC;go_wp2_with fail;go_ret;exact ⟨rfl,hB⟩
theorem width_any {o:OpV} {v:Value} {w:World} (hs:o.s.size≤9223372036854775807) (hw:Bar w) :
  Calls Tryz.prog 19 #[opVal o v] w fun e w'=>e=.returned (.int .i64 (widthP o))∧Below w.heap.size w w':=by
 obtain ⟨c,n,k,p,s,l,tc,tn,on⟩:=o;have hw2:=(bE w.heap.size w).alloc (lR _) (Obj.cells #[.int .i64 c,.int .i64 n,.int .i64 k,.int .i64 p,.string s,v,.int .i64 tc,.int .i64 tn,.bool on] 44);obtain ⟨x,y,z,hc⟩:∃ x y z,check s=(x,y,z):=⟨_,_,_,rfl⟩;have HC:Hid (∀ (w':World),Below w.heap.size w w'→Calls Tryz.prog 51 #[.string s] w' fun e w''=>e=.returned (.tuple #[.int .i64 x,.int .i64 y,.int .i64 z])∧Below w'.heap.size w' w''):=fun w' hb=>check_bar hs hc _ (hw.below hb)
 obtain ⟨r,hr⟩:∃ r,widthP ⟨c,n,k,p,s,l,tc,tn,on⟩=r:=⟨_,rfl⟩;rw [hr];simp only [widthP,hc] at hr;clear hc hs hw;simp only [opVal] at *;by_cases hk:k=1
 ·subst hk;rw [if_pos rfl] at hr;subst hr;go_enter Tryz.func19,Tryz.ntmps19;go_wp2_with fail;refine (HC.out _ hw2).mono ?_;rintro e w1 ⟨rfl,hb1⟩;have hB:=hw2.trans (hb1.mono hw2.size);clear hw2 hb1 HC;go_wp2_with fail;go_ret;exact ⟨rfl,hB⟩
 ·rw [if_neg hk] at hr;subst hr;have t1:(k==1)=false:=nB hk;clear hk;go_enter Tryz.func19,Tryz.ntmps19;go_wp2_with fail;go_ret;exact ⟨rfl,hw2⟩
end Go.Proofs.YtijpfbcippijoaaGreatDoor
