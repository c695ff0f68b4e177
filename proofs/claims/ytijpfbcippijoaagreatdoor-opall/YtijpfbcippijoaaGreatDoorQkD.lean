import Derived.Test.YtijpfbcippijoaaGreatDoorGr124
import Derived.Test.YtijpfbcippijoaaGreatDoorGr140
namespace Go.Proofs.YtijpfbcippijoaaGreatDoor
open Go.RowKit Go.Lib Sp
set_option maxRecDepth 100000
theorem ownX {w:World} {B:Nat} {v:Value} {l:List (Int×Int)} (h:OwnF rngV 2 76 w B v l) {b:Nat} {cs:Array Value} (hb:w.heap[b]?=some (.cells cs 44)) (i:Nat) (u:Value):OwnF rngV 2 76 (w.setCell ⟨b,i,none⟩ u) B v l:=by
 refine ⟨h.1,?_⟩
 rcases h.2 with h1|⟨g,cap,cur,e,hB,hh,rest⟩
 ·exact .inl h1
 ·refine .inr ⟨g,cap,cur,e,hB,?_,rest⟩
  have hne:g≠b:=fun e=>by subst e;rw [hh] at hb;simp at hb
  exact (Below.heap_setCell _ _ _ _ (by simp only;exact hne)).trans hh
set_option maxHeartbeats 4000000 in
theorem gInverse_wrong {c n k p:Int} {s:ByteArray} {l:List (Int×Int)} {tc tn:Int} {on:Bool} {w:World} {a:Option Addr} {m cap:Nat} (h:Rng w a m cap l) (hm:m≤1000000000) (hs:s.size≤2097152) (hok:ownP ⟨c,n,k,p,s,l,tc,tn,on⟩≠0) :
  Calls Tryz.prog 42 #[opVal ⟨c,n,k,p,s,l,tc,tn,on⟩ (.slice a m cap)] w fun e w'=>e=.returned (.tuple #[opVal zeroOp (.slice none 0 0),.int .i64 (ownP ⟨c,n,k,p,s,l,tc,tn,on⟩)])∧Below w.heap.size w w':=by
 obtain ⟨C,hC⟩:∃ C,ownP ⟨c,n,k,p,s,l,tc,tn,on⟩=C:=⟨_,rfl⟩
 have HO:Hid (∀ w':World,Below w.heap.size w w'→Calls Tryz.prog 73 #[opVal ⟨c,n,k,p,s,l,tc,tn,on⟩ (.slice a m cap)] w' fun e w''=>e=.returned (.int .i64 C)∧Below w'.heap.size w' w''):=fun w' hb=>by rw [← hC];exact gOwn_any (o:=⟨c,n,k,p,s,l,tc,tn,on⟩) (h.below hb) hs
 rw [hC] at hok ⊢
 clear hC
 have _hm:=hm
 clear h hs hm _hm
 simp only [opVal,zeroOp] at *
 obtain ⟨W1,hW1⟩:∃ W1,(w.alloc (Obj.cells #[.int .i64 c,.int .i64 n,.int .i64 k,.int .i64 p,.string s,.slice a m cap,.int .i64 tc,.int .i64 tn,.bool on] 44)).alloc (Obj.cells #[.int .i64 0,.int .i64 0,.int .i64 0,.int .i64 0,.string ⟨#[]⟩,.slice none 0 0,.int .i64 0,.int .i64 0,.bool false] 44)=W1:=⟨_,rfl⟩
 have hX:Below w.heap.size w W1:=by rw [← hW1];exact ((Below.refl w.heap.size w).alloc (Nat.le_refl _) _).alloc (by simp) _
 have hx0:W1.heap[w.heap.size]?=some (Obj.cells #[.int .i64 c,.int .i64 n,.int .i64 k,.int .i64 p,.string s,.slice a m cap,.int .i64 tc,.int .i64 tn,.bool on] 44):=by rw [← hW1];exact (Below.heap_alloc _ _ _ (by simp)).trans (alloc_last _ _ _ rfl)
 have hz0:W1.heap[w.heap.size+1]?=some (Obj.cells #[.int .i64 0,.int .i64 0,.int .i64 0,.int .i64 0,.string ⟨#[]⟩,.slice none 0 0,.int .i64 0,.int .i64 0,.bool false] 44):=by rw [← hW1];exact alloc_last _ _ _ (by simp)
 obtain ⟨y0,y1,y2,y3,y4,y5,y6,y7,y8⟩:=bx9 hx0
 go_enter Tryz.func42,Tryz.ntmps42
 go_wp2_with fail
 (try simp only [hW1])
 (try go_wp2_with fail)
 refine (HO.out _ hX).mono ?_
 rintro e w1 ⟨rfl,hb1⟩
 have hB1:=hX.trans (hb1.mono hX.size)
 have hx1:=(hb1.block _ (Array.getElem?_eq_some_iff.1 hx0).1).trans hx0
 have hz1:=(hb1.block _ (Array.getElem?_eq_some_iff.1 hz0).1).trans hz0
 have hlt1:=(Array.getElem?_eq_some_iff.1 hz1).1
 clear y0 y1 y2 y3 y4 y5 y6 y7 y8 hb1 hx0 hz0 hX hW1 HO
 have t1:(C==0)=false:=beq_eq_false_iff_ne.2 hok
 clear hok
 obtain ⟨d0,d1,d2,d3,d4,d5,d6,d7,d8⟩:=bx9 hz1
 obtain ⟨dz0,dz1,dz2,dz3,dz4,dz5,dz6,dz7,dz8⟩:=fz9 hz1
 have hx9:=set9g (v0:=(.int .i64 0)) (v1:=(.int .i64 0)) (v2:=(.int .i64 0)) (v3:=(.int .i64 0)) (v4:=(.string ⟨#[]⟩)) (v5:=(.slice none 0 0)) (v6:=(.int .i64 0)) (v7:=(.int .i64 0)) (v8:=(.bool false)) hz1
 have hq8:=q9 hB1 (b:=w.heap.size+1) (by omega) (.int .i64 0) (.int .i64 0) (.int .i64 0) (.int .i64 0) (.string ⟨#[]⟩) (.slice none 0 0) (.int .i64 0) (.int .i64 0) (.bool false)
 obtain ⟨w9,hw9⟩:=exW hx9
 rw [hw9] at hx9 hq8
 obtain ⟨r0,r1,r2,r3,r4,r5,r6,r7,r8⟩:=bx9 hx9
 have HQ:Hid (Below w.heap.size w w9):=hq8
 clear hq8
 go_wp2_with fail
 (try simp only [hw9])
 (try go_wp2_with fail)
 refine bodyPost_ret (v:=.tuple #[.agg #[.int .i64 0,.int .i64 0,.int .i64 0,.int .i64 0,.string ⟨#[]⟩,.slice none 0 0,.int .i64 0,.int .i64 0,.bool false],.int .i64 C]) (by simp [results,Tryz.results42,go_sem,r0,r1,r2,r3,r4,r5,r6,r7,r8]) rfl ?_
 exact ⟨rfl,HQ.out⟩
set_option maxHeartbeats 4000000 in
theorem gInverse_1 {c n p:Int} {s:ByteArray} {l:List (Int×Int)} {tc tn:Int} {on:Bool} {w:World} {a:Option Addr} {m cap:Nat} (h:Rng w a m cap l) (hm:m≤1000000000) (hs:s.size≤2097152) (hok:ownP ⟨c,n,1,p,s,l,tc,tn,on⟩=0) :
  Calls Tryz.prog 42 #[opVal ⟨c,n,1,p,s,l,tc,tn,on⟩ (.slice a m cap)] w fun e w'=>∃ a' m' cap',e=.returned (.tuple #[opVal ⟨0,0,2,0,⟨#[]⟩,coveredP ⟨c,n,1,p,s,l,tc,tn,on⟩,0,0,false⟩ (.slice a' m' cap'),.int .i64 0])∧OwnF rngV 2 76 w' (w.heap.size+2) (.slice a' m' cap') (coveredP ⟨c,n,1,p,s,l,tc,tn,on⟩)∧Below w.heap.size w w':=by
 have HO:Hid (∀ w':World,Below w.heap.size w w'→Calls Tryz.prog 73 #[opVal ⟨c,n,1,p,s,l,tc,tn,on⟩ (.slice a m cap)] w' fun e w''=>e=.returned (.int .i64 0)∧Below w'.heap.size w' w''):=fun w' hb=>by rw [← hok];exact gOwn_any (o:=⟨c,n,1,p,s,l,tc,tn,on⟩) (h.below hb) hs
 have hcv:coversV ⟨c,n,1,p,s,l,tc,tn,on⟩=coveredP ⟨c,n,1,p,s,l,tc,tn,on⟩:=by unfold coversV;rw [if_pos hok]
 have HV:Hid (∀ w':World,Below w.heap.size w w'→Calls Tryz.prog 37 #[opVal ⟨c,n,1,p,s,l,tc,tn,on⟩ (.slice a m cap)] w' fun e w''=>∃ v,e=.returned v∧OwnF rngV 2 76 w'' w'.heap.size v (coveredP ⟨c,n,1,p,s,l,tc,tn,on⟩)∧Below w'.heap.size w' w''):=fun w' hb=>by rw [← hcv];exact gCovers_any (o:=⟨c,n,1,p,s,l,tc,tn,on⟩) (h.below hb) hm hs
 generalize coveredP ⟨c,n,1,p,s,l,tc,tn,on⟩=CV at *
 clear hcv
 clear hok
 have _hm:=hm
 clear h hs hm _hm
 simp only [opVal] at *
 obtain ⟨W1,hW1⟩:∃ W1,(w.alloc (Obj.cells #[.int .i64 c,.int .i64 n,.int .i64 1,.int .i64 p,.string s,.slice a m cap,.int .i64 tc,.int .i64 tn,.bool on] 44)).alloc (Obj.cells #[.int .i64 0,.int .i64 0,.int .i64 0,.int .i64 0,.string ⟨#[]⟩,.slice none 0 0,.int .i64 0,.int .i64 0,.bool false] 44)=W1:=⟨_,rfl⟩
 have hX:Below w.heap.size w W1:=by rw [← hW1];exact ((Below.refl w.heap.size w).alloc (Nat.le_refl _) _).alloc (by simp) _
 have hx0:W1.heap[w.heap.size]?=some (Obj.cells #[.int .i64 c,.int .i64 n,.int .i64 1,.int .i64 p,.string s,.slice a m cap,.int .i64 tc,.int .i64 tn,.bool on] 44):=by rw [← hW1];exact (Below.heap_alloc _ _ _ (by simp)).trans (alloc_last _ _ _ rfl)
 have hz0:W1.heap[w.heap.size+1]?=some (Obj.cells #[.int .i64 0,.int .i64 0,.int .i64 0,.int .i64 0,.string ⟨#[]⟩,.slice none 0 0,.int .i64 0,.int .i64 0,.bool false] 44):=by rw [← hW1];exact alloc_last _ _ _ (by simp)
 obtain ⟨y0,y1,y2,y3,y4,y5,y6,y7,y8⟩:=bx9 hx0
 go_enter Tryz.func42,Tryz.ntmps42
 go_wp2_with fail
 (try simp only [hW1])
 (try go_wp2_with fail)
 refine (HO.out _ hX).mono ?_
 rintro e w1 ⟨rfl,hb1⟩
 have hB1:=hX.trans (hb1.mono hX.size)
 have hx1:=(hb1.block _ (Array.getElem?_eq_some_iff.1 hx0).1).trans hx0
 have hz1:=(hb1.block _ (Array.getElem?_eq_some_iff.1 hz0).1).trans hz0
 have hlt1:=(Array.getElem?_eq_some_iff.1 hz1).1
 clear y0 y1 y2 y3 y4 y5 y6 y7 y8 hb1 hx0 hz0 hX hW1 HO
 obtain ⟨y0,y1,y2,y3,y4,y5,y6,y7,y8⟩:=bx9 hx1
 obtain ⟨A1,hA1⟩:∃ A1,w1.alloc (Obj.cells #[.int .i64 0,.int .i64 0,.int .i64 0,.int .i64 0,.string ⟨#[]⟩,.slice none 0 0,.int .i64 0,.int .i64 0,.bool false] 44)=A1:=⟨_,rfl⟩
 have hbA:Below w1.heap.size w1 A1:=hA1▸(Below.refl w1.heap.size w1).alloc (Nat.le_refl _) _
 have hxA:A1.heap[w1.heap.size]?=some (Obj.cells #[.int .i64 0,.int .i64 0,.int .i64 0,.int .i64 0,.string ⟨#[]⟩,.slice none 0 0,.int .i64 0,.int .i64 0,.bool false] 44):=hA1▸alloc_last _ _ _ rfl
 obtain ⟨xb,hxb⟩:∃ xb,w1.heap.size=xb:=⟨_,rfl⟩
 rw [hxb] at hxA
 have hxbl:w.heap.size+1<xb:=by rw [← hxb];exact hlt1
 obtain ⟨u0,u1,u2,u3,u4,u5,u6,u7,u8⟩:=bx9 hxA
 have zfA2:A1.frozen? ⟨xb,2,none⟩=false:=Lib.frozen_of_heap hxA 2
 obtain ⟨A2,hA2⟩:∃ X,A1.setCell ⟨xb,2,none⟩ (.int .i64 2)=X:=⟨_,rfl⟩
 have hx2:A2.heap[xb]?=some (Obj.cells #[.int .i64 0,.int .i64 0,.int .i64 2,.int .i64 0,.string ⟨#[]⟩,.slice none 0 0,.int .i64 0,.int .i64 0,.bool false] 44):=by rw [← hA2];exact (heap_setCell_same _ xb 2 _ _ (.int .i64 2) hxA).trans (by first|(simp;done)|(simp;rfl))
 have hCA2:∀ g,g≠xb→A2.heap[g]?=A1.heap[g]?:=fun g hg=>by rw [← hA2];exact Below.heap_setCell _ _ _ _ (by simp only;exact hg)
 have hSA2:A2.heap.size=A1.heap.size:=by rw [← hA2];simp
 have hBA1:Below w.heap.size w A1:=hB1.trans (hbA.mono hB1.size)
 have hB2:Below w.heap.size w A2:=by rw [← hA2];exact hBA1.setCell (p:=⟨xb,2,none⟩) (by simp only;omega) _
 have hzA:=(hbA.block _ hlt1).trans hz1
 have hoA:=(hbA.block _ (by omega)).trans hx1
 obtain ⟨q0,q1,q2,q3,q4,q5,q6,q7,q8⟩:=bx9 hoA
 have hz2:=(hCA2 (w.heap.size+1) (by omega)).trans hzA
 have ho2:=(hCA2 w.heap.size (by omega)).trans hoA
 have T:=HV.out A2 hB2
 have HK:Hid (∀ w2,Below A2.heap.size A2 w2→w2.heap[xb]?=some (Obj.cells #[.int .i64 0,.int .i64 0,.int .i64 2,.int .i64 0,.string ⟨#[]⟩,.slice none 0 0,.int .i64 0,.int .i64 0,.bool false] 44)∧w2.heap[w.heap.size+1]?=some (Obj.cells #[.int .i64 0,.int .i64 0,.int .i64 0,.int .i64 0,.string ⟨#[]⟩,.slice none 0 0,.int .i64 0,.int .i64 0,.bool false] 44)∧Below w.heap.size w w2∧w.heap.size+2≤A2.heap.size):=fun w2 hb=>⟨(hb.block _ (Array.getElem?_eq_some_iff.1 hx2).1).trans hx2,(hb.block _ (Array.getElem?_eq_some_iff.1 hz2).1).trans hz2,hB2.trans (hb.mono hB2.size),by have:=(Array.getElem?_eq_some_iff.1 hx2).1;omega⟩
 obtain ⟨o0,o1,o2,o3,o4,o5,o6,o7,o8⟩:=bx9 ho2
 clear HV hB1 hx1 hz1 hzA hoA hBA1 hbA hx2 hz2 ho2 hB2 hxA hCA2
 go_wp2_with fail
 (try simp only [hxb])
 (try simp only [hA2])
 (try go_wp2_with fail)
 refine T.mono ?_
 rintro e w2 ⟨v,rfl,hown,hb2⟩
 obtain ⟨va,vc,rfl⟩:=hown.shape
 obtain ⟨hx3,hz3,hB3,hsz3⟩:=HK.out w2 hb2
 clear T HK hb2 y0 y1 y2 y3 y4 y5 y6 y7 y8 o0 o1 o2 o3 o4 o5 o6 o7 o8 q0 q1 q2 q3 q4 q5 q6 q7 q8 u0 u1 u2 u3 u4 u5 u6 u7 u8 zfA2 hSA2 hA2 hA1 hxb
 obtain ⟨u0,u1,u2,u3,u4,u5,u6,u7,u8⟩:=bx9 hx3
 have zfA3:w2.frozen? ⟨xb,5,none⟩=false:=Lib.frozen_of_heap hx3 5
 obtain ⟨A3,hA3⟩:∃ X,w2.setCell ⟨xb,5,none⟩ (.slice va CV.length vc)=X:=⟨_,rfl⟩
 have hx4:A3.heap[xb]?=some (Obj.cells #[.int .i64 0,.int .i64 0,.int .i64 2,.int .i64 0,.string ⟨#[]⟩,.slice va CV.length vc,.int .i64 0,.int .i64 0,.bool false] 44):=by rw [← hA3];exact (heap_setCell_same _ xb 5 _ _ (.slice va CV.length vc) hx3).trans (by first|(simp;done)|(simp;rfl))
 have hCA3:∀ g,g≠xb→A3.heap[g]?=w2.heap[g]?:=fun g hg=>by rw [← hA3];exact Below.heap_setCell _ _ _ _ (by simp only;exact hg)
 have hSA3:A3.heap.size=w2.heap.size:=by rw [← hA3];simp
 have hB4:Below w.heap.size w A3:=by rw [← hA3];exact hB3.setCell (p:=⟨xb,5,none⟩) (by simp only;omega) _
 have hz4:=(hCA3 (w.heap.size+1) (by omega)).trans hz3
 have HOw:Hid (OwnF rngV 2 76 A3 (w.heap.size+2) (.slice va CV.length vc) CV):=by
  show OwnF _ _ _ _ _ _ _
  rw [← hA3]
  refine ownX (hown.mono hsz3) hx3 _ _
 clear hown hB3 hz3 hx3
 obtain ⟨x0,x1,x2,x3,x4,x5,x6,x7,x8⟩:=bx9 hx4
 obtain ⟨d0,d1,d2,d3,d4,d5,d6,d7,d8⟩:=bx9 hz4
 obtain ⟨dz0,dz1,dz2,dz3,dz4,dz5,dz6,dz7,dz8⟩:=fz9 hz4
 have hx9:=set9g (v0:=(.int .i64 0)) (v1:=(.int .i64 0)) (v2:=(.int .i64 2)) (v3:=(.int .i64 0)) (v4:=(.string ⟨#[]⟩)) (v5:=(.slice va CV.length vc)) (v6:=(.int .i64 0)) (v7:=(.int .i64 0)) (v8:=(.bool false)) hz4
 have hq8:=q9 hB4 (b:=w.heap.size+1) (by omega) (.int .i64 0) (.int .i64 0) (.int .i64 2) (.int .i64 0) (.string ⟨#[]⟩) (.slice va CV.length vc) (.int .i64 0) (.int .i64 0) (.bool false)
 obtain ⟨w9,hw9⟩:=exW hx9
 have HO9:Hid (OwnF rngV 2 76 w9 (w.heap.size+2) (.slice va CV.length vc) CV):=by
  show OwnF _ _ _ _ _ _ _
  rw [← hw9]
  refine own_set ?_ _ _ _ (by omega)
  refine own_set ?_ _ _ _ (by omega)
  refine own_set ?_ _ _ _ (by omega)
  refine own_set ?_ _ _ _ (by omega)
  refine own_set ?_ _ _ _ (by omega)
  refine own_set ?_ _ _ _ (by omega)
  refine own_set ?_ _ _ _ (by omega)
  refine own_set ?_ _ _ _ (by omega)
  refine own_set ?_ _ _ _ (by omega)
  exact HOw.out
 rw [hw9] at hx9 hq8
 obtain ⟨r0,r1,r2,r3,r4,r5,r6,r7,r8⟩:=bx9 hx9
 have HQ:Hid (Below w.heap.size w w9):=hq8
 clear hq8
 go_wp2_with fail
 (try simp only [hw9])
 (try go_wp2_with fail)
 refine bodyPost_ret (v:=.tuple #[.agg #[.int .i64 0,.int .i64 0,.int .i64 2,.int .i64 0,.string ⟨#[]⟩,.slice va CV.length vc,.int .i64 0,.int .i64 0,.bool false],.int .i64 0]) (by simp [results,Tryz.results42,go_sem,r0,r1,r2,r3,r4,r5,r6,r7,r8]) rfl ?_
 exact ⟨va,CV.length,vc,rfl,HO9.out,HQ.out⟩
set_option maxHeartbeats 4000000 in
theorem gInverse_2 {c n p:Int} {s:ByteArray} {l:List (Int×Int)} {tc tn:Int} {on:Bool} {w:World} {a:Option Addr} {m cap:Nat} (h:Rng w a m cap l) (hm:m≤1000000000) (hs:s.size≤2097152) (hok:ownP ⟨c,n,2,p,s,l,tc,tn,on⟩=0) :
  Calls Tryz.prog 42 #[opVal ⟨c,n,2,p,s,l,tc,tn,on⟩ (.slice a m cap)] w fun e w'=>∃ a' m' cap',e=.returned (.tuple #[opVal ⟨0,0,3,0,⟨#[]⟩,coveredP ⟨c,n,2,p,s,l,tc,tn,on⟩,0,0,false⟩ (.slice a' m' cap'),.int .i64 0])∧OwnF rngV 2 76 w' (w.heap.size+2) (.slice a' m' cap') (coveredP ⟨c,n,2,p,s,l,tc,tn,on⟩)∧Below w.heap.size w w':=by
 have HO:Hid (∀ w':World,Below w.heap.size w w'→Calls Tryz.prog 73 #[opVal ⟨c,n,2,p,s,l,tc,tn,on⟩ (.slice a m cap)] w' fun e w''=>e=.returned (.int .i64 0)∧Below w'.heap.size w' w''):=fun w' hb=>by rw [← hok];exact gOwn_any (o:=⟨c,n,2,p,s,l,tc,tn,on⟩) (h.below hb) hs
 have hcv:coversV ⟨c,n,2,p,s,l,tc,tn,on⟩=coveredP ⟨c,n,2,p,s,l,tc,tn,on⟩:=by unfold coversV;rw [if_pos hok]
 have HV:Hid (∀ w':World,Below w.heap.size w w'→Calls Tryz.prog 37 #[opVal ⟨c,n,2,p,s,l,tc,tn,on⟩ (.slice a m cap)] w' fun e w''=>∃ v,e=.returned v∧OwnF rngV 2 76 w'' w'.heap.size v (coveredP ⟨c,n,2,p,s,l,tc,tn,on⟩)∧Below w'.heap.size w' w''):=fun w' hb=>by rw [← hcv];exact gCovers_any (o:=⟨c,n,2,p,s,l,tc,tn,on⟩) (h.below hb) hm hs
 generalize coveredP ⟨c,n,2,p,s,l,tc,tn,on⟩=CV at *
 clear hcv
 clear hok
 have _hm:=hm
 clear h hs hm _hm
 simp only [opVal] at *
 obtain ⟨W1,hW1⟩:∃ W1,(w.alloc (Obj.cells #[.int .i64 c,.int .i64 n,.int .i64 2,.int .i64 p,.string s,.slice a m cap,.int .i64 tc,.int .i64 tn,.bool on] 44)).alloc (Obj.cells #[.int .i64 0,.int .i64 0,.int .i64 0,.int .i64 0,.string ⟨#[]⟩,.slice none 0 0,.int .i64 0,.int .i64 0,.bool false] 44)=W1:=⟨_,rfl⟩
 have hX:Below w.heap.size w W1:=by rw [← hW1];exact ((Below.refl w.heap.size w).alloc (Nat.le_refl _) _).alloc (by simp) _
 have hx0:W1.heap[w.heap.size]?=some (Obj.cells #[.int .i64 c,.int .i64 n,.int .i64 2,.int .i64 p,.string s,.slice a m cap,.int .i64 tc,.int .i64 tn,.bool on] 44):=by rw [← hW1];exact (Below.heap_alloc _ _ _ (by simp)).trans (alloc_last _ _ _ rfl)
 have hz0:W1.heap[w.heap.size+1]?=some (Obj.cells #[.int .i64 0,.int .i64 0,.int .i64 0,.int .i64 0,.string ⟨#[]⟩,.slice none 0 0,.int .i64 0,.int .i64 0,.bool false] 44):=by rw [← hW1];exact alloc_last _ _ _ (by simp)
 obtain ⟨y0,y1,y2,y3,y4,y5,y6,y7,y8⟩:=bx9 hx0
 go_enter Tryz.func42,Tryz.ntmps42
 go_wp2_with fail
 (try simp only [hW1])
 (try go_wp2_with fail)
 refine (HO.out _ hX).mono ?_
 rintro e w1 ⟨rfl,hb1⟩
 have hB1:=hX.trans (hb1.mono hX.size)
 have hx1:=(hb1.block _ (Array.getElem?_eq_some_iff.1 hx0).1).trans hx0
 have hz1:=(hb1.block _ (Array.getElem?_eq_some_iff.1 hz0).1).trans hz0
 have hlt1:=(Array.getElem?_eq_some_iff.1 hz1).1
 clear y0 y1 y2 y3 y4 y5 y6 y7 y8 hb1 hx0 hz0 hX hW1 HO
 obtain ⟨y0,y1,y2,y3,y4,y5,y6,y7,y8⟩:=bx9 hx1
 obtain ⟨A1,hA1⟩:∃ A1,w1.alloc (Obj.cells #[.int .i64 0,.int .i64 0,.int .i64 0,.int .i64 0,.string ⟨#[]⟩,.slice none 0 0,.int .i64 0,.int .i64 0,.bool false] 44)=A1:=⟨_,rfl⟩
 have hbA:Below w1.heap.size w1 A1:=hA1▸(Below.refl w1.heap.size w1).alloc (Nat.le_refl _) _
 have hxA:A1.heap[w1.heap.size]?=some (Obj.cells #[.int .i64 0,.int .i64 0,.int .i64 0,.int .i64 0,.string ⟨#[]⟩,.slice none 0 0,.int .i64 0,.int .i64 0,.bool false] 44):=hA1▸alloc_last _ _ _ rfl
 obtain ⟨xb,hxb⟩:∃ xb,w1.heap.size=xb:=⟨_,rfl⟩
 rw [hxb] at hxA
 have hxbl:w.heap.size+1<xb:=by rw [← hxb];exact hlt1
 obtain ⟨u0,u1,u2,u3,u4,u5,u6,u7,u8⟩:=bx9 hxA
 have zfA2:A1.frozen? ⟨xb,2,none⟩=false:=Lib.frozen_of_heap hxA 2
 obtain ⟨A2,hA2⟩:∃ X,A1.setCell ⟨xb,2,none⟩ (.int .i64 3)=X:=⟨_,rfl⟩
 have hx2:A2.heap[xb]?=some (Obj.cells #[.int .i64 0,.int .i64 0,.int .i64 3,.int .i64 0,.string ⟨#[]⟩,.slice none 0 0,.int .i64 0,.int .i64 0,.bool false] 44):=by rw [← hA2];exact (heap_setCell_same _ xb 2 _ _ (.int .i64 3) hxA).trans (by first|(simp;done)|(simp;rfl))
 have hCA2:∀ g,g≠xb→A2.heap[g]?=A1.heap[g]?:=fun g hg=>by rw [← hA2];exact Below.heap_setCell _ _ _ _ (by simp only;exact hg)
 have hSA2:A2.heap.size=A1.heap.size:=by rw [← hA2];simp
 have hBA1:Below w.heap.size w A1:=hB1.trans (hbA.mono hB1.size)
 have hB2:Below w.heap.size w A2:=by rw [← hA2];exact hBA1.setCell (p:=⟨xb,2,none⟩) (by simp only;omega) _
 have hzA:=(hbA.block _ hlt1).trans hz1
 have hoA:=(hbA.block _ (by omega)).trans hx1
 obtain ⟨q0,q1,q2,q3,q4,q5,q6,q7,q8⟩:=bx9 hoA
 have hz2:=(hCA2 (w.heap.size+1) (by omega)).trans hzA
 have ho2:=(hCA2 w.heap.size (by omega)).trans hoA
 have T:=HV.out A2 hB2
 have HK:Hid (∀ w2,Below A2.heap.size A2 w2→w2.heap[xb]?=some (Obj.cells #[.int .i64 0,.int .i64 0,.int .i64 3,.int .i64 0,.string ⟨#[]⟩,.slice none 0 0,.int .i64 0,.int .i64 0,.bool false] 44)∧w2.heap[w.heap.size+1]?=some (Obj.cells #[.int .i64 0,.int .i64 0,.int .i64 0,.int .i64 0,.string ⟨#[]⟩,.slice none 0 0,.int .i64 0,.int .i64 0,.bool false] 44)∧Below w.heap.size w w2∧w.heap.size+2≤A2.heap.size):=fun w2 hb=>⟨(hb.block _ (Array.getElem?_eq_some_iff.1 hx2).1).trans hx2,(hb.block _ (Array.getElem?_eq_some_iff.1 hz2).1).trans hz2,hB2.trans (hb.mono hB2.size),by have:=(Array.getElem?_eq_some_iff.1 hx2).1;omega⟩
 obtain ⟨o0,o1,o2,o3,o4,o5,o6,o7,o8⟩:=bx9 ho2
 clear HV hB1 hx1 hz1 hzA hoA hBA1 hbA hx2 hz2 ho2 hB2 hxA hCA2
 go_wp2_with fail
 (try simp only [hxb])
 (try simp only [hA2])
 (try go_wp2_with fail)
 refine T.mono ?_
 rintro e w2 ⟨v,rfl,hown,hb2⟩
 obtain ⟨va,vc,rfl⟩:=hown.shape
 obtain ⟨hx3,hz3,hB3,hsz3⟩:=HK.out w2 hb2
 clear T HK hb2 y0 y1 y2 y3 y4 y5 y6 y7 y8 o0 o1 o2 o3 o4 o5 o6 o7 o8 q0 q1 q2 q3 q4 q5 q6 q7 q8 u0 u1 u2 u3 u4 u5 u6 u7 u8 zfA2 hSA2 hA2 hA1 hxb
 obtain ⟨u0,u1,u2,u3,u4,u5,u6,u7,u8⟩:=bx9 hx3
 have zfA3:w2.frozen? ⟨xb,5,none⟩=false:=Lib.frozen_of_heap hx3 5
 obtain ⟨A3,hA3⟩:∃ X,w2.setCell ⟨xb,5,none⟩ (.slice va CV.length vc)=X:=⟨_,rfl⟩
 have hx4:A3.heap[xb]?=some (Obj.cells #[.int .i64 0,.int .i64 0,.int .i64 3,.int .i64 0,.string ⟨#[]⟩,.slice va CV.length vc,.int .i64 0,.int .i64 0,.bool false] 44):=by rw [← hA3];exact (heap_setCell_same _ xb 5 _ _ (.slice va CV.length vc) hx3).trans (by first|(simp;done)|(simp;rfl))
 have hCA3:∀ g,g≠xb→A3.heap[g]?=w2.heap[g]?:=fun g hg=>by rw [← hA3];exact Below.heap_setCell _ _ _ _ (by simp only;exact hg)
 have hSA3:A3.heap.size=w2.heap.size:=by rw [← hA3];simp
 have hB4:Below w.heap.size w A3:=by rw [← hA3];exact hB3.setCell (p:=⟨xb,5,none⟩) (by simp only;omega) _
 have hz4:=(hCA3 (w.heap.size+1) (by omega)).trans hz3
 have HOw:Hid (OwnF rngV 2 76 A3 (w.heap.size+2) (.slice va CV.length vc) CV):=by
  show OwnF _ _ _ _ _ _ _
  rw [← hA3]
  refine ownX (hown.mono hsz3) hx3 _ _
 clear hown hB3 hz3 hx3
 obtain ⟨x0,x1,x2,x3,x4,x5,x6,x7,x8⟩:=bx9 hx4
 obtain ⟨d0,d1,d2,d3,d4,d5,d6,d7,d8⟩:=bx9 hz4
 obtain ⟨dz0,dz1,dz2,dz3,dz4,dz5,dz6,dz7,dz8⟩:=fz9 hz4
 have hx9:=set9g (v0:=(.int .i64 0)) (v1:=(.int .i64 0)) (v2:=(.int .i64 3)) (v3:=(.int .i64 0)) (v4:=(.string ⟨#[]⟩)) (v5:=(.slice va CV.length vc)) (v6:=(.int .i64 0)) (v7:=(.int .i64 0)) (v8:=(.bool false)) hz4
 have hq8:=q9 hB4 (b:=w.heap.size+1) (by omega) (.int .i64 0) (.int .i64 0) (.int .i64 3) (.int .i64 0) (.string ⟨#[]⟩) (.slice va CV.length vc) (.int .i64 0) (.int .i64 0) (.bool false)
 obtain ⟨w9,hw9⟩:=exW hx9
 have HO9:Hid (OwnF rngV 2 76 w9 (w.heap.size+2) (.slice va CV.length vc) CV):=by
  show OwnF _ _ _ _ _ _ _
  rw [← hw9]
  refine own_set ?_ _ _ _ (by omega)
  refine own_set ?_ _ _ _ (by omega)
  refine own_set ?_ _ _ _ (by omega)
  refine own_set ?_ _ _ _ (by omega)
  refine own_set ?_ _ _ _ (by omega)
  refine own_set ?_ _ _ _ (by omega)
  refine own_set ?_ _ _ _ (by omega)
  refine own_set ?_ _ _ _ (by omega)
  refine own_set ?_ _ _ _ (by omega)
  exact HOw.out
 rw [hw9] at hx9 hq8
 obtain ⟨r0,r1,r2,r3,r4,r5,r6,r7,r8⟩:=bx9 hx9
 have HQ:Hid (Below w.heap.size w w9):=hq8
 clear hq8
 go_wp2_with fail
 (try simp only [hw9])
 (try go_wp2_with fail)
 refine bodyPost_ret (v:=.tuple #[.agg #[.int .i64 0,.int .i64 0,.int .i64 3,.int .i64 0,.string ⟨#[]⟩,.slice va CV.length vc,.int .i64 0,.int .i64 0,.bool false],.int .i64 0]) (by simp [results,Tryz.results42,go_sem,r0,r1,r2,r3,r4,r5,r6,r7,r8]) rfl ?_
 exact ⟨va,CV.length,vc,rfl,HO9.out,HQ.out⟩
set_option maxHeartbeats 4000000 in
theorem gInverse_3 {c n p:Int} {s:ByteArray} {l:List (Int×Int)} {tc tn:Int} {on:Bool} {w:World} {a:Option Addr} {m cap:Nat} (h:Rng w a m cap l) (hm:m≤1000000000) (hs:s.size≤2097152) (hok:ownP ⟨c,n,3,p,s,l,tc,tn,on⟩=0) :
  Calls Tryz.prog 42 #[opVal ⟨c,n,3,p,s,l,tc,tn,on⟩ (.slice a m cap)] w fun e w'=>∃ a' m' cap',e=.returned (.tuple #[opVal ⟨0,0,2,0,⟨#[]⟩,coveredP ⟨c,n,3,p,s,l,tc,tn,on⟩,0,0,false⟩ (.slice a' m' cap'),.int .i64 0])∧OwnF rngV 2 76 w' (w.heap.size+2) (.slice a' m' cap') (coveredP ⟨c,n,3,p,s,l,tc,tn,on⟩)∧Below w.heap.size w w':=by
 have HO:Hid (∀ w':World,Below w.heap.size w w'→Calls Tryz.prog 73 #[opVal ⟨c,n,3,p,s,l,tc,tn,on⟩ (.slice a m cap)] w' fun e w''=>e=.returned (.int .i64 0)∧Below w'.heap.size w' w''):=fun w' hb=>by rw [← hok];exact gOwn_any (o:=⟨c,n,3,p,s,l,tc,tn,on⟩) (h.below hb) hs
 have hcv:coversV ⟨c,n,3,p,s,l,tc,tn,on⟩=coveredP ⟨c,n,3,p,s,l,tc,tn,on⟩:=by unfold coversV;rw [if_pos hok]
 have HV:Hid (∀ w':World,Below w.heap.size w w'→Calls Tryz.prog 37 #[opVal ⟨c,n,3,p,s,l,tc,tn,on⟩ (.slice a m cap)] w' fun e w''=>∃ v,e=.returned v∧OwnF rngV 2 76 w'' w'.heap.size v (coveredP ⟨c,n,3,p,s,l,tc,tn,on⟩)∧Below w'.heap.size w' w''):=fun w' hb=>by rw [← hcv];exact gCovers_any (o:=⟨c,n,3,p,s,l,tc,tn,on⟩) (h.below hb) hm hs
 generalize coveredP ⟨c,n,3,p,s,l,tc,tn,on⟩=CV at *
 clear hcv
 clear hok
 have _hm:=hm
 clear h hs hm _hm
 simp only [opVal] at *
 obtain ⟨W1,hW1⟩:∃ W1,(w.alloc (Obj.cells #[.int .i64 c,.int .i64 n,.int .i64 3,.int .i64 p,.string s,.slice a m cap,.int .i64 tc,.int .i64 tn,.bool on] 44)).alloc (Obj.cells #[.int .i64 0,.int .i64 0,.int .i64 0,.int .i64 0,.string ⟨#[]⟩,.slice none 0 0,.int .i64 0,.int .i64 0,.bool false] 44)=W1:=⟨_,rfl⟩
 have hX:Below w.heap.size w W1:=by rw [← hW1];exact ((Below.refl w.heap.size w).alloc (Nat.le_refl _) _).alloc (by simp) _
 have hx0:W1.heap[w.heap.size]?=some (Obj.cells #[.int .i64 c,.int .i64 n,.int .i64 3,.int .i64 p,.string s,.slice a m cap,.int .i64 tc,.int .i64 tn,.bool on] 44):=by rw [← hW1];exact (Below.heap_alloc _ _ _ (by simp)).trans (alloc_last _ _ _ rfl)
 have hz0:W1.heap[w.heap.size+1]?=some (Obj.cells #[.int .i64 0,.int .i64 0,.int .i64 0,.int .i64 0,.string ⟨#[]⟩,.slice none 0 0,.int .i64 0,.int .i64 0,.bool false] 44):=by rw [← hW1];exact alloc_last _ _ _ (by simp)
 obtain ⟨y0,y1,y2,y3,y4,y5,y6,y7,y8⟩:=bx9 hx0
 go_enter Tryz.func42,Tryz.ntmps42
 go_wp2_with fail
 (try simp only [hW1])
 (try go_wp2_with fail)
 refine (HO.out _ hX).mono ?_
 rintro e w1 ⟨rfl,hb1⟩
 have hB1:=hX.trans (hb1.mono hX.size)
 have hx1:=(hb1.block _ (Array.getElem?_eq_some_iff.1 hx0).1).trans hx0
 have hz1:=(hb1.block _ (Array.getElem?_eq_some_iff.1 hz0).1).trans hz0
 have hlt1:=(Array.getElem?_eq_some_iff.1 hz1).1
 clear y0 y1 y2 y3 y4 y5 y6 y7 y8 hb1 hx0 hz0 hX hW1 HO
 obtain ⟨y0,y1,y2,y3,y4,y5,y6,y7,y8⟩:=bx9 hx1
 obtain ⟨A1,hA1⟩:∃ A1,w1.alloc (Obj.cells #[.int .i64 0,.int .i64 0,.int .i64 0,.int .i64 0,.string ⟨#[]⟩,.slice none 0 0,.int .i64 0,.int .i64 0,.bool false] 44)=A1:=⟨_,rfl⟩
 have hbA:Below w1.heap.size w1 A1:=hA1▸(Below.refl w1.heap.size w1).alloc (Nat.le_refl _) _
 have hxA:A1.heap[w1.heap.size]?=some (Obj.cells #[.int .i64 0,.int .i64 0,.int .i64 0,.int .i64 0,.string ⟨#[]⟩,.slice none 0 0,.int .i64 0,.int .i64 0,.bool false] 44):=hA1▸alloc_last _ _ _ rfl
 obtain ⟨xb,hxb⟩:∃ xb,w1.heap.size=xb:=⟨_,rfl⟩
 rw [hxb] at hxA
 have hxbl:w.heap.size+1<xb:=by rw [← hxb];exact hlt1
 obtain ⟨u0,u1,u2,u3,u4,u5,u6,u7,u8⟩:=bx9 hxA
 have zfA2:A1.frozen? ⟨xb,2,none⟩=false:=Lib.frozen_of_heap hxA 2
 obtain ⟨A2,hA2⟩:∃ X,A1.setCell ⟨xb,2,none⟩ (.int .i64 2)=X:=⟨_,rfl⟩
 have hx2:A2.heap[xb]?=some (Obj.cells #[.int .i64 0,.int .i64 0,.int .i64 2,.int .i64 0,.string ⟨#[]⟩,.slice none 0 0,.int .i64 0,.int .i64 0,.bool false] 44):=by rw [← hA2];exact (heap_setCell_same _ xb 2 _ _ (.int .i64 2) hxA).trans (by first|(simp;done)|(simp;rfl))
 have hCA2:∀ g,g≠xb→A2.heap[g]?=A1.heap[g]?:=fun g hg=>by rw [← hA2];exact Below.heap_setCell _ _ _ _ (by simp only;exact hg)
 have hSA2:A2.heap.size=A1.heap.size:=by rw [← hA2];simp
 have hBA1:Below w.heap.size w A1:=hB1.trans (hbA.mono hB1.size)
 have hB2:Below w.heap.size w A2:=by rw [← hA2];exact hBA1.setCell (p:=⟨xb,2,none⟩) (by simp only;omega) _
 have hzA:=(hbA.block _ hlt1).trans hz1
 have hoA:=(hbA.block _ (by omega)).trans hx1
 obtain ⟨q0,q1,q2,q3,q4,q5,q6,q7,q8⟩:=bx9 hoA
 have hz2:=(hCA2 (w.heap.size+1) (by omega)).trans hzA
 have ho2:=(hCA2 w.heap.size (by omega)).trans hoA
 have T:=HV.out A2 hB2
 have HK:Hid (∀ w2,Below A2.heap.size A2 w2→w2.heap[xb]?=some (Obj.cells #[.int .i64 0,.int .i64 0,.int .i64 2,.int .i64 0,.string ⟨#[]⟩,.slice none 0 0,.int .i64 0,.int .i64 0,.bool false] 44)∧w2.heap[w.heap.size+1]?=some (Obj.cells #[.int .i64 0,.int .i64 0,.int .i64 0,.int .i64 0,.string ⟨#[]⟩,.slice none 0 0,.int .i64 0,.int .i64 0,.bool false] 44)∧Below w.heap.size w w2∧w.heap.size+2≤A2.heap.size):=fun w2 hb=>⟨(hb.block _ (Array.getElem?_eq_some_iff.1 hx2).1).trans hx2,(hb.block _ (Array.getElem?_eq_some_iff.1 hz2).1).trans hz2,hB2.trans (hb.mono hB2.size),by have:=(Array.getElem?_eq_some_iff.1 hx2).1;omega⟩
 obtain ⟨o0,o1,o2,o3,o4,o5,o6,o7,o8⟩:=bx9 ho2
 clear HV hB1 hx1 hz1 hzA hoA hBA1 hbA hx2 hz2 ho2 hB2 hxA hCA2
 go_wp2_with fail
 (try simp only [hxb])
 (try simp only [hA2])
 (try go_wp2_with fail)
 refine T.mono ?_
 rintro e w2 ⟨v,rfl,hown,hb2⟩
 obtain ⟨va,vc,rfl⟩:=hown.shape
 obtain ⟨hx3,hz3,hB3,hsz3⟩:=HK.out w2 hb2
 clear T HK hb2 y0 y1 y2 y3 y4 y5 y6 y7 y8 o0 o1 o2 o3 o4 o5 o6 o7 o8 q0 q1 q2 q3 q4 q5 q6 q7 q8 u0 u1 u2 u3 u4 u5 u6 u7 u8 zfA2 hSA2 hA2 hA1 hxb
 obtain ⟨u0,u1,u2,u3,u4,u5,u6,u7,u8⟩:=bx9 hx3
 have zfA3:w2.frozen? ⟨xb,5,none⟩=false:=Lib.frozen_of_heap hx3 5
 obtain ⟨A3,hA3⟩:∃ X,w2.setCell ⟨xb,5,none⟩ (.slice va CV.length vc)=X:=⟨_,rfl⟩
 have hx4:A3.heap[xb]?=some (Obj.cells #[.int .i64 0,.int .i64 0,.int .i64 2,.int .i64 0,.string ⟨#[]⟩,.slice va CV.length vc,.int .i64 0,.int .i64 0,.bool false] 44):=by rw [← hA3];exact (heap_setCell_same _ xb 5 _ _ (.slice va CV.length vc) hx3).trans (by first|(simp;done)|(simp;rfl))
 have hCA3:∀ g,g≠xb→A3.heap[g]?=w2.heap[g]?:=fun g hg=>by rw [← hA3];exact Below.heap_setCell _ _ _ _ (by simp only;exact hg)
 have hSA3:A3.heap.size=w2.heap.size:=by rw [← hA3];simp
 have hB4:Below w.heap.size w A3:=by rw [← hA3];exact hB3.setCell (p:=⟨xb,5,none⟩) (by simp only;omega) _
 have hz4:=(hCA3 (w.heap.size+1) (by omega)).trans hz3
 have HOw:Hid (OwnF rngV 2 76 A3 (w.heap.size+2) (.slice va CV.length vc) CV):=by
  show OwnF _ _ _ _ _ _ _
  rw [← hA3]
  refine ownX (hown.mono hsz3) hx3 _ _
 clear hown hB3 hz3 hx3
 obtain ⟨x0,x1,x2,x3,x4,x5,x6,x7,x8⟩:=bx9 hx4
 obtain ⟨d0,d1,d2,d3,d4,d5,d6,d7,d8⟩:=bx9 hz4
 obtain ⟨dz0,dz1,dz2,dz3,dz4,dz5,dz6,dz7,dz8⟩:=fz9 hz4
 have hx9:=set9g (v0:=(.int .i64 0)) (v1:=(.int .i64 0)) (v2:=(.int .i64 2)) (v3:=(.int .i64 0)) (v4:=(.string ⟨#[]⟩)) (v5:=(.slice va CV.length vc)) (v6:=(.int .i64 0)) (v7:=(.int .i64 0)) (v8:=(.bool false)) hz4
 have hq8:=q9 hB4 (b:=w.heap.size+1) (by omega) (.int .i64 0) (.int .i64 0) (.int .i64 2) (.int .i64 0) (.string ⟨#[]⟩) (.slice va CV.length vc) (.int .i64 0) (.int .i64 0) (.bool false)
 obtain ⟨w9,hw9⟩:=exW hx9
 have HO9:Hid (OwnF rngV 2 76 w9 (w.heap.size+2) (.slice va CV.length vc) CV):=by
  show OwnF _ _ _ _ _ _ _
  rw [← hw9]
  refine own_set ?_ _ _ _ (by omega)
  refine own_set ?_ _ _ _ (by omega)
  refine own_set ?_ _ _ _ (by omega)
  refine own_set ?_ _ _ _ (by omega)
  refine own_set ?_ _ _ _ (by omega)
  refine own_set ?_ _ _ _ (by omega)
  refine own_set ?_ _ _ _ (by omega)
  refine own_set ?_ _ _ _ (by omega)
  refine own_set ?_ _ _ _ (by omega)
  exact HOw.out
 rw [hw9] at hx9 hq8
 obtain ⟨r0,r1,r2,r3,r4,r5,r6,r7,r8⟩:=bx9 hx9
 have HQ:Hid (Below w.heap.size w w9):=hq8
 clear hq8
 go_wp2_with fail
 (try simp only [hw9])
 (try go_wp2_with fail)
 refine bodyPost_ret (v:=.tuple #[.agg #[.int .i64 0,.int .i64 0,.int .i64 2,.int .i64 0,.string ⟨#[]⟩,.slice va CV.length vc,.int .i64 0,.int .i64 0,.bool false],.int .i64 0]) (by simp [results,Tryz.results42,go_sem,r0,r1,r2,r3,r4,r5,r6,r7,r8]) rfl ?_
 exact ⟨va,CV.length,vc,rfl,HO9.out,HQ.out⟩
set_option maxHeartbeats 4000000 in
theorem gInverse_4 {c n p:Int} {s:ByteArray} {l:List (Int×Int)} {tc tn:Int} {on:Bool} {w:World} {a:Option Addr} {m cap:Nat} (h:Rng w a m cap l) (hm:m≤1000000000) (hs:s.size≤2097152) (hok:ownP ⟨c,n,4,p,s,l,tc,tn,on⟩=0) :
  Calls Tryz.prog 42 #[opVal ⟨c,n,4,p,s,l,tc,tn,on⟩ (.slice a m cap)] w fun e w'=>e=.returned (.tuple #[opVal ⟨0,0,4,0,⟨#[]⟩,[],tc,tn,!on⟩ (.slice none 0 0),.int .i64 0])∧Below w.heap.size w w':=by
 have HO:Hid (∀ w':World,Below w.heap.size w w'→Calls Tryz.prog 73 #[opVal ⟨c,n,4,p,s,l,tc,tn,on⟩ (.slice a m cap)] w' fun e w''=>e=.returned (.int .i64 0)∧Below w'.heap.size w' w''):=fun w' hb=>by rw [← hok];exact gOwn_any (o:=⟨c,n,4,p,s,l,tc,tn,on⟩) (h.below hb) hs
 clear hok
 have _hm:=hm
 clear h hs hm _hm
 simp only [opVal] at *
 obtain ⟨W1,hW1⟩:∃ W1,(w.alloc (Obj.cells #[.int .i64 c,.int .i64 n,.int .i64 4,.int .i64 p,.string s,.slice a m cap,.int .i64 tc,.int .i64 tn,.bool on] 44)).alloc (Obj.cells #[.int .i64 0,.int .i64 0,.int .i64 0,.int .i64 0,.string ⟨#[]⟩,.slice none 0 0,.int .i64 0,.int .i64 0,.bool false] 44)=W1:=⟨_,rfl⟩
 have hX:Below w.heap.size w W1:=by rw [← hW1];exact ((Below.refl w.heap.size w).alloc (Nat.le_refl _) _).alloc (by simp) _
 have hx0:W1.heap[w.heap.size]?=some (Obj.cells #[.int .i64 c,.int .i64 n,.int .i64 4,.int .i64 p,.string s,.slice a m cap,.int .i64 tc,.int .i64 tn,.bool on] 44):=by rw [← hW1];exact (Below.heap_alloc _ _ _ (by simp)).trans (alloc_last _ _ _ rfl)
 have hz0:W1.heap[w.heap.size+1]?=some (Obj.cells #[.int .i64 0,.int .i64 0,.int .i64 0,.int .i64 0,.string ⟨#[]⟩,.slice none 0 0,.int .i64 0,.int .i64 0,.bool false] 44):=by rw [← hW1];exact alloc_last _ _ _ (by simp)
 obtain ⟨y0,y1,y2,y3,y4,y5,y6,y7,y8⟩:=bx9 hx0
 go_enter Tryz.func42,Tryz.ntmps42
 go_wp2_with fail
 (try simp only [hW1])
 (try go_wp2_with fail)
 refine (HO.out _ hX).mono ?_
 rintro e w1 ⟨rfl,hb1⟩
 have hB1:=hX.trans (hb1.mono hX.size)
 have hx1:=(hb1.block _ (Array.getElem?_eq_some_iff.1 hx0).1).trans hx0
 have hz1:=(hb1.block _ (Array.getElem?_eq_some_iff.1 hz0).1).trans hz0
 have hlt1:=(Array.getElem?_eq_some_iff.1 hz1).1
 clear y0 y1 y2 y3 y4 y5 y6 y7 y8 hb1 hx0 hz0 hX hW1 HO
 obtain ⟨y0,y1,y2,y3,y4,y5,y6,y7,y8⟩:=bx9 hx1
 obtain ⟨A1,hA1⟩:∃ A1,w1.alloc (Obj.cells #[.int .i64 0,.int .i64 0,.int .i64 0,.int .i64 0,.string ⟨#[]⟩,.slice none 0 0,.int .i64 0,.int .i64 0,.bool false] 44)=A1:=⟨_,rfl⟩
 have hbA:Below w1.heap.size w1 A1:=hA1▸(Below.refl w1.heap.size w1).alloc (Nat.le_refl _) _
 have hxA:A1.heap[w1.heap.size]?=some (Obj.cells #[.int .i64 0,.int .i64 0,.int .i64 0,.int .i64 0,.string ⟨#[]⟩,.slice none 0 0,.int .i64 0,.int .i64 0,.bool false] 44):=hA1▸alloc_last _ _ _ rfl
 obtain ⟨xb,hxb⟩:∃ xb,w1.heap.size=xb:=⟨_,rfl⟩
 rw [hxb] at hxA
 have hxbl:w.heap.size+1<xb:=by rw [← hxb];exact hlt1
 obtain ⟨u0,u1,u2,u3,u4,u5,u6,u7,u8⟩:=bx9 hxA
 have zfA2:A1.frozen? ⟨xb,2,none⟩=false:=Lib.frozen_of_heap hxA 2
 obtain ⟨A2,hA2⟩:∃ X,A1.setCell ⟨xb,2,none⟩ (.int .i64 4)=X:=⟨_,rfl⟩
 have hx2:A2.heap[xb]?=some (Obj.cells #[.int .i64 0,.int .i64 0,.int .i64 4,.int .i64 0,.string ⟨#[]⟩,.slice none 0 0,.int .i64 0,.int .i64 0,.bool false] 44):=by rw [← hA2];exact (heap_setCell_same _ xb 2 _ _ (.int .i64 4) hxA).trans (by first|(simp;done)|(simp;rfl))
 have hCA2:∀ g,g≠xb→A2.heap[g]?=A1.heap[g]?:=fun g hg=>by rw [← hA2];exact Below.heap_setCell _ _ _ _ (by simp only;exact hg)
 have hSA2:A2.heap.size=A1.heap.size:=by rw [← hA2];simp
 have hBA1:Below w.heap.size w A1:=hB1.trans (hbA.mono hB1.size)
 have hB2:Below w.heap.size w A2:=by rw [← hA2];exact hBA1.setCell (p:=⟨xb,2,none⟩) (by simp only;omega) _
 have hzA:=(hbA.block _ hlt1).trans hz1
 have hoA:=(hbA.block _ (by omega)).trans hx1
 obtain ⟨q0,q1,q2,q3,q4,q5,q6,q7,q8⟩:=bx9 hoA
 have hz2:=(hCA2 (w.heap.size+1) (by omega)).trans hzA
 have ho2:=(hCA2 w.heap.size (by omega)).trans hoA
 have zfA3:A2.frozen? ⟨xb,6,none⟩=false:=Lib.frozen_of_heap hx2 6
 obtain ⟨A3,hA3⟩:∃ X,A2.setCell ⟨xb,6,none⟩ (.int .i64 tc)=X:=⟨_,rfl⟩
 have hx3:A3.heap[xb]?=some (Obj.cells #[.int .i64 0,.int .i64 0,.int .i64 4,.int .i64 0,.string ⟨#[]⟩,.slice none 0 0,.int .i64 tc,.int .i64 0,.bool false] 44):=by rw [← hA3];exact (heap_setCell_same _ xb 6 _ _ (.int .i64 tc) hx2).trans (by first|(simp;done)|(simp;rfl))
 have hCA3:∀ g,g≠xb→A3.heap[g]?=A2.heap[g]?:=fun g hg=>by rw [← hA3];exact Below.heap_setCell _ _ _ _ (by simp only;exact hg)
 have hSA3:A3.heap.size=A2.heap.size:=by rw [← hA3];simp
 have zfA4:A3.frozen? ⟨xb,7,none⟩=false:=Lib.frozen_of_heap hx3 7
 obtain ⟨A4,hA4⟩:∃ X,A3.setCell ⟨xb,7,none⟩ (.int .i64 tn)=X:=⟨_,rfl⟩
 have hx4:A4.heap[xb]?=some (Obj.cells #[.int .i64 0,.int .i64 0,.int .i64 4,.int .i64 0,.string ⟨#[]⟩,.slice none 0 0,.int .i64 tc,.int .i64 tn,.bool false] 44):=by rw [← hA4];exact (heap_setCell_same _ xb 7 _ _ (.int .i64 tn) hx3).trans (by first|(simp;done)|(simp;rfl))
 have hCA4:∀ g,g≠xb→A4.heap[g]?=A3.heap[g]?:=fun g hg=>by rw [← hA4];exact Below.heap_setCell _ _ _ _ (by simp only;exact hg)
 have hSA4:A4.heap.size=A3.heap.size:=by rw [← hA4];simp
 have zfA5:A4.frozen? ⟨xb,8,none⟩=false:=Lib.frozen_of_heap hx4 8
 obtain ⟨A5,hA5⟩:∃ X,A4.setCell ⟨xb,8,none⟩ (.bool (!on))=X:=⟨_,rfl⟩
 have hx5:A5.heap[xb]?=some (Obj.cells #[.int .i64 0,.int .i64 0,.int .i64 4,.int .i64 0,.string ⟨#[]⟩,.slice none 0 0,.int .i64 tc,.int .i64 tn,.bool (!on)] 44):=by rw [← hA5];exact (heap_setCell_same _ xb 8 _ _ (.bool (!on)) hx4).trans (by first|(simp;done)|(simp;rfl))
 have hCA5:∀ g,g≠xb→A5.heap[g]?=A4.heap[g]?:=fun g hg=>by rw [← hA5];exact Below.heap_setCell _ _ _ _ (by simp only;exact hg)
 have hSA5:A5.heap.size=A4.heap.size:=by rw [← hA5];simp
 have hB3:Below w.heap.size w A3:=by rw [← hA3];exact hB2.setCell (p:=⟨xb,6,none⟩) (by simp only;omega) _
 have hB4:Below w.heap.size w A4:=by rw [← hA4];exact hB3.setCell (p:=⟨xb,7,none⟩) (by simp only;omega) _
 have hB5:Below w.heap.size w A5:=by rw [← hA5];exact hB4.setCell (p:=⟨xb,8,none⟩) (by simp only;omega) _
 have hz3:=(hCA3 (w.heap.size+1) (by omega)).trans hz2
 have hz4:=(hCA4 (w.heap.size+1) (by omega)).trans hz3
 have hz5:=(hCA5 (w.heap.size+1) (by omega)).trans hz4
 have ho3:=(hCA3 w.heap.size (by omega)).trans ho2
 have ho4:=(hCA4 w.heap.size (by omega)).trans ho3
 obtain ⟨p0,p1,p2,p3,p4,p5,p6,p7,p8⟩:=bx9 hx2
 obtain ⟨e0,e1,e2,e3,e4,e5,e6,e7,e8⟩:=bx9 hx3
 obtain ⟨f0,f1,f2,f3,f4,f5,f6,f7,f8⟩:=bx9 hx4
 obtain ⟨x0,x1,x2,x3,x4,x5,x6,x7,x8⟩:=bx9 hx5
 obtain ⟨o0,o1,o2,o3,o4,o5,o6,o7,o8⟩:=bx9 ho2
 obtain ⟨g0,g1,g2,g3,g4,g5,g6,g7,g8⟩:=bx9 ho3
 obtain ⟨j0,j1,j2,j3,j4,j5,j6,j7,j8⟩:=bx9 ho4
 clear hB1 hx1 hz1 hzA hoA hBA1 hbA hB2 hB3 hB4 hx2 hx3 hx4 hz2 hz3 hz4 ho2 ho3 ho4 hxA hCA2 hCA3 hCA4 hCA5
 obtain ⟨d0,d1,d2,d3,d4,d5,d6,d7,d8⟩:=bx9 hz5
 obtain ⟨dz0,dz1,dz2,dz3,dz4,dz5,dz6,dz7,dz8⟩:=fz9 hz5
 have hx9:=set9g (v0:=(.int .i64 0)) (v1:=(.int .i64 0)) (v2:=(.int .i64 4)) (v3:=(.int .i64 0)) (v4:=(.string ⟨#[]⟩)) (v5:=(.slice none 0 0)) (v6:=(.int .i64 tc)) (v7:=(.int .i64 tn)) (v8:=(.bool (!on))) hz5
 have hq8:=q9 hB5 (b:=w.heap.size+1) (by omega) (.int .i64 0) (.int .i64 0) (.int .i64 4) (.int .i64 0) (.string ⟨#[]⟩) (.slice none 0 0) (.int .i64 tc) (.int .i64 tn) (.bool (!on))
 obtain ⟨w9,hw9⟩:=exW hx9
 rw [hw9] at hx9 hq8
 obtain ⟨r0,r1,r2,r3,r4,r5,r6,r7,r8⟩:=bx9 hx9
 have HQ:Hid (Below w.heap.size w w9):=hq8
 clear hq8
 go_wp2_with fail
 (try simp only [hw9])
 (try go_wp2_with fail)
 refine bodyPost_ret (v:=.tuple #[.agg #[.int .i64 0,.int .i64 0,.int .i64 4,.int .i64 0,.string ⟨#[]⟩,.slice none 0 0,.int .i64 tc,.int .i64 tn,.bool (!on)],.int .i64 0]) (by simp [results,Tryz.results42,go_sem,r0,r1,r2,r3,r4,r5,r6,r7,r8]) rfl ?_
 exact ⟨rfl,HQ.out⟩
end Go.Proofs.YtijpfbcippijoaaGreatDoor
