import Derived.Test.YtmeciikfnbbllaaGreatDoorAl
import Derived.Test.YtmeciikfnbbllaaGreatDoorGr60
import Derived.Test.YtmeciikfnbbllaaGreatDoorGr70
import Derived.Test.YtmeciikfnbbllaaGreatDoorGr50
import Derived.Test.YtmeciikfnbbllaaGreatDoorGr51
set_option maxHeartbeats 16000000
set_option maxRecDepth 100000
namespace Go.Proofs.YtmeciikfnbbllaaGreatDoor
open Go.RowKit Go.Lib
theorem plays_7 {x:XOp} {w:World} (hx:XOk w x) (hk7:x.k=7) (hw:Bar w) :
  Calls Tryz.prog 17 #[.agg (xopF x).toArray] w fun e w'=>e=.returned (.bool true)∧Below w.heap.size w w':=by
 obtain ⟨h1,-,-,-,-,-,-⟩:=hx;obtain ⟨k7,o,a1,m1,c1,o2,a2,m2,cp2,ra,rm,rc,R,sa,sm,sc,S,e,N,M⟩:=x;simp only at hk7;subst hk7;obtain ⟨hR,hm,hs⟩:=h1;simp only at hR hm hs;have HCP:Hid (∀ W,Below w.heap.size w W→Calls Tryz.prog 26 #[opVal o (.slice a1 m1 c1)] W fun e w'=>∃ a' cap',e=.returned (opVal o (.slice a' m1 cap'))∧OwnF rangeV 2 94 w' W.heap.size (.slice a' m1 cap') o.l∧Below W.heap.size W w'):=fun W hb=>copy_any (hR.below hb) (by omega)
 have HCA:Hid (∀ W a' cap',Below w.heap.size w W→Rw rangeV 2 W a' m1 cap' o.l→Calls Tryz.prog 9 #[.int .i64 N,opVal o (.slice a' m1 cap')] W fun e w'=>e=.returned (.tuple #[.int .i64 (caretP N o).1,.int .i64 (caretP N o).2])∧Below W.heap.size W w'):=fun W a' cap' hb hr=>Caret_any (rng_of_rw hr) (by omega) (hw.below hb)
 have HRE:Hid (∀ W,Below w.heap.size w W→Calls Tryz.prog 33 #[.int .i64 N,opVal o (.slice a1 m1 c1)] W fun e w'=>e=.returned (.tuple #[.int .i64 (caretP N o).1,.int .i64 (caretP N o).2])∧Below W.heap.size W w'):=fun W hb=>gCaret_any (hR.below hb) hs
 generalize hq:caretP N o=q at *;obtain ⟨q1,q2⟩:=q;simp only at HCA HRE;have HN:Hid (∀ W,Calls Tryz.prog 11 #[.int .i64 q2] W fun r w'=>r=.returned (.int .i64 q2)∧W=w'):=fun W=>(num_any q2 W).mono fun e w' h=>⟨h.1,h.2.symm⟩
 clear hq hR hm hs hw;obtain ⟨c,n,k,p,s,l,tc,tn,on⟩:=o;obtain ⟨c2,n2,k2,p2,s2,l2,tc2,tn2,on2⟩:=o2;simp only [opVal,xopF] at *;obtain ⟨W0,hW0⟩:∃ W0,w.alloc (Obj.cells #[.int .i64 7,.int .i64 c,.int .i64 n,.int .i64 k,.int .i64 p,.string s,.slice a1 m1 c1,.int .i64 tc,.int .i64 tn,.bool on,.int .i64 c2,.int .i64 n2,.int .i64 k2,.int .i64 p2,.string s2,.slice a2 m2 cp2,.int .i64 tc2,.int .i64 tn2,.bool on2,.slice ra rm rc,.slice sa sm sc,.bool e,.int .i64 N,.int .i64 M] 45)=W0:=⟨_,rfl⟩;have hX:W0.heap[w.heap.size]?=some (Obj.cells #[.int .i64 7,.int .i64 c,.int .i64 n,.int .i64 k,.int .i64 p,.string s,.slice a1 m1 c1,.int .i64 tc,.int .i64 tn,.bool on,.int .i64 c2,.int .i64 n2,.int .i64 k2,.int .i64 p2,.string s2,.slice a2 m2 cp2,.int .i64 tc2,.int .i64 tn2,.bool on2,.slice ra rm rc,.slice sa sm sc,.bool e,.int .i64 N,.int .i64 M] 45):=by rw [← hW0];exact heap_alloc_new _ _
 have hB0:Below w.heap.size w W0:=by rw [← hW0];exact (bE w.heap.size w).alloc (lR _) _
 have alt:w.heap.size<W0.heap.size:=(gA hX);obtain ⟨ax0,ax1,ax2,ax3,ax4,ax5,ax6,ax7,ax8,ax9,ax10,ax11,ax12,ax13,ax14,ax15,ax16,ax17,ax18,ax19,ax20,ax21,ax22,ax23⟩:=box24 hX;go_enter Tryz.func17,Tryz.ntmps17;go_wp2_with fail;refine wp_region_held_drew (S:=(fun W=>W.cell? ⟨w.heap.size,1,none⟩=some (.int .i64 c)∧W.cell? ⟨w.heap.size,2,none⟩=some (.int .i64 n)∧W.cell? ⟨w.heap.size,3,none⟩=some (.int .i64 k)∧W.cell? ⟨w.heap.size,4,none⟩=some (.int .i64 p)∧W.cell? ⟨w.heap.size,5,none⟩=some (.string s)∧W.cell? ⟨w.heap.size,6,none⟩=some (.slice a1 m1 c1)∧W.cell? ⟨w.heap.size,7,none⟩=some (.int .i64 tc)∧W.cell? ⟨w.heap.size,8,none⟩=some (.int .i64 tn)∧W.cell? ⟨w.heap.size,9,none⟩=some (.bool on)∧W.cell? ⟨w.heap.size,22,none⟩=some (.int .i64 N))) (by kernel_rfl) ?hS1 (fun hHeld=>?rest1)
 case hS1=>(have q:=box24 hX;exact ⟨q.2.1,q.2.2.1,q.2.2.2.1,q.2.2.2.2.1,q.2.2.2.2.2.1,q.2.2.2.2.2.2.1,q.2.2.2.2.2.2.2.1,q.2.2.2.2.2.2.2.2.1,q.2.2.2.2.2.2.2.2.2.1,q.2.2.2.2.2.2.2.2.2.2.2.2.2.2.2.2.2.2.2.2.2.2.1⟩)
 refine tD 0 (some 115) ?_
 try simp only [putS]
 refine tD 1 (some 116) ?_
 try simp only [putS]
 refine tD 2 (some 117) ?_
 try simp only [putS]
 refine tD 3 (some 118) ?_
 try simp only [putS]
 refine wpAnyH_ready (rs:=[4]) (by kernel_rfl) (by simp) ?_;refine AllReadyH.cons rfl (fun K hK=>?_) AllReadyH.nil;go_simp;refine (HCP.out _ (below_drewN hB0 1)).mono ?_;rintro e2 w2 ⟨ca,cc,rfl,ho2,hb2⟩;have hB2:Below w.heap.size w w2:=hB0.trans (((below_drewN (bE _ _) 1).trans hb2).mono hB0.size);have hX2:=(((below_drewN (bE W0.heap.size W0) 1).trans hb2).block _ alt).trans hX;clear hHeld;refine hK.out _ _ ?hS6 (fun hHeld=>?rest6)
 case hS6=>(have q:=box24 hX2;exact ⟨q.2.1,q.2.2.1,q.2.2.2.1,q.2.2.2.2.1,q.2.2.2.2.2.1,q.2.2.2.2.2.2.1,q.2.2.2.2.2.2.2.1,q.2.2.2.2.2.2.2.2.1,q.2.2.2.2.2.2.2.2.2.1,q.2.2.2.2.2.2.2.2.2.2.2.2.2.2.2.2.2.2.2.2.2.2.1⟩)
 clear hK K
 try simp only [putS]
 refine wpAnyH_ready (rs:=[5]) (by kernel_rfl) (by simp) ?_;refine AllReadyH.cons rfl (fun K hK=>?_) AllReadyH.nil;go_simp;refine (HCA.out _ _ _ hB2 (ho2.rw_ layG)).mono ?_;rintro e2 w3 ⟨rfl,hb3⟩;have hB3:=hB2.trans (hb3.mono hB2.size);have hX3:=(hb3.block _ (gA hX2)).trans hX2;clear hHeld;refine hK.out _ _ ?hS7 (fun hHeld=>?rest7)
 case hS7=>(have q:=box24 hX3;exact ⟨q.2.1,q.2.2.1,q.2.2.2.1,q.2.2.2.2.1,q.2.2.2.2.2.1,q.2.2.2.2.2.2.1,q.2.2.2.2.2.2.2.1,q.2.2.2.2.2.2.2.2.1,q.2.2.2.2.2.2.2.2.2.1,q.2.2.2.2.2.2.2.2.2.2.2.2.2.2.2.2.2.2.2.2.2.2.1⟩)
 clear hK K
 try simp only [putS]
 refine tD 6 (some 114) ?_
 try simp only [putS]
 refine tD 7 (some 121) ?_
 try simp only [putS]
 refine tD 8 (some 122) ?_
 try simp only [putS]
 refine tD 9 (some 17) ?_
 try simp only [putS]
 refine tD 10 (some 18) ?_
 try simp only [putS]
 refine wpAnyH_done (by kernel_rfl) ?_ _;clear hHeld hb2 hb3 ho2 ax0 ax1 ax2 ax3 ax4 ax5 ax6 ax7 ax8 ax9 ax10 ax11 ax12 ax13 ax14 ax15 ax16 ax17 ax18 ax19 ax20 ax21 ax22 ax23;obtain ⟨bx0,bx1,bx2,bx3,bx4,bx5,bx6,bx7,bx8,bx9,bx10,bx11,bx12,bx13,bx14,bx15,bx16,bx17,bx18,bx19,bx20,bx21,bx22,bx23⟩:=box24 hX3;go_wp2_with fail;refine (HRE.out _ hB3).mono ?_;rintro e2 w4 ⟨rfl,hb4⟩;have hB4:=hB3.trans (hb4.mono hB3.size);clear hb4 bx0 bx1 bx2 bx3 bx4 bx5 bx6 bx7 bx8 bx9 bx10 bx11 bx12 bx13 bx14 bx15 bx16 bx17 bx18 bx19 bx20 bx21 bx22 bx23 HRE HCA HCP;have tq:(q1==q1)=true:=beq_self_eq_true _;have tq2:(q2==q2)=true:=beq_self_eq_true _;go_wp2_with fail;refine (HN.out _).mono ?_;rintro e2 w5 ⟨rfl,rfl⟩;go_wp2_with fail;go_ret;exact ⟨rfl,hB4⟩
end Go.Proofs.YtmeciikfnbbllaaGreatDoor
namespace Go.Proofs.YtmeciikfnbbllaaGreatDoor
open Go.RowKit Go.Lib Sp
theorem gSame_any {w:World} {a:Option Addr} {n cap:Nat} {l:List (Int×Int)} (h:Rng w a n cap l) {b:Option Addr} {m capb:Nat} {k:List (Int×Int)} (hk:Rng w b m capb k) :
  Calls Tryz.prog 97 #[.slice a n cap,.slice b m capb] w fun e w'=>e=.returned (.bool (decide (l=k)))∧Below w.heap.size w w':=by
 have hln:=h.len;have hkn:=hk.len;have hnb:n≤9223372036854775807:=by have:=h.room;simp only [maxLen] at this;omega
 by_cases hnm:n=m
 ·subst hnm;obtain ⟨r,hr⟩:∃ r,decide (l=k)=r:=⟨_,rfl⟩;have HR:Hid (decide (l=k)=r):=hr;rw [hr];clear hr;go_enter Tryz.func97,Tryz.ntmps97;go_wp2_with fail;go_loopw [5] (fun i w'=>∃ j:Nat,j≤n∧i=.int .i64 j∧Below w.heap.size w w'∧Hid (∀ i,i<j→l.getD i (0,0)=k.getD i (0,0))) (fun i _=>n-(RowKit.intOf i).toNat)
  case atStart=>exact ⟨0,Nat.zero_le _,rfl,bE _ _,fun i hi=>by omega⟩
  case round =>
   obtain ⟨j,hjn,rfl,hb,HE⟩:=hrel;by_cases hj:j<n
   ·obtain ⟨g,off,rfl,hg,hc,hd⟩:=h.cells j hj;obtain ⟨g2,off2,rfl,hg2,hc2,hd2⟩:=hk.cells j hj;have c0:=(hb.cell (p:=⟨g,off+j*2,none⟩) hg).trans hc;have c1:=(hb.cell (p:=⟨g,off+j*2+1,none⟩) hg).trans hd;have c2:=(hb.cell (p:=⟨g2,off2+j*2,none⟩) hg2).trans hc2;have c3:=(hb.cell (p:=⟨g2,off2+j*2+1,none⟩) hg2).trans hd2;clear hc hd hc2 hd2;by_cases he:l.getD j (0,0)=k.getD j (0,0)
    ·have HE2:Hid (∀ i,i<j+1→l.getD i (0,0)=k.getD i (0,0)):=fun i hi=>by
      by_cases e:i=j
      ·subst e;exact he
      ·exact HE.out i (by omega)
     rw [← he] at c2 c3;generalize (l.getD j (0,0)).1=x at *;generalize (l.getD j (0,0)).2=y at *;have u1:(x != x)=false:=bne_self_eq_false x;have u2:(y != y)=false:=bne_self_eq_false y;clear he HE;go_wp2_with fail;go_quiet (fail);go_wp2_with fail;go_roundw
     case rel=>exact ⟨j+1,by omega,by go_num,below_drewN hb _,HE2⟩
     case measure=>simp [RowKit.intOf];omega
    ·have hne:r=false:=by
      rw [← HR.out];exact decide_eq_false (fun e=>he (by rw [e]))
     subst hne;clear HE HR;obtain ⟨x,y,hxy⟩:∃ x y,l.getD j (0,0)=(x,y):=⟨_,_,rfl⟩;obtain ⟨x2,y2,hxy2⟩:∃ x y,k.getD j (0,0)=(x,y):=⟨_,_,rfl⟩;rw [hxy] at c0 c1 he;rw [hxy2] at c2 c3 he;simp only at c0 c1 c2 c3;clear hxy hxy2;by_cases hx:x=x2
     ·subst hx;have t1:(y != y2)=true:=bne_iff_ne.2 (fun e=>he (by rw [e]));have u1:(x != x)=false:=bne_self_eq_false x;clear he;go_wp2_with fail;go_quiet (fail);go_wp2_with fail;go_ret;exact ⟨rfl,below_drewN hb _⟩
     ·have t1:(x != x2)=true:=bne_iff_ne.2 hx;clear he hx;go_wp2_with fail;go_quiet (fail);go_wp2_with fail;go_ret;exact ⟨rfl,below_drewN hb _⟩
   ·have hr:r=true:=by
     rw [← HR.out];refine decide_eq_true (List.ext_getElem (by omega) fun i h1 h2=>?_);have:=HE.out i (by omega);simpa [List.getD_eq_getElem?_getD,h1,h2] using this
    subst hr;clear HR HE;go_wp2_with fail;go_ret;exact ⟨rfl,hb⟩
 ·have e0:decide (l=k)=false:=decide_eq_false (fun e=>by subst e;omega);rw [e0];have t1:((n:Int) != (m:Int))=true:=bne_iff_ne.2 (by omega);clear e0 hln hkn;go_enter Tryz.func97,Tryz.ntmps97;go_wp2_with fail;go_ret;exact ⟨rfl,bE _ _⟩
end Go.Proofs.YtmeciikfnbbllaaGreatDoor
namespace Go.Proofs.YtmeciikfnbbllaaGreatDoor
open Go.RowKit Go.Lib
theorem gEqual_self {o:OpV} {w:World} {a b:Option Addr} {n m cap capb:Nat} (h:Sp.Rng w a n cap o.l) (hk:Sp.Rng w b m capb o.l) :
  Calls Tryz.prog 78 #[opVal o (.slice a n cap),opVal o (.slice b m capb)] w fun e w'=>e=.returned (.bool true)∧Below w.heap.size w w':=by
 obtain ⟨c1,n1,k1,p1,s1,l1,tc1,tn1,on1⟩:=o;simp only [opVal] at *;have HS:Hid (∀ w':World,Below w.heap.size w w'→Calls Tryz.prog 97 #[.slice a n cap,.slice b m capb] w' fun e w''=>e=.returned (.bool true)∧Below w'.heap.size w' w''):=fun w' hb=>by
  have:=gSame_any (h.below hb) (hk.below hb)
  rwa [decide_eq_true rfl] at this
 clear h hk;go_enter Tryz.func78,Tryz.ntmps78;go_wp2_with fail;generalize hW0:(w.alloc (Obj.cells #[.int .i64 c1,.int .i64 n1,.int .i64 k1,.int .i64 p1,.string s1,.slice a n cap,.int .i64 tc1,.int .i64 tn1,.bool on1] 33)).alloc (Obj.cells #[.int .i64 c1,.int .i64 n1,.int .i64 k1,.int .i64 p1,.string s1,.slice b m capb,.int .i64 tc1,.int .i64 tn1,.bool on1] 33)=W0;have hX:W0.heap[w.heap.size]?=some (Obj.cells #[.int .i64 c1,.int .i64 n1,.int .i64 k1,.int .i64 p1,.string s1,.slice a n cap,.int .i64 tc1,.int .i64 tn1,.bool on1] 33):=by rw [← hW0];exact (Below.heap_alloc _ _ _ (by simp)).trans (alloc_last _ _ _ rfl)
 have hZ:W0.heap[w.heap.size+1]?=some (Obj.cells #[.int .i64 c1,.int .i64 n1,.int .i64 k1,.int .i64 p1,.string s1,.slice b m capb,.int .i64 tc1,.int .i64 tn1,.bool on1] 33):=by rw [← hW0];exact alloc_last _ _ _ (by simp)
 have hB0:Below w.heap.size w W0:=by rw [← hW0];exact ((bE w.heap.size w).alloc (lR _) _).alloc (by simp) _
 have hlt:w.heap.size+1<W0.heap.size:=(gA hZ);clear hW0;refine (HS.out _ hB0).mono ?_;rintro e w1 ⟨rfl,hb1⟩;have hX1:=(hb1.block _ (by omega)).trans hX;have hZ1:=(hb1.block _ (by omega)).trans hZ;have hB:=hB0.trans (hb1.mono hB0.size);obtain ⟨d0,d1,d2,d3,d4,d5,d6,d7,d8⟩:=box9 hX1;obtain ⟨f0,f1,f2,f3,f4,f5,f6,f7,f8⟩:=box9 hZ1;clear hX hZ hX1 hZ1 hB0 hb1 HS hlt;have e0:(c1==c1)=true:=beq_self_eq_true _;have e1:(n1==n1)=true:=beq_self_eq_true _;have e2:(k1==k1)=true:=beq_self_eq_true _;have e3:(p1==p1)=true:=beq_self_eq_true _;have e5:(tc1==tc1)=true:=beq_self_eq_true _;have e6:(tn1==tn1)=true:=beq_self_eq_true _;have e7:(on1==on1)=true:=beq_self_eq_true _;go_wp2_with fail;go_ret;exact ⟨rfl,hB⟩
theorem sameOp_self {o:OpV} {w:World} {a b:Option Addr} {n m cap capb:Nat} (h:Sp.Rng w a n cap o.l) (hk:Sp.Rng w b m capb o.l) :
  Calls Tryz.prog 51 #[opVal o (.slice a n cap),opVal o (.slice b m capb)] w fun e w'=>e=.returned (.bool true)∧Below w.heap.size w w':=by
 have HE:Hid (∀ W,Below w.heap.size w W→Calls Tryz.prog 78 #[opVal o (.slice a n cap),opVal o (.slice b m capb)] W fun e w'=>e=.returned (.bool true)∧Below W.heap.size W w'):=fun W hb=>gEqual_self (h.below hb) (hk.below hb)
 obtain ⟨c1,n1,k1,p1,s1,l1,tc1,tn1,on1⟩:=o;simp only [opVal] at *;clear h hk;have hB:Below w.heap.size w ((w.alloc (Obj.cells #[.int .i64 c1,.int .i64 n1,.int .i64 k1,.int .i64 p1,.string s1,.slice a n cap,.int .i64 tc1,.int .i64 tn1,.bool on1] 33)).alloc (Obj.cells #[.int .i64 c1,.int .i64 n1,.int .i64 k1,.int .i64 p1,.string s1,.slice b m capb,.int .i64 tc1,.int .i64 tn1,.bool on1] 33)):=((bE w.heap.size w).alloc (lR _) _).alloc (by simp) _;go_enter Tryz.func51,Tryz.ntmps51;go_wp2_with fail;refine (HE.out _ hB).mono ?_;rintro e w1 ⟨rfl,hb1⟩;have hB1:=hB.trans (hb1.mono hB.size);go_wp2_with fail;go_ret;exact ⟨rfl,hB1⟩
theorem one_self {o:OpV} {z:Int} {w:World} {a b:Option Addr} {n m cap capb:Nat} (h:Sp.Rng w a n cap o.l) (hk:Sp.Rng w b m capb o.l) :
  Calls Tryz.prog 28 #[opVal o (.slice a n cap),.int .i64 z,opVal o (.slice b m capb),.int .i64 z] w fun e w'=>e=.returned (.bool true)∧Below w.heap.size w w':=by
 have HE:Hid (∀ W,Below w.heap.size w W→Calls Tryz.prog 51 #[opVal o (.slice a n cap),opVal o (.slice b m capb)] W fun e w'=>e=.returned (.bool true)∧Below W.heap.size W w'):=fun W hb=>sameOp_self (h.below hb) (hk.below hb)
 have HN:Hid (∀ W,Calls Tryz.prog 11 #[.int .i64 z] W fun r w'=>r=.returned (.int .i64 z)∧W=w'):=fun W=>(num_any z W).mono fun e w' h=>⟨h.1,h.2.symm⟩
 obtain ⟨c1,n1,k1,p1,s1,l1,tc1,tn1,on1⟩:=o;simp only [opVal] at *;clear h hk;obtain ⟨W0,hW0⟩:∃ W0,(w.alloc (Obj.cells #[.int .i64 c1,.int .i64 n1,.int .i64 k1,.int .i64 p1,.string s1,.slice a n cap,.int .i64 tc1,.int .i64 tn1,.bool on1] 33)).alloc (Obj.cells #[.int .i64 c1,.int .i64 n1,.int .i64 k1,.int .i64 p1,.string s1,.slice b m capb,.int .i64 tc1,.int .i64 tn1,.bool on1] 33)=W0:=⟨_,rfl⟩;have hX:W0.heap[w.heap.size]?=some (Obj.cells #[.int .i64 c1,.int .i64 n1,.int .i64 k1,.int .i64 p1,.string s1,.slice a n cap,.int .i64 tc1,.int .i64 tn1,.bool on1] 33):=by rw [← hW0];exact (Below.heap_alloc _ _ _ (by simp)).trans (heap_alloc_new _ _)
 have hY:W0.heap[w.heap.size+1]?=some (Obj.cells #[.int .i64 c1,.int .i64 n1,.int .i64 k1,.int .i64 p1,.string s1,.slice b m capb,.int .i64 tc1,.int .i64 tn1,.bool on1] 33):=by rw [← hW0];exact alloc_last _ _ _ (by simp)
 have hB:Below w.heap.size w W0:=by rw [← hW0];exact ((bE w.heap.size w).alloc (lR _) _).alloc (by simp) _
 obtain ⟨ak0,ak1,ak2,ak3,ak4,ak5,ak6,ak7,ak8⟩:=box9 hX;obtain ⟨bk0,bk1,bk2,bk3,bk4,bk5,bk6,bk7,bk8⟩:=box9 hY;have tz:(z==z)=true:=beq_self_eq_true _;go_enter Tryz.func28,Tryz.ntmps28;go_wp2_with fail;refine (HN.out _).mono ?_;rintro e w1 ⟨rfl,rfl⟩;go_wp2_with fail;refine (HE.out _ hB).mono ?_;rintro e w1 ⟨rfl,hb1⟩;have hB1:=hB.trans (hb1.mono hB.size);clear ak0 ak1 ak2 ak3 ak4 ak5 ak6 ak7 ak8 bk0 bk1 bk2 bk3 bk4 bk5 bk6 bk7 bk8;go_wp2_with fail;go_ret;exact ⟨rfl,hB1⟩
end Go.Proofs.YtmeciikfnbbllaaGreatDoor
