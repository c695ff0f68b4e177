import Derived.Test.YtmeciikfnbbllaaGreatDoorAl
import Derived.Test.YtmeciikfnbbllaaGreatDoorGr38
import Derived.Test.YtmeciikfnbbllaaGreatDoorXhJ
set_option maxHeartbeats 128000000
set_option maxRecDepth 100000
namespace Go.Proofs.YtmeciikfnbbllaaGreatDoor
open Go.RowKit Go.Lib
theorem two_self {o x:OpV} {z:Int} {w:World} {a b c d:Option Addr} {n m r s ca cb cc cd:Nat} (h1:Sp.Rng w a n ca o.l) (h2:Sp.Rng w b m cb x.l) (h3:Sp.Rng w c r cc o.l) (h4:Sp.Rng w d s cd x.l) :
  Calls Tryz.prog 31 #[opVal o (.slice a n ca),opVal x (.slice b m cb),.int .i64 z,opVal o (.slice c r cc),opVal x (.slice d s cd),.int .i64 z] w fun e w'=>e=.returned (.bool true)∧Below w.heap.size w w':=by
 have HE:Hid (∀ W,Below w.heap.size w W→Calls Tryz.prog 51 #[opVal o (.slice a n ca),opVal o (.slice c r cc)] W fun e w'=>e=.returned (.bool true)∧Below W.heap.size W w'):=fun W hb=>sameOp_self (h1.below hb) (h3.below hb)
 have HF:Hid (∀ W,Below w.heap.size w W→Calls Tryz.prog 51 #[opVal x (.slice b m cb),opVal x (.slice d s cd)] W fun e w'=>e=.returned (.bool true)∧Below W.heap.size W w'):=fun W hb=>sameOp_self (h2.below hb) (h4.below hb)
 have HN:Hid (∀ W,Calls Tryz.prog 11 #[.int .i64 z] W fun r w'=>r=.returned (.int .i64 z)∧W=w'):=fun W=>(num_any z W).mono fun e w' h=>⟨h.1,h.2.symm⟩
 obtain ⟨c1,n1,k1,p1,s1,l1,tc1,tn1,on1⟩:=o;obtain ⟨c2,n2,k2,p2,s2,l2,tc2,tn2,on2⟩:=x;simp only [opVal] at *;clear h1 h2 h3 h4;obtain ⟨W0,hW0⟩:∃ W0,(((w.alloc (Obj.cells #[.int .i64 c1,.int .i64 n1,.int .i64 k1,.int .i64 p1,.string s1,.slice a n ca,.int .i64 tc1,.int .i64 tn1,.bool on1] 33)).alloc (Obj.cells #[.int .i64 c2,.int .i64 n2,.int .i64 k2,.int .i64 p2,.string s2,.slice b m cb,.int .i64 tc2,.int .i64 tn2,.bool on2] 33)).alloc (Obj.cells #[.int .i64 c1,.int .i64 n1,.int .i64 k1,.int .i64 p1,.string s1,.slice c r cc,.int .i64 tc1,.int .i64 tn1,.bool on1] 33)).alloc (Obj.cells #[.int .i64 c2,.int .i64 n2,.int .i64 k2,.int .i64 p2,.string s2,.slice d s cd,.int .i64 tc2,.int .i64 tn2,.bool on2] 33)=W0:=⟨_,rfl⟩;have hX:W0.heap[w.heap.size]?=some (Obj.cells #[.int .i64 c1,.int .i64 n1,.int .i64 k1,.int .i64 p1,.string s1,.slice a n ca,.int .i64 tc1,.int .i64 tn1,.bool on1] 33):=by rw [← hW0];exact (Below.heap_alloc _ _ _ (by simp;omega)).trans ((Below.heap_alloc _ _ _ (by simp;omega)).trans ((Below.heap_alloc _ _ _ (by simp)).trans (heap_alloc_new _ _)))
 have hY:W0.heap[w.heap.size+1]?=some (Obj.cells #[.int .i64 c2,.int .i64 n2,.int .i64 k2,.int .i64 p2,.string s2,.slice b m cb,.int .i64 tc2,.int .i64 tn2,.bool on2] 33):=by rw [← hW0];exact (Below.heap_alloc _ _ _ (by first|(simp;done)|(simp;omega))).trans ((Below.heap_alloc _ _ _ (by simp)).trans (alloc_last _ _ _ (by simp)))
 have hZ:W0.heap[w.heap.size+2]?=some (Obj.cells #[.int .i64 c1,.int .i64 n1,.int .i64 k1,.int .i64 p1,.string s1,.slice c r cc,.int .i64 tc1,.int .i64 tn1,.bool on1] 33):=by rw [← hW0];exact (Below.heap_alloc _ _ _ (by simp)).trans (alloc_last _ _ _ (by simp))
 have hU:W0.heap[w.heap.size+3]?=some (Obj.cells #[.int .i64 c2,.int .i64 n2,.int .i64 k2,.int .i64 p2,.string s2,.slice d s cd,.int .i64 tc2,.int .i64 tn2,.bool on2] 33):=by rw [← hW0];exact alloc_last _ _ _ (by simp)
 have hB:Below w.heap.size w W0:=by rw [← hW0];exact ((((bE w.heap.size w).alloc (lR _) _).alloc (by simp) _).alloc (by simp;omega) _).alloc (by simp;omega) _
 have alt:w.heap.size+3<W0.heap.size:=(gA hU);obtain ⟨ak0,ak1,ak2,ak3,ak4,ak5,ak6,ak7,ak8⟩:=box9 hX;obtain ⟨bk0,bk1,bk2,bk3,bk4,bk5,bk6,bk7,bk8⟩:=box9 hY;obtain ⟨ck0,ck1,ck2,ck3,ck4,ck5,ck6,ck7,ck8⟩:=box9 hZ;obtain ⟨dk0,dk1,dk2,dk3,dk4,dk5,dk6,dk7,dk8⟩:=box9 hU;have tz:(z==z)=true:=beq_self_eq_true _;go_enter Tryz.func31,Tryz.ntmps31;go_wp2_with fail;refine (HN.out _).mono ?_;rintro e w1 ⟨rfl,rfl⟩;go_wp2_with fail;refine (HE.out _ hB).mono ?_;rintro e w1 ⟨rfl,hb1⟩;have hB1:=hB.trans (hb1.mono hB.size);have hY1:=(hb1.block _ (by omega)).trans hY;have hU1:=(hb1.block _ (by omega)).trans hU;clear ak0 ak1 ak2 ak3 ak4 ak5 ak6 ak7 ak8 bk0 bk1 bk2 bk3 bk4 bk5 bk6 bk7 bk8 ck0 ck1 ck2 ck3 ck4 ck5 ck6 ck7 ck8 dk0 dk1 dk2 dk3 dk4 dk5 dk6 dk7 dk8;obtain ⟨bk0,bk1,bk2,bk3,bk4,bk5,bk6,bk7,bk8⟩:=box9 hY1;obtain ⟨dk0,dk1,dk2,dk3,dk4,dk5,dk6,dk7,dk8⟩:=box9 hU1;go_wp2_with fail;refine (HF.out _ hB1).mono ?_;rintro e w2 ⟨rfl,hb2⟩;have hB2:=hB1.trans (hb2.mono hB1.size);clear bk0 bk1 bk2 bk3 bk4 bk5 bk6 bk7 bk8 dk0 dk1 dk2 dk3 dk4 dk5 dk6 dk7 dk8;go_wp2_with fail;go_ret;exact ⟨rfl,hB2⟩
theorem plays_3 {x:XOp} {w:World} (hx:XOk w x) (hk1:x.k=3) (hw:Bar w) :
  Calls Tryz.prog 17 #[.agg (xopF x).toArray] w fun e w'=>e=.returned (.bool true)∧Below w.heap.size w w':=by
 obtain ⟨h1,h2,-,-,-,-,-⟩:=hx;obtain ⟨k1,o1,a1,m1,c1,o2,a2,m2,cp2,ra,rm,rc,R,sa,sm,sc,S,e,N,M⟩:=x;simp only at hk1;subst hk1;simp only at h1 h2;have HC1:Hid (∀ W,Below w.heap.size w W→Calls Tryz.prog 26 #[opVal o1 (.slice a1 m1 c1)] W fun e w'=>∃ a' cap',e=.returned (opVal o1 (.slice a' m1 cap'))∧OwnF rangeV 2 94 w' W.heap.size (.slice a' m1 cap') o1.l∧Below W.heap.size W w'):=fun W hb=>copy_any (h1.1.below hb) (by have:=h1.2.1;simp only at this;omega)
 have HC2:Hid (∀ W,Below w.heap.size w W→Calls Tryz.prog 26 #[opVal o2 (.slice a2 m2 cp2)] W fun e w'=>∃ a' cap',e=.returned (opVal o2 (.slice a' m2 cap'))∧OwnF rangeV 2 94 w' W.heap.size (.slice a' m2 cap') o2.l∧Below W.heap.size W w'):=fun W hb=>copy_any (h2.1.below hb) (by have:=h2.2.1;simp only at this;omega)
 have hs1:=h1.2.2;have hs2:=h2.2.2;simp only at hs1 hs2;obtain ⟨⟨⟨⟨c3,n3,k3,p3,s3,l3,tc3,tn3,on3⟩,⟨c5,n5,k5,p5,s5,l5,tc5,tn5,on5⟩⟩,z3⟩,hq⟩:∃ q,xTranspose o1 o2=q:=⟨_,rfl⟩;have HI:Hid (∀ (W:World) y1 z1 y2 z2,Below w.heap.size w W→Rw rangeV 2 W y1 m1 z1 o1.l→Rw rangeV 2 W y2 m2 z2 o2.l→Calls Tryz.prog 20 #[opVal o1 (.slice y1 m1 z1),opVal o2 (.slice y2 m2 z2)] W fun e w'=>∃ va vm vc ya ym yc,e=.returned (.tuple #[opVal ⟨c3,n3,k3,p3,s3,l3,tc3,tn3,on3⟩ (.slice va vm vc),opVal ⟨c5,n5,k5,p5,s5,l5,tc5,tn5,on5⟩ (.slice ya ym yc),.int .i64 z3])∧OwnF rangeV 2 94 w' W.heap.size (.slice va vm vc) l3∧OwnF rangeV 2 94 w' W.heap.size (.slice ya ym yc) l5∧Below W.heap.size W w'):=fun W y1 z1 y2 z2 hb r1 r2=>by
  have:=Transpose_any (rng_of_rw r1) (rng_of_rw r2) (by omega) (by omega) (hw.below hb);rw [hq] at this;exact this
 have HG:Hid (∀ (W:World),Below w.heap.size w W→Calls Tryz.prog 30 #[opVal o1 (.slice a1 m1 c1),opVal o2 (.slice a2 m2 cp2)] W fun e w'=>∃ va vm vc ya ym yc,e=.returned (.tuple #[opVal ⟨c3,n3,k3,p3,s3,l3,tc3,tn3,on3⟩ (.slice va vm vc),opVal ⟨c5,n5,k5,p5,s5,l5,tc5,tn5,on5⟩ (.slice ya ym yc),.int .i64 z3])∧OwnF rangeV 2 94 w' W.heap.size (.slice va vm vc) l3∧OwnF rangeV 2 94 w' W.heap.size (.slice ya ym yc) l5∧Below W.heap.size W w'):=fun W hb=>by
  have:=gTranspose_any (h1.below hb) (h2.below hb);rw [hq] at this;exact this
 clear hq h1 h2 hw hs1 hs2;obtain ⟨c,n,k,p,s,l1,tc,tn,on⟩:=o1;obtain ⟨c2,n2,k2,p2,s2,l2,tc2,tn2,on2⟩:=o2;simp only [opVal,xopF] at *;obtain ⟨W0,hW0⟩:∃ W0,w.alloc (Obj.cells #[.int .i64 3,.int .i64 c,.int .i64 n,.int .i64 k,.int .i64 p,.string s,.slice a1 m1 c1,.int .i64 tc,.int .i64 tn,.bool on,.int .i64 c2,.int .i64 n2,.int .i64 k2,.int .i64 p2,.string s2,.slice a2 m2 cp2,.int .i64 tc2,.int .i64 tn2,.bool on2,.slice ra rm rc,.slice sa sm sc,.bool e,.int .i64 N,.int .i64 M] 45)=W0:=⟨_,rfl⟩;have hX0:W0.heap[w.heap.size]?=some (Obj.cells #[.int .i64 3,.int .i64 c,.int .i64 n,.int .i64 k,.int .i64 p,.string s,.slice a1 m1 c1,.int .i64 tc,.int .i64 tn,.bool on,.int .i64 c2,.int .i64 n2,.int .i64 k2,.int .i64 p2,.string s2,.slice a2 m2 cp2,.int .i64 tc2,.int .i64 tn2,.bool on2,.slice ra rm rc,.slice sa sm sc,.bool e,.int .i64 N,.int .i64 M] 45):=by rw [← hW0];exact heap_alloc_new _ _
 have hB0:Below w.heap.size w W0:=by rw [← hW0];exact (bE w.heap.size w).alloc (lR _) _
 have alt0:w.heap.size<W0.heap.size:=(gA hX0);obtain ⟨ax0,ax1,ax2,ax3,ax4,ax5,ax6,ax7,ax8,ax9,ax10,ax11,ax12,ax13,ax14,ax15,ax16,ax17,ax18,ax19,ax20,ax21,ax22,ax23⟩:=box24 hX0;go_enter Tryz.func17,Tryz.ntmps17;go_wp2_with fail;refine wp_region_held_drew (S:=(fun W=>W.cell? ⟨w.heap.size,1,none⟩=some (.int .i64 c)∧W.cell? ⟨w.heap.size,2,none⟩=some (.int .i64 n)∧W.cell? ⟨w.heap.size,3,none⟩=some (.int .i64 k)∧W.cell? ⟨w.heap.size,4,none⟩=some (.int .i64 p)∧W.cell? ⟨w.heap.size,5,none⟩=some (.string s)∧W.cell? ⟨w.heap.size,6,none⟩=some (.slice a1 m1 c1)∧W.cell? ⟨w.heap.size,7,none⟩=some (.int .i64 tc)∧W.cell? ⟨w.heap.size,8,none⟩=some (.int .i64 tn)∧W.cell? ⟨w.heap.size,9,none⟩=some (.bool on)∧W.cell? ⟨w.heap.size,10,none⟩=some (.int .i64 c2)∧W.cell? ⟨w.heap.size,11,none⟩=some (.int .i64 n2)∧W.cell? ⟨w.heap.size,12,none⟩=some (.int .i64 k2)∧W.cell? ⟨w.heap.size,13,none⟩=some (.int .i64 p2)∧W.cell? ⟨w.heap.size,14,none⟩=some (.string s2)∧W.cell? ⟨w.heap.size,15,none⟩=some (.slice a2 m2 cp2)∧W.cell? ⟨w.heap.size,16,none⟩=some (.int .i64 tc2)∧W.cell? ⟨w.heap.size,17,none⟩=some (.int .i64 tn2)∧W.cell? ⟨w.heap.size,18,none⟩=some (.bool on2))) (by kernel_rfl) ?hS13 (fun hHeld=>?rest13)
 case hS13=>(have q:=box24 hX0;exact ⟨q.2.1,q.2.2.1,q.2.2.2.1,q.2.2.2.2.1,q.2.2.2.2.2.1,q.2.2.2.2.2.2.1,q.2.2.2.2.2.2.2.1,q.2.2.2.2.2.2.2.2.1,q.2.2.2.2.2.2.2.2.2.1,q.2.2.2.2.2.2.2.2.2.2.1,q.2.2.2.2.2.2.2.2.2.2.2.1,q.2.2.2.2.2.2.2.2.2.2.2.2.1,q.2.2.2.2.2.2.2.2.2.2.2.2.2.1,q.2.2.2.2.2.2.2.2.2.2.2.2.2.2.1,q.2.2.2.2.2.2.2.2.2.2.2.2.2.2.2.1,q.2.2.2.2.2.2.2.2.2.2.2.2.2.2.2.2.1,q.2.2.2.2.2.2.2.2.2.2.2.2.2.2.2.2.2.1,q.2.2.2.2.2.2.2.2.2.2.2.2.2.2.2.2.2.2.1⟩)
 obtain ⟨u0,hu0⟩:∃ V,World.drew W0=V:=⟨_,rfl⟩;rw [hu0];have hX0:u0.heap[w.heap.size]?=some (Obj.cells #[.int .i64 3,.int .i64 c,.int .i64 n,.int .i64 k,.int .i64 p,.string s,.slice a1 m1 c1,.int .i64 tc,.int .i64 tn,.bool on,.int .i64 c2,.int .i64 n2,.int .i64 k2,.int .i64 p2,.string s2,.slice a2 m2 cp2,.int .i64 tc2,.int .i64 tn2,.bool on2,.slice ra rm rc,.slice sa sm sc,.bool e,.int .i64 N,.int .i64 M] 45):=by rw [← hu0];exact hX0
 have hB0:Below w.heap.size w u0:=by rw [← hu0];exact hB0.drew
 have alt0:w.heap.size<u0.heap.size:=by rw [← hu0];exact alt0
 rw [hu0] at hHeld;clear hu0;refine tD 0 (some 80) ?_
 try simp only [putS]
 refine tD 1 (some 81) ?_
 try simp only [putS]
 refine tD 3 (some 83) ?_
 try simp only [putS]
 refine tD 4 (some 84) ?_
 try simp only [putS]
 refine wpAnyH_ready (rs:=[2,11,12]) (by kernel_rfl) (by simp) ?_;refine AllReadyH.cons rfl (fun K hK=>?b18_0) (AllReadyH.cons rfl (fun K hK=>?b18_1) (AllReadyH.cons rfl (fun K hK=>?b18_2) (AllReadyH.nil)))
 case' b18_0 =>
  go_simp;refine (HC1.out _ hB0).mono ?_;rintro e2 u1 ⟨y1,z1,rfl,ho1,hb⟩;have hX1:=(hb.block _ alt0).trans hX0;have hB1:=hB0.trans (hb.mono hB0.size);have alt1:w.heap.size<u1.heap.size:=(gA hX1);have hr1:Rw rangeV 2 u1 y1 m1 z1 l1:=ho1.rw_ layG;clear ho1;clear hb;clear hHeld;refine hK.out _ _ ?hS19 (fun hHeld=>?rest19)
  case' hS19=>(have q:=box24 hX1;exact ⟨q.2.1,q.2.2.1,q.2.2.2.1,q.2.2.2.2.1,q.2.2.2.2.2.1,q.2.2.2.2.2.2.1,q.2.2.2.2.2.2.2.1,q.2.2.2.2.2.2.2.2.1,q.2.2.2.2.2.2.2.2.2.1,q.2.2.2.2.2.2.2.2.2.2.1,q.2.2.2.2.2.2.2.2.2.2.2.1,q.2.2.2.2.2.2.2.2.2.2.2.2.1,q.2.2.2.2.2.2.2.2.2.2.2.2.2.1,q.2.2.2.2.2.2.2.2.2.2.2.2.2.2.1,q.2.2.2.2.2.2.2.2.2.2.2.2.2.2.2.1,q.2.2.2.2.2.2.2.2.2.2.2.2.2.2.2.2.1,q.2.2.2.2.2.2.2.2.2.2.2.2.2.2.2.2.2.1,q.2.2.2.2.2.2.2.2.2.2.2.2.2.2.2.2.2.2.1⟩)
  clear hK K
  try simp only [putS]
  refine wpAnyH_ready (rs:=[5,11,12]) (by kernel_rfl) (by simp) ?_;refine AllReadyH.cons rfl (fun K hK=>?b20_0) (AllReadyH.cons rfl (fun K hK=>?b20_1) (AllReadyH.cons rfl (fun K hK=>?b20_2) (AllReadyH.nil)))
  case' b20_0 =>
   go_simp;refine (HC2.out _ hB1).mono ?_;rintro e2 u2 ⟨y2,z2,rfl,ho2,hb⟩;have hX2:=(hb.block _ alt1).trans hX1;have hB2:=hB1.trans (hb.mono hB1.size);have alt2:w.heap.size<u2.heap.size:=(gA hX2);have hr1:=hr1.below hb;have hr2:Rw rangeV 2 u2 y2 m2 z2 l2:=ho2.rw_ layG;clear ho2;clear hb;clear hHeld;refine hK.out _ _ ?hS21 (fun hHeld=>?rest21)
   case' hS21=>(have q:=box24 hX2;exact ⟨q.2.1,q.2.2.1,q.2.2.2.1,q.2.2.2.2.1,q.2.2.2.2.2.1,q.2.2.2.2.2.2.1,q.2.2.2.2.2.2.2.1,q.2.2.2.2.2.2.2.2.1,q.2.2.2.2.2.2.2.2.2.1,q.2.2.2.2.2.2.2.2.2.2.1,q.2.2.2.2.2.2.2.2.2.2.2.1,q.2.2.2.2.2.2.2.2.2.2.2.2.1,q.2.2.2.2.2.2.2.2.2.2.2.2.2.1,q.2.2.2.2.2.2.2.2.2.2.2.2.2.2.1,q.2.2.2.2.2.2.2.2.2.2.2.2.2.2.2.1,q.2.2.2.2.2.2.2.2.2.2.2.2.2.2.2.2.1,q.2.2.2.2.2.2.2.2.2.2.2.2.2.2.2.2.2.1,q.2.2.2.2.2.2.2.2.2.2.2.2.2.2.2.2.2.2.1⟩)
   clear hK K
   try simp only [putS]
   refine wpAnyH_ready (rs:=[6,11,12]) (by kernel_rfl) (by simp) ?_;refine AllReadyH.cons rfl (fun K hK=>?b22_0) (AllReadyH.cons rfl (fun K hK=>?b22_1) (AllReadyH.cons rfl (fun K hK=>?b22_2) (AllReadyH.nil)))
   case' b22_0 =>
    go_simp;refine (HI.out _ _ _ _ _ hB2 hr1 hr2).mono ?_;rintro e2 u3 ⟨va,vm,vc,ya,ym,yc,rfl,ho3,hoy3,hb⟩;have hX3:=(hb.block _ alt2).trans hX2;have hB3:=hB2.trans (hb.mono hB2.size);have alt3:w.heap.size<u3.heap.size:=(gA hX3);have hr1:=hr1.below hb;have hr2:=hr2.below hb;clear hb;clear hHeld;refine hK.out _ _ ?hS23 (fun hHeld=>?rest23)
    case' hS23=>(have q:=box24 hX3;exact ⟨q.2.1,q.2.2.1,q.2.2.2.1,q.2.2.2.2.1,q.2.2.2.2.2.1,q.2.2.2.2.2.2.1,q.2.2.2.2.2.2.2.1,q.2.2.2.2.2.2.2.2.1,q.2.2.2.2.2.2.2.2.2.1,q.2.2.2.2.2.2.2.2.2.2.1,q.2.2.2.2.2.2.2.2.2.2.2.1,q.2.2.2.2.2.2.2.2.2.2.2.2.1,q.2.2.2.2.2.2.2.2.2.2.2.2.2.1,q.2.2.2.2.2.2.2.2.2.2.2.2.2.2.1,q.2.2.2.2.2.2.2.2.2.2.2.2.2.2.2.1,q.2.2.2.2.2.2.2.2.2.2.2.2.2.2.2.2.1,q.2.2.2.2.2.2.2.2.2.2.2.2.2.2.2.2.2.1,q.2.2.2.2.2.2.2.2.2.2.2.2.2.2.2.2.2.2.1⟩)
    clear hK K
    try simp only [putS]
    refine tD 7 (some 79) ?_
    try simp only [putS]
    refine tD 8 (some 87) ?_
    try simp only [putS]
    refine tD 9 (some 88) ?_
    try simp only [putS]
    refine tD 10 (some 89) ?_
    try simp only [putS]
    refine wpAnyH_ready (rs:=[11,12]) (by kernel_rfl) (by simp) ?_;refine AllReadyH.cons rfl (fun K hK=>?b28_0) (AllReadyH.cons rfl (fun K hK=>?b28_1) (AllReadyH.nil))
    case' b28_0 =>
     go_simp;obtain ⟨u4,hv⟩:∃ V,u3.alloc (Obj.cells #[.int .i64 0,.int .i64 0,.int .i64 0,.int .i64 0,.string ⟨#[]⟩,.slice none 0 0,.int .i64 0,.int .i64 0,.bool false] 33)=V:=⟨_,rfl⟩;have hb:Below u3.heap.size u3 u4:=by rw [← hv];exact (bE _ _).alloc (lR _) _
     have hX4:=(hb.block _ alt3).trans hX3;have hB4:=hB3.trans (hb.mono hB3.size);have alt4:w.heap.size<u4.heap.size:=(gA hX4);have hr1:=hr1.below hb;have hr2:=hr2.below hb;have ho3:=ho3.below hb;have hoy3:=hoy3.below hb;have hbx:u4.heap[u3.heap.size]?=some (Obj.cells #[.int .i64 0,.int .i64 0,.int .i64 0,.int .i64 0,.string ⟨#[]⟩,.slice none 0 0,.int .i64 0,.int .i64 0,.bool false] 33):=by rw [← hv];exact heap_alloc_new _ _
     have hbxlo:w.heap.size<u3.heap.size:=alt3;rw [hv];generalize u3.heap.size=hbxx at *;clear hb hv;clear hHeld;refine hK.out _ _ ?hS29 (fun hHeld=>?rest29)
     case' hS29=>(have q:=box24 hX4;exact ⟨q.2.1,q.2.2.1,q.2.2.2.1,q.2.2.2.2.1,q.2.2.2.2.2.1,q.2.2.2.2.2.2.1,q.2.2.2.2.2.2.2.1,q.2.2.2.2.2.2.2.2.1,q.2.2.2.2.2.2.2.2.2.1,q.2.2.2.2.2.2.2.2.2.2.1,q.2.2.2.2.2.2.2.2.2.2.2.1,q.2.2.2.2.2.2.2.2.2.2.2.2.1,q.2.2.2.2.2.2.2.2.2.2.2.2.2.1,q.2.2.2.2.2.2.2.2.2.2.2.2.2.2.1,q.2.2.2.2.2.2.2.2.2.2.2.2.2.2.2.1,q.2.2.2.2.2.2.2.2.2.2.2.2.2.2.2.2.1,q.2.2.2.2.2.2.2.2.2.2.2.2.2.2.2.2.2.1,q.2.2.2.2.2.2.2.2.2.2.2.2.2.2.2.2.2.2.1⟩)
     clear hK K
     try simp only [putS]
     refine wpAnyH_ready (rs:=[12]) (by kernel_rfl) (by simp) ?_;refine AllReadyH.cons rfl (fun K hK=>?_) AllReadyH.nil;have hbyhbxlt:hbxx<u4.heap.size:=(gA hbx);go_simp;obtain ⟨u5,hv⟩:∃ V,u4.alloc (Obj.cells #[.int .i64 0,.int .i64 0,.int .i64 0,.int .i64 0,.string ⟨#[]⟩,.slice none 0 0,.int .i64 0,.int .i64 0,.bool false] 33)=V:=⟨_,rfl⟩;have hb:Below u4.heap.size u4 u5:=by rw [← hv];exact (bE _ _).alloc (lR _) _
     have hX5:=(hb.block _ alt4).trans hX4;have hB5:=hB4.trans (hb.mono hB4.size);have alt5:w.heap.size<u5.heap.size:=(gA hX5);have hbx:=(hb.block _ (gA hbx)).trans hbx;have hr1:=hr1.below hb;have hr2:=hr2.below hb;have ho3:=ho3.below hb;have hoy3:=hoy3.below hb;have hby:u5.heap[u4.heap.size]?=some (Obj.cells #[.int .i64 0,.int .i64 0,.int .i64 0,.int .i64 0,.string ⟨#[]⟩,.slice none 0 0,.int .i64 0,.int .i64 0,.bool false] 33):=by rw [← hv];exact heap_alloc_new _ _
     have hbylo:w.heap.size<u4.heap.size:=alt4;rw [hv];generalize u4.heap.size=hbyx at *;clear hb hv;clear hHeld;refine hK.out _ _ ?hS30 (fun hHeld=>?rest30)
     case' hS30=>(have q:=box24 hX5;exact ⟨q.2.1,q.2.2.1,q.2.2.2.1,q.2.2.2.2.1,q.2.2.2.2.2.1,q.2.2.2.2.2.2.1,q.2.2.2.2.2.2.2.1,q.2.2.2.2.2.2.2.2.1,q.2.2.2.2.2.2.2.2.2.1,q.2.2.2.2.2.2.2.2.2.2.1,q.2.2.2.2.2.2.2.2.2.2.2.1,q.2.2.2.2.2.2.2.2.2.2.2.2.1,q.2.2.2.2.2.2.2.2.2.2.2.2.2.1,q.2.2.2.2.2.2.2.2.2.2.2.2.2.2.1,q.2.2.2.2.2.2.2.2.2.2.2.2.2.2.2.1,q.2.2.2.2.2.2.2.2.2.2.2.2.2.2.2.2.1,q.2.2.2.2.2.2.2.2.2.2.2.2.2.2.2.2.2.1,q.2.2.2.2.2.2.2.2.2.2.2.2.2.2.2.2.2.2.1⟩)
     clear hK K
     try simp only [putS]
     obtain ⟨u8,e8,hx8,hB8,hK8⟩:=store9 hbx hB5 (Nat.le_of_lt hbxlo) (.int .i64 c3) (.int .i64 n3) (.int .i64 k3) (.int .i64 p3) (.string s3) (.slice va vm vc) (.int .i64 tc3) (.int .i64 tn3) (.bool on3);obtain ⟨d0,d1,d2,d3,d4,d5,d6,d7,d8⟩:=box9 hbx;obtain ⟨dz0,dz1,dz2,dz3,dz4,dz5,dz6,dz7,dz8⟩:=wr9 hbx;have hX8:=hK8.block hX5 (by omega);have hy8:=hK8.block hby (by omega);have ho8:=own_type ho3 hbx (by decide) hK8;have hoy8:=own_type hoy3 hbx (by decide) hK8;refine wpAnyH_ready (rs:=[13]) (by kernel_rfl) (by simp) ?_;refine AllReadyH.cons rfl (fun K hK=>?_) AllReadyH.nil;go_simp
     try rw [e8]
     clear hHeld;refine hK.out _ _ ?hS31 (fun hHeld=>?rest31)
     case' hS31=>(have q:=box24 hX8;exact ⟨q.2.1,q.2.2.1,q.2.2.2.1,q.2.2.2.2.1,q.2.2.2.2.2.1,q.2.2.2.2.2.2.1,q.2.2.2.2.2.2.2.1,q.2.2.2.2.2.2.2.2.1,q.2.2.2.2.2.2.2.2.2.1,q.2.2.2.2.2.2.2.2.2.2.1,q.2.2.2.2.2.2.2.2.2.2.2.1,q.2.2.2.2.2.2.2.2.2.2.2.2.1,q.2.2.2.2.2.2.2.2.2.2.2.2.2.1,q.2.2.2.2.2.2.2.2.2.2.2.2.2.2.1,q.2.2.2.2.2.2.2.2.2.2.2.2.2.2.2.1,q.2.2.2.2.2.2.2.2.2.2.2.2.2.2.2.2.1,q.2.2.2.2.2.2.2.2.2.2.2.2.2.2.2.2.2.1,q.2.2.2.2.2.2.2.2.2.2.2.2.2.2.2.2.2.2.1⟩)
     clear hK K
     try simp only [putS]
     obtain ⟨u9,e9,hy9,hB9,hK9⟩:=store9 hy8 hB8 (Nat.le_of_lt hbylo) (.int .i64 c5) (.int .i64 n5) (.int .i64 k5) (.int .i64 p5) (.string s5) (.slice ya ym yc) (.int .i64 tc5) (.int .i64 tn5) (.bool on5);obtain ⟨g0,g1,g2,g3,g4,g5,g6,g7,g8⟩:=box9 hy8;obtain ⟨gz0,gz1,gz2,gz3,gz4,gz5,gz6,gz7,gz8⟩:=wr9 hy8;have hX9:=hK9.block hX8 (by omega);have hx9:=hK9.block hx8 (by omega);have ho9:=own_type ho8 hy8 (by decide) hK9;have hoy9:=own_type hoy8 hy8 (by decide) hK9;refine wpAnyH_ready (rs:=[14]) (by kernel_rfl) (by simp) ?_;refine AllReadyH.cons rfl (fun K hK=>?_) AllReadyH.nil;go_simp
     try rw [e9]
     clear hHeld;refine hK.out _ _ ?hS32 (fun hHeld=>?rest32)
     case' hS32=>(have q:=box24 hX9;exact ⟨q.2.1,q.2.2.1,q.2.2.2.1,q.2.2.2.2.1,q.2.2.2.2.2.1,q.2.2.2.2.2.2.1,q.2.2.2.2.2.2.2.1,q.2.2.2.2.2.2.2.2.1,q.2.2.2.2.2.2.2.2.2.1,q.2.2.2.2.2.2.2.2.2.2.1,q.2.2.2.2.2.2.2.2.2.2.2.1,q.2.2.2.2.2.2.2.2.2.2.2.2.1,q.2.2.2.2.2.2.2.2.2.2.2.2.2.1,q.2.2.2.2.2.2.2.2.2.2.2.2.2.2.1,q.2.2.2.2.2.2.2.2.2.2.2.2.2.2.2.1,q.2.2.2.2.2.2.2.2.2.2.2.2.2.2.2.2.1,q.2.2.2.2.2.2.2.2.2.2.2.2.2.2.2.2.2.1,q.2.2.2.2.2.2.2.2.2.2.2.2.2.2.2.2.2.2.1⟩)
     clear hK K
     try simp only [putS]
     refine tD 15 (some 13) ?_
     try simp only [putS]
     refine wpAnyH_done (by kernel_rfl) ?_ _
    case' b28_1 =>
     go_simp;obtain ⟨u4,hv⟩:∃ V,u3.alloc (Obj.cells #[.int .i64 0,.int .i64 0,.int .i64 0,.int .i64 0,.string ⟨#[]⟩,.slice none 0 0,.int .i64 0,.int .i64 0,.bool false] 33)=V:=⟨_,rfl⟩;have hb:Below u3.heap.size u3 u4:=by rw [← hv];exact (bE _ _).alloc (lR _) _
     have hX4:=(hb.block _ alt3).trans hX3;have hB4:=hB3.trans (hb.mono hB3.size);have alt4:w.heap.size<u4.heap.size:=(gA hX4);have hr1:=hr1.below hb;have hr2:=hr2.below hb;have ho3:=ho3.below hb;have hoy3:=hoy3.below hb;have hby:u4.heap[u3.heap.size]?=some (Obj.cells #[.int .i64 0,.int .i64 0,.int .i64 0,.int .i64 0,.string ⟨#[]⟩,.slice none 0 0,.int .i64 0,.int .i64 0,.bool false] 33):=by rw [← hv];exact heap_alloc_new _ _
     have hbylo:w.heap.size<u3.heap.size:=alt3;rw [hv];generalize u3.heap.size=hbyx at *;clear hb hv;clear hHeld;refine hK.out _ _ ?hS34 (fun hHeld=>?rest34)
     case' hS34=>(have q:=box24 hX4;exact ⟨q.2.1,q.2.2.1,q.2.2.2.1,q.2.2.2.2.1,q.2.2.2.2.2.1,q.2.2.2.2.2.2.1,q.2.2.2.2.2.2.2.1,q.2.2.2.2.2.2.2.2.1,q.2.2.2.2.2.2.2.2.2.1,q.2.2.2.2.2.2.2.2.2.2.1,q.2.2.2.2.2.2.2.2.2.2.2.1,q.2.2.2.2.2.2.2.2.2.2.2.2.1,q.2.2.2.2.2.2.2.2.2.2.2.2.2.1,q.2.2.2.2.2.2.2.2.2.2.2.2.2.2.1,q.2.2.2.2.2.2.2.2.2.2.2.2.2.2.2.1,q.2.2.2.2.2.2.2.2.2.2.2.2.2.2.2.2.1,q.2.2.2.2.2.2.2.2.2.2.2.2.2.2.2.2.2.1,q.2.2.2.2.2.2.2.2.2.2.2.2.2.2.2.2.2.2.1⟩)
     clear hK K
     try simp only [putS]
     refine wpAnyH_ready (rs:=[11]) (by kernel_rfl) (by simp) ?_;refine AllReadyH.cons rfl (fun K hK=>?_) AllReadyH.nil;have hbxhbylt:hbyx<u4.heap.size:=(gA hby);go_simp;obtain ⟨u5,hv⟩:∃ V,u4.alloc (Obj.cells #[.int .i64 0,.int .i64 0,.int .i64 0,.int .i64 0,.string ⟨#[]⟩,.slice none 0 0,.int .i64 0,.int .i64 0,.bool false] 33)=V:=⟨_,rfl⟩;have hb:Below u4.heap.size u4 u5:=by rw [← hv];exact (bE _ _).alloc (lR _) _
     have hX5:=(hb.block _ alt4).trans hX4;have hB5:=hB4.trans (hb.mono hB4.size);have alt5:w.heap.size<u5.heap.size:=(gA hX5);have hby:=(hb.block _ (gA hby)).trans hby;have hr1:=hr1.below hb;have hr2:=hr2.below hb;have ho3:=ho3.below hb;have hoy3:=hoy3.below hb;have hbx:u5.heap[u4.heap.size]?=some (Obj.cells #[.int .i64 0,.int .i64 0,.int .i64 0,.int .i64 0,.string ⟨#[]⟩,.slice none 0 0,.int .i64 0,.int .i64 0,.bool false] 33):=by rw [← hv];exact heap_alloc_new _ _
     have hbxlo:w.heap.size<u4.heap.size:=alt4;rw [hv];generalize u4.heap.size=hbxx at *;clear hb hv;clear hHeld;refine hK.out _ _ ?hS35 (fun hHeld=>?rest35)
     case' hS35=>(have q:=box24 hX5;exact ⟨q.2.1,q.2.2.1,q.2.2.2.1,q.2.2.2.2.1,q.2.2.2.2.2.1,q.2.2.2.2.2.2.1,q.2.2.2.2.2.2.2.1,q.2.2.2.2.2.2.2.2.1,q.2.2.2.2.2.2.2.2.2.1,q.2.2.2.2.2.2.2.2.2.2.1,q.2.2.2.2.2.2.2.2.2.2.2.1,q.2.2.2.2.2.2.2.2.2.2.2.2.1,q.2.2.2.2.2.2.2.2.2.2.2.2.2.1,q.2.2.2.2.2.2.2.2.2.2.2.2.2.2.1,q.2.2.2.2.2.2.2.2.2.2.2.2.2.2.2.1,q.2.2.2.2.2.2.2.2.2.2.2.2.2.2.2.2.1,q.2.2.2.2.2.2.2.2.2.2.2.2.2.2.2.2.2.1,q.2.2.2.2.2.2.2.2.2.2.2.2.2.2.2.2.2.2.1⟩)
     clear hK K
     try simp only [putS]
     obtain ⟨u8,e8,hx8,hB8,hK8⟩:=store9 hbx hB5 (Nat.le_of_lt hbxlo) (.int .i64 c3) (.int .i64 n3) (.int .i64 k3) (.int .i64 p3) (.string s3) (.slice va vm vc) (.int .i64 tc3) (.int .i64 tn3) (.bool on3);obtain ⟨d0,d1,d2,d3,d4,d5,d6,d7,d8⟩:=box9 hbx;obtain ⟨dz0,dz1,dz2,dz3,dz4,dz5,dz6,dz7,dz8⟩:=wr9 hbx;have hX8:=hK8.block hX5 (by omega);have hy8:=hK8.block hby (by omega);have ho8:=own_type ho3 hbx (by decide) hK8;have hoy8:=own_type hoy3 hbx (by decide) hK8;refine wpAnyH_ready (rs:=[13]) (by kernel_rfl) (by simp) ?_;refine AllReadyH.cons rfl (fun K hK=>?_) AllReadyH.nil;go_simp
     try rw [e8]
     clear hHeld;refine hK.out _ _ ?hS36 (fun hHeld=>?rest36)
     case' hS36=>(have q:=box24 hX8;exact ⟨q.2.1,q.2.2.1,q.2.2.2.1,q.2.2.2.2.1,q.2.2.2.2.2.1,q.2.2.2.2.2.2.1,q.2.2.2.2.2.2.2.1,q.2.2.2.2.2.2.2.2.1,q.2.2.2.2.2.2.2.2.2.1,q.2.2.2.2.2.2.2.2.2.2.1,q.2.2.2.2.2.2.2.2.2.2.2.1,q.2.2.2.2.2.2.2.2.2.2.2.2.1,q.2.2.2.2.2.2.2.2.2.2.2.2.2.1,q.2.2.2.2.2.2.2.2.2.2.2.2.2.2.1,q.2.2.2.2.2.2.2.2.2.2.2.2.2.2.2.1,q.2.2.2.2.2.2.2.2.2.2.2.2.2.2.2.2.1,q.2.2.2.2.2.2.2.2.2.2.2.2.2.2.2.2.2.1,q.2.2.2.2.2.2.2.2.2.2.2.2.2.2.2.2.2.2.1⟩)
     clear hK K
     try simp only [putS]
     obtain ⟨u9,e9,hy9,hB9,hK9⟩:=store9 hy8 hB8 (Nat.le_of_lt hbylo) (.int .i64 c5) (.int .i64 n5) (.int .i64 k5) (.int .i64 p5) (.string s5) (.slice ya ym yc) (.int .i64 tc5) (.int .i64 tn5) (.bool on5);obtain ⟨g0,g1,g2,g3,g4,g5,g6,g7,g8⟩:=box9 hy8;obtain ⟨gz0,gz1,gz2,gz3,gz4,gz5,gz6,gz7,gz8⟩:=wr9 hy8;have hX9:=hK9.block hX8 (by omega);have hx9:=hK9.block hx8 (by omega);have ho9:=own_type ho8 hy8 (by decide) hK9;have hoy9:=own_type hoy8 hy8 (by decide) hK9;refine wpAnyH_ready (rs:=[14]) (by kernel_rfl) (by simp) ?_;refine AllReadyH.cons rfl (fun K hK=>?_) AllReadyH.nil;go_simp
     try rw [e9]
     clear hHeld;refine hK.out _ _ ?hS37 (fun hHeld=>?rest37)
     case' hS37=>(have q:=box24 hX9;exact ⟨q.2.1,q.2.2.1,q.2.2.2.1,q.2.2.2.2.1,q.2.2.2.2.2.1,q.2.2.2.2.2.2.1,q.2.2.2.2.2.2.2.1,q.2.2.2.2.2.2.2.2.1,q.2.2.2.2.2.2.2.2.2.1,q.2.2.2.2.2.2.2.2.2.2.1,q.2.2.2.2.2.2.2.2.2.2.2.1,q.2.2.2.2.2.2.2.2.2.2.2.2.1,q.2.2.2.2.2.2.2.2.2.2.2.2.2.1,q.2.2.2.2.2.2.2.2.2.2.2.2.2.2.1,q.2.2.2.2.2.2.2.2.2.2.2.2.2.2.2.1,q.2.2.2.2.2.2.2.2.2.2.2.2.2.2.2.2.1,q.2.2.2.2.2.2.2.2.2.2.2.2.2.2.2.2.2.1,q.2.2.2.2.2.2.2.2.2.2.2.2.2.2.2.2.2.2.1⟩)
     clear hK K
     try simp only [putS]
     refine tD 15 (some 13) ?_
     try simp only [putS]
     refine wpAnyH_done (by kernel_rfl) ?_ _
   case' b22_1 =>
    go_simp;obtain ⟨u3,hv⟩:∃ V,u2.alloc (Obj.cells #[.int .i64 0,.int .i64 0,.int .i64 0,.int .i64 0,.string ⟨#[]⟩,.slice none 0 0,.int .i64 0,.int .i64 0,.bool false] 33)=V:=⟨_,rfl⟩;have hb:Below u2.heap.size u2 u3:=by rw [← hv];exact (bE _ _).alloc (lR _) _
    have hX3:=(hb.block _ alt2).trans hX2;have hB3:=hB2.trans (hb.mono hB2.size);have alt3:w.heap.size<u3.heap.size:=(gA hX3);have hr1:=hr1.below hb;have hr2:=hr2.below hb;have hbx:u3.heap[u2.heap.size]?=some (Obj.cells #[.int .i64 0,.int .i64 0,.int .i64 0,.int .i64 0,.string ⟨#[]⟩,.slice none 0 0,.int .i64 0,.int .i64 0,.bool false] 33):=by rw [← hv];exact heap_alloc_new _ _
    have hbxlo:w.heap.size<u2.heap.size:=alt2;rw [hv];generalize u2.heap.size=hbxx at *;clear hb hv;clear hHeld;refine hK.out _ _ ?hS39 (fun hHeld=>?rest39)
    case' hS39=>(have q:=box24 hX3;exact ⟨q.2.1,q.2.2.1,q.2.2.2.1,q.2.2.2.2.1,q.2.2.2.2.2.1,q.2.2.2.2.2.2.1,q.2.2.2.2.2.2.2.1,q.2.2.2.2.2.2.2.2.1,q.2.2.2.2.2.2.2.2.2.1,q.2.2.2.2.2.2.2.2.2.2.1,q.2.2.2.2.2.2.2.2.2.2.2.1,q.2.2.2.2.2.2.2.2.2.2.2.2.1,q.2.2.2.2.2.2.2.2.2.2.2.2.2.1,q.2.2.2.2.2.2.2.2.2.2.2.2.2.2.1,q.2.2.2.2.2.2.2.2.2.2.2.2.2.2.2.1,q.2.2.2.2.2.2.2.2.2.2.2.2.2.2.2.2.1,q.2.2.2.2.2.2.2.2.2.2.2.2.2.2.2.2.2.1,q.2.2.2.2.2.2.2.2.2.2.2.2.2.2.2.2.2.2.1⟩)
    clear hK K
    try simp only [putS]
    refine wpAnyH_ready (rs:=[6,12]) (by kernel_rfl) (by simp) ?_;refine AllReadyH.cons rfl (fun K hK=>?b40_0) (AllReadyH.cons rfl (fun K hK=>?b40_1) (AllReadyH.nil))
    case' b40_0 =>
     go_simp;refine (HI.out _ _ _ _ _ hB3 hr1 hr2).mono ?_;rintro e2 u4 ⟨va,vm,vc,ya,ym,yc,rfl,ho3,hoy3,hb⟩;have hX4:=(hb.block _ alt3).trans hX3;have hB4:=hB3.trans (hb.mono hB3.size);have alt4:w.heap.size<u4.heap.size:=(gA hX4);have hbx:=(hb.block _ (gA hbx)).trans hbx;have hr1:=hr1.below hb;have hr2:=hr2.below hb;clear hb;clear hHeld;refine hK.out _ _ ?hS41 (fun hHeld=>?rest41)
     case' hS41=>(have q:=box24 hX4;exact ⟨q.2.1,q.2.2.1,q.2.2.2.1,q.2.2.2.2.1,q.2.2.2.2.2.1,q.2.2.2.2.2.2.1,q.2.2.2.2.2.2.2.1,q.2.2.2.2.2.2.2.2.1,q.2.2.2.2.2.2.2.2.2.1,q.2.2.2.2.2.2.2.2.2.2.1,q.2.2.2.2.2.2.2.2.2.2.2.1,q.2.2.2.2.2.2.2.2.2.2.2.2.1,q.2.2.2.2.2.2.2.2.2.2.2.2.2.1,q.2.2.2.2.2.2.2.2.2.2.2.2.2.2.1,q.2.2.2.2.2.2.2.2.2.2.2.2.2.2.2.1,q.2.2.2.2.2.2.2.2.2.2.2.2.2.2.2.2.1,q.2.2.2.2.2.2.2.2.2.2.2.2.2.2.2.2.2.1,q.2.2.2.2.2.2.2.2.2.2.2.2.2.2.2.2.2.2.1⟩)
     clear hK K
     try simp only [putS]
     refine tD 7 (some 79) ?_
     try simp only [putS]
     refine tD 8 (some 87) ?_
     try simp only [putS]
     refine tD 9 (some 88) ?_
     try simp only [putS]
     refine tD 10 (some 89) ?_
     try simp only [putS]
     refine wpAnyH_ready (rs:=[12]) (by kernel_rfl) (by simp) ?_;refine AllReadyH.cons rfl (fun K hK=>?_) AllReadyH.nil;have hbyhbxlt:hbxx<u4.heap.size:=(gA hbx);go_simp;obtain ⟨u5,hv⟩:∃ V,u4.alloc (Obj.cells #[.int .i64 0,.int .i64 0,.int .i64 0,.int .i64 0,.string ⟨#[]⟩,.slice none 0 0,.int .i64 0,.int .i64 0,.bool false] 33)=V:=⟨_,rfl⟩;have hb:Below u4.heap.size u4 u5:=by rw [← hv];exact (bE _ _).alloc (lR _) _
     have hX5:=(hb.block _ alt4).trans hX4;have hB5:=hB4.trans (hb.mono hB4.size);have alt5:w.heap.size<u5.heap.size:=(gA hX5);have hbx:=(hb.block _ (gA hbx)).trans hbx;have hr1:=hr1.below hb;have hr2:=hr2.below hb;have ho3:=ho3.below hb;have hoy3:=hoy3.below hb;have hby:u5.heap[u4.heap.size]?=some (Obj.cells #[.int .i64 0,.int .i64 0,.int .i64 0,.int .i64 0,.string ⟨#[]⟩,.slice none 0 0,.int .i64 0,.int .i64 0,.bool false] 33):=by rw [← hv];exact heap_alloc_new _ _
     have hbylo:w.heap.size<u4.heap.size:=alt4;rw [hv];generalize u4.heap.size=hbyx at *;clear hb hv;clear hHeld;refine hK.out _ _ ?hS46 (fun hHeld=>?rest46)
     case' hS46=>(have q:=box24 hX5;exact ⟨q.2.1,q.2.2.1,q.2.2.2.1,q.2.2.2.2.1,q.2.2.2.2.2.1,q.2.2.2.2.2.2.1,q.2.2.2.2.2.2.2.1,q.2.2.2.2.2.2.2.2.1,q.2.2.2.2.2.2.2.2.2.1,q.2.2.2.2.2.2.2.2.2.2.1,q.2.2.2.2.2.2.2.2.2.2.2.1,q.2.2.2.2.2.2.2.2.2.2.2.2.1,q.2.2.2.2.2.2.2.2.2.2.2.2.2.1,q.2.2.2.2.2.2.2.2.2.2.2.2.2.2.1,q.2.2.2.2.2.2.2.2.2.2.2.2.2.2.2.1,q.2.2.2.2.2.2.2.2.2.2.2.2.2.2.2.2.1,q.2.2.2.2.2.2.2.2.2.2.2.2.2.2.2.2.2.1,q.2.2.2.2.2.2.2.2.2.2.2.2.2.2.2.2.2.2.1⟩)
     clear hK K
     try simp only [putS]
     obtain ⟨u8,e8,hx8,hB8,hK8⟩:=store9 hbx hB5 (Nat.le_of_lt hbxlo) (.int .i64 c3) (.int .i64 n3) (.int .i64 k3) (.int .i64 p3) (.string s3) (.slice va vm vc) (.int .i64 tc3) (.int .i64 tn3) (.bool on3);obtain ⟨d0,d1,d2,d3,d4,d5,d6,d7,d8⟩:=box9 hbx;obtain ⟨dz0,dz1,dz2,dz3,dz4,dz5,dz6,dz7,dz8⟩:=wr9 hbx;have hX8:=hK8.block hX5 (by omega);have hy8:=hK8.block hby (by omega);have ho8:=own_type ho3 hbx (by decide) hK8;have hoy8:=own_type hoy3 hbx (by decide) hK8;refine wpAnyH_ready (rs:=[13]) (by kernel_rfl) (by simp) ?_;refine AllReadyH.cons rfl (fun K hK=>?_) AllReadyH.nil;go_simp
     try rw [e8]
     clear hHeld;refine hK.out _ _ ?hS47 (fun hHeld=>?rest47)
     case' hS47=>(have q:=box24 hX8;exact ⟨q.2.1,q.2.2.1,q.2.2.2.1,q.2.2.2.2.1,q.2.2.2.2.2.1,q.2.2.2.2.2.2.1,q.2.2.2.2.2.2.2.1,q.2.2.2.2.2.2.2.2.1,q.2.2.2.2.2.2.2.2.2.1,q.2.2.2.2.2.2.2.2.2.2.1,q.2.2.2.2.2.2.2.2.2.2.2.1,q.2.2.2.2.2.2.2.2.2.2.2.2.1,q.2.2.2.2.2.2.2.2.2.2.2.2.2.1,q.2.2.2.2.2.2.2.2.2.2.2.2.2.2.1,q.2.2.2.2.2.2.2.2.2.2.2.2.2.2.2.1,q.2.2.2.2.2.2.2.2.2.2.2.2.2.2.2.2.1,q.2.2.2.2.2.2.2.2.2.2.2.2.2.2.2.2.2.1,q.2.2.2.2.2.2.2.2.2.2.2.2.2.2.2.2.2.2.1⟩)
     clear hK K
     try simp only [putS]
     obtain ⟨u9,e9,hy9,hB9,hK9⟩:=store9 hy8 hB8 (Nat.le_of_lt hbylo) (.int .i64 c5) (.int .i64 n5) (.int .i64 k5) (.int .i64 p5) (.string s5) (.slice ya ym yc) (.int .i64 tc5) (.int .i64 tn5) (.bool on5);obtain ⟨g0,g1,g2,g3,g4,g5,g6,g7,g8⟩:=box9 hy8;obtain ⟨gz0,gz1,gz2,gz3,gz4,gz5,gz6,gz7,gz8⟩:=wr9 hy8;have hX9:=hK9.block hX8 (by omega);have hx9:=hK9.block hx8 (by omega);have ho9:=own_type ho8 hy8 (by decide) hK9;have hoy9:=own_type hoy8 hy8 (by decide) hK9;refine wpAnyH_ready (rs:=[14]) (by kernel_rfl) (by simp) ?_;refine AllReadyH.cons rfl (fun K hK=>?_) AllReadyH.nil;go_simp
     try rw [e9]
     clear hHeld;refine hK.out _ _ ?hS48 (fun hHeld=>?rest48)
     case' hS48=>(have q:=box24 hX9;exact ⟨q.2.1,q.2.2.1,q.2.2.2.1,q.2.2.2.2.1,q.2.2.2.2.2.1,q.2.2.2.2.2.2.1,q.2.2.2.2.2.2.2.1,q.2.2.2.2.2.2.2.2.1,q.2.2.2.2.2.2.2.2.2.1,q.2.2.2.2.2.2.2.2.2.2.1,q.2.2.2.2.2.2.2.2.2.2.2.1,q.2.2.2.2.2.2.2.2.2.2.2.2.1,q.2.2.2.2.2.2.2.2.2.2.2.2.2.1,q.2.2.2.2.2.2.2.2.2.2.2.2.2.2.1,q.2.2.2.2.2.2.2.2.2.2.2.2.2.2.2.1,q.2.2.2.2.2.2.2.2.2.2.2.2.2.2.2.2.1,q.2.2.2.2.2.2.2.2.2.2.2.2.2.2.2.2.2.1,q.2.2.2.2.2.2.2.2.2.2.2.2.2.2.2.2.2.2.1⟩)
     clear hK K
     try simp only [putS]
     refine tD 15 (some 13) ?_
     try simp only [putS]
     refine wpAnyH_done (by kernel_rfl) ?_ _
    case' b40_1 =>
     have hbyhbxlt:hbxx<u3.heap.size:=(gA hbx);go_simp;obtain ⟨u4,hv⟩:∃ V,u3.alloc (Obj.cells #[.int .i64 0,.int .i64 0,.int .i64 0,.int .i64 0,.string ⟨#[]⟩,.slice none 0 0,.int .i64 0,.int .i64 0,.bool false] 33)=V:=⟨_,rfl⟩;have hb:Below u3.heap.size u3 u4:=by rw [← hv];exact (bE _ _).alloc (lR _) _
     have hX4:=(hb.block _ alt3).trans hX3;have hB4:=hB3.trans (hb.mono hB3.size);have alt4:w.heap.size<u4.heap.size:=(gA hX4);have hbx:=(hb.block _ (gA hbx)).trans hbx;have hr1:=hr1.below hb;have hr2:=hr2.below hb;have hby:u4.heap[u3.heap.size]?=some (Obj.cells #[.int .i64 0,.int .i64 0,.int .i64 0,.int .i64 0,.string ⟨#[]⟩,.slice none 0 0,.int .i64 0,.int .i64 0,.bool false] 33):=by rw [← hv];exact heap_alloc_new _ _
     have hbylo:w.heap.size<u3.heap.size:=alt3;rw [hv];generalize u3.heap.size=hbyx at *;clear hb hv;clear hHeld;refine hK.out _ _ ?hS50 (fun hHeld=>?rest50)
     case' hS50=>(have q:=box24 hX4;exact ⟨q.2.1,q.2.2.1,q.2.2.2.1,q.2.2.2.2.1,q.2.2.2.2.2.1,q.2.2.2.2.2.2.1,q.2.2.2.2.2.2.2.1,q.2.2.2.2.2.2.2.2.1,q.2.2.2.2.2.2.2.2.2.1,q.2.2.2.2.2.2.2.2.2.2.1,q.2.2.2.2.2.2.2.2.2.2.2.1,q.2.2.2.2.2.2.2.2.2.2.2.2.1,q.2.2.2.2.2.2.2.2.2.2.2.2.2.1,q.2.2.2.2.2.2.2.2.2.2.2.2.2.2.1,q.2.2.2.2.2.2.2.2.2.2.2.2.2.2.2.1,q.2.2.2.2.2.2.2.2.2.2.2.2.2.2.2.2.1,q.2.2.2.2.2.2.2.2.2.2.2.2.2.2.2.2.2.1,q.2.2.2.2.2.2.2.2.2.2.2.2.2.2.2.2.2.2.1⟩)
     clear hK K
     try simp only [putS]
     refine wpAnyH_ready (rs:=[6]) (by kernel_rfl) (by simp) ?_;refine AllReadyH.cons rfl (fun K hK=>?_) AllReadyH.nil;go_simp;refine (HI.out _ _ _ _ _ hB4 hr1 hr2).mono ?_;rintro e2 u5 ⟨va,vm,vc,ya,ym,yc,rfl,ho3,hoy3,hb⟩;have hX5:=(hb.block _ alt4).trans hX4;have hB5:=hB4.trans (hb.mono hB4.size);have alt5:w.heap.size<u5.heap.size:=(gA hX5);have hbx:=(hb.block _ (gA hbx)).trans hbx;have hby:=(hb.block _ (gA hby)).trans hby;have hr1:=hr1.below hb;have hr2:=hr2.below hb;clear hb;clear hHeld;refine hK.out _ _ ?hS51 (fun hHeld=>?rest51)
     case' hS51=>(have q:=box24 hX5;exact ⟨q.2.1,q.2.2.1,q.2.2.2.1,q.2.2.2.2.1,q.2.2.2.2.2.1,q.2.2.2.2.2.2.1,q.2.2.2.2.2.2.2.1,q.2.2.2.2.2.2.2.2.1,q.2.2.2.2.2.2.2.2.2.1,q.2.2.2.2.2.2.2.2.2.2.1,q.2.2.2.2.2.2.2.2.2.2.2.1,q.2.2.2.2.2.2.2.2.2.2.2.2.1,q.2.2.2.2.2.2.2.2.2.2.2.2.2.1,q.2.2.2.2.2.2.2.2.2.2.2.2.2.2.1,q.2.2.2.2.2.2.2.2.2.2.2.2.2.2.2.1,q.2.2.2.2.2.2.2.2.2.2.2.2.2.2.2.2.1,q.2.2.2.2.2.2.2.2.2.2.2.2.2.2.2.2.2.1,q.2.2.2.2.2.2.2.2.2.2.2.2.2.2.2.2.2.2.1⟩)
     clear hK K
     try simp only [putS]
     refine tD 7 (some 79) ?_
     try simp only [putS]
     refine tD 8 (some 87) ?_
     try simp only [putS]
     refine tD 9 (some 88) ?_
     try simp only [putS]
     refine tD 10 (some 89) ?_
     try simp only [putS]
     obtain ⟨u8,e8,hx8,hB8,hK8⟩:=store9 hbx hB5 (Nat.le_of_lt hbxlo) (.int .i64 c3) (.int .i64 n3) (.int .i64 k3) (.int .i64 p3) (.string s3) (.slice va vm vc) (.int .i64 tc3) (.int .i64 tn3) (.bool on3);obtain ⟨d0,d1,d2,d3,d4,d5,d6,d7,d8⟩:=box9 hbx;obtain ⟨dz0,dz1,dz2,dz3,dz4,dz5,dz6,dz7,dz8⟩:=wr9 hbx;have hX8:=hK8.block hX5 (by omega);have hy8:=hK8.block hby (by omega);have ho8:=own_type ho3 hbx (by decide) hK8;have hoy8:=own_type hoy3 hbx (by decide) hK8;refine wpAnyH_ready (rs:=[13]) (by kernel_rfl) (by simp) ?_;refine AllReadyH.cons rfl (fun K hK=>?_) AllReadyH.nil;go_simp
     try rw [e8]
     clear hHeld;refine hK.out _ _ ?hS56 (fun hHeld=>?rest56)
     case' hS56=>(have q:=box24 hX8;exact ⟨q.2.1,q.2.2.1,q.2.2.2.1,q.2.2.2.2.1,q.2.2.2.2.2.1,q.2.2.2.2.2.2.1,q.2.2.2.2.2.2.2.1,q.2.2.2.2.2.2.2.2.1,q.2.2.2.2.2.2.2.2.2.1,q.2.2.2.2.2.2.2.2.2.2.1,q.2.2.2.2.2.2.2.2.2.2.2.1,q.2.2.2.2.2.2.2.2.2.2.2.2.1,q.2.2.2.2.2.2.2.2.2.2.2.2.2.1,q.2.2.2.2.2.2.2.2.2.2.2.2.2.2.1,q.2.2.2.2.2.2.2.2.2.2.2.2.2.2.2.1,q.2.2.2.2.2.2.2.2.2.2.2.2.2.2.2.2.1,q.2.2.2.2.2.2.2.2.2.2.2.2.2.2.2.2.2.1,q.2.2.2.2.2.2.2.2.2.2.2.2.2.2.2.2.2.2.1⟩)
     clear hK K
     try simp only [putS]
     obtain ⟨u9,e9,hy9,hB9,hK9⟩:=store9 hy8 hB8 (Nat.le_of_lt hbylo) (.int .i64 c5) (.int .i64 n5) (.int .i64 k5) (.int .i64 p5) (.string s5) (.slice ya ym yc) (.int .i64 tc5) (.int .i64 tn5) (.bool on5);obtain ⟨g0,g1,g2,g3,g4,g5,g6,g7,g8⟩:=box9 hy8;obtain ⟨gz0,gz1,gz2,gz3,gz4,gz5,gz6,gz7,gz8⟩:=wr9 hy8;have hX9:=hK9.block hX8 (by omega);have hx9:=hK9.block hx8 (by omega);have ho9:=own_type ho8 hy8 (by decide) hK9;have hoy9:=own_type hoy8 hy8 (by decide) hK9;refine wpAnyH_ready (rs:=[14]) (by kernel_rfl) (by simp) ?_;refine AllReadyH.cons rfl (fun K hK=>?_) AllReadyH.nil;go_simp
     try rw [e9]
     clear hHeld;refine hK.out _ _ ?hS57 (fun hHeld=>?rest57)
     case' hS57=>(have q:=box24 hX9;exact ⟨q.2.1,q.2.2.1,q.2.2.2.1,q.2.2.2.2.1,q.2.2.2.2.2.1,q.2.2.2.2.2.2.1,q.2.2.2.2.2.2.2.1,q.2.2.2.2.2.2.2.2.1,q.2.2.2.2.2.2.2.2.2.1,q.2.2.2.2.2.2.2.2.2.2.1,q.2.2.2.2.2.2.2.2.2.2.2.1,q.2.2.2.2.2.2.2.2.2.2.2.2.1,q.2.2.2.2.2.2.2.2.2.2.2.2.2.1,q.2.2.2.2.2.2.2.2.2.2.2.2.2.2.1,q.2.2.2.2.2.2.2.2.2.2.2.2.2.2.2.1,q.2.2.2.2.2.2.2.2.2.2.2.2.2.2.2.2.1,q.2.2.2.2.2.2.2.2.2.2.2.2.2.2.2.2.2.1,q.2.2.2.2.2.2.2.2.2.2.2.2.2.2.2.2.2.2.1⟩)
     clear hK K
     try simp only [putS]
     refine tD 15 (some 13) ?_
     try simp only [putS]
     refine wpAnyH_done (by kernel_rfl) ?_ _
   case' b22_2 =>
    go_simp;obtain ⟨u3,hv⟩:∃ V,u2.alloc (Obj.cells #[.int .i64 0,.int .i64 0,.int .i64 0,.int .i64 0,.string ⟨#[]⟩,.slice none 0 0,.int .i64 0,.int .i64 0,.bool false] 33)=V:=⟨_,rfl⟩;have hb:Below u2.heap.size u2 u3:=by rw [← hv];exact (bE _ _).alloc (lR _) _
    have hX3:=(hb.block _ alt2).trans hX2;have hB3:=hB2.trans (hb.mono hB2.size);have alt3:w.heap.size<u3.heap.size:=(gA hX3);have hr1:=hr1.below hb;have hr2:=hr2.below hb;have hby:u3.heap[u2.heap.size]?=some (Obj.cells #[.int .i64 0,.int .i64 0,.int .i64 0,.int .i64 0,.string ⟨#[]⟩,.slice none 0 0,.int .i64 0,.int .i64 0,.bool false] 33):=by rw [← hv];exact heap_alloc_new _ _
    have hbylo:w.heap.size<u2.heap.size:=alt2;rw [hv];generalize u2.heap.size=hbyx at *;clear hb hv;clear hHeld;refine hK.out _ _ ?hS59 (fun hHeld=>?rest59)
    case' hS59=>(have q:=box24 hX3;exact ⟨q.2.1,q.2.2.1,q.2.2.2.1,q.2.2.2.2.1,q.2.2.2.2.2.1,q.2.2.2.2.2.2.1,q.2.2.2.2.2.2.2.1,q.2.2.2.2.2.2.2.2.1,q.2.2.2.2.2.2.2.2.2.1,q.2.2.2.2.2.2.2.2.2.2.1,q.2.2.2.2.2.2.2.2.2.2.2.1,q.2.2.2.2.2.2.2.2.2.2.2.2.1,q.2.2.2.2.2.2.2.2.2.2.2.2.2.1,q.2.2.2.2.2.2.2.2.2.2.2.2.2.2.1,q.2.2.2.2.2.2.2.2.2.2.2.2.2.2.2.1,q.2.2.2.2.2.2.2.2.2.2.2.2.2.2.2.2.1,q.2.2.2.2.2.2.2.2.2.2.2.2.2.2.2.2.2.1,q.2.2.2.2.2.2.2.2.2.2.2.2.2.2.2.2.2.2.1⟩)
    clear hK K
    try simp only [putS]
    refine wpAnyH_ready (rs:=[6,11]) (by kernel_rfl) (by simp) ?_;refine AllReadyH.cons rfl (fun K hK=>?b60_0) (AllReadyH.cons rfl (fun K hK=>?b60_1) (AllReadyH.nil))
    case' b60_0 =>
     go_simp;refine (HI.out _ _ _ _ _ hB3 hr1 hr2).mono ?_;rintro e2 u4 ⟨va,vm,vc,ya,ym,yc,rfl,ho3,hoy3,hb⟩;have hX4:=(hb.block _ alt3).trans hX3;have hB4:=hB3.trans (hb.mono hB3.size);have alt4:w.heap.size<u4.heap.size:=(gA hX4);have hby:=(hb.block _ (gA hby)).trans hby;have hr1:=hr1.below hb;have hr2:=hr2.below hb;clear hb;clear hHeld;refine hK.out _ _ ?hS61 (fun hHeld=>?rest61)
     case' hS61=>(have q:=box24 hX4;exact ⟨q.2.1,q.2.2.1,q.2.2.2.1,q.2.2.2.2.1,q.2.2.2.2.2.1,q.2.2.2.2.2.2.1,q.2.2.2.2.2.2.2.1,q.2.2.2.2.2.2.2.2.1,q.2.2.2.2.2.2.2.2.2.1,q.2.2.2.2.2.2.2.2.2.2.1,q.2.2.2.2.2.2.2.2.2.2.2.1,q.2.2.2.2.2.2.2.2.2.2.2.2.1,q.2.2.2.2.2.2.2.2.2.2.2.2.2.1,q.2.2.2.2.2.2.2.2.2.2.2.2.2.2.1,q.2.2.2.2.2.2.2.2.2.2.2.2.2.2.2.1,q.2.2.2.2.2.2.2.2.2.2.2.2.2.2.2.2.1,q.2.2.2.2.2.2.2.2.2.2.2.2.2.2.2.2.2.1,q.2.2.2.2.2.2.2.2.2.2.2.2.2.2.2.2.2.2.1⟩)
     clear hK K
     try simp only [putS]
     refine tD 7 (some 79) ?_
     try simp only [putS]
     refine tD 8 (some 87) ?_
     try simp only [putS]
     refine tD 9 (some 88) ?_
     try simp only [putS]
     refine tD 10 (some 89) ?_
     try simp only [putS]
     refine wpAnyH_ready (rs:=[11]) (by kernel_rfl) (by simp) ?_;refine AllReadyH.cons rfl (fun K hK=>?_) AllReadyH.nil;have hbxhbylt:hbyx<u4.heap.size:=(gA hby);go_simp;obtain ⟨u5,hv⟩:∃ V,u4.alloc (Obj.cells #[.int .i64 0,.int .i64 0,.int .i64 0,.int .i64 0,.string ⟨#[]⟩,.slice none 0 0,.int .i64 0,.int .i64 0,.bool false] 33)=V:=⟨_,rfl⟩;have hb:Below u4.heap.size u4 u5:=by rw [← hv];exact (bE _ _).alloc (lR _) _
     have hX5:=(hb.block _ alt4).trans hX4;have hB5:=hB4.trans (hb.mono hB4.size);have alt5:w.heap.size<u5.heap.size:=(gA hX5);have hby:=(hb.block _ (gA hby)).trans hby;have hr1:=hr1.below hb;have hr2:=hr2.below hb;have ho3:=ho3.below hb;have hoy3:=hoy3.below hb;have hbx:u5.heap[u4.heap.size]?=some (Obj.cells #[.int .i64 0,.int .i64 0,.int .i64 0,.int .i64 0,.string ⟨#[]⟩,.slice none 0 0,.int .i64 0,.int .i64 0,.bool false] 33):=by rw [← hv];exact heap_alloc_new _ _
     have hbxlo:w.heap.size<u4.heap.size:=alt4;rw [hv];generalize u4.heap.size=hbxx at *;clear hb hv;clear hHeld;refine hK.out _ _ ?hS66 (fun hHeld=>?rest66)
     case' hS66=>(have q:=box24 hX5;exact ⟨q.2.1,q.2.2.1,q.2.2.2.1,q.2.2.2.2.1,q.2.2.2.2.2.1,q.2.2.2.2.2.2.1,q.2.2.2.2.2.2.2.1,q.2.2.2.2.2.2.2.2.1,q.2.2.2.2.2.2.2.2.2.1,q.2.2.2.2.2.2.2.2.2.2.1,q.2.2.2.2.2.2.2.2.2.2.2.1,q.2.2.2.2.2.2.2.2.2.2.2.2.1,q.2.2.2.2.2.2.2.2.2.2.2.2.2.1,q.2.2.2.2.2.2.2.2.2.2.2.2.2.2.1,q.2.2.2.2.2.2.2.2.2.2.2.2.2.2.2.1,q.2.2.2.2.2.2.2.2.2.2.2.2.2.2.2.2.1,q.2.2.2.2.2.2.2.2.2.2.2.2.2.2.2.2.2.1,q.2.2.2.2.2.2.2.2.2.2.2.2.2.2.2.2.2.2.1⟩)
     clear hK K
     try simp only [putS]
     obtain ⟨u8,e8,hx8,hB8,hK8⟩:=store9 hbx hB5 (Nat.le_of_lt hbxlo) (.int .i64 c3) (.int .i64 n3) (.int .i64 k3) (.int .i64 p3) (.string s3) (.slice va vm vc) (.int .i64 tc3) (.int .i64 tn3) (.bool on3);obtain ⟨d0,d1,d2,d3,d4,d5,d6,d7,d8⟩:=box9 hbx;obtain ⟨dz0,dz1,dz2,dz3,dz4,dz5,dz6,dz7,dz8⟩:=wr9 hbx;have hX8:=hK8.block hX5 (by omega);have hy8:=hK8.block hby (by omega);have ho8:=own_type ho3 hbx (by decide) hK8;have hoy8:=own_type hoy3 hbx (by decide) hK8;refine wpAnyH_ready (rs:=[13]) (by kernel_rfl) (by simp) ?_;refine AllReadyH.cons rfl (fun K hK=>?_) AllReadyH.nil;go_simp
     try rw [e8]
     clear hHeld;refine hK.out _ _ ?hS67 (fun hHeld=>?rest67)
     case' hS67=>(have q:=box24 hX8;exact ⟨q.2.1,q.2.2.1,q.2.2.2.1,q.2.2.2.2.1,q.2.2.2.2.2.1,q.2.2.2.2.2.2.1,q.2.2.2.2.2.2.2.1,q.2.2.2.2.2.2.2.2.1,q.2.2.2.2.2.2.2.2.2.1,q.2.2.2.2.2.2.2.2.2.2.1,q.2.2.2.2.2.2.2.2.2.2.2.1,q.2.2.2.2.2.2.2.2.2.2.2.2.1,q.2.2.2.2.2.2.2.2.2.2.2.2.2.1,q.2.2.2.2.2.2.2.2.2.2.2.2.2.2.1,q.2.2.2.2.2.2.2.2.2.2.2.2.2.2.2.1,q.2.2.2.2.2.2.2.2.2.2.2.2.2.2.2.2.1,q.2.2.2.2.2.2.2.2.2.2.2.2.2.2.2.2.2.1,q.2.2.2.2.2.2.2.2.2.2.2.2.2.2.2.2.2.2.1⟩)
     clear hK K
     try simp only [putS]
     obtain ⟨u9,e9,hy9,hB9,hK9⟩:=store9 hy8 hB8 (Nat.le_of_lt hbylo) (.int .i64 c5) (.int .i64 n5) (.int .i64 k5) (.int .i64 p5) (.string s5) (.slice ya ym yc) (.int .i64 tc5) (.int .i64 tn5) (.bool on5);obtain ⟨g0,g1,g2,g3,g4,g5,g6,g7,g8⟩:=box9 hy8;obtain ⟨gz0,gz1,gz2,gz3,gz4,gz5,gz6,gz7,gz8⟩:=wr9 hy8;have hX9:=hK9.block hX8 (by omega);have hx9:=hK9.block hx8 (by omega);have ho9:=own_type ho8 hy8 (by decide) hK9;have hoy9:=own_type hoy8 hy8 (by decide) hK9;refine wpAnyH_ready (rs:=[14]) (by kernel_rfl) (by simp) ?_;refine AllReadyH.cons rfl (fun K hK=>?_) AllReadyH.nil;go_simp
     try rw [e9]
     clear hHeld;refine hK.out _ _ ?hS68 (fun hHeld=>?rest68)
     case' hS68=>(have q:=box24 hX9;exact ⟨q.2.1,q.2.2.1,q.2.2.2.1,q.2.2.2.2.1,q.2.2.2.2.2.1,q.2.2.2.2.2.2.1,q.2.2.2.2.2.2.2.1,q.2.2.2.2.2.2.2.2.1,q.2.2.2.2.2.2.2.2.2.1,q.2.2.2.2.2.2.2.2.2.2.1,q.2.2.2.2.2.2.2.2.2.2.2.1,q.2.2.2.2.2.2.2.2.2.2.2.2.1,q.2.2.2.2.2.2.2.2.2.2.2.2.2.1,q.2.2.2.2.2.2.2.2.2.2.2.2.2.2.1,q.2.2.2.2.2.2.2.2.2.2.2.2.2.2.2.1,q.2.2.2.2.2.2.2.2.2.2.2.2.2.2.2.2.1,q.2.2.2.2.2.2.2.2.2.2.2.2.2.2.2.2.2.1,q.2.2.2.2.2.2.2.2.2.2.2.2.2.2.2.2.2.2.1⟩)
     clear hK K
     try simp only [putS]
     refine tD 15 (some 13) ?_
     try simp only [putS]
     refine wpAnyH_done (by kernel_rfl) ?_ _
    case' b60_1 =>
     have hbxhbylt:hbyx<u3.heap.size:=(gA hby);go_simp;obtain ⟨u4,hv⟩:∃ V,u3.alloc (Obj.cells #[.int .i64 0,.int .i64 0,.int .i64 0,.int .i64 0,.string ⟨#[]⟩,.slice none 0 0,.int .i64 0,.int .i64 0,.bool false] 33)=V:=⟨_,rfl⟩;have hb:Below u3.heap.size u3 u4:=by rw [← hv];exact (bE _ _).alloc (lR _) _
     have hX4:=(hb.block _ alt3).trans hX3;have hB4:=hB3.trans (hb.mono hB3.size);have alt4:w.heap.size<u4.heap.size:=(gA hX4);have hby:=(hb.block _ (gA hby)).trans hby;have hr1:=hr1.below hb;have hr2:=hr2.below hb;have hbx:u4.heap[u3.heap.size]?=some (Obj.cells #[.int .i64 0,.int .i64 0,.int .i64 0,.int .i64 0,.string ⟨#[]⟩,.slice none 0 0,.int .i64 0,.int .i64 0,.bool false] 33):=by rw [← hv];exact heap_alloc_new _ _
     have hbxlo:w.heap.size<u3.heap.size:=alt3;rw [hv];generalize u3.heap.size=hbxx at *;clear hb hv;clear hHeld;refine hK.out _ _ ?hS70 (fun hHeld=>?rest70)
     case' hS70=>(have q:=box24 hX4;exact ⟨q.2.1,q.2.2.1,q.2.2.2.1,q.2.2.2.2.1,q.2.2.2.2.2.1,q.2.2.2.2.2.2.1,q.2.2.2.2.2.2.2.1,q.2.2.2.2.2.2.2.2.1,q.2.2.2.2.2.2.2.2.2.1,q.2.2.2.2.2.2.2.2.2.2.1,q.2.2.2.2.2.2.2.2.2.2.2.1,q.2.2.2.2.2.2.2.2.2.2.2.2.1,q.2.2.2.2.2.2.2.2.2.2.2.2.2.1,q.2.2.2.2.2.2.2.2.2.2.2.2.2.2.1,q.2.2.2.2.2.2.2.2.2.2.2.2.2.2.2.1,q.2.2.2.2.2.2.2.2.2.2.2.2.2.2.2.2.1,q.2.2.2.2.2.2.2.2.2.2.2.2.2.2.2.2.2.1,q.2.2.2.2.2.2.2.2.2.2.2.2.2.2.2.2.2.2.1⟩)
     clear hK K
     try simp only [putS]
     refine wpAnyH_ready (rs:=[6]) (by kernel_rfl) (by simp) ?_;refine AllReadyH.cons rfl (fun K hK=>?_) AllReadyH.nil;go_simp;refine (HI.out _ _ _ _ _ hB4 hr1 hr2).mono ?_;rintro e2 u5 ⟨va,vm,vc,ya,ym,yc,rfl,ho3,hoy3,hb⟩;have hX5:=(hb.block _ alt4).trans hX4;have hB5:=hB4.trans (hb.mono hB4.size);have alt5:w.heap.size<u5.heap.size:=(gA hX5);have hby:=(hb.block _ (gA hby)).trans hby;have hbx:=(hb.block _ (gA hbx)).trans hbx;have hr1:=hr1.below hb;have hr2:=hr2.below hb;clear hb;clear hHeld;refine hK.out _ _ ?hS71 (fun hHeld=>?rest71)
     case' hS71=>(have q:=box24 hX5;exact ⟨q.2.1,q.2.2.1,q.2.2.2.1,q.2.2.2.2.1,q.2.2.2.2.2.1,q.2.2.2.2.2.2.1,q.2.2.2.2.2.2.2.1,q.2.2.2.2.2.2.2.2.1,q.2.2.2.2.2.2.2.2.2.1,q.2.2.2.2.2.2.2.2.2.2.1,q.2.2.2.2.2.2.2.2.2.2.2.1,q.2.2.2.2.2.2.2.2.2.2.2.2.1,q.2.2.2.2.2.2.2.2.2.2.2.2.2.1,q.2.2.2.2.2.2.2.2.2.2.2.2.2.2.1,q.2.2.2.2.2.2.2.2.2.2.2.2.2.2.2.1,q.2.2.2.2.2.2.2.2.2.2.2.2.2.2.2.2.1,q.2.2.2.2.2.2.2.2.2.2.2.2.2.2.2.2.2.1,q.2.2.2.2.2.2.2.2.2.2.2.2.2.2.2.2.2.2.1⟩)
     clear hK K
     try simp only [putS]
     refine tD 7 (some 79) ?_
     try simp only [putS]
     refine tD 8 (some 87) ?_
     try simp only [putS]
     refine tD 9 (some 88) ?_
     try simp only [putS]
     refine tD 10 (some 89) ?_
     try simp only [putS]
     obtain ⟨u8,e8,hx8,hB8,hK8⟩:=store9 hbx hB5 (Nat.le_of_lt hbxlo) (.int .i64 c3) (.int .i64 n3) (.int .i64 k3) (.int .i64 p3) (.string s3) (.slice va vm vc) (.int .i64 tc3) (.int .i64 tn3) (.bool on3);obtain ⟨d0,d1,d2,d3,d4,d5,d6,d7,d8⟩:=box9 hbx;obtain ⟨dz0,dz1,dz2,dz3,dz4,dz5,dz6,dz7,dz8⟩:=wr9 hbx;have hX8:=hK8.block hX5 (by omega);have hy8:=hK8.block hby (by omega);have ho8:=own_type ho3 hbx (by decide) hK8;have hoy8:=own_type hoy3 hbx (by decide) hK8;refine wpAnyH_ready (rs:=[13]) (by kernel_rfl) (by simp) ?_;refine AllReadyH.cons rfl (fun K hK=>?_) AllReadyH.nil;go_simp
     try rw [e8]
     clear hHeld;refine hK.out _ _ ?hS76 (fun hHeld=>?rest76)
     case' hS76=>(have q:=box24 hX8;exact ⟨q.2.1,q.2.2.1,q.2.2.2.1,q.2.2.2.2.1,q.2.2.2.2.2.1,q.2.2.2.2.2.2.1,q.2.2.2.2.2.2.2.1,q.2.2.2.2.2.2.2.2.1,q.2.2.2.2.2.2.2.2.2.1,q.2.2.2.2.2.2.2.2.2.2.1,q.2.2.2.2.2.2.2.2.2.2.2.1,q.2.2.2.2.2.2.2.2.2.2.2.2.1,q.2.2.2.2.2.2.2.2.2.2.2.2.2.1,q.2.2.2.2.2.2.2.2.2.2.2.2.2.2.1,q.2.2.2.2.2.2.2.2.2.2.2.2.2.2.2.1,q.2.2.2.2.2.2.2.2.2.2.2.2.2.2.2.2.1,q.2.2.2.2.2.2.2.2.2.2.2.2.2.2.2.2.2.1,q.2.2.2.2.2.2.2.2.2.2.2.2.2.2.2.2.2.2.1⟩)
     clear hK K
     try simp only [putS]
     obtain ⟨u9,e9,hy9,hB9,hK9⟩:=store9 hy8 hB8 (Nat.le_of_lt hbylo) (.int .i64 c5) (.int .i64 n5) (.int .i64 k5) (.int .i64 p5) (.string s5) (.slice ya ym yc) (.int .i64 tc5) (.int .i64 tn5) (.bool on5);obtain ⟨g0,g1,g2,g3,g4,g5,g6,g7,g8⟩:=box9 hy8;obtain ⟨gz0,gz1,gz2,gz3,gz4,gz5,gz6,gz7,gz8⟩:=wr9 hy8;have hX9:=hK9.block hX8 (by omega);have hx9:=hK9.block hx8 (by omega);have ho9:=own_type ho8 hy8 (by decide) hK9;have hoy9:=own_type hoy8 hy8 (by decide) hK9;refine wpAnyH_ready (rs:=[14]) (by kernel_rfl) (by simp) ?_;refine AllReadyH.cons rfl (fun K hK=>?_) AllReadyH.nil;go_simp
     try rw [e9]
     clear hHeld;refine hK.out _ _ ?hS77 (fun hHeld=>?rest77)
     case' hS77=>(have q:=box24 hX9;exact ⟨q.2.1,q.2.2.1,q.2.2.2.1,q.2.2.2.2.1,q.2.2.2.2.2.1,q.2.2.2.2.2.2.1,q.2.2.2.2.2.2.2.1,q.2.2.2.2.2.2.2.2.1,q.2.2.2.2.2.2.2.2.2.1,q.2.2.2.2.2.2.2.2.2.2.1,q.2.2.2.2.2.2.2.2.2.2.2.1,q.2.2.2.2.2.2.2.2.2.2.2.2.1,q.2.2.2.2.2.2.2.2.2.2.2.2.2.1,q.2.2.2.2.2.2.2.2.2.2.2.2.2.2.1,q.2.2.2.2.2.2.2.2.2.2.2.2.2.2.2.1,q.2.2.2.2.2.2.2.2.2.2.2.2.2.2.2.2.1,q.2.2.2.2.2.2.2.2.2.2.2.2.2.2.2.2.2.1,q.2.2.2.2.2.2.2.2.2.2.2.2.2.2.2.2.2.2.1⟩)
     clear hK K
     try simp only [putS]
     refine tD 15 (some 13) ?_
     try simp only [putS]
     refine wpAnyH_done (by kernel_rfl) ?_ _
  case' b20_1 =>
   go_simp;obtain ⟨u2,hv⟩:∃ V,u1.alloc (Obj.cells #[.int .i64 0,.int .i64 0,.int .i64 0,.int .i64 0,.string ⟨#[]⟩,.slice none 0 0,.int .i64 0,.int .i64 0,.bool false] 33)=V:=⟨_,rfl⟩;have hb:Below u1.heap.size u1 u2:=by rw [← hv];exact (bE _ _).alloc (lR _) _
   have hX2:=(hb.block _ alt1).trans hX1;have hB2:=hB1.trans (hb.mono hB1.size);have alt2:w.heap.size<u2.heap.size:=(gA hX2);have hr1:=hr1.below hb;have hbx:u2.heap[u1.heap.size]?=some (Obj.cells #[.int .i64 0,.int .i64 0,.int .i64 0,.int .i64 0,.string ⟨#[]⟩,.slice none 0 0,.int .i64 0,.int .i64 0,.bool false] 33):=by rw [← hv];exact heap_alloc_new _ _
   have hbxlo:w.heap.size<u1.heap.size:=alt1;rw [hv];generalize u1.heap.size=hbxx at *;clear hb hv;clear hHeld;refine hK.out _ _ ?hS79 (fun hHeld=>?rest79)
   case' hS79=>(have q:=box24 hX2;exact ⟨q.2.1,q.2.2.1,q.2.2.2.1,q.2.2.2.2.1,q.2.2.2.2.2.1,q.2.2.2.2.2.2.1,q.2.2.2.2.2.2.2.1,q.2.2.2.2.2.2.2.2.1,q.2.2.2.2.2.2.2.2.2.1,q.2.2.2.2.2.2.2.2.2.2.1,q.2.2.2.2.2.2.2.2.2.2.2.1,q.2.2.2.2.2.2.2.2.2.2.2.2.1,q.2.2.2.2.2.2.2.2.2.2.2.2.2.1,q.2.2.2.2.2.2.2.2.2.2.2.2.2.2.1,q.2.2.2.2.2.2.2.2.2.2.2.2.2.2.2.1,q.2.2.2.2.2.2.2.2.2.2.2.2.2.2.2.2.1,q.2.2.2.2.2.2.2.2.2.2.2.2.2.2.2.2.2.1,q.2.2.2.2.2.2.2.2.2.2.2.2.2.2.2.2.2.2.1⟩)
   clear hK K
   try simp only [putS]
   refine wpAnyH_ready (rs:=[5,12]) (by kernel_rfl) (by simp) ?_;refine AllReadyH.cons rfl (fun K hK=>?b80_0) (AllReadyH.cons rfl (fun K hK=>?b80_1) (AllReadyH.nil))
   case' b80_0 =>
    go_simp;refine (HC2.out _ hB2).mono ?_;rintro e2 u3 ⟨y2,z2,rfl,ho2,hb⟩;have hX3:=(hb.block _ alt2).trans hX2;have hB3:=hB2.trans (hb.mono hB2.size);have alt3:w.heap.size<u3.heap.size:=(gA hX3);have hbx:=(hb.block _ (gA hbx)).trans hbx;have hr1:=hr1.below hb;have hr2:Rw rangeV 2 u3 y2 m2 z2 l2:=ho2.rw_ layG;clear ho2;clear hb;clear hHeld;refine hK.out _ _ ?hS81 (fun hHeld=>?rest81)
    case' hS81=>(have q:=box24 hX3;exact ⟨q.2.1,q.2.2.1,q.2.2.2.1,q.2.2.2.2.1,q.2.2.2.2.2.1,q.2.2.2.2.2.2.1,q.2.2.2.2.2.2.2.1,q.2.2.2.2.2.2.2.2.1,q.2.2.2.2.2.2.2.2.2.1,q.2.2.2.2.2.2.2.2.2.2.1,q.2.2.2.2.2.2.2.2.2.2.2.1,q.2.2.2.2.2.2.2.2.2.2.2.2.1,q.2.2.2.2.2.2.2.2.2.2.2.2.2.1,q.2.2.2.2.2.2.2.2.2.2.2.2.2.2.1,q.2.2.2.2.2.2.2.2.2.2.2.2.2.2.2.1,q.2.2.2.2.2.2.2.2.2.2.2.2.2.2.2.2.1,q.2.2.2.2.2.2.2.2.2.2.2.2.2.2.2.2.2.1,q.2.2.2.2.2.2.2.2.2.2.2.2.2.2.2.2.2.2.1⟩)
    clear hK K
    try simp only [putS]
    refine wpAnyH_ready (rs:=[6,12]) (by kernel_rfl) (by simp) ?_;refine AllReadyH.cons rfl (fun K hK=>?b82_0) (AllReadyH.cons rfl (fun K hK=>?b82_1) (AllReadyH.nil))
    case' b82_0 =>
     go_simp;refine (HI.out _ _ _ _ _ hB3 hr1 hr2).mono ?_;rintro e2 u4 ⟨va,vm,vc,ya,ym,yc,rfl,ho3,hoy3,hb⟩;have hX4:=(hb.block _ alt3).trans hX3;have hB4:=hB3.trans (hb.mono hB3.size);have alt4:w.heap.size<u4.heap.size:=(gA hX4);have hbx:=(hb.block _ (gA hbx)).trans hbx;have hr1:=hr1.below hb;have hr2:=hr2.below hb;clear hb;clear hHeld;refine hK.out _ _ ?hS83 (fun hHeld=>?rest83)
     case' hS83=>(have q:=box24 hX4;exact ⟨q.2.1,q.2.2.1,q.2.2.2.1,q.2.2.2.2.1,q.2.2.2.2.2.1,q.2.2.2.2.2.2.1,q.2.2.2.2.2.2.2.1,q.2.2.2.2.2.2.2.2.1,q.2.2.2.2.2.2.2.2.2.1,q.2.2.2.2.2.2.2.2.2.2.1,q.2.2.2.2.2.2.2.2.2.2.2.1,q.2.2.2.2.2.2.2.2.2.2.2.2.1,q.2.2.2.2.2.2.2.2.2.2.2.2.2.1,q.2.2.2.2.2.2.2.2.2.2.2.2.2.2.1,q.2.2.2.2.2.2.2.2.2.2.2.2.2.2.2.1,q.2.2.2.2.2.2.2.2.2.2.2.2.2.2.2.2.1,q.2.2.2.2.2.2.2.2.2.2.2.2.2.2.2.2.2.1,q.2.2.2.2.2.2.2.2.2.2.2.2.2.2.2.2.2.2.1⟩)
     clear hK K
     try simp only [putS]
     refine tD 7 (some 79) ?_
     try simp only [putS]
     refine tD 8 (some 87) ?_
     try simp only [putS]
     refine tD 9 (some 88) ?_
     try simp only [putS]
     refine tD 10 (some 89) ?_
     try simp only [putS]
     refine wpAnyH_ready (rs:=[12]) (by kernel_rfl) (by simp) ?_;refine AllReadyH.cons rfl (fun K hK=>?_) AllReadyH.nil;have hbyhbxlt:hbxx<u4.heap.size:=(gA hbx);go_simp;obtain ⟨u5,hv⟩:∃ V,u4.alloc (Obj.cells #[.int .i64 0,.int .i64 0,.int .i64 0,.int .i64 0,.string ⟨#[]⟩,.slice none 0 0,.int .i64 0,.int .i64 0,.bool false] 33)=V:=⟨_,rfl⟩;have hb:Below u4.heap.size u4 u5:=by rw [← hv];exact (bE _ _).alloc (lR _) _
     have hX5:=(hb.block _ alt4).trans hX4;have hB5:=hB4.trans (hb.mono hB4.size);have alt5:w.heap.size<u5.heap.size:=(gA hX5);have hbx:=(hb.block _ (gA hbx)).trans hbx;have hr1:=hr1.below hb;have hr2:=hr2.below hb;have ho3:=ho3.below hb;have hoy3:=hoy3.below hb;have hby:u5.heap[u4.heap.size]?=some (Obj.cells #[.int .i64 0,.int .i64 0,.int .i64 0,.int .i64 0,.string ⟨#[]⟩,.slice none 0 0,.int .i64 0,.int .i64 0,.bool false] 33):=by rw [← hv];exact heap_alloc_new _ _
     have hbylo:w.heap.size<u4.heap.size:=alt4;rw [hv];generalize u4.heap.size=hbyx at *;clear hb hv;clear hHeld;refine hK.out _ _ ?hS88 (fun hHeld=>?rest88)
     case' hS88=>(have q:=box24 hX5;exact ⟨q.2.1,q.2.2.1,q.2.2.2.1,q.2.2.2.2.1,q.2.2.2.2.2.1,q.2.2.2.2.2.2.1,q.2.2.2.2.2.2.2.1,q.2.2.2.2.2.2.2.2.1,q.2.2.2.2.2.2.2.2.2.1,q.2.2.2.2.2.2.2.2.2.2.1,q.2.2.2.2.2.2.2.2.2.2.2.1,q.2.2.2.2.2.2.2.2.2.2.2.2.1,q.2.2.2.2.2.2.2.2.2.2.2.2.2.1,q.2.2.2.2.2.2.2.2.2.2.2.2.2.2.1,q.2.2.2.2.2.2.2.2.2.2.2.2.2.2.2.1,q.2.2.2.2.2.2.2.2.2.2.2.2.2.2.2.2.1,q.2.2.2.2.2.2.2.2.2.2.2.2.2.2.2.2.2.1,q.2.2.2.2.2.2.2.2.2.2.2.2.2.2.2.2.2.2.1⟩)
     clear hK K
     try simp only [putS]
     obtain ⟨u8,e8,hx8,hB8,hK8⟩:=store9 hbx hB5 (Nat.le_of_lt hbxlo) (.int .i64 c3) (.int .i64 n3) (.int .i64 k3) (.int .i64 p3) (.string s3) (.slice va vm vc) (.int .i64 tc3) (.int .i64 tn3) (.bool on3);obtain ⟨d0,d1,d2,d3,d4,d5,d6,d7,d8⟩:=box9 hbx;obtain ⟨dz0,dz1,dz2,dz3,dz4,dz5,dz6,dz7,dz8⟩:=wr9 hbx;have hX8:=hK8.block hX5 (by omega);have hy8:=hK8.block hby (by omega);have ho8:=own_type ho3 hbx (by decide) hK8;have hoy8:=own_type hoy3 hbx (by decide) hK8;refine wpAnyH_ready (rs:=[13]) (by kernel_rfl) (by simp) ?_;refine AllReadyH.cons rfl (fun K hK=>?_) AllReadyH.nil;go_simp
     try rw [e8]
     clear hHeld;refine hK.out _ _ ?hS89 (fun hHeld=>?rest89)
     case' hS89=>(have q:=box24 hX8;exact ⟨q.2.1,q.2.2.1,q.2.2.2.1,q.2.2.2.2.1,q.2.2.2.2.2.1,q.2.2.2.2.2.2.1,q.2.2.2.2.2.2.2.1,q.2.2.2.2.2.2.2.2.1,q.2.2.2.2.2.2.2.2.2.1,q.2.2.2.2.2.2.2.2.2.2.1,q.2.2.2.2.2.2.2.2.2.2.2.1,q.2.2.2.2.2.2.2.2.2.2.2.2.1,q.2.2.2.2.2.2.2.2.2.2.2.2.2.1,q.2.2.2.2.2.2.2.2.2.2.2.2.2.2.1,q.2.2.2.2.2.2.2.2.2.2.2.2.2.2.2.1,q.2.2.2.2.2.2.2.2.2.2.2.2.2.2.2.2.1,q.2.2.2.2.2.2.2.2.2.2.2.2.2.2.2.2.2.1,q.2.2.2.2.2.2.2.2.2.2.2.2.2.2.2.2.2.2.1⟩)
     clear hK K
     try simp only [putS]
     obtain ⟨u9,e9,hy9,hB9,hK9⟩:=store9 hy8 hB8 (Nat.le_of_lt hbylo) (.int .i64 c5) (.int .i64 n5) (.int .i64 k5) (.int .i64 p5) (.string s5) (.slice ya ym yc) (.int .i64 tc5) (.int .i64 tn5) (.bool on5);obtain ⟨g0,g1,g2,g3,g4,g5,g6,g7,g8⟩:=box9 hy8;obtain ⟨gz0,gz1,gz2,gz3,gz4,gz5,gz6,gz7,gz8⟩:=wr9 hy8;have hX9:=hK9.block hX8 (by omega);have hx9:=hK9.block hx8 (by omega);have ho9:=own_type ho8 hy8 (by decide) hK9;have hoy9:=own_type hoy8 hy8 (by decide) hK9;refine wpAnyH_ready (rs:=[14]) (by kernel_rfl) (by simp) ?_;refine AllReadyH.cons rfl (fun K hK=>?_) AllReadyH.nil;go_simp
     try rw [e9]
     clear hHeld;refine hK.out _ _ ?hS90 (fun hHeld=>?rest90)
     case' hS90=>(have q:=box24 hX9;exact ⟨q.2.1,q.2.2.1,q.2.2.2.1,q.2.2.2.2.1,q.2.2.2.2.2.1,q.2.2.2.2.2.2.1,q.2.2.2.2.2.2.2.1,q.2.2.2.2.2.2.2.2.1,q.2.2.2.2.2.2.2.2.2.1,q.2.2.2.2.2.2.2.2.2.2.1,q.2.2.2.2.2.2.2.2.2.2.2.1,q.2.2.2.2.2.2.2.2.2.2.2.2.1,q.2.2.2.2.2.2.2.2.2.2.2.2.2.1,q.2.2.2.2.2.2.2.2.2.2.2.2.2.2.1,q.2.2.2.2.2.2.2.2.2.2.2.2.2.2.2.1,q.2.2.2.2.2.2.2.2.2.2.2.2.2.2.2.2.1,q.2.2.2.2.2.2.2.2.2.2.2.2.2.2.2.2.2.1,q.2.2.2.2.2.2.2.2.2.2.2.2.2.2.2.2.2.2.1⟩)
     clear hK K
     try simp only [putS]
     refine tD 15 (some 13) ?_
     try simp only [putS]
     refine wpAnyH_done (by kernel_rfl) ?_ _
    case' b82_1 =>
     have hbyhbxlt:hbxx<u3.heap.size:=(gA hbx);go_simp;obtain ⟨u4,hv⟩:∃ V,u3.alloc (Obj.cells #[.int .i64 0,.int .i64 0,.int .i64 0,.int .i64 0,.string ⟨#[]⟩,.slice none 0 0,.int .i64 0,.int .i64 0,.bool false] 33)=V:=⟨_,rfl⟩;have hb:Below u3.heap.size u3 u4:=by rw [← hv];exact (bE _ _).alloc (lR _) _
     have hX4:=(hb.block _ alt3).trans hX3;have hB4:=hB3.trans (hb.mono hB3.size);have alt4:w.heap.size<u4.heap.size:=(gA hX4);have hbx:=(hb.block _ (gA hbx)).trans hbx;have hr1:=hr1.below hb;have hr2:=hr2.below hb;have hby:u4.heap[u3.heap.size]?=some (Obj.cells #[.int .i64 0,.int .i64 0,.int .i64 0,.int .i64 0,.string ⟨#[]⟩,.slice none 0 0,.int .i64 0,.int .i64 0,.bool false] 33):=by rw [← hv];exact heap_alloc_new _ _
     have hbylo:w.heap.size<u3.heap.size:=alt3;rw [hv];generalize u3.heap.size=hbyx at *;clear hb hv;clear hHeld;refine hK.out _ _ ?hS92 (fun hHeld=>?rest92)
     case' hS92=>(have q:=box24 hX4;exact ⟨q.2.1,q.2.2.1,q.2.2.2.1,q.2.2.2.2.1,q.2.2.2.2.2.1,q.2.2.2.2.2.2.1,q.2.2.2.2.2.2.2.1,q.2.2.2.2.2.2.2.2.1,q.2.2.2.2.2.2.2.2.2.1,q.2.2.2.2.2.2.2.2.2.2.1,q.2.2.2.2.2.2.2.2.2.2.2.1,q.2.2.2.2.2.2.2.2.2.2.2.2.1,q.2.2.2.2.2.2.2.2.2.2.2.2.2.1,q.2.2.2.2.2.2.2.2.2.2.2.2.2.2.1,q.2.2.2.2.2.2.2.2.2.2.2.2.2.2.2.1,q.2.2.2.2.2.2.2.2.2.2.2.2.2.2.2.2.1,q.2.2.2.2.2.2.2.2.2.2.2.2.2.2.2.2.2.1,q.2.2.2.2.2.2.2.2.2.2.2.2.2.2.2.2.2.2.1⟩)
     clear hK K
     try simp only [putS]
     refine wpAnyH_ready (rs:=[6]) (by kernel_rfl) (by simp) ?_;refine AllReadyH.cons rfl (fun K hK=>?_) AllReadyH.nil;go_simp;refine (HI.out _ _ _ _ _ hB4 hr1 hr2).mono ?_;rintro e2 u5 ⟨va,vm,vc,ya,ym,yc,rfl,ho3,hoy3,hb⟩;have hX5:=(hb.block _ alt4).trans hX4;have hB5:=hB4.trans (hb.mono hB4.size);have alt5:w.heap.size<u5.heap.size:=(gA hX5);have hbx:=(hb.block _ (gA hbx)).trans hbx;have hby:=(hb.block _ (gA hby)).trans hby;have hr1:=hr1.below hb;have hr2:=hr2.below hb;clear hb;clear hHeld;refine hK.out _ _ ?hS93 (fun hHeld=>?rest93)
     case' hS93=>(have q:=box24 hX5;exact ⟨q.2.1,q.2.2.1,q.2.2.2.1,q.2.2.2.2.1,q.2.2.2.2.2.1,q.2.2.2.2.2.2.1,q.2.2.2.2.2.2.2.1,q.2.2.2.2.2.2.2.2.1,q.2.2.2.2.2.2.2.2.2.1,q.2.2.2.2.2.2.2.2.2.2.1,q.2.2.2.2.2.2.2.2.2.2.2.1,q.2.2.2.2.2.2.2.2.2.2.2.2.1,q.2.2.2.2.2.2.2.2.2.2.2.2.2.1,q.2.2.2.2.2.2.2.2.2.2.2.2.2.2.1,q.2.2.2.2.2.2.2.2.2.2.2.2.2.2.2.1,q.2.2.2.2.2.2.2.2.2.2.2.2.2.2.2.2.1,q.2.2.2.2.2.2.2.2.2.2.2.2.2.2.2.2.2.1,q.2.2.2.2.2.2.2.2.2.2.2.2.2.2.2.2.2.2.1⟩)
     clear hK K
     try simp only [putS]
     refine tD 7 (some 79) ?_
     try simp only [putS]
     refine tD 8 (some 87) ?_
     try simp only [putS]
     refine tD 9 (some 88) ?_
     try simp only [putS]
     refine tD 10 (some 89) ?_
     try simp only [putS]
     obtain ⟨u8,e8,hx8,hB8,hK8⟩:=store9 hbx hB5 (Nat.le_of_lt hbxlo) (.int .i64 c3) (.int .i64 n3) (.int .i64 k3) (.int .i64 p3) (.string s3) (.slice va vm vc) (.int .i64 tc3) (.int .i64 tn3) (.bool on3);obtain ⟨d0,d1,d2,d3,d4,d5,d6,d7,d8⟩:=box9 hbx;obtain ⟨dz0,dz1,dz2,dz3,dz4,dz5,dz6,dz7,dz8⟩:=wr9 hbx;have hX8:=hK8.block hX5 (by omega);have hy8:=hK8.block hby (by omega);have ho8:=own_type ho3 hbx (by decide) hK8;have hoy8:=own_type hoy3 hbx (by decide) hK8;refine wpAnyH_ready (rs:=[13]) (by kernel_rfl) (by simp) ?_;refine AllReadyH.cons rfl (fun K hK=>?_) AllReadyH.nil;go_simp
     try rw [e8]
     clear hHeld;refine hK.out _ _ ?hS98 (fun hHeld=>?rest98)
     case' hS98=>(have q:=box24 hX8;exact ⟨q.2.1,q.2.2.1,q.2.2.2.1,q.2.2.2.2.1,q.2.2.2.2.2.1,q.2.2.2.2.2.2.1,q.2.2.2.2.2.2.2.1,q.2.2.2.2.2.2.2.2.1,q.2.2.2.2.2.2.2.2.2.1,q.2.2.2.2.2.2.2.2.2.2.1,q.2.2.2.2.2.2.2.2.2.2.2.1,q.2.2.2.2.2.2.2.2.2.2.2.2.1,q.2.2.2.2.2.2.2.2.2.2.2.2.2.1,q.2.2.2.2.2.2.2.2.2.2.2.2.2.2.1,q.2.2.2.2.2.2.2.2.2.2.2.2.2.2.2.1,q.2.2.2.2.2.2.2.2.2.2.2.2.2.2.2.2.1,q.2.2.2.2.2.2.2.2.2.2.2.2.2.2.2.2.2.1,q.2.2.2.2.2.2.2.2.2.2.2.2.2.2.2.2.2.2.1⟩)
     clear hK K
     try simp only [putS]
     obtain ⟨u9,e9,hy9,hB9,hK9⟩:=store9 hy8 hB8 (Nat.le_of_lt hbylo) (.int .i64 c5) (.int .i64 n5) (.int .i64 k5) (.int .i64 p5) (.string s5) (.slice ya ym yc) (.int .i64 tc5) (.int .i64 tn5) (.bool on5);obtain ⟨g0,g1,g2,g3,g4,g5,g6,g7,g8⟩:=box9 hy8;obtain ⟨gz0,gz1,gz2,gz3,gz4,gz5,gz6,gz7,gz8⟩:=wr9 hy8;have hX9:=hK9.block hX8 (by omega);have hx9:=hK9.block hx8 (by omega);have ho9:=own_type ho8 hy8 (by decide) hK9;have hoy9:=own_type hoy8 hy8 (by decide) hK9;refine wpAnyH_ready (rs:=[14]) (by kernel_rfl) (by simp) ?_;refine AllReadyH.cons rfl (fun K hK=>?_) AllReadyH.nil;go_simp
     try rw [e9]
     clear hHeld;refine hK.out _ _ ?hS99 (fun hHeld=>?rest99)
     case' hS99=>(have q:=box24 hX9;exact ⟨q.2.1,q.2.2.1,q.2.2.2.1,q.2.2.2.2.1,q.2.2.2.2.2.1,q.2.2.2.2.2.2.1,q.2.2.2.2.2.2.2.1,q.2.2.2.2.2.2.2.2.1,q.2.2.2.2.2.2.2.2.2.1,q.2.2.2.2.2.2.2.2.2.2.1,q.2.2.2.2.2.2.2.2.2.2.2.1,q.2.2.2.2.2.2.2.2.2.2.2.2.1,q.2.2.2.2.2.2.2.2.2.2.2.2.2.1,q.2.2.2.2.2.2.2.2.2.2.2.2.2.2.1,q.2.2.2.2.2.2.2.2.2.2.2.2.2.2.2.1,q.2.2.2.2.2.2.2.2.2.2.2.2.2.2.2.2.1,q.2.2.2.2.2.2.2.2.2.2.2.2.2.2.2.2.2.1,q.2.2.2.2.2.2.2.2.2.2.2.2.2.2.2.2.2.2.1⟩)
     clear hK K
     try simp only [putS]
     refine tD 15 (some 13) ?_
     try simp only [putS]
     refine wpAnyH_done (by kernel_rfl) ?_ _
   case' b80_1 =>
    have hbyhbxlt:hbxx<u2.heap.size:=(gA hbx);go_simp;obtain ⟨u3,hv⟩:∃ V,u2.alloc (Obj.cells #[.int .i64 0,.int .i64 0,.int .i64 0,.int .i64 0,.string ⟨#[]⟩,.slice none 0 0,.int .i64 0,.int .i64 0,.bool false] 33)=V:=⟨_,rfl⟩;have hb:Below u2.heap.size u2 u3:=by rw [← hv];exact (bE _ _).alloc (lR _) _
    have hX3:=(hb.block _ alt2).trans hX2;have hB3:=hB2.trans (hb.mono hB2.size);have alt3:w.heap.size<u3.heap.size:=(gA hX3);have hbx:=(hb.block _ (gA hbx)).trans hbx;have hr1:=hr1.below hb;have hby:u3.heap[u2.heap.size]?=some (Obj.cells #[.int .i64 0,.int .i64 0,.int .i64 0,.int .i64 0,.string ⟨#[]⟩,.slice none 0 0,.int .i64 0,.int .i64 0,.bool false] 33):=by rw [← hv];exact heap_alloc_new _ _
    have hbylo:w.heap.size<u2.heap.size:=alt2;rw [hv];generalize u2.heap.size=hbyx at *;clear hb hv;clear hHeld;refine hK.out _ _ ?hS101 (fun hHeld=>?rest101)
    case' hS101=>(have q:=box24 hX3;exact ⟨q.2.1,q.2.2.1,q.2.2.2.1,q.2.2.2.2.1,q.2.2.2.2.2.1,q.2.2.2.2.2.2.1,q.2.2.2.2.2.2.2.1,q.2.2.2.2.2.2.2.2.1,q.2.2.2.2.2.2.2.2.2.1,q.2.2.2.2.2.2.2.2.2.2.1,q.2.2.2.2.2.2.2.2.2.2.2.1,q.2.2.2.2.2.2.2.2.2.2.2.2.1,q.2.2.2.2.2.2.2.2.2.2.2.2.2.1,q.2.2.2.2.2.2.2.2.2.2.2.2.2.2.1,q.2.2.2.2.2.2.2.2.2.2.2.2.2.2.2.1,q.2.2.2.2.2.2.2.2.2.2.2.2.2.2.2.2.1,q.2.2.2.2.2.2.2.2.2.2.2.2.2.2.2.2.2.1,q.2.2.2.2.2.2.2.2.2.2.2.2.2.2.2.2.2.2.1⟩)
    clear hK K
    try simp only [putS]
    refine wpAnyH_ready (rs:=[5]) (by kernel_rfl) (by simp) ?_;refine AllReadyH.cons rfl (fun K hK=>?_) AllReadyH.nil;go_simp;refine (HC2.out _ hB3).mono ?_;rintro e2 u4 ⟨y2,z2,rfl,ho2,hb⟩;have hX4:=(hb.block _ alt3).trans hX3;have hB4:=hB3.trans (hb.mono hB3.size);have alt4:w.heap.size<u4.heap.size:=(gA hX4);have hbx:=(hb.block _ (gA hbx)).trans hbx;have hby:=(hb.block _ (gA hby)).trans hby;have hr1:=hr1.below hb;have hr2:Rw rangeV 2 u4 y2 m2 z2 l2:=ho2.rw_ layG;clear ho2;clear hb;clear hHeld;refine hK.out _ _ ?hS102 (fun hHeld=>?rest102)
    case' hS102=>(have q:=box24 hX4;exact ⟨q.2.1,q.2.2.1,q.2.2.2.1,q.2.2.2.2.1,q.2.2.2.2.2.1,q.2.2.2.2.2.2.1,q.2.2.2.2.2.2.2.1,q.2.2.2.2.2.2.2.2.1,q.2.2.2.2.2.2.2.2.2.1,q.2.2.2.2.2.2.2.2.2.2.1,q.2.2.2.2.2.2.2.2.2.2.2.1,q.2.2.2.2.2.2.2.2.2.2.2.2.1,q.2.2.2.2.2.2.2.2.2.2.2.2.2.1,q.2.2.2.2.2.2.2.2.2.2.2.2.2.2.1,q.2.2.2.2.2.2.2.2.2.2.2.2.2.2.2.1,q.2.2.2.2.2.2.2.2.2.2.2.2.2.2.2.2.1,q.2.2.2.2.2.2.2.2.2.2.2.2.2.2.2.2.2.1,q.2.2.2.2.2.2.2.2.2.2.2.2.2.2.2.2.2.2.1⟩)
    clear hK K
    try simp only [putS]
    refine wpAnyH_ready (rs:=[6]) (by kernel_rfl) (by simp) ?_;refine AllReadyH.cons rfl (fun K hK=>?_) AllReadyH.nil;go_simp;refine (HI.out _ _ _ _ _ hB4 hr1 hr2).mono ?_;rintro e2 u5 ⟨va,vm,vc,ya,ym,yc,rfl,ho3,hoy3,hb⟩;have hX5:=(hb.block _ alt4).trans hX4;have hB5:=hB4.trans (hb.mono hB4.size);have alt5:w.heap.size<u5.heap.size:=(gA hX5);have hbx:=(hb.block _ (gA hbx)).trans hbx;have hby:=(hb.block _ (gA hby)).trans hby;have hr1:=hr1.below hb;have hr2:=hr2.below hb;clear hb;clear hHeld;refine hK.out _ _ ?hS103 (fun hHeld=>?rest103)
    case' hS103=>(have q:=box24 hX5;exact ⟨q.2.1,q.2.2.1,q.2.2.2.1,q.2.2.2.2.1,q.2.2.2.2.2.1,q.2.2.2.2.2.2.1,q.2.2.2.2.2.2.2.1,q.2.2.2.2.2.2.2.2.1,q.2.2.2.2.2.2.2.2.2.1,q.2.2.2.2.2.2.2.2.2.2.1,q.2.2.2.2.2.2.2.2.2.2.2.1,q.2.2.2.2.2.2.2.2.2.2.2.2.1,q.2.2.2.2.2.2.2.2.2.2.2.2.2.1,q.2.2.2.2.2.2.2.2.2.2.2.2.2.2.1,q.2.2.2.2.2.2.2.2.2.2.2.2.2.2.2.1,q.2.2.2.2.2.2.2.2.2.2.2.2.2.2.2.2.1,q.2.2.2.2.2.2.2.2.2.2.2.2.2.2.2.2.2.1,q.2.2.2.2.2.2.2.2.2.2.2.2.2.2.2.2.2.2.1⟩)
    clear hK K
    try simp only [putS]
    refine tD 7 (some 79) ?_
    try simp only [putS]
    refine tD 8 (some 87) ?_
    try simp only [putS]
    refine tD 9 (some 88) ?_
    try simp only [putS]
    refine tD 10 (some 89) ?_
    try simp only [putS]
    obtain ⟨u8,e8,hx8,hB8,hK8⟩:=store9 hbx hB5 (Nat.le_of_lt hbxlo) (.int .i64 c3) (.int .i64 n3) (.int .i64 k3) (.int .i64 p3) (.string s3) (.slice va vm vc) (.int .i64 tc3) (.int .i64 tn3) (.bool on3);obtain ⟨d0,d1,d2,d3,d4,d5,d6,d7,d8⟩:=box9 hbx;obtain ⟨dz0,dz1,dz2,dz3,dz4,dz5,dz6,dz7,dz8⟩:=wr9 hbx;have hX8:=hK8.block hX5 (by omega);have hy8:=hK8.block hby (by omega);have ho8:=own_type ho3 hbx (by decide) hK8;have hoy8:=own_type hoy3 hbx (by decide) hK8;refine wpAnyH_ready (rs:=[13]) (by kernel_rfl) (by simp) ?_;refine AllReadyH.cons rfl (fun K hK=>?_) AllReadyH.nil;go_simp
    try rw [e8]
    clear hHeld;refine hK.out _ _ ?hS108 (fun hHeld=>?rest108)
    case' hS108=>(have q:=box24 hX8;exact ⟨q.2.1,q.2.2.1,q.2.2.2.1,q.2.2.2.2.1,q.2.2.2.2.2.1,q.2.2.2.2.2.2.1,q.2.2.2.2.2.2.2.1,q.2.2.2.2.2.2.2.2.1,q.2.2.2.2.2.2.2.2.2.1,q.2.2.2.2.2.2.2.2.2.2.1,q.2.2.2.2.2.2.2.2.2.2.2.1,q.2.2.2.2.2.2.2.2.2.2.2.2.1,q.2.2.2.2.2.2.2.2.2.2.2.2.2.1,q.2.2.2.2.2.2.2.2.2.2.2.2.2.2.1,q.2.2.2.2.2.2.2.2.2.2.2.2.2.2.2.1,q.2.2.2.2.2.2.2.2.2.2.2.2.2.2.2.2.1,q.2.2.2.2.2.2.2.2.2.2.2.2.2.2.2.2.2.1,q.2.2.2.2.2.2.2.2.2.2.2.2.2.2.2.2.2.2.1⟩)
    clear hK K
    try simp only [putS]
    obtain ⟨u9,e9,hy9,hB9,hK9⟩:=store9 hy8 hB8 (Nat.le_of_lt hbylo) (.int .i64 c5) (.int .i64 n5) (.int .i64 k5) (.int .i64 p5) (.string s5) (.slice ya ym yc) (.int .i64 tc5) (.int .i64 tn5) (.bool on5);obtain ⟨g0,g1,g2,g3,g4,g5,g6,g7,g8⟩:=box9 hy8;obtain ⟨gz0,gz1,gz2,gz3,gz4,gz5,gz6,gz7,gz8⟩:=wr9 hy8;have hX9:=hK9.block hX8 (by omega);have hx9:=hK9.block hx8 (by omega);have ho9:=own_type ho8 hy8 (by decide) hK9;have hoy9:=own_type hoy8 hy8 (by decide) hK9;refine wpAnyH_ready (rs:=[14]) (by kernel_rfl) (by simp) ?_;refine AllReadyH.cons rfl (fun K hK=>?_) AllReadyH.nil;go_simp
    try rw [e9]
    clear hHeld;refine hK.out _ _ ?hS109 (fun hHeld=>?rest109)
    case' hS109=>(have q:=box24 hX9;exact ⟨q.2.1,q.2.2.1,q.2.2.2.1,q.2.2.2.2.1,q.2.2.2.2.2.1,q.2.2.2.2.2.2.1,q.2.2.2.2.2.2.2.1,q.2.2.2.2.2.2.2.2.1,q.2.2.2.2.2.2.2.2.2.1,q.2.2.2.2.2.2.2.2.2.2.1,q.2.2.2.2.2.2.2.2.2.2.2.1,q.2.2.2.2.2.2.2.2.2.2.2.2.1,q.2.2.2.2.2.2.2.2.2.2.2.2.2.1,q.2.2.2.2.2.2.2.2.2.2.2.2.2.2.1,q.2.2.2.2.2.2.2.2.2.2.2.2.2.2.2.1,q.2.2.2.2.2.2.2.2.2.2.2.2.2.2.2.2.1,q.2.2.2.2.2.2.2.2.2.2.2.2.2.2.2.2.2.1,q.2.2.2.2.2.2.2.2.2.2.2.2.2.2.2.2.2.2.1⟩)
    clear hK K
    try simp only [putS]
    refine tD 15 (some 13) ?_
    try simp only [putS]
    refine wpAnyH_done (by kernel_rfl) ?_ _
  case' b20_2 =>
   go_simp;obtain ⟨u2,hv⟩:∃ V,u1.alloc (Obj.cells #[.int .i64 0,.int .i64 0,.int .i64 0,.int .i64 0,.string ⟨#[]⟩,.slice none 0 0,.int .i64 0,.int .i64 0,.bool false] 33)=V:=⟨_,rfl⟩;have hb:Below u1.heap.size u1 u2:=by rw [← hv];exact (bE _ _).alloc (lR _) _
   have hX2:=(hb.block _ alt1).trans hX1;have hB2:=hB1.trans (hb.mono hB1.size);have alt2:w.heap.size<u2.heap.size:=(gA hX2);have hr1:=hr1.below hb;have hby:u2.heap[u1.heap.size]?=some (Obj.cells #[.int .i64 0,.int .i64 0,.int .i64 0,.int .i64 0,.string ⟨#[]⟩,.slice none 0 0,.int .i64 0,.int .i64 0,.bool false] 33):=by rw [← hv];exact heap_alloc_new _ _
   have hbylo:w.heap.size<u1.heap.size:=alt1;rw [hv];generalize u1.heap.size=hbyx at *;clear hb hv;clear hHeld;refine hK.out _ _ ?hS111 (fun hHeld=>?rest111)
   case' hS111=>(have q:=box24 hX2;exact ⟨q.2.1,q.2.2.1,q.2.2.2.1,q.2.2.2.2.1,q.2.2.2.2.2.1,q.2.2.2.2.2.2.1,q.2.2.2.2.2.2.2.1,q.2.2.2.2.2.2.2.2.1,q.2.2.2.2.2.2.2.2.2.1,q.2.2.2.2.2.2.2.2.2.2.1,q.2.2.2.2.2.2.2.2.2.2.2.1,q.2.2.2.2.2.2.2.2.2.2.2.2.1,q.2.2.2.2.2.2.2.2.2.2.2.2.2.1,q.2.2.2.2.2.2.2.2.2.2.2.2.2.2.1,q.2.2.2.2.2.2.2.2.2.2.2.2.2.2.2.1,q.2.2.2.2.2.2.2.2.2.2.2.2.2.2.2.2.1,q.2.2.2.2.2.2.2.2.2.2.2.2.2.2.2.2.2.1,q.2.2.2.2.2.2.2.2.2.2.2.2.2.2.2.2.2.2.1⟩)
   clear hK K
   try simp only [putS]
   refine wpAnyH_ready (rs:=[5,11]) (by kernel_rfl) (by simp) ?_;refine AllReadyH.cons rfl (fun K hK=>?b112_0) (AllReadyH.cons rfl (fun K hK=>?b112_1) (AllReadyH.nil))
   case' b112_0 =>
    go_simp;refine (HC2.out _ hB2).mono ?_;rintro e2 u3 ⟨y2,z2,rfl,ho2,hb⟩;have hX3:=(hb.block _ alt2).trans hX2;have hB3:=hB2.trans (hb.mono hB2.size);have alt3:w.heap.size<u3.heap.size:=(gA hX3);have hby:=(hb.block _ (gA hby)).trans hby;have hr1:=hr1.below hb;have hr2:Rw rangeV 2 u3 y2 m2 z2 l2:=ho2.rw_ layG;clear ho2;clear hb;clear hHeld;refine hK.out _ _ ?hS113 (fun hHeld=>?rest113)
    case' hS113=>(have q:=box24 hX3;exact ⟨q.2.1,q.2.2.1,q.2.2.2.1,q.2.2.2.2.1,q.2.2.2.2.2.1,q.2.2.2.2.2.2.1,q.2.2.2.2.2.2.2.1,q.2.2.2.2.2.2.2.2.1,q.2.2.2.2.2.2.2.2.2.1,q.2.2.2.2.2.2.2.2.2.2.1,q.2.2.2.2.2.2.2.2.2.2.2.1,q.2.2.2.2.2.2.2.2.2.2.2.2.1,q.2.2.2.2.2.2.2.2.2.2.2.2.2.1,q.2.2.2.2.2.2.2.2.2.2.2.2.2.2.1,q.2.2.2.2.2.2.2.2.2.2.2.2.2.2.2.1,q.2.2.2.2.2.2.2.2.2.2.2.2.2.2.2.2.1,q.2.2.2.2.2.2.2.2.2.2.2.2.2.2.2.2.2.1,q.2.2.2.2.2.2.2.2.2.2.2.2.2.2.2.2.2.2.1⟩)
    clear hK K
    try simp only [putS]
    refine wpAnyH_ready (rs:=[6,11]) (by kernel_rfl) (by simp) ?_;refine AllReadyH.cons rfl (fun K hK=>?b114_0) (AllReadyH.cons rfl (fun K hK=>?b114_1) (AllReadyH.nil))
    case' b114_0 =>
     go_simp;refine (HI.out _ _ _ _ _ hB3 hr1 hr2).mono ?_;rintro e2 u4 ⟨va,vm,vc,ya,ym,yc,rfl,ho3,hoy3,hb⟩;have hX4:=(hb.block _ alt3).trans hX3;have hB4:=hB3.trans (hb.mono hB3.size);have alt4:w.heap.size<u4.heap.size:=(gA hX4);have hby:=(hb.block _ (gA hby)).trans hby;have hr1:=hr1.below hb;have hr2:=hr2.below hb;clear hb;clear hHeld;refine hK.out _ _ ?hS115 (fun hHeld=>?rest115)
     case' hS115=>(have q:=box24 hX4;exact ⟨q.2.1,q.2.2.1,q.2.2.2.1,q.2.2.2.2.1,q.2.2.2.2.2.1,q.2.2.2.2.2.2.1,q.2.2.2.2.2.2.2.1,q.2.2.2.2.2.2.2.2.1,q.2.2.2.2.2.2.2.2.2.1,q.2.2.2.2.2.2.2.2.2.2.1,q.2.2.2.2.2.2.2.2.2.2.2.1,q.2.2.2.2.2.2.2.2.2.2.2.2.1,q.2.2.2.2.2.2.2.2.2.2.2.2.2.1,q.2.2.2.2.2.2.2.2.2.2.2.2.2.2.1,q.2.2.2.2.2.2.2.2.2.2.2.2.2.2.2.1,q.2.2.2.2.2.2.2.2.2.2.2.2.2.2.2.2.1,q.2.2.2.2.2.2.2.2.2.2.2.2.2.2.2.2.2.1,q.2.2.2.2.2.2.2.2.2.2.2.2.2.2.2.2.2.2.1⟩)
     clear hK K
     try simp only [putS]
     refine tD 7 (some 79) ?_
     try simp only [putS]
     refine tD 8 (some 87) ?_
     try simp only [putS]
     refine tD 9 (some 88) ?_
     try simp only [putS]
     refine tD 10 (some 89) ?_
     try simp only [putS]
     refine wpAnyH_ready (rs:=[11]) (by kernel_rfl) (by simp) ?_;refine AllReadyH.cons rfl (fun K hK=>?_) AllReadyH.nil;have hbxhbylt:hbyx<u4.heap.size:=(gA hby);go_simp;obtain ⟨u5,hv⟩:∃ V,u4.alloc (Obj.cells #[.int .i64 0,.int .i64 0,.int .i64 0,.int .i64 0,.string ⟨#[]⟩,.slice none 0 0,.int .i64 0,.int .i64 0,.bool false] 33)=V:=⟨_,rfl⟩;have hb:Below u4.heap.size u4 u5:=by rw [← hv];exact (bE _ _).alloc (lR _) _
     have hX5:=(hb.block _ alt4).trans hX4;have hB5:=hB4.trans (hb.mono hB4.size);have alt5:w.heap.size<u5.heap.size:=(gA hX5);have hby:=(hb.block _ (gA hby)).trans hby;have hr1:=hr1.below hb;have hr2:=hr2.below hb;have ho3:=ho3.below hb;have hoy3:=hoy3.below hb;have hbx:u5.heap[u4.heap.size]?=some (Obj.cells #[.int .i64 0,.int .i64 0,.int .i64 0,.int .i64 0,.string ⟨#[]⟩,.slice none 0 0,.int .i64 0,.int .i64 0,.bool false] 33):=by rw [← hv];exact heap_alloc_new _ _
     have hbxlo:w.heap.size<u4.heap.size:=alt4;rw [hv];generalize u4.heap.size=hbxx at *;clear hb hv;clear hHeld;refine hK.out _ _ ?hS120 (fun hHeld=>?rest120)
     case' hS120=>(have q:=box24 hX5;exact ⟨q.2.1,q.2.2.1,q.2.2.2.1,q.2.2.2.2.1,q.2.2.2.2.2.1,q.2.2.2.2.2.2.1,q.2.2.2.2.2.2.2.1,q.2.2.2.2.2.2.2.2.1,q.2.2.2.2.2.2.2.2.2.1,q.2.2.2.2.2.2.2.2.2.2.1,q.2.2.2.2.2.2.2.2.2.2.2.1,q.2.2.2.2.2.2.2.2.2.2.2.2.1,q.2.2.2.2.2.2.2.2.2.2.2.2.2.1,q.2.2.2.2.2.2.2.2.2.2.2.2.2.2.1,q.2.2.2.2.2.2.2.2.2.2.2.2.2.2.2.1,q.2.2.2.2.2.2.2.2.2.2.2.2.2.2.2.2.1,q.2.2.2.2.2.2.2.2.2.2.2.2.2.2.2.2.2.1,q.2.2.2.2.2.2.2.2.2.2.2.2.2.2.2.2.2.2.1⟩)
     clear hK K
     try simp only [putS]
     obtain ⟨u8,e8,hx8,hB8,hK8⟩:=store9 hbx hB5 (Nat.le_of_lt hbxlo) (.int .i64 c3) (.int .i64 n3) (.int .i64 k3) (.int .i64 p3) (.string s3) (.slice va vm vc) (.int .i64 tc3) (.int .i64 tn3) (.bool on3);obtain ⟨d0,d1,d2,d3,d4,d5,d6,d7,d8⟩:=box9 hbx;obtain ⟨dz0,dz1,dz2,dz3,dz4,dz5,dz6,dz7,dz8⟩:=wr9 hbx;have hX8:=hK8.block hX5 (by omega);have hy8:=hK8.block hby (by omega);have ho8:=own_type ho3 hbx (by decide) hK8;have hoy8:=own_type hoy3 hbx (by decide) hK8;refine wpAnyH_ready (rs:=[13]) (by kernel_rfl) (by simp) ?_;refine AllReadyH.cons rfl (fun K hK=>?_) AllReadyH.nil;go_simp
     try rw [e8]
     clear hHeld;refine hK.out _ _ ?hS121 (fun hHeld=>?rest121)
     case' hS121=>(have q:=box24 hX8;exact ⟨q.2.1,q.2.2.1,q.2.2.2.1,q.2.2.2.2.1,q.2.2.2.2.2.1,q.2.2.2.2.2.2.1,q.2.2.2.2.2.2.2.1,q.2.2.2.2.2.2.2.2.1,q.2.2.2.2.2.2.2.2.2.1,q.2.2.2.2.2.2.2.2.2.2.1,q.2.2.2.2.2.2.2.2.2.2.2.1,q.2.2.2.2.2.2.2.2.2.2.2.2.1,q.2.2.2.2.2.2.2.2.2.2.2.2.2.1,q.2.2.2.2.2.2.2.2.2.2.2.2.2.2.1,q.2.2.2.2.2.2.2.2.2.2.2.2.2.2.2.1,q.2.2.2.2.2.2.2.2.2.2.2.2.2.2.2.2.1,q.2.2.2.2.2.2.2.2.2.2.2.2.2.2.2.2.2.1,q.2.2.2.2.2.2.2.2.2.2.2.2.2.2.2.2.2.2.1⟩)
     clear hK K
     try simp only [putS]
     obtain ⟨u9,e9,hy9,hB9,hK9⟩:=store9 hy8 hB8 (Nat.le_of_lt hbylo) (.int .i64 c5) (.int .i64 n5) (.int .i64 k5) (.int .i64 p5) (.string s5) (.slice ya ym yc) (.int .i64 tc5) (.int .i64 tn5) (.bool on5);obtain ⟨g0,g1,g2,g3,g4,g5,g6,g7,g8⟩:=box9 hy8;obtain ⟨gz0,gz1,gz2,gz3,gz4,gz5,gz6,gz7,gz8⟩:=wr9 hy8;have hX9:=hK9.block hX8 (by omega);have hx9:=hK9.block hx8 (by omega);have ho9:=own_type ho8 hy8 (by decide) hK9;have hoy9:=own_type hoy8 hy8 (by decide) hK9;refine wpAnyH_ready (rs:=[14]) (by kernel_rfl) (by simp) ?_;refine AllReadyH.cons rfl (fun K hK=>?_) AllReadyH.nil;go_simp
     try rw [e9]
     clear hHeld;refine hK.out _ _ ?hS122 (fun hHeld=>?rest122)
     case' hS122=>(have q:=box24 hX9;exact ⟨q.2.1,q.2.2.1,q.2.2.2.1,q.2.2.2.2.1,q.2.2.2.2.2.1,q.2.2.2.2.2.2.1,q.2.2.2.2.2.2.2.1,q.2.2.2.2.2.2.2.2.1,q.2.2.2.2.2.2.2.2.2.1,q.2.2.2.2.2.2.2.2.2.2.1,q.2.2.2.2.2.2.2.2.2.2.2.1,q.2.2.2.2.2.2.2.2.2.2.2.2.1,q.2.2.2.2.2.2.2.2.2.2.2.2.2.1,q.2.2.2.2.2.2.2.2.2.2.2.2.2.2.1,q.2.2.2.2.2.2.2.2.2.2.2.2.2.2.2.1,q.2.2.2.2.2.2.2.2.2.2.2.2.2.2.2.2.1,q.2.2.2.2.2.2.2.2.2.2.2.2.2.2.2.2.2.1,q.2.2.2.2.2.2.2.2.2.2.2.2.2.2.2.2.2.2.1⟩)
     clear hK K
     try simp only [putS]
     refine tD 15 (some 13) ?_
     try simp only [putS]
     refine wpAnyH_done (by kernel_rfl) ?_ _
    case' b114_1 =>
     have hbxhbylt:hbyx<u3.heap.size:=(gA hby);go_simp;obtain ⟨u4,hv⟩:∃ V,u3.alloc (Obj.cells #[.int .i64 0,.int .i64 0,.int .i64 0,.int .i64 0,.string ⟨#[]⟩,.slice none 0 0,.int .i64 0,.int .i64 0,.bool false] 33)=V:=⟨_,rfl⟩;have hb:Below u3.heap.size u3 u4:=by rw [← hv];exact (bE _ _).alloc (lR _) _
     have hX4:=(hb.block _ alt3).trans hX3;have hB4:=hB3.trans (hb.mono hB3.size);have alt4:w.heap.size<u4.heap.size:=(gA hX4);have hby:=(hb.block _ (gA hby)).trans hby;have hr1:=hr1.below hb;have hr2:=hr2.below hb;have hbx:u4.heap[u3.heap.size]?=some (Obj.cells #[.int .i64 0,.int .i64 0,.int .i64 0,.int .i64 0,.string ⟨#[]⟩,.slice none 0 0,.int .i64 0,.int .i64 0,.bool false] 33):=by rw [← hv];exact heap_alloc_new _ _
     have hbxlo:w.heap.size<u3.heap.size:=alt3;rw [hv];generalize u3.heap.size=hbxx at *;clear hb hv;clear hHeld;refine hK.out _ _ ?hS124 (fun hHeld=>?rest124)
     case' hS124=>(have q:=box24 hX4;exact ⟨q.2.1,q.2.2.1,q.2.2.2.1,q.2.2.2.2.1,q.2.2.2.2.2.1,q.2.2.2.2.2.2.1,q.2.2.2.2.2.2.2.1,q.2.2.2.2.2.2.2.2.1,q.2.2.2.2.2.2.2.2.2.1,q.2.2.2.2.2.2.2.2.2.2.1,q.2.2.2.2.2.2.2.2.2.2.2.1,q.2.2.2.2.2.2.2.2.2.2.2.2.1,q.2.2.2.2.2.2.2.2.2.2.2.2.2.1,q.2.2.2.2.2.2.2.2.2.2.2.2.2.2.1,q.2.2.2.2.2.2.2.2.2.2.2.2.2.2.2.1,q.2.2.2.2.2.2.2.2.2.2.2.2.2.2.2.2.1,q.2.2.2.2.2.2.2.2.2.2.2.2.2.2.2.2.2.1,q.2.2.2.2.2.2.2.2.2.2.2.2.2.2.2.2.2.2.1⟩)
     clear hK K
     try simp only [putS]
     refine wpAnyH_ready (rs:=[6]) (by kernel_rfl) (by simp) ?_;refine AllReadyH.cons rfl (fun K hK=>?_) AllReadyH.nil;go_simp;refine (HI.out _ _ _ _ _ hB4 hr1 hr2).mono ?_;rintro e2 u5 ⟨va,vm,vc,ya,ym,yc,rfl,ho3,hoy3,hb⟩;have hX5:=(hb.block _ alt4).trans hX4;have hB5:=hB4.trans (hb.mono hB4.size);have alt5:w.heap.size<u5.heap.size:=(gA hX5);have hby:=(hb.block _ (gA hby)).trans hby;have hbx:=(hb.block _ (gA hbx)).trans hbx;have hr1:=hr1.below hb;have hr2:=hr2.below hb;clear hb;clear hHeld;refine hK.out _ _ ?hS125 (fun hHeld=>?rest125)
     case' hS125=>(have q:=box24 hX5;exact ⟨q.2.1,q.2.2.1,q.2.2.2.1,q.2.2.2.2.1,q.2.2.2.2.2.1,q.2.2.2.2.2.2.1,q.2.2.2.2.2.2.2.1,q.2.2.2.2.2.2.2.2.1,q.2.2.2.2.2.2.2.2.2.1,q.2.2.2.2.2.2.2.2.2.2.1,q.2.2.2.2.2.2.2.2.2.2.2.1,q.2.2.2.2.2.2.2.2.2.2.2.2.1,q.2.2.2.2.2.2.2.2.2.2.2.2.2.1,q.2.2.2.2.2.2.2.2.2.2.2.2.2.2.1,q.2.2.2.2.2.2.2.2.2.2.2.2.2.2.2.1,q.2.2.2.2.2.2.2.2.2.2.2.2.2.2.2.2.1,q.2.2.2.2.2.2.2.2.2.2.2.2.2.2.2.2.2.1,q.2.2.2.2.2.2.2.2.2.2.2.2.2.2.2.2.2.2.1⟩)
     clear hK K
     try simp only [putS]
     refine tD 7 (some 79) ?_
     try simp only [putS]
     refine tD 8 (some 87) ?_
     try simp only [putS]
     refine tD 9 (some 88) ?_
     try simp only [putS]
     refine tD 10 (some 89) ?_
     try simp only [putS]
     obtain ⟨u8,e8,hx8,hB8,hK8⟩:=store9 hbx hB5 (Nat.le_of_lt hbxlo) (.int .i64 c3) (.int .i64 n3) (.int .i64 k3) (.int .i64 p3) (.string s3) (.slice va vm vc) (.int .i64 tc3) (.int .i64 tn3) (.bool on3);obtain ⟨d0,d1,d2,d3,d4,d5,d6,d7,d8⟩:=box9 hbx;obtain ⟨dz0,dz1,dz2,dz3,dz4,dz5,dz6,dz7,dz8⟩:=wr9 hbx;have hX8:=hK8.block hX5 (by omega);have hy8:=hK8.block hby (by omega);have ho8:=own_type ho3 hbx (by decide) hK8;have hoy8:=own_type hoy3 hbx (by decide) hK8;refine wpAnyH_ready (rs:=[13]) (by kernel_rfl) (by simp) ?_;refine AllReadyH.cons rfl (fun K hK=>?_) AllReadyH.nil;go_simp
     try rw [e8]
     clear hHeld;refine hK.out _ _ ?hS130 (fun hHeld=>?rest130)
     case' hS130=>(have q:=box24 hX8;exact ⟨q.2.1,q.2.2.1,q.2.2.2.1,q.2.2.2.2.1,q.2.2.2.2.2.1,q.2.2.2.2.2.2.1,q.2.2.2.2.2.2.2.1,q.2.2.2.2.2.2.2.2.1,q.2.2.2.2.2.2.2.2.2.1,q.2.2.2.2.2.2.2.2.2.2.1,q.2.2.2.2.2.2.2.2.2.2.2.1,q.2.2.2.2.2.2.2.2.2.2.2.2.1,q.2.2.2.2.2.2.2.2.2.2.2.2.2.1,q.2.2.2.2.2.2.2.2.2.2.2.2.2.2.1,q.2.2.2.2.2.2.2.2.2.2.2.2.2.2.2.1,q.2.2.2.2.2.2.2.2.2.2.2.2.2.2.2.2.1,q.2.2.2.2.2.2.2.2.2.2.2.2.2.2.2.2.2.1,q.2.2.2.2.2.2.2.2.2.2.2.2.2.2.2.2.2.2.1⟩)
     clear hK K
     try simp only [putS]
     obtain ⟨u9,e9,hy9,hB9,hK9⟩:=store9 hy8 hB8 (Nat.le_of_lt hbylo) (.int .i64 c5) (.int .i64 n5) (.int .i64 k5) (.int .i64 p5) (.string s5) (.slice ya ym yc) (.int .i64 tc5) (.int .i64 tn5) (.bool on5);obtain ⟨g0,g1,g2,g3,g4,g5,g6,g7,g8⟩:=box9 hy8;obtain ⟨gz0,gz1,gz2,gz3,gz4,gz5,gz6,gz7,gz8⟩:=wr9 hy8;have hX9:=hK9.block hX8 (by omega);have hx9:=hK9.block hx8 (by omega);have ho9:=own_type ho8 hy8 (by decide) hK9;have hoy9:=own_type hoy8 hy8 (by decide) hK9;refine wpAnyH_ready (rs:=[14]) (by kernel_rfl) (by simp) ?_;refine AllReadyH.cons rfl (fun K hK=>?_) AllReadyH.nil;go_simp
     try rw [e9]
     clear hHeld;refine hK.out _ _ ?hS131 (fun hHeld=>?rest131)
     case' hS131=>(have q:=box24 hX9;exact ⟨q.2.1,q.2.2.1,q.2.2.2.1,q.2.2.2.2.1,q.2.2.2.2.2.1,q.2.2.2.2.2.2.1,q.2.2.2.2.2.2.2.1,q.2.2.2.2.2.2.2.2.1,q.2.2.2.2.2.2.2.2.2.1,q.2.2.2.2.2.2.2.2.2.2.1,q.2.2.2.2.2.2.2.2.2.2.2.1,q.2.2.2.2.2.2.2.2.2.2.2.2.1,q.2.2.2.2.2.2.2.2.2.2.2.2.2.1,q.2.2.2.2.2.2.2.2.2.2.2.2.2.2.1,q.2.2.2.2.2.2.2.2.2.2.2.2.2.2.2.1,q.2.2.2.2.2.2.2.2.2.2.2.2.2.2.2.2.1,q.2.2.2.2.2.2.2.2.2.2.2.2.2.2.2.2.2.1,q.2.2.2.2.2.2.2.2.2.2.2.2.2.2.2.2.2.2.1⟩)
     clear hK K
     try simp only [putS]
     refine tD 15 (some 13) ?_
     try simp only [putS]
     refine wpAnyH_done (by kernel_rfl) ?_ _
   case' b112_1 =>
    have hbxhbylt:hbyx<u2.heap.size:=(gA hby);go_simp;obtain ⟨u3,hv⟩:∃ V,u2.alloc (Obj.cells #[.int .i64 0,.int .i64 0,.int .i64 0,.int .i64 0,.string ⟨#[]⟩,.slice none 0 0,.int .i64 0,.int .i64 0,.bool false] 33)=V:=⟨_,rfl⟩;have hb:Below u2.heap.size u2 u3:=by rw [← hv];exact (bE _ _).alloc (lR _) _
    have hX3:=(hb.block _ alt2).trans hX2;have hB3:=hB2.trans (hb.mono hB2.size);have alt3:w.heap.size<u3.heap.size:=(gA hX3);have hby:=(hb.block _ (gA hby)).trans hby;have hr1:=hr1.below hb;have hbx:u3.heap[u2.heap.size]?=some (Obj.cells #[.int .i64 0,.int .i64 0,.int .i64 0,.int .i64 0,.string ⟨#[]⟩,.slice none 0 0,.int .i64 0,.int .i64 0,.bool false] 33):=by rw [← hv];exact heap_alloc_new _ _
    have hbxlo:w.heap.size<u2.heap.size:=alt2;rw [hv];generalize u2.heap.size=hbxx at *;clear hb hv;clear hHeld;refine hK.out _ _ ?hS133 (fun hHeld=>?rest133)
    case' hS133=>(have q:=box24 hX3;exact ⟨q.2.1,q.2.2.1,q.2.2.2.1,q.2.2.2.2.1,q.2.2.2.2.2.1,q.2.2.2.2.2.2.1,q.2.2.2.2.2.2.2.1,q.2.2.2.2.2.2.2.2.1,q.2.2.2.2.2.2.2.2.2.1,q.2.2.2.2.2.2.2.2.2.2.1,q.2.2.2.2.2.2.2.2.2.2.2.1,q.2.2.2.2.2.2.2.2.2.2.2.2.1,q.2.2.2.2.2.2.2.2.2.2.2.2.2.1,q.2.2.2.2.2.2.2.2.2.2.2.2.2.2.1,q.2.2.2.2.2.2.2.2.2.2.2.2.2.2.2.1,q.2.2.2.2.2.2.2.2.2.2.2.2.2.2.2.2.1,q.2.2.2.2.2.2.2.2.2.2.2.2.2.2.2.2.2.1,q.2.2.2.2.2.2.2.2.2.2.2.2.2.2.2.2.2.2.1⟩)
    clear hK K
    try simp only [putS]
    refine wpAnyH_ready (rs:=[5]) (by kernel_rfl) (by simp) ?_;refine AllReadyH.cons rfl (fun K hK=>?_) AllReadyH.nil;go_simp;refine (HC2.out _ hB3).mono ?_;rintro e2 u4 ⟨y2,z2,rfl,ho2,hb⟩;have hX4:=(hb.block _ alt3).trans hX3;have hB4:=hB3.trans (hb.mono hB3.size);have alt4:w.heap.size<u4.heap.size:=(gA hX4);have hby:=(hb.block _ (gA hby)).trans hby;have hbx:=(hb.block _ (gA hbx)).trans hbx;have hr1:=hr1.below hb;have hr2:Rw rangeV 2 u4 y2 m2 z2 l2:=ho2.rw_ layG;clear ho2;clear hb;clear hHeld;refine hK.out _ _ ?hS134 (fun hHeld=>?rest134)
    case' hS134=>(have q:=box24 hX4;exact ⟨q.2.1,q.2.2.1,q.2.2.2.1,q.2.2.2.2.1,q.2.2.2.2.2.1,q.2.2.2.2.2.2.1,q.2.2.2.2.2.2.2.1,q.2.2.2.2.2.2.2.2.1,q.2.2.2.2.2.2.2.2.2.1,q.2.2.2.2.2.2.2.2.2.2.1,q.2.2.2.2.2.2.2.2.2.2.2.1,q.2.2.2.2.2.2.2.2.2.2.2.2.1,q.2.2.2.2.2.2.2.2.2.2.2.2.2.1,q.2.2.2.2.2.2.2.2.2.2.2.2.2.2.1,q.2.2.2.2.2.2.2.2.2.2.2.2.2.2.2.1,q.2.2.2.2.2.2.2.2.2.2.2.2.2.2.2.2.1,q.2.2.2.2.2.2.2.2.2.2.2.2.2.2.2.2.2.1,q.2.2.2.2.2.2.2.2.2.2.2.2.2.2.2.2.2.2.1⟩)
    clear hK K
    try simp only [putS]
    refine wpAnyH_ready (rs:=[6]) (by kernel_rfl) (by simp) ?_;refine AllReadyH.cons rfl (fun K hK=>?_) AllReadyH.nil;go_simp;refine (HI.out _ _ _ _ _ hB4 hr1 hr2).mono ?_;rintro e2 u5 ⟨va,vm,vc,ya,ym,yc,rfl,ho3,hoy3,hb⟩;have hX5:=(hb.block _ alt4).trans hX4;have hB5:=hB4.trans (hb.mono hB4.size);have alt5:w.heap.size<u5.heap.size:=(gA hX5);have hby:=(hb.block _ (gA hby)).trans hby;have hbx:=(hb.block _ (gA hbx)).trans hbx;have hr1:=hr1.below hb;have hr2:=hr2.below hb;clear hb;clear hHeld;refine hK.out _ _ ?hS135 (fun hHeld=>?rest135)
    case' hS135=>(have q:=box24 hX5;exact ⟨q.2.1,q.2.2.1,q.2.2.2.1,q.2.2.2.2.1,q.2.2.2.2.2.1,q.2.2.2.2.2.2.1,q.2.2.2.2.2.2.2.1,q.2.2.2.2.2.2.2.2.1,q.2.2.2.2.2.2.2.2.2.1,q.2.2.2.2.2.2.2.2.2.2.1,q.2.2.2.2.2.2.2.2.2.2.2.1,q.2.2.2.2.2.2.2.2.2.2.2.2.1,q.2.2.2.2.2.2.2.2.2.2.2.2.2.1,q.2.2.2.2.2.2.2.2.2.2.2.2.2.2.1,q.2.2.2.2.2.2.2.2.2.2.2.2.2.2.2.1,q.2.2.2.2.2.2.2.2.2.2.2.2.2.2.2.2.1,q.2.2.2.2.2.2.2.2.2.2.2.2.2.2.2.2.2.1,q.2.2.2.2.2.2.2.2.2.2.2.2.2.2.2.2.2.2.1⟩)
    clear hK K
    try simp only [putS]
    refine tD 7 (some 79) ?_
    try simp only [putS]
    refine tD 8 (some 87) ?_
    try simp only [putS]
    refine tD 9 (some 88) ?_
    try simp only [putS]
    refine tD 10 (some 89) ?_
    try simp only [putS]
    obtain ⟨u8,e8,hx8,hB8,hK8⟩:=store9 hbx hB5 (Nat.le_of_lt hbxlo) (.int .i64 c3) (.int .i64 n3) (.int .i64 k3) (.int .i64 p3) (.string s3) (.slice va vm vc) (.int .i64 tc3) (.int .i64 tn3) (.bool on3);obtain ⟨d0,d1,d2,d3,d4,d5,d6,d7,d8⟩:=box9 hbx;obtain ⟨dz0,dz1,dz2,dz3,dz4,dz5,dz6,dz7,dz8⟩:=wr9 hbx;have hX8:=hK8.block hX5 (by omega);have hy8:=hK8.block hby (by omega);have ho8:=own_type ho3 hbx (by decide) hK8;have hoy8:=own_type hoy3 hbx (by decide) hK8;refine wpAnyH_ready (rs:=[13]) (by kernel_rfl) (by simp) ?_;refine AllReadyH.cons rfl (fun K hK=>?_) AllReadyH.nil;go_simp
    try rw [e8]
    clear hHeld;refine hK.out _ _ ?hS140 (fun hHeld=>?rest140)
    case' hS140=>(have q:=box24 hX8;exact ⟨q.2.1,q.2.2.1,q.2.2.2.1,q.2.2.2.2.1,q.2.2.2.2.2.1,q.2.2.2.2.2.2.1,q.2.2.2.2.2.2.2.1,q.2.2.2.2.2.2.2.2.1,q.2.2.2.2.2.2.2.2.2.1,q.2.2.2.2.2.2.2.2.2.2.1,q.2.2.2.2.2.2.2.2.2.2.2.1,q.2.2.2.2.2.2.2.2.2.2.2.2.1,q.2.2.2.2.2.2.2.2.2.2.2.2.2.1,q.2.2.2.2.2.2.2.2.2.2.2.2.2.2.1,q.2.2.2.2.2.2.2.2.2.2.2.2.2.2.2.1,q.2.2.2.2.2.2.2.2.2.2.2.2.2.2.2.2.1,q.2.2.2.2.2.2.2.2.2.2.2.2.2.2.2.2.2.1,q.2.2.2.2.2.2.2.2.2.2.2.2.2.2.2.2.2.2.1⟩)
    clear hK K
    try simp only [putS]
    obtain ⟨u9,e9,hy9,hB9,hK9⟩:=store9 hy8 hB8 (Nat.le_of_lt hbylo) (.int .i64 c5) (.int .i64 n5) (.int .i64 k5) (.int .i64 p5) (.string s5) (.slice ya ym yc) (.int .i64 tc5) (.int .i64 tn5) (.bool on5);obtain ⟨g0,g1,g2,g3,g4,g5,g6,g7,g8⟩:=box9 hy8;obtain ⟨gz0,gz1,gz2,gz3,gz4,gz5,gz6,gz7,gz8⟩:=wr9 hy8;have hX9:=hK9.block hX8 (by omega);have hx9:=hK9.block hx8 (by omega);have ho9:=own_type ho8 hy8 (by decide) hK9;have hoy9:=own_type hoy8 hy8 (by decide) hK9;refine wpAnyH_ready (rs:=[14]) (by kernel_rfl) (by simp) ?_;refine AllReadyH.cons rfl (fun K hK=>?_) AllReadyH.nil;go_simp
    try rw [e9]
    clear hHeld;refine hK.out _ _ ?hS141 (fun hHeld=>?rest141)
    case' hS141=>(have q:=box24 hX9;exact ⟨q.2.1,q.2.2.1,q.2.2.2.1,q.2.2.2.2.1,q.2.2.2.2.2.1,q.2.2.2.2.2.2.1,q.2.2.2.2.2.2.2.1,q.2.2.2.2.2.2.2.2.1,q.2.2.2.2.2.2.2.2.2.1,q.2.2.2.2.2.2.2.2.2.2.1,q.2.2.2.2.2.2.2.2.2.2.2.1,q.2.2.2.2.2.2.2.2.2.2.2.2.1,q.2.2.2.2.2.2.2.2.2.2.2.2.2.1,q.2.2.2.2.2.2.2.2.2.2.2.2.2.2.1,q.2.2.2.2.2.2.2.2.2.2.2.2.2.2.2.1,q.2.2.2.2.2.2.2.2.2.2.2.2.2.2.2.2.1,q.2.2.2.2.2.2.2.2.2.2.2.2.2.2.2.2.2.1,q.2.2.2.2.2.2.2.2.2.2.2.2.2.2.2.2.2.2.1⟩)
    clear hK K
    try simp only [putS]
    refine tD 15 (some 13) ?_
    try simp only [putS]
    refine wpAnyH_done (by kernel_rfl) ?_ _
 case' b18_1 =>
  go_simp;obtain ⟨u1,hv⟩:∃ V,u0.alloc (Obj.cells #[.int .i64 0,.int .i64 0,.int .i64 0,.int .i64 0,.string ⟨#[]⟩,.slice none 0 0,.int .i64 0,.int .i64 0,.bool false] 33)=V:=⟨_,rfl⟩;have hb:Below u0.heap.size u0 u1:=by rw [← hv];exact (bE _ _).alloc (lR _) _
  have hX1:=(hb.block _ alt0).trans hX0;have hB1:=hB0.trans (hb.mono hB0.size);have alt1:w.heap.size<u1.heap.size:=(gA hX1);have hbx:u1.heap[u0.heap.size]?=some (Obj.cells #[.int .i64 0,.int .i64 0,.int .i64 0,.int .i64 0,.string ⟨#[]⟩,.slice none 0 0,.int .i64 0,.int .i64 0,.bool false] 33):=by rw [← hv];exact heap_alloc_new _ _
  have hbxlo:w.heap.size<u0.heap.size:=alt0;rw [hv];generalize u0.heap.size=hbxx at *;clear hb hv;clear hHeld;refine hK.out _ _ ?hS143 (fun hHeld=>?rest143)
  case' hS143=>(have q:=box24 hX1;exact ⟨q.2.1,q.2.2.1,q.2.2.2.1,q.2.2.2.2.1,q.2.2.2.2.2.1,q.2.2.2.2.2.2.1,q.2.2.2.2.2.2.2.1,q.2.2.2.2.2.2.2.2.1,q.2.2.2.2.2.2.2.2.2.1,q.2.2.2.2.2.2.2.2.2.2.1,q.2.2.2.2.2.2.2.2.2.2.2.1,q.2.2.2.2.2.2.2.2.2.2.2.2.1,q.2.2.2.2.2.2.2.2.2.2.2.2.2.1,q.2.2.2.2.2.2.2.2.2.2.2.2.2.2.1,q.2.2.2.2.2.2.2.2.2.2.2.2.2.2.2.1,q.2.2.2.2.2.2.2.2.2.2.2.2.2.2.2.2.1,q.2.2.2.2.2.2.2.2.2.2.2.2.2.2.2.2.2.1,q.2.2.2.2.2.2.2.2.2.2.2.2.2.2.2.2.2.2.1⟩)
  clear hK K
  try simp only [putS]
  refine wpAnyH_ready (rs:=[2,12]) (by kernel_rfl) (by simp) ?_;refine AllReadyH.cons rfl (fun K hK=>?b144_0) (AllReadyH.cons rfl (fun K hK=>?b144_1) (AllReadyH.nil))
  case' b144_0 =>
   go_simp;refine (HC1.out _ hB1).mono ?_;rintro e2 u2 ⟨y1,z1,rfl,ho1,hb⟩;have hX2:=(hb.block _ alt1).trans hX1;have hB2:=hB1.trans (hb.mono hB1.size);have alt2:w.heap.size<u2.heap.size:=(gA hX2);have hbx:=(hb.block _ (gA hbx)).trans hbx;have hr1:Rw rangeV 2 u2 y1 m1 z1 l1:=ho1.rw_ layG;clear ho1;clear hb;clear hHeld;refine hK.out _ _ ?hS145 (fun hHeld=>?rest145)
   case' hS145=>(have q:=box24 hX2;exact ⟨q.2.1,q.2.2.1,q.2.2.2.1,q.2.2.2.2.1,q.2.2.2.2.2.1,q.2.2.2.2.2.2.1,q.2.2.2.2.2.2.2.1,q.2.2.2.2.2.2.2.2.1,q.2.2.2.2.2.2.2.2.2.1,q.2.2.2.2.2.2.2.2.2.2.1,q.2.2.2.2.2.2.2.2.2.2.2.1,q.2.2.2.2.2.2.2.2.2.2.2.2.1,q.2.2.2.2.2.2.2.2.2.2.2.2.2.1,q.2.2.2.2.2.2.2.2.2.2.2.2.2.2.1,q.2.2.2.2.2.2.2.2.2.2.2.2.2.2.2.1,q.2.2.2.2.2.2.2.2.2.2.2.2.2.2.2.2.1,q.2.2.2.2.2.2.2.2.2.2.2.2.2.2.2.2.2.1,q.2.2.2.2.2.2.2.2.2.2.2.2.2.2.2.2.2.2.1⟩)
   clear hK K
   try simp only [putS]
   refine wpAnyH_ready (rs:=[5,12]) (by kernel_rfl) (by simp) ?_;refine AllReadyH.cons rfl (fun K hK=>?b146_0) (AllReadyH.cons rfl (fun K hK=>?b146_1) (AllReadyH.nil))
   case' b146_0 =>
    go_simp;refine (HC2.out _ hB2).mono ?_;rintro e2 u3 ⟨y2,z2,rfl,ho2,hb⟩;have hX3:=(hb.block _ alt2).trans hX2;have hB3:=hB2.trans (hb.mono hB2.size);have alt3:w.heap.size<u3.heap.size:=(gA hX3);have hbx:=(hb.block _ (gA hbx)).trans hbx;have hr1:=hr1.below hb;have hr2:Rw rangeV 2 u3 y2 m2 z2 l2:=ho2.rw_ layG;clear ho2;clear hb;clear hHeld;refine hK.out _ _ ?hS147 (fun hHeld=>?rest147)
    case' hS147=>(have q:=box24 hX3;exact ⟨q.2.1,q.2.2.1,q.2.2.2.1,q.2.2.2.2.1,q.2.2.2.2.2.1,q.2.2.2.2.2.2.1,q.2.2.2.2.2.2.2.1,q.2.2.2.2.2.2.2.2.1,q.2.2.2.2.2.2.2.2.2.1,q.2.2.2.2.2.2.2.2.2.2.1,q.2.2.2.2.2.2.2.2.2.2.2.1,q.2.2.2.2.2.2.2.2.2.2.2.2.1,q.2.2.2.2.2.2.2.2.2.2.2.2.2.1,q.2.2.2.2.2.2.2.2.2.2.2.2.2.2.1,q.2.2.2.2.2.2.2.2.2.2.2.2.2.2.2.1,q.2.2.2.2.2.2.2.2.2.2.2.2.2.2.2.2.1,q.2.2.2.2.2.2.2.2.2.2.2.2.2.2.2.2.2.1,q.2.2.2.2.2.2.2.2.2.2.2.2.2.2.2.2.2.2.1⟩)
    clear hK K
    try simp only [putS]
    refine wpAnyH_ready (rs:=[6,12]) (by kernel_rfl) (by simp) ?_;refine AllReadyH.cons rfl (fun K hK=>?b148_0) (AllReadyH.cons rfl (fun K hK=>?b148_1) (AllReadyH.nil))
    case' b148_0 =>
     go_simp;refine (HI.out _ _ _ _ _ hB3 hr1 hr2).mono ?_;rintro e2 u4 ⟨va,vm,vc,ya,ym,yc,rfl,ho3,hoy3,hb⟩;have hX4:=(hb.block _ alt3).trans hX3;have hB4:=hB3.trans (hb.mono hB3.size);have alt4:w.heap.size<u4.heap.size:=(gA hX4);have hbx:=(hb.block _ (gA hbx)).trans hbx;have hr1:=hr1.below hb;have hr2:=hr2.below hb;clear hb;clear hHeld;refine hK.out _ _ ?hS149 (fun hHeld=>?rest149)
     case' hS149=>(have q:=box24 hX4;exact ⟨q.2.1,q.2.2.1,q.2.2.2.1,q.2.2.2.2.1,q.2.2.2.2.2.1,q.2.2.2.2.2.2.1,q.2.2.2.2.2.2.2.1,q.2.2.2.2.2.2.2.2.1,q.2.2.2.2.2.2.2.2.2.1,q.2.2.2.2.2.2.2.2.2.2.1,q.2.2.2.2.2.2.2.2.2.2.2.1,q.2.2.2.2.2.2.2.2.2.2.2.2.1,q.2.2.2.2.2.2.2.2.2.2.2.2.2.1,q.2.2.2.2.2.2.2.2.2.2.2.2.2.2.1,q.2.2.2.2.2.2.2.2.2.2.2.2.2.2.2.1,q.2.2.2.2.2.2.2.2.2.2.2.2.2.2.2.2.1,q.2.2.2.2.2.2.2.2.2.2.2.2.2.2.2.2.2.1,q.2.2.2.2.2.2.2.2.2.2.2.2.2.2.2.2.2.2.1⟩)
     clear hK K
     try simp only [putS]
     refine tD 7 (some 79) ?_
     try simp only [putS]
     refine tD 8 (some 87) ?_
     try simp only [putS]
     refine tD 9 (some 88) ?_
     try simp only [putS]
     refine tD 10 (some 89) ?_
     try simp only [putS]
     refine wpAnyH_ready (rs:=[12]) (by kernel_rfl) (by simp) ?_;refine AllReadyH.cons rfl (fun K hK=>?_) AllReadyH.nil;have hbyhbxlt:hbxx<u4.heap.size:=(gA hbx);go_simp;obtain ⟨u5,hv⟩:∃ V,u4.alloc (Obj.cells #[.int .i64 0,.int .i64 0,.int .i64 0,.int .i64 0,.string ⟨#[]⟩,.slice none 0 0,.int .i64 0,.int .i64 0,.bool false] 33)=V:=⟨_,rfl⟩;have hb:Below u4.heap.size u4 u5:=by rw [← hv];exact (bE _ _).alloc (lR _) _
     have hX5:=(hb.block _ alt4).trans hX4;have hB5:=hB4.trans (hb.mono hB4.size);have alt5:w.heap.size<u5.heap.size:=(gA hX5);have hbx:=(hb.block _ (gA hbx)).trans hbx;have hr1:=hr1.below hb;have hr2:=hr2.below hb;have ho3:=ho3.below hb;have hoy3:=hoy3.below hb;have hby:u5.heap[u4.heap.size]?=some (Obj.cells #[.int .i64 0,.int .i64 0,.int .i64 0,.int .i64 0,.string ⟨#[]⟩,.slice none 0 0,.int .i64 0,.int .i64 0,.bool false] 33):=by rw [← hv];exact heap_alloc_new _ _
     have hbylo:w.heap.size<u4.heap.size:=alt4;rw [hv];generalize u4.heap.size=hbyx at *;clear hb hv;clear hHeld;refine hK.out _ _ ?hS154 (fun hHeld=>?rest154)
     case' hS154=>(have q:=box24 hX5;exact ⟨q.2.1,q.2.2.1,q.2.2.2.1,q.2.2.2.2.1,q.2.2.2.2.2.1,q.2.2.2.2.2.2.1,q.2.2.2.2.2.2.2.1,q.2.2.2.2.2.2.2.2.1,q.2.2.2.2.2.2.2.2.2.1,q.2.2.2.2.2.2.2.2.2.2.1,q.2.2.2.2.2.2.2.2.2.2.2.1,q.2.2.2.2.2.2.2.2.2.2.2.2.1,q.2.2.2.2.2.2.2.2.2.2.2.2.2.1,q.2.2.2.2.2.2.2.2.2.2.2.2.2.2.1,q.2.2.2.2.2.2.2.2.2.2.2.2.2.2.2.1,q.2.2.2.2.2.2.2.2.2.2.2.2.2.2.2.2.1,q.2.2.2.2.2.2.2.2.2.2.2.2.2.2.2.2.2.1,q.2.2.2.2.2.2.2.2.2.2.2.2.2.2.2.2.2.2.1⟩)
     clear hK K
     try simp only [putS]
     obtain ⟨u8,e8,hx8,hB8,hK8⟩:=store9 hbx hB5 (Nat.le_of_lt hbxlo) (.int .i64 c3) (.int .i64 n3) (.int .i64 k3) (.int .i64 p3) (.string s3) (.slice va vm vc) (.int .i64 tc3) (.int .i64 tn3) (.bool on3);obtain ⟨d0,d1,d2,d3,d4,d5,d6,d7,d8⟩:=box9 hbx;obtain ⟨dz0,dz1,dz2,dz3,dz4,dz5,dz6,dz7,dz8⟩:=wr9 hbx;have hX8:=hK8.block hX5 (by omega);have hy8:=hK8.block hby (by omega);have ho8:=own_type ho3 hbx (by decide) hK8;have hoy8:=own_type hoy3 hbx (by decide) hK8;refine wpAnyH_ready (rs:=[13]) (by kernel_rfl) (by simp) ?_;refine AllReadyH.cons rfl (fun K hK=>?_) AllReadyH.nil;go_simp
     try rw [e8]
     clear hHeld;refine hK.out _ _ ?hS155 (fun hHeld=>?rest155)
     case' hS155=>(have q:=box24 hX8;exact ⟨q.2.1,q.2.2.1,q.2.2.2.1,q.2.2.2.2.1,q.2.2.2.2.2.1,q.2.2.2.2.2.2.1,q.2.2.2.2.2.2.2.1,q.2.2.2.2.2.2.2.2.1,q.2.2.2.2.2.2.2.2.2.1,q.2.2.2.2.2.2.2.2.2.2.1,q.2.2.2.2.2.2.2.2.2.2.2.1,q.2.2.2.2.2.2.2.2.2.2.2.2.1,q.2.2.2.2.2.2.2.2.2.2.2.2.2.1,q.2.2.2.2.2.2.2.2.2.2.2.2.2.2.1,q.2.2.2.2.2.2.2.2.2.2.2.2.2.2.2.1,q.2.2.2.2.2.2.2.2.2.2.2.2.2.2.2.2.1,q.2.2.2.2.2.2.2.2.2.2.2.2.2.2.2.2.2.1,q.2.2.2.2.2.2.2.2.2.2.2.2.2.2.2.2.2.2.1⟩)
     clear hK K
     try simp only [putS]
     obtain ⟨u9,e9,hy9,hB9,hK9⟩:=store9 hy8 hB8 (Nat.le_of_lt hbylo) (.int .i64 c5) (.int .i64 n5) (.int .i64 k5) (.int .i64 p5) (.string s5) (.slice ya ym yc) (.int .i64 tc5) (.int .i64 tn5) (.bool on5);obtain ⟨g0,g1,g2,g3,g4,g5,g6,g7,g8⟩:=box9 hy8;obtain ⟨gz0,gz1,gz2,gz3,gz4,gz5,gz6,gz7,gz8⟩:=wr9 hy8;have hX9:=hK9.block hX8 (by omega);have hx9:=hK9.block hx8 (by omega);have ho9:=own_type ho8 hy8 (by decide) hK9;have hoy9:=own_type hoy8 hy8 (by decide) hK9;refine wpAnyH_ready (rs:=[14]) (by kernel_rfl) (by simp) ?_;refine AllReadyH.cons rfl (fun K hK=>?_) AllReadyH.nil;go_simp
     try rw [e9]
     clear hHeld;refine hK.out _ _ ?hS156 (fun hHeld=>?rest156)
     case' hS156=>(have q:=box24 hX9;exact ⟨q.2.1,q.2.2.1,q.2.2.2.1,q.2.2.2.2.1,q.2.2.2.2.2.1,q.2.2.2.2.2.2.1,q.2.2.2.2.2.2.2.1,q.2.2.2.2.2.2.2.2.1,q.2.2.2.2.2.2.2.2.2.1,q.2.2.2.2.2.2.2.2.2.2.1,q.2.2.2.2.2.2.2.2.2.2.2.1,q.2.2.2.2.2.2.2.2.2.2.2.2.1,q.2.2.2.2.2.2.2.2.2.2.2.2.2.1,q.2.2.2.2.2.2.2.2.2.2.2.2.2.2.1,q.2.2.2.2.2.2.2.2.2.2.2.2.2.2.2.1,q.2.2.2.2.2.2.2.2.2.2.2.2.2.2.2.2.1,q.2.2.2.2.2.2.2.2.2.2.2.2.2.2.2.2.2.1,q.2.2.2.2.2.2.2.2.2.2.2.2.2.2.2.2.2.2.1⟩)
     clear hK K
     try simp only [putS]
     refine tD 15 (some 13) ?_
     try simp only [putS]
     refine wpAnyH_done (by kernel_rfl) ?_ _
    case' b148_1 =>
     have hbyhbxlt:hbxx<u3.heap.size:=(gA hbx);go_simp;obtain ⟨u4,hv⟩:∃ V,u3.alloc (Obj.cells #[.int .i64 0,.int .i64 0,.int .i64 0,.int .i64 0,.string ⟨#[]⟩,.slice none 0 0,.int .i64 0,.int .i64 0,.bool false] 33)=V:=⟨_,rfl⟩;have hb:Below u3.heap.size u3 u4:=by rw [← hv];exact (bE _ _).alloc (lR _) _
     have hX4:=(hb.block _ alt3).trans hX3;have hB4:=hB3.trans (hb.mono hB3.size);have alt4:w.heap.size<u4.heap.size:=(gA hX4);have hbx:=(hb.block _ (gA hbx)).trans hbx;have hr1:=hr1.below hb;have hr2:=hr2.below hb;have hby:u4.heap[u3.heap.size]?=some (Obj.cells #[.int .i64 0,.int .i64 0,.int .i64 0,.int .i64 0,.string ⟨#[]⟩,.slice none 0 0,.int .i64 0,.int .i64 0,.bool false] 33):=by rw [← hv];exact heap_alloc_new _ _
     have hbylo:w.heap.size<u3.heap.size:=alt3;rw [hv];generalize u3.heap.size=hbyx at *;clear hb hv;clear hHeld;refine hK.out _ _ ?hS158 (fun hHeld=>?rest158)
     case' hS158=>(have q:=box24 hX4;exact ⟨q.2.1,q.2.2.1,q.2.2.2.1,q.2.2.2.2.1,q.2.2.2.2.2.1,q.2.2.2.2.2.2.1,q.2.2.2.2.2.2.2.1,q.2.2.2.2.2.2.2.2.1,q.2.2.2.2.2.2.2.2.2.1,q.2.2.2.2.2.2.2.2.2.2.1,q.2.2.2.2.2.2.2.2.2.2.2.1,q.2.2.2.2.2.2.2.2.2.2.2.2.1,q.2.2.2.2.2.2.2.2.2.2.2.2.2.1,q.2.2.2.2.2.2.2.2.2.2.2.2.2.2.1,q.2.2.2.2.2.2.2.2.2.2.2.2.2.2.2.1,q.2.2.2.2.2.2.2.2.2.2.2.2.2.2.2.2.1,q.2.2.2.2.2.2.2.2.2.2.2.2.2.2.2.2.2.1,q.2.2.2.2.2.2.2.2.2.2.2.2.2.2.2.2.2.2.1⟩)
     clear hK K
     try simp only [putS]
     refine wpAnyH_ready (rs:=[6]) (by kernel_rfl) (by simp) ?_;refine AllReadyH.cons rfl (fun K hK=>?_) AllReadyH.nil;go_simp;refine (HI.out _ _ _ _ _ hB4 hr1 hr2).mono ?_;rintro e2 u5 ⟨va,vm,vc,ya,ym,yc,rfl,ho3,hoy3,hb⟩;have hX5:=(hb.block _ alt4).trans hX4;have hB5:=hB4.trans (hb.mono hB4.size);have alt5:w.heap.size<u5.heap.size:=(gA hX5);have hbx:=(hb.block _ (gA hbx)).trans hbx;have hby:=(hb.block _ (gA hby)).trans hby;have hr1:=hr1.below hb;have hr2:=hr2.below hb;clear hb;clear hHeld;refine hK.out _ _ ?hS159 (fun hHeld=>?rest159)
     case' hS159=>(have q:=box24 hX5;exact ⟨q.2.1,q.2.2.1,q.2.2.2.1,q.2.2.2.2.1,q.2.2.2.2.2.1,q.2.2.2.2.2.2.1,q.2.2.2.2.2.2.2.1,q.2.2.2.2.2.2.2.2.1,q.2.2.2.2.2.2.2.2.2.1,q.2.2.2.2.2.2.2.2.2.2.1,q.2.2.2.2.2.2.2.2.2.2.2.1,q.2.2.2.2.2.2.2.2.2.2.2.2.1,q.2.2.2.2.2.2.2.2.2.2.2.2.2.1,q.2.2.2.2.2.2.2.2.2.2.2.2.2.2.1,q.2.2.2.2.2.2.2.2.2.2.2.2.2.2.2.1,q.2.2.2.2.2.2.2.2.2.2.2.2.2.2.2.2.1,q.2.2.2.2.2.2.2.2.2.2.2.2.2.2.2.2.2.1,q.2.2.2.2.2.2.2.2.2.2.2.2.2.2.2.2.2.2.1⟩)
     clear hK K
     try simp only [putS]
     refine tD 7 (some 79) ?_
     try simp only [putS]
     refine tD 8 (some 87) ?_
     try simp only [putS]
     refine tD 9 (some 88) ?_
     try simp only [putS]
     refine tD 10 (some 89) ?_
     try simp only [putS]
     obtain ⟨u8,e8,hx8,hB8,hK8⟩:=store9 hbx hB5 (Nat.le_of_lt hbxlo) (.int .i64 c3) (.int .i64 n3) (.int .i64 k3) (.int .i64 p3) (.string s3) (.slice va vm vc) (.int .i64 tc3) (.int .i64 tn3) (.bool on3);obtain ⟨d0,d1,d2,d3,d4,d5,d6,d7,d8⟩:=box9 hbx;obtain ⟨dz0,dz1,dz2,dz3,dz4,dz5,dz6,dz7,dz8⟩:=wr9 hbx;have hX8:=hK8.block hX5 (by omega);have hy8:=hK8.block hby (by omega);have ho8:=own_type ho3 hbx (by decide) hK8;have hoy8:=own_type hoy3 hbx (by decide) hK8;refine wpAnyH_ready (rs:=[13]) (by kernel_rfl) (by simp) ?_;refine AllReadyH.cons rfl (fun K hK=>?_) AllReadyH.nil;go_simp
     try rw [e8]
     clear hHeld;refine hK.out _ _ ?hS164 (fun hHeld=>?rest164)
     case' hS164=>(have q:=box24 hX8;exact ⟨q.2.1,q.2.2.1,q.2.2.2.1,q.2.2.2.2.1,q.2.2.2.2.2.1,q.2.2.2.2.2.2.1,q.2.2.2.2.2.2.2.1,q.2.2.2.2.2.2.2.2.1,q.2.2.2.2.2.2.2.2.2.1,q.2.2.2.2.2.2.2.2.2.2.1,q.2.2.2.2.2.2.2.2.2.2.2.1,q.2.2.2.2.2.2.2.2.2.2.2.2.1,q.2.2.2.2.2.2.2.2.2.2.2.2.2.1,q.2.2.2.2.2.2.2.2.2.2.2.2.2.2.1,q.2.2.2.2.2.2.2.2.2.2.2.2.2.2.2.1,q.2.2.2.2.2.2.2.2.2.2.2.2.2.2.2.2.1,q.2.2.2.2.2.2.2.2.2.2.2.2.2.2.2.2.2.1,q.2.2.2.2.2.2.2.2.2.2.2.2.2.2.2.2.2.2.1⟩)
     clear hK K
     try simp only [putS]
     obtain ⟨u9,e9,hy9,hB9,hK9⟩:=store9 hy8 hB8 (Nat.le_of_lt hbylo) (.int .i64 c5) (.int .i64 n5) (.int .i64 k5) (.int .i64 p5) (.string s5) (.slice ya ym yc) (.int .i64 tc5) (.int .i64 tn5) (.bool on5);obtain ⟨g0,g1,g2,g3,g4,g5,g6,g7,g8⟩:=box9 hy8;obtain ⟨gz0,gz1,gz2,gz3,gz4,gz5,gz6,gz7,gz8⟩:=wr9 hy8;have hX9:=hK9.block hX8 (by omega);have hx9:=hK9.block hx8 (by omega);have ho9:=own_type ho8 hy8 (by decide) hK9;have hoy9:=own_type hoy8 hy8 (by decide) hK9;refine wpAnyH_ready (rs:=[14]) (by kernel_rfl) (by simp) ?_;refine AllReadyH.cons rfl (fun K hK=>?_) AllReadyH.nil;go_simp
     try rw [e9]
     clear hHeld;refine hK.out _ _ ?hS165 (fun hHeld=>?rest165)
     case' hS165=>(have q:=box24 hX9;exact ⟨q.2.1,q.2.2.1,q.2.2.2.1,q.2.2.2.2.1,q.2.2.2.2.2.1,q.2.2.2.2.2.2.1,q.2.2.2.2.2.2.2.1,q.2.2.2.2.2.2.2.2.1,q.2.2.2.2.2.2.2.2.2.1,q.2.2.2.2.2.2.2.2.2.2.1,q.2.2.2.2.2.2.2.2.2.2.2.1,q.2.2.2.2.2.2.2.2.2.2.2.2.1,q.2.2.2.2.2.2.2.2.2.2.2.2.2.1,q.2.2.2.2.2.2.2.2.2.2.2.2.2.2.1,q.2.2.2.2.2.2.2.2.2.2.2.2.2.2.2.1,q.2.2.2.2.2.2.2.2.2.2.2.2.2.2.2.2.1,q.2.2.2.2.2.2.2.2.2.2.2.2.2.2.2.2.2.1,q.2.2.2.2.2.2.2.2.2.2.2.2.2.2.2.2.2.2.1⟩)
     clear hK K
     try simp only [putS]
     refine tD 15 (some 13) ?_
     try simp only [putS]
     refine wpAnyH_done (by kernel_rfl) ?_ _
   case' b146_1 =>
    have hbyhbxlt:hbxx<u2.heap.size:=(gA hbx);go_simp;obtain ⟨u3,hv⟩:∃ V,u2.alloc (Obj.cells #[.int .i64 0,.int .i64 0,.int .i64 0,.int .i64 0,.string ⟨#[]⟩,.slice none 0 0,.int .i64 0,.int .i64 0,.bool false] 33)=V:=⟨_,rfl⟩;have hb:Below u2.heap.size u2 u3:=by rw [← hv];exact (bE _ _).alloc (lR _) _
    have hX3:=(hb.block _ alt2).trans hX2;have hB3:=hB2.trans (hb.mono hB2.size);have alt3:w.heap.size<u3.heap.size:=(gA hX3);have hbx:=(hb.block _ (gA hbx)).trans hbx;have hr1:=hr1.below hb;have hby:u3.heap[u2.heap.size]?=some (Obj.cells #[.int .i64 0,.int .i64 0,.int .i64 0,.int .i64 0,.string ⟨#[]⟩,.slice none 0 0,.int .i64 0,.int .i64 0,.bool false] 33):=by rw [← hv];exact heap_alloc_new _ _
    have hbylo:w.heap.size<u2.heap.size:=alt2;rw [hv];generalize u2.heap.size=hbyx at *;clear hb hv;clear hHeld;refine hK.out _ _ ?hS167 (fun hHeld=>?rest167)
    case' hS167=>(have q:=box24 hX3;exact ⟨q.2.1,q.2.2.1,q.2.2.2.1,q.2.2.2.2.1,q.2.2.2.2.2.1,q.2.2.2.2.2.2.1,q.2.2.2.2.2.2.2.1,q.2.2.2.2.2.2.2.2.1,q.2.2.2.2.2.2.2.2.2.1,q.2.2.2.2.2.2.2.2.2.2.1,q.2.2.2.2.2.2.2.2.2.2.2.1,q.2.2.2.2.2.2.2.2.2.2.2.2.1,q.2.2.2.2.2.2.2.2.2.2.2.2.2.1,q.2.2.2.2.2.2.2.2.2.2.2.2.2.2.1,q.2.2.2.2.2.2.2.2.2.2.2.2.2.2.2.1,q.2.2.2.2.2.2.2.2.2.2.2.2.2.2.2.2.1,q.2.2.2.2.2.2.2.2.2.2.2.2.2.2.2.2.2.1,q.2.2.2.2.2.2.2.2.2.2.2.2.2.2.2.2.2.2.1⟩)
    clear hK K
    try simp only [putS]
    refine wpAnyH_ready (rs:=[5]) (by kernel_rfl) (by simp) ?_;refine AllReadyH.cons rfl (fun K hK=>?_) AllReadyH.nil;go_simp;refine (HC2.out _ hB3).mono ?_;rintro e2 u4 ⟨y2,z2,rfl,ho2,hb⟩;have hX4:=(hb.block _ alt3).trans hX3;have hB4:=hB3.trans (hb.mono hB3.size);have alt4:w.heap.size<u4.heap.size:=(gA hX4);have hbx:=(hb.block _ (gA hbx)).trans hbx;have hby:=(hb.block _ (gA hby)).trans hby;have hr1:=hr1.below hb;have hr2:Rw rangeV 2 u4 y2 m2 z2 l2:=ho2.rw_ layG;clear ho2;clear hb;clear hHeld;refine hK.out _ _ ?hS168 (fun hHeld=>?rest168)
    case' hS168=>(have q:=box24 hX4;exact ⟨q.2.1,q.2.2.1,q.2.2.2.1,q.2.2.2.2.1,q.2.2.2.2.2.1,q.2.2.2.2.2.2.1,q.2.2.2.2.2.2.2.1,q.2.2.2.2.2.2.2.2.1,q.2.2.2.2.2.2.2.2.2.1,q.2.2.2.2.2.2.2.2.2.2.1,q.2.2.2.2.2.2.2.2.2.2.2.1,q.2.2.2.2.2.2.2.2.2.2.2.2.1,q.2.2.2.2.2.2.2.2.2.2.2.2.2.1,q.2.2.2.2.2.2.2.2.2.2.2.2.2.2.1,q.2.2.2.2.2.2.2.2.2.2.2.2.2.2.2.1,q.2.2.2.2.2.2.2.2.2.2.2.2.2.2.2.2.1,q.2.2.2.2.2.2.2.2.2.2.2.2.2.2.2.2.2.1,q.2.2.2.2.2.2.2.2.2.2.2.2.2.2.2.2.2.2.1⟩)
    clear hK K
    try simp only [putS]
    refine wpAnyH_ready (rs:=[6]) (by kernel_rfl) (by simp) ?_;refine AllReadyH.cons rfl (fun K hK=>?_) AllReadyH.nil;go_simp;refine (HI.out _ _ _ _ _ hB4 hr1 hr2).mono ?_;rintro e2 u5 ⟨va,vm,vc,ya,ym,yc,rfl,ho3,hoy3,hb⟩;have hX5:=(hb.block _ alt4).trans hX4;have hB5:=hB4.trans (hb.mono hB4.size);have alt5:w.heap.size<u5.heap.size:=(gA hX5);have hbx:=(hb.block _ (gA hbx)).trans hbx;have hby:=(hb.block _ (gA hby)).trans hby;have hr1:=hr1.below hb;have hr2:=hr2.below hb;clear hb;clear hHeld;refine hK.out _ _ ?hS169 (fun hHeld=>?rest169)
    case' hS169=>(have q:=box24 hX5;exact ⟨q.2.1,q.2.2.1,q.2.2.2.1,q.2.2.2.2.1,q.2.2.2.2.2.1,q.2.2.2.2.2.2.1,q.2.2.2.2.2.2.2.1,q.2.2.2.2.2.2.2.2.1,q.2.2.2.2.2.2.2.2.2.1,q.2.2.2.2.2.2.2.2.2.2.1,q.2.2.2.2.2.2.2.2.2.2.2.1,q.2.2.2.2.2.2.2.2.2.2.2.2.1,q.2.2.2.2.2.2.2.2.2.2.2.2.2.1,q.2.2.2.2.2.2.2.2.2.2.2.2.2.2.1,q.2.2.2.2.2.2.2.2.2.2.2.2.2.2.2.1,q.2.2.2.2.2.2.2.2.2.2.2.2.2.2.2.2.1,q.2.2.2.2.2.2.2.2.2.2.2.2.2.2.2.2.2.1,q.2.2.2.2.2.2.2.2.2.2.2.2.2.2.2.2.2.2.1⟩)
    clear hK K
    try simp only [putS]
    refine tD 7 (some 79) ?_
    try simp only [putS]
    refine tD 8 (some 87) ?_
    try simp only [putS]
    refine tD 9 (some 88) ?_
    try simp only [putS]
    refine tD 10 (some 89) ?_
    try simp only [putS]
    obtain ⟨u8,e8,hx8,hB8,hK8⟩:=store9 hbx hB5 (Nat.le_of_lt hbxlo) (.int .i64 c3) (.int .i64 n3) (.int .i64 k3) (.int .i64 p3) (.string s3) (.slice va vm vc) (.int .i64 tc3) (.int .i64 tn3) (.bool on3);obtain ⟨d0,d1,d2,d3,d4,d5,d6,d7,d8⟩:=box9 hbx;obtain ⟨dz0,dz1,dz2,dz3,dz4,dz5,dz6,dz7,dz8⟩:=wr9 hbx;have hX8:=hK8.block hX5 (by omega);have hy8:=hK8.block hby (by omega);have ho8:=own_type ho3 hbx (by decide) hK8;have hoy8:=own_type hoy3 hbx (by decide) hK8;refine wpAnyH_ready (rs:=[13]) (by kernel_rfl) (by simp) ?_;refine AllReadyH.cons rfl (fun K hK=>?_) AllReadyH.nil;go_simp
    try rw [e8]
    clear hHeld;refine hK.out _ _ ?hS174 (fun hHeld=>?rest174)
    case' hS174=>(have q:=box24 hX8;exact ⟨q.2.1,q.2.2.1,q.2.2.2.1,q.2.2.2.2.1,q.2.2.2.2.2.1,q.2.2.2.2.2.2.1,q.2.2.2.2.2.2.2.1,q.2.2.2.2.2.2.2.2.1,q.2.2.2.2.2.2.2.2.2.1,q.2.2.2.2.2.2.2.2.2.2.1,q.2.2.2.2.2.2.2.2.2.2.2.1,q.2.2.2.2.2.2.2.2.2.2.2.2.1,q.2.2.2.2.2.2.2.2.2.2.2.2.2.1,q.2.2.2.2.2.2.2.2.2.2.2.2.2.2.1,q.2.2.2.2.2.2.2.2.2.2.2.2.2.2.2.1,q.2.2.2.2.2.2.2.2.2.2.2.2.2.2.2.2.1,q.2.2.2.2.2.2.2.2.2.2.2.2.2.2.2.2.2.1,q.2.2.2.2.2.2.2.2.2.2.2.2.2.2.2.2.2.2.1⟩)
    clear hK K
    try simp only [putS]
    obtain ⟨u9,e9,hy9,hB9,hK9⟩:=store9 hy8 hB8 (Nat.le_of_lt hbylo) (.int .i64 c5) (.int .i64 n5) (.int .i64 k5) (.int .i64 p5) (.string s5) (.slice ya ym yc) (.int .i64 tc5) (.int .i64 tn5) (.bool on5);obtain ⟨g0,g1,g2,g3,g4,g5,g6,g7,g8⟩:=box9 hy8;obtain ⟨gz0,gz1,gz2,gz3,gz4,gz5,gz6,gz7,gz8⟩:=wr9 hy8;have hX9:=hK9.block hX8 (by omega);have hx9:=hK9.block hx8 (by omega);have ho9:=own_type ho8 hy8 (by decide) hK9;have hoy9:=own_type hoy8 hy8 (by decide) hK9;refine wpAnyH_ready (rs:=[14]) (by kernel_rfl) (by simp) ?_;refine AllReadyH.cons rfl (fun K hK=>?_) AllReadyH.nil;go_simp
    try rw [e9]
    clear hHeld;refine hK.out _ _ ?hS175 (fun hHeld=>?rest175)
    case' hS175=>(have q:=box24 hX9;exact ⟨q.2.1,q.2.2.1,q.2.2.2.1,q.2.2.2.2.1,q.2.2.2.2.2.1,q.2.2.2.2.2.2.1,q.2.2.2.2.2.2.2.1,q.2.2.2.2.2.2.2.2.1,q.2.2.2.2.2.2.2.2.2.1,q.2.2.2.2.2.2.2.2.2.2.1,q.2.2.2.2.2.2.2.2.2.2.2.1,q.2.2.2.2.2.2.2.2.2.2.2.2.1,q.2.2.2.2.2.2.2.2.2.2.2.2.2.1,q.2.2.2.2.2.2.2.2.2.2.2.2.2.2.1,q.2.2.2.2.2.2.2.2.2.2.2.2.2.2.2.1,q.2.2.2.2.2.2.2.2.2.2.2.2.2.2.2.2.1,q.2.2.2.2.2.2.2.2.2.2.2.2.2.2.2.2.2.1,q.2.2.2.2.2.2.2.2.2.2.2.2.2.2.2.2.2.2.1⟩)
    clear hK K
    try simp only [putS]
    refine tD 15 (some 13) ?_
    try simp only [putS]
    refine wpAnyH_done (by kernel_rfl) ?_ _
  case' b144_1 =>
   have hbyhbxlt:hbxx<u1.heap.size:=(gA hbx);go_simp;obtain ⟨u2,hv⟩:∃ V,u1.alloc (Obj.cells #[.int .i64 0,.int .i64 0,.int .i64 0,.int .i64 0,.string ⟨#[]⟩,.slice none 0 0,.int .i64 0,.int .i64 0,.bool false] 33)=V:=⟨_,rfl⟩;have hb:Below u1.heap.size u1 u2:=by rw [← hv];exact (bE _ _).alloc (lR _) _
   have hX2:=(hb.block _ alt1).trans hX1;have hB2:=hB1.trans (hb.mono hB1.size);have alt2:w.heap.size<u2.heap.size:=(gA hX2);have hbx:=(hb.block _ (gA hbx)).trans hbx;have hby:u2.heap[u1.heap.size]?=some (Obj.cells #[.int .i64 0,.int .i64 0,.int .i64 0,.int .i64 0,.string ⟨#[]⟩,.slice none 0 0,.int .i64 0,.int .i64 0,.bool false] 33):=by rw [← hv];exact heap_alloc_new _ _
   have hbylo:w.heap.size<u1.heap.size:=alt1;rw [hv];generalize u1.heap.size=hbyx at *;clear hb hv;clear hHeld;refine hK.out _ _ ?hS177 (fun hHeld=>?rest177)
   case' hS177=>(have q:=box24 hX2;exact ⟨q.2.1,q.2.2.1,q.2.2.2.1,q.2.2.2.2.1,q.2.2.2.2.2.1,q.2.2.2.2.2.2.1,q.2.2.2.2.2.2.2.1,q.2.2.2.2.2.2.2.2.1,q.2.2.2.2.2.2.2.2.2.1,q.2.2.2.2.2.2.2.2.2.2.1,q.2.2.2.2.2.2.2.2.2.2.2.1,q.2.2.2.2.2.2.2.2.2.2.2.2.1,q.2.2.2.2.2.2.2.2.2.2.2.2.2.1,q.2.2.2.2.2.2.2.2.2.2.2.2.2.2.1,q.2.2.2.2.2.2.2.2.2.2.2.2.2.2.2.1,q.2.2.2.2.2.2.2.2.2.2.2.2.2.2.2.2.1,q.2.2.2.2.2.2.2.2.2.2.2.2.2.2.2.2.2.1,q.2.2.2.2.2.2.2.2.2.2.2.2.2.2.2.2.2.2.1⟩)
   clear hK K
   try simp only [putS]
   refine wpAnyH_ready (rs:=[2]) (by kernel_rfl) (by simp) ?_;refine AllReadyH.cons rfl (fun K hK=>?_) AllReadyH.nil;go_simp;refine (HC1.out _ hB2).mono ?_;rintro e2 u3 ⟨y1,z1,rfl,ho1,hb⟩;have hX3:=(hb.block _ alt2).trans hX2;have hB3:=hB2.trans (hb.mono hB2.size);have alt3:w.heap.size<u3.heap.size:=(gA hX3);have hbx:=(hb.block _ (gA hbx)).trans hbx;have hby:=(hb.block _ (gA hby)).trans hby;have hr1:Rw rangeV 2 u3 y1 m1 z1 l1:=ho1.rw_ layG;clear ho1;clear hb;clear hHeld;refine hK.out _ _ ?hS178 (fun hHeld=>?rest178)
   case' hS178=>(have q:=box24 hX3;exact ⟨q.2.1,q.2.2.1,q.2.2.2.1,q.2.2.2.2.1,q.2.2.2.2.2.1,q.2.2.2.2.2.2.1,q.2.2.2.2.2.2.2.1,q.2.2.2.2.2.2.2.2.1,q.2.2.2.2.2.2.2.2.2.1,q.2.2.2.2.2.2.2.2.2.2.1,q.2.2.2.2.2.2.2.2.2.2.2.1,q.2.2.2.2.2.2.2.2.2.2.2.2.1,q.2.2.2.2.2.2.2.2.2.2.2.2.2.1,q.2.2.2.2.2.2.2.2.2.2.2.2.2.2.1,q.2.2.2.2.2.2.2.2.2.2.2.2.2.2.2.1,q.2.2.2.2.2.2.2.2.2.2.2.2.2.2.2.2.1,q.2.2.2.2.2.2.2.2.2.2.2.2.2.2.2.2.2.1,q.2.2.2.2.2.2.2.2.2.2.2.2.2.2.2.2.2.2.1⟩)
   clear hK K
   try simp only [putS]
   refine wpAnyH_ready (rs:=[5]) (by kernel_rfl) (by simp) ?_;refine AllReadyH.cons rfl (fun K hK=>?_) AllReadyH.nil;go_simp;refine (HC2.out _ hB3).mono ?_;rintro e2 u4 ⟨y2,z2,rfl,ho2,hb⟩;have hX4:=(hb.block _ alt3).trans hX3;have hB4:=hB3.trans (hb.mono hB3.size);have alt4:w.heap.size<u4.heap.size:=(gA hX4);have hbx:=(hb.block _ (gA hbx)).trans hbx;have hby:=(hb.block _ (gA hby)).trans hby;have hr1:=hr1.below hb;have hr2:Rw rangeV 2 u4 y2 m2 z2 l2:=ho2.rw_ layG;clear ho2;clear hb;clear hHeld;refine hK.out _ _ ?hS179 (fun hHeld=>?rest179)
   case' hS179=>(have q:=box24 hX4;exact ⟨q.2.1,q.2.2.1,q.2.2.2.1,q.2.2.2.2.1,q.2.2.2.2.2.1,q.2.2.2.2.2.2.1,q.2.2.2.2.2.2.2.1,q.2.2.2.2.2.2.2.2.1,q.2.2.2.2.2.2.2.2.2.1,q.2.2.2.2.2.2.2.2.2.2.1,q.2.2.2.2.2.2.2.2.2.2.2.1,q.2.2.2.2.2.2.2.2.2.2.2.2.1,q.2.2.2.2.2.2.2.2.2.2.2.2.2.1,q.2.2.2.2.2.2.2.2.2.2.2.2.2.2.1,q.2.2.2.2.2.2.2.2.2.2.2.2.2.2.2.1,q.2.2.2.2.2.2.2.2.2.2.2.2.2.2.2.2.1,q.2.2.2.2.2.2.2.2.2.2.2.2.2.2.2.2.2.1,q.2.2.2.2.2.2.2.2.2.2.2.2.2.2.2.2.2.2.1⟩)
   clear hK K
   try simp only [putS]
   refine wpAnyH_ready (rs:=[6]) (by kernel_rfl) (by simp) ?_;refine AllReadyH.cons rfl (fun K hK=>?_) AllReadyH.nil;go_simp;refine (HI.out _ _ _ _ _ hB4 hr1 hr2).mono ?_;rintro e2 u5 ⟨va,vm,vc,ya,ym,yc,rfl,ho3,hoy3,hb⟩;have hX5:=(hb.block _ alt4).trans hX4;have hB5:=hB4.trans (hb.mono hB4.size);have alt5:w.heap.size<u5.heap.size:=(gA hX5);have hbx:=(hb.block _ (gA hbx)).trans hbx;have hby:=(hb.block _ (gA hby)).trans hby;have hr1:=hr1.below hb;have hr2:=hr2.below hb;clear hb;clear hHeld;refine hK.out _ _ ?hS180 (fun hHeld=>?rest180)
   case' hS180=>(have q:=box24 hX5;exact ⟨q.2.1,q.2.2.1,q.2.2.2.1,q.2.2.2.2.1,q.2.2.2.2.2.1,q.2.2.2.2.2.2.1,q.2.2.2.2.2.2.2.1,q.2.2.2.2.2.2.2.2.1,q.2.2.2.2.2.2.2.2.2.1,q.2.2.2.2.2.2.2.2.2.2.1,q.2.2.2.2.2.2.2.2.2.2.2.1,q.2.2.2.2.2.2.2.2.2.2.2.2.1,q.2.2.2.2.2.2.2.2.2.2.2.2.2.1,q.2.2.2.2.2.2.2.2.2.2.2.2.2.2.1,q.2.2.2.2.2.2.2.2.2.2.2.2.2.2.2.1,q.2.2.2.2.2.2.2.2.2.2.2.2.2.2.2.2.1,q.2.2.2.2.2.2.2.2.2.2.2.2.2.2.2.2.2.1,q.2.2.2.2.2.2.2.2.2.2.2.2.2.2.2.2.2.2.1⟩)
   clear hK K
   try simp only [putS]
   refine tD 7 (some 79) ?_
   try simp only [putS]
   refine tD 8 (some 87) ?_
   try simp only [putS]
   refine tD 9 (some 88) ?_
   try simp only [putS]
   refine tD 10 (some 89) ?_
   try simp only [putS]
   obtain ⟨u8,e8,hx8,hB8,hK8⟩:=store9 hbx hB5 (Nat.le_of_lt hbxlo) (.int .i64 c3) (.int .i64 n3) (.int .i64 k3) (.int .i64 p3) (.string s3) (.slice va vm vc) (.int .i64 tc3) (.int .i64 tn3) (.bool on3);obtain ⟨d0,d1,d2,d3,d4,d5,d6,d7,d8⟩:=box9 hbx;obtain ⟨dz0,dz1,dz2,dz3,dz4,dz5,dz6,dz7,dz8⟩:=wr9 hbx;have hX8:=hK8.block hX5 (by omega);have hy8:=hK8.block hby (by omega);have ho8:=own_type ho3 hbx (by decide) hK8;have hoy8:=own_type hoy3 hbx (by decide) hK8;refine wpAnyH_ready (rs:=[13]) (by kernel_rfl) (by simp) ?_;refine AllReadyH.cons rfl (fun K hK=>?_) AllReadyH.nil;go_simp
   try rw [e8]
   clear hHeld;refine hK.out _ _ ?hS185 (fun hHeld=>?rest185)
   case' hS185=>(have q:=box24 hX8;exact ⟨q.2.1,q.2.2.1,q.2.2.2.1,q.2.2.2.2.1,q.2.2.2.2.2.1,q.2.2.2.2.2.2.1,q.2.2.2.2.2.2.2.1,q.2.2.2.2.2.2.2.2.1,q.2.2.2.2.2.2.2.2.2.1,q.2.2.2.2.2.2.2.2.2.2.1,q.2.2.2.2.2.2.2.2.2.2.2.1,q.2.2.2.2.2.2.2.2.2.2.2.2.1,q.2.2.2.2.2.2.2.2.2.2.2.2.2.1,q.2.2.2.2.2.2.2.2.2.2.2.2.2.2.1,q.2.2.2.2.2.2.2.2.2.2.2.2.2.2.2.1,q.2.2.2.2.2.2.2.2.2.2.2.2.2.2.2.2.1,q.2.2.2.2.2.2.2.2.2.2.2.2.2.2.2.2.2.1,q.2.2.2.2.2.2.2.2.2.2.2.2.2.2.2.2.2.2.1⟩)
   clear hK K
   try simp only [putS]
   obtain ⟨u9,e9,hy9,hB9,hK9⟩:=store9 hy8 hB8 (Nat.le_of_lt hbylo) (.int .i64 c5) (.int .i64 n5) (.int .i64 k5) (.int .i64 p5) (.string s5) (.slice ya ym yc) (.int .i64 tc5) (.int .i64 tn5) (.bool on5);obtain ⟨g0,g1,g2,g3,g4,g5,g6,g7,g8⟩:=box9 hy8;obtain ⟨gz0,gz1,gz2,gz3,gz4,gz5,gz6,gz7,gz8⟩:=wr9 hy8;have hX9:=hK9.block hX8 (by omega);have hx9:=hK9.block hx8 (by omega);have ho9:=own_type ho8 hy8 (by decide) hK9;have hoy9:=own_type hoy8 hy8 (by decide) hK9;refine wpAnyH_ready (rs:=[14]) (by kernel_rfl) (by simp) ?_;refine AllReadyH.cons rfl (fun K hK=>?_) AllReadyH.nil;go_simp
   try rw [e9]
   clear hHeld;refine hK.out _ _ ?hS186 (fun hHeld=>?rest186)
   case' hS186=>(have q:=box24 hX9;exact ⟨q.2.1,q.2.2.1,q.2.2.2.1,q.2.2.2.2.1,q.2.2.2.2.2.1,q.2.2.2.2.2.2.1,q.2.2.2.2.2.2.2.1,q.2.2.2.2.2.2.2.2.1,q.2.2.2.2.2.2.2.2.2.1,q.2.2.2.2.2.2.2.2.2.2.1,q.2.2.2.2.2.2.2.2.2.2.2.1,q.2.2.2.2.2.2.2.2.2.2.2.2.1,q.2.2.2.2.2.2.2.2.2.2.2.2.2.1,q.2.2.2.2.2.2.2.2.2.2.2.2.2.2.1,q.2.2.2.2.2.2.2.2.2.2.2.2.2.2.2.1,q.2.2.2.2.2.2.2.2.2.2.2.2.2.2.2.2.1,q.2.2.2.2.2.2.2.2.2.2.2.2.2.2.2.2.2.1,q.2.2.2.2.2.2.2.2.2.2.2.2.2.2.2.2.2.2.1⟩)
   clear hK K
   try simp only [putS]
   refine tD 15 (some 13) ?_
   try simp only [putS]
   refine wpAnyH_done (by kernel_rfl) ?_ _
 case' b18_2 =>
  go_simp;obtain ⟨u1,hv⟩:∃ V,u0.alloc (Obj.cells #[.int .i64 0,.int .i64 0,.int .i64 0,.int .i64 0,.string ⟨#[]⟩,.slice none 0 0,.int .i64 0,.int .i64 0,.bool false] 33)=V:=⟨_,rfl⟩;have hb:Below u0.heap.size u0 u1:=by rw [← hv];exact (bE _ _).alloc (lR _) _
  have hX1:=(hb.block _ alt0).trans hX0;have hB1:=hB0.trans (hb.mono hB0.size);have alt1:w.heap.size<u1.heap.size:=(gA hX1);have hby:u1.heap[u0.heap.size]?=some (Obj.cells #[.int .i64 0,.int .i64 0,.int .i64 0,.int .i64 0,.string ⟨#[]⟩,.slice none 0 0,.int .i64 0,.int .i64 0,.bool false] 33):=by rw [← hv];exact heap_alloc_new _ _
  have hbylo:w.heap.size<u0.heap.size:=alt0;rw [hv];generalize u0.heap.size=hbyx at *;clear hb hv;clear hHeld;refine hK.out _ _ ?hS188 (fun hHeld=>?rest188)
  case' hS188=>(have q:=box24 hX1;exact ⟨q.2.1,q.2.2.1,q.2.2.2.1,q.2.2.2.2.1,q.2.2.2.2.2.1,q.2.2.2.2.2.2.1,q.2.2.2.2.2.2.2.1,q.2.2.2.2.2.2.2.2.1,q.2.2.2.2.2.2.2.2.2.1,q.2.2.2.2.2.2.2.2.2.2.1,q.2.2.2.2.2.2.2.2.2.2.2.1,q.2.2.2.2.2.2.2.2.2.2.2.2.1,q.2.2.2.2.2.2.2.2.2.2.2.2.2.1,q.2.2.2.2.2.2.2.2.2.2.2.2.2.2.1,q.2.2.2.2.2.2.2.2.2.2.2.2.2.2.2.1,q.2.2.2.2.2.2.2.2.2.2.2.2.2.2.2.2.1,q.2.2.2.2.2.2.2.2.2.2.2.2.2.2.2.2.2.1,q.2.2.2.2.2.2.2.2.2.2.2.2.2.2.2.2.2.2.1⟩)
  clear hK K
  try simp only [putS]
  refine wpAnyH_ready (rs:=[2,11]) (by kernel_rfl) (by simp) ?_;refine AllReadyH.cons rfl (fun K hK=>?b189_0) (AllReadyH.cons rfl (fun K hK=>?b189_1) (AllReadyH.nil))
  case' b189_0 =>
   go_simp;refine (HC1.out _ hB1).mono ?_;rintro e2 u2 ⟨y1,z1,rfl,ho1,hb⟩;have hX2:=(hb.block _ alt1).trans hX1;have hB2:=hB1.trans (hb.mono hB1.size);have alt2:w.heap.size<u2.heap.size:=(gA hX2);have hby:=(hb.block _ (gA hby)).trans hby;have hr1:Rw rangeV 2 u2 y1 m1 z1 l1:=ho1.rw_ layG;clear ho1;clear hb;clear hHeld;refine hK.out _ _ ?hS190 (fun hHeld=>?rest190)
   case' hS190=>(have q:=box24 hX2;exact ⟨q.2.1,q.2.2.1,q.2.2.2.1,q.2.2.2.2.1,q.2.2.2.2.2.1,q.2.2.2.2.2.2.1,q.2.2.2.2.2.2.2.1,q.2.2.2.2.2.2.2.2.1,q.2.2.2.2.2.2.2.2.2.1,q.2.2.2.2.2.2.2.2.2.2.1,q.2.2.2.2.2.2.2.2.2.2.2.1,q.2.2.2.2.2.2.2.2.2.2.2.2.1,q.2.2.2.2.2.2.2.2.2.2.2.2.2.1,q.2.2.2.2.2.2.2.2.2.2.2.2.2.2.1,q.2.2.2.2.2.2.2.2.2.2.2.2.2.2.2.1,q.2.2.2.2.2.2.2.2.2.2.2.2.2.2.2.2.1,q.2.2.2.2.2.2.2.2.2.2.2.2.2.2.2.2.2.1,q.2.2.2.2.2.2.2.2.2.2.2.2.2.2.2.2.2.2.1⟩)
   clear hK K
   try simp only [putS]
   refine wpAnyH_ready (rs:=[5,11]) (by kernel_rfl) (by simp) ?_;refine AllReadyH.cons rfl (fun K hK=>?b191_0) (AllReadyH.cons rfl (fun K hK=>?b191_1) (AllReadyH.nil))
   case' b191_0 =>
    go_simp;refine (HC2.out _ hB2).mono ?_;rintro e2 u3 ⟨y2,z2,rfl,ho2,hb⟩;have hX3:=(hb.block _ alt2).trans hX2;have hB3:=hB2.trans (hb.mono hB2.size);have alt3:w.heap.size<u3.heap.size:=(gA hX3);have hby:=(hb.block _ (gA hby)).trans hby;have hr1:=hr1.below hb;have hr2:Rw rangeV 2 u3 y2 m2 z2 l2:=ho2.rw_ layG;clear ho2;clear hb;clear hHeld;refine hK.out _ _ ?hS192 (fun hHeld=>?rest192)
    case' hS192=>(have q:=box24 hX3;exact ⟨q.2.1,q.2.2.1,q.2.2.2.1,q.2.2.2.2.1,q.2.2.2.2.2.1,q.2.2.2.2.2.2.1,q.2.2.2.2.2.2.2.1,q.2.2.2.2.2.2.2.2.1,q.2.2.2.2.2.2.2.2.2.1,q.2.2.2.2.2.2.2.2.2.2.1,q.2.2.2.2.2.2.2.2.2.2.2.1,q.2.2.2.2.2.2.2.2.2.2.2.2.1,q.2.2.2.2.2.2.2.2.2.2.2.2.2.1,q.2.2.2.2.2.2.2.2.2.2.2.2.2.2.1,q.2.2.2.2.2.2.2.2.2.2.2.2.2.2.2.1,q.2.2.2.2.2.2.2.2.2.2.2.2.2.2.2.2.1,q.2.2.2.2.2.2.2.2.2.2.2.2.2.2.2.2.2.1,q.2.2.2.2.2.2.2.2.2.2.2.2.2.2.2.2.2.2.1⟩)
    clear hK K
    try simp only [putS]
    refine wpAnyH_ready (rs:=[6,11]) (by kernel_rfl) (by simp) ?_;refine AllReadyH.cons rfl (fun K hK=>?b193_0) (AllReadyH.cons rfl (fun K hK=>?b193_1) (AllReadyH.nil))
    case' b193_0 =>
     go_simp;refine (HI.out _ _ _ _ _ hB3 hr1 hr2).mono ?_;rintro e2 u4 ⟨va,vm,vc,ya,ym,yc,rfl,ho3,hoy3,hb⟩;have hX4:=(hb.block _ alt3).trans hX3;have hB4:=hB3.trans (hb.mono hB3.size);have alt4:w.heap.size<u4.heap.size:=(gA hX4);have hby:=(hb.block _ (gA hby)).trans hby;have hr1:=hr1.below hb;have hr2:=hr2.below hb;clear hb;clear hHeld;refine hK.out _ _ ?hS194 (fun hHeld=>?rest194)
     case' hS194=>(have q:=box24 hX4;exact ⟨q.2.1,q.2.2.1,q.2.2.2.1,q.2.2.2.2.1,q.2.2.2.2.2.1,q.2.2.2.2.2.2.1,q.2.2.2.2.2.2.2.1,q.2.2.2.2.2.2.2.2.1,q.2.2.2.2.2.2.2.2.2.1,q.2.2.2.2.2.2.2.2.2.2.1,q.2.2.2.2.2.2.2.2.2.2.2.1,q.2.2.2.2.2.2.2.2.2.2.2.2.1,q.2.2.2.2.2.2.2.2.2.2.2.2.2.1,q.2.2.2.2.2.2.2.2.2.2.2.2.2.2.1,q.2.2.2.2.2.2.2.2.2.2.2.2.2.2.2.1,q.2.2.2.2.2.2.2.2.2.2.2.2.2.2.2.2.1,q.2.2.2.2.2.2.2.2.2.2.2.2.2.2.2.2.2.1,q.2.2.2.2.2.2.2.2.2.2.2.2.2.2.2.2.2.2.1⟩)
     clear hK K
     try simp only [putS]
     refine tD 7 (some 79) ?_
     try simp only [putS]
     refine tD 8 (some 87) ?_
     try simp only [putS]
     refine tD 9 (some 88) ?_
     try simp only [putS]
     refine tD 10 (some 89) ?_
     try simp only [putS]
     refine wpAnyH_ready (rs:=[11]) (by kernel_rfl) (by simp) ?_;refine AllReadyH.cons rfl (fun K hK=>?_) AllReadyH.nil;have hbxhbylt:hbyx<u4.heap.size:=(gA hby);go_simp;obtain ⟨u5,hv⟩:∃ V,u4.alloc (Obj.cells #[.int .i64 0,.int .i64 0,.int .i64 0,.int .i64 0,.string ⟨#[]⟩,.slice none 0 0,.int .i64 0,.int .i64 0,.bool false] 33)=V:=⟨_,rfl⟩;have hb:Below u4.heap.size u4 u5:=by rw [← hv];exact (bE _ _).alloc (lR _) _
     have hX5:=(hb.block _ alt4).trans hX4;have hB5:=hB4.trans (hb.mono hB4.size);have alt5:w.heap.size<u5.heap.size:=(gA hX5);have hby:=(hb.block _ (gA hby)).trans hby;have hr1:=hr1.below hb;have hr2:=hr2.below hb;have ho3:=ho3.below hb;have hoy3:=hoy3.below hb;have hbx:u5.heap[u4.heap.size]?=some (Obj.cells #[.int .i64 0,.int .i64 0,.int .i64 0,.int .i64 0,.string ⟨#[]⟩,.slice none 0 0,.int .i64 0,.int .i64 0,.bool false] 33):=by rw [← hv];exact heap_alloc_new _ _
     have hbxlo:w.heap.size<u4.heap.size:=alt4;rw [hv];generalize u4.heap.size=hbxx at *;clear hb hv;clear hHeld;refine hK.out _ _ ?hS199 (fun hHeld=>?rest199)
     case' hS199=>(have q:=box24 hX5;exact ⟨q.2.1,q.2.2.1,q.2.2.2.1,q.2.2.2.2.1,q.2.2.2.2.2.1,q.2.2.2.2.2.2.1,q.2.2.2.2.2.2.2.1,q.2.2.2.2.2.2.2.2.1,q.2.2.2.2.2.2.2.2.2.1,q.2.2.2.2.2.2.2.2.2.2.1,q.2.2.2.2.2.2.2.2.2.2.2.1,q.2.2.2.2.2.2.2.2.2.2.2.2.1,q.2.2.2.2.2.2.2.2.2.2.2.2.2.1,q.2.2.2.2.2.2.2.2.2.2.2.2.2.2.1,q.2.2.2.2.2.2.2.2.2.2.2.2.2.2.2.1,q.2.2.2.2.2.2.2.2.2.2.2.2.2.2.2.2.1,q.2.2.2.2.2.2.2.2.2.2.2.2.2.2.2.2.2.1,q.2.2.2.2.2.2.2.2.2.2.2.2.2.2.2.2.2.2.1⟩)
     clear hK K
     try simp only [putS]
     obtain ⟨u8,e8,hx8,hB8,hK8⟩:=store9 hbx hB5 (Nat.le_of_lt hbxlo) (.int .i64 c3) (.int .i64 n3) (.int .i64 k3) (.int .i64 p3) (.string s3) (.slice va vm vc) (.int .i64 tc3) (.int .i64 tn3) (.bool on3);obtain ⟨d0,d1,d2,d3,d4,d5,d6,d7,d8⟩:=box9 hbx;obtain ⟨dz0,dz1,dz2,dz3,dz4,dz5,dz6,dz7,dz8⟩:=wr9 hbx;have hX8:=hK8.block hX5 (by omega);have hy8:=hK8.block hby (by omega);have ho8:=own_type ho3 hbx (by decide) hK8;have hoy8:=own_type hoy3 hbx (by decide) hK8;refine wpAnyH_ready (rs:=[13]) (by kernel_rfl) (by simp) ?_;refine AllReadyH.cons rfl (fun K hK=>?_) AllReadyH.nil;go_simp
     try rw [e8]
     clear hHeld;refine hK.out _ _ ?hS200 (fun hHeld=>?rest200)
     case' hS200=>(have q:=box24 hX8;exact ⟨q.2.1,q.2.2.1,q.2.2.2.1,q.2.2.2.2.1,q.2.2.2.2.2.1,q.2.2.2.2.2.2.1,q.2.2.2.2.2.2.2.1,q.2.2.2.2.2.2.2.2.1,q.2.2.2.2.2.2.2.2.2.1,q.2.2.2.2.2.2.2.2.2.2.1,q.2.2.2.2.2.2.2.2.2.2.2.1,q.2.2.2.2.2.2.2.2.2.2.2.2.1,q.2.2.2.2.2.2.2.2.2.2.2.2.2.1,q.2.2.2.2.2.2.2.2.2.2.2.2.2.2.1,q.2.2.2.2.2.2.2.2.2.2.2.2.2.2.2.1,q.2.2.2.2.2.2.2.2.2.2.2.2.2.2.2.2.1,q.2.2.2.2.2.2.2.2.2.2.2.2.2.2.2.2.2.1,q.2.2.2.2.2.2.2.2.2.2.2.2.2.2.2.2.2.2.1⟩)
     clear hK K
     try simp only [putS]
     obtain ⟨u9,e9,hy9,hB9,hK9⟩:=store9 hy8 hB8 (Nat.le_of_lt hbylo) (.int .i64 c5) (.int .i64 n5) (.int .i64 k5) (.int .i64 p5) (.string s5) (.slice ya ym yc) (.int .i64 tc5) (.int .i64 tn5) (.bool on5);obtain ⟨g0,g1,g2,g3,g4,g5,g6,g7,g8⟩:=box9 hy8;obtain ⟨gz0,gz1,gz2,gz3,gz4,gz5,gz6,gz7,gz8⟩:=wr9 hy8;have hX9:=hK9.block hX8 (by omega);have hx9:=hK9.block hx8 (by omega);have ho9:=own_type ho8 hy8 (by decide) hK9;have hoy9:=own_type hoy8 hy8 (by decide) hK9;refine wpAnyH_ready (rs:=[14]) (by kernel_rfl) (by simp) ?_;refine AllReadyH.cons rfl (fun K hK=>?_) AllReadyH.nil;go_simp
     try rw [e9]
     clear hHeld;refine hK.out _ _ ?hS201 (fun hHeld=>?rest201)
     case' hS201=>(have q:=box24 hX9;exact ⟨q.2.1,q.2.2.1,q.2.2.2.1,q.2.2.2.2.1,q.2.2.2.2.2.1,q.2.2.2.2.2.2.1,q.2.2.2.2.2.2.2.1,q.2.2.2.2.2.2.2.2.1,q.2.2.2.2.2.2.2.2.2.1,q.2.2.2.2.2.2.2.2.2.2.1,q.2.2.2.2.2.2.2.2.2.2.2.1,q.2.2.2.2.2.2.2.2.2.2.2.2.1,q.2.2.2.2.2.2.2.2.2.2.2.2.2.1,q.2.2.2.2.2.2.2.2.2.2.2.2.2.2.1,q.2.2.2.2.2.2.2.2.2.2.2.2.2.2.2.1,q.2.2.2.2.2.2.2.2.2.2.2.2.2.2.2.2.1,q.2.2.2.2.2.2.2.2.2.2.2.2.2.2.2.2.2.1,q.2.2.2.2.2.2.2.2.2.2.2.2.2.2.2.2.2.2.1⟩)
     clear hK K
     try simp only [putS]
     refine tD 15 (some 13) ?_
     try simp only [putS]
     refine wpAnyH_done (by kernel_rfl) ?_ _
    case' b193_1 =>
     have hbxhbylt:hbyx<u3.heap.size:=(gA hby);go_simp;obtain ⟨u4,hv⟩:∃ V,u3.alloc (Obj.cells #[.int .i64 0,.int .i64 0,.int .i64 0,.int .i64 0,.string ⟨#[]⟩,.slice none 0 0,.int .i64 0,.int .i64 0,.bool false] 33)=V:=⟨_,rfl⟩;have hb:Below u3.heap.size u3 u4:=by rw [← hv];exact (bE _ _).alloc (lR _) _
     have hX4:=(hb.block _ alt3).trans hX3;have hB4:=hB3.trans (hb.mono hB3.size);have alt4:w.heap.size<u4.heap.size:=(gA hX4);have hby:=(hb.block _ (gA hby)).trans hby;have hr1:=hr1.below hb;have hr2:=hr2.below hb;have hbx:u4.heap[u3.heap.size]?=some (Obj.cells #[.int .i64 0,.int .i64 0,.int .i64 0,.int .i64 0,.string ⟨#[]⟩,.slice none 0 0,.int .i64 0,.int .i64 0,.bool false] 33):=by rw [← hv];exact heap_alloc_new _ _
     have hbxlo:w.heap.size<u3.heap.size:=alt3;rw [hv];generalize u3.heap.size=hbxx at *;clear hb hv;clear hHeld;refine hK.out _ _ ?hS203 (fun hHeld=>?rest203)
     case' hS203=>(have q:=box24 hX4;exact ⟨q.2.1,q.2.2.1,q.2.2.2.1,q.2.2.2.2.1,q.2.2.2.2.2.1,q.2.2.2.2.2.2.1,q.2.2.2.2.2.2.2.1,q.2.2.2.2.2.2.2.2.1,q.2.2.2.2.2.2.2.2.2.1,q.2.2.2.2.2.2.2.2.2.2.1,q.2.2.2.2.2.2.2.2.2.2.2.1,q.2.2.2.2.2.2.2.2.2.2.2.2.1,q.2.2.2.2.2.2.2.2.2.2.2.2.2.1,q.2.2.2.2.2.2.2.2.2.2.2.2.2.2.1,q.2.2.2.2.2.2.2.2.2.2.2.2.2.2.2.1,q.2.2.2.2.2.2.2.2.2.2.2.2.2.2.2.2.1,q.2.2.2.2.2.2.2.2.2.2.2.2.2.2.2.2.2.1,q.2.2.2.2.2.2.2.2.2.2.2.2.2.2.2.2.2.2.1⟩)
     clear hK K
     try simp only [putS]
     refine wpAnyH_ready (rs:=[6]) (by kernel_rfl) (by simp) ?_;refine AllReadyH.cons rfl (fun K hK=>?_) AllReadyH.nil;go_simp;refine (HI.out _ _ _ _ _ hB4 hr1 hr2).mono ?_;rintro e2 u5 ⟨va,vm,vc,ya,ym,yc,rfl,ho3,hoy3,hb⟩;have hX5:=(hb.block _ alt4).trans hX4;have hB5:=hB4.trans (hb.mono hB4.size);have alt5:w.heap.size<u5.heap.size:=(gA hX5);have hby:=(hb.block _ (gA hby)).trans hby;have hbx:=(hb.block _ (gA hbx)).trans hbx;have hr1:=hr1.below hb;have hr2:=hr2.below hb;clear hb;clear hHeld;refine hK.out _ _ ?hS204 (fun hHeld=>?rest204)
     case' hS204=>(have q:=box24 hX5;exact ⟨q.2.1,q.2.2.1,q.2.2.2.1,q.2.2.2.2.1,q.2.2.2.2.2.1,q.2.2.2.2.2.2.1,q.2.2.2.2.2.2.2.1,q.2.2.2.2.2.2.2.2.1,q.2.2.2.2.2.2.2.2.2.1,q.2.2.2.2.2.2.2.2.2.2.1,q.2.2.2.2.2.2.2.2.2.2.2.1,q.2.2.2.2.2.2.2.2.2.2.2.2.1,q.2.2.2.2.2.2.2.2.2.2.2.2.2.1,q.2.2.2.2.2.2.2.2.2.2.2.2.2.2.1,q.2.2.2.2.2.2.2.2.2.2.2.2.2.2.2.1,q.2.2.2.2.2.2.2.2.2.2.2.2.2.2.2.2.1,q.2.2.2.2.2.2.2.2.2.2.2.2.2.2.2.2.2.1,q.2.2.2.2.2.2.2.2.2.2.2.2.2.2.2.2.2.2.1⟩)
     clear hK K
     try simp only [putS]
     refine tD 7 (some 79) ?_
     try simp only [putS]
     refine tD 8 (some 87) ?_
     try simp only [putS]
     refine tD 9 (some 88) ?_
     try simp only [putS]
     refine tD 10 (some 89) ?_
     try simp only [putS]
     obtain ⟨u8,e8,hx8,hB8,hK8⟩:=store9 hbx hB5 (Nat.le_of_lt hbxlo) (.int .i64 c3) (.int .i64 n3) (.int .i64 k3) (.int .i64 p3) (.string s3) (.slice va vm vc) (.int .i64 tc3) (.int .i64 tn3) (.bool on3);obtain ⟨d0,d1,d2,d3,d4,d5,d6,d7,d8⟩:=box9 hbx;obtain ⟨dz0,dz1,dz2,dz3,dz4,dz5,dz6,dz7,dz8⟩:=wr9 hbx;have hX8:=hK8.block hX5 (by omega);have hy8:=hK8.block hby (by omega);have ho8:=own_type ho3 hbx (by decide) hK8;have hoy8:=own_type hoy3 hbx (by decide) hK8;refine wpAnyH_ready (rs:=[13]) (by kernel_rfl) (by simp) ?_;refine AllReadyH.cons rfl (fun K hK=>?_) AllReadyH.nil;go_simp
     try rw [e8]
     clear hHeld;refine hK.out _ _ ?hS209 (fun hHeld=>?rest209)
     case' hS209=>(have q:=box24 hX8;exact ⟨q.2.1,q.2.2.1,q.2.2.2.1,q.2.2.2.2.1,q.2.2.2.2.2.1,q.2.2.2.2.2.2.1,q.2.2.2.2.2.2.2.1,q.2.2.2.2.2.2.2.2.1,q.2.2.2.2.2.2.2.2.2.1,q.2.2.2.2.2.2.2.2.2.2.1,q.2.2.2.2.2.2.2.2.2.2.2.1,q.2.2.2.2.2.2.2.2.2.2.2.2.1,q.2.2.2.2.2.2.2.2.2.2.2.2.2.1,q.2.2.2.2.2.2.2.2.2.2.2.2.2.2.1,q.2.2.2.2.2.2.2.2.2.2.2.2.2.2.2.1,q.2.2.2.2.2.2.2.2.2.2.2.2.2.2.2.2.1,q.2.2.2.2.2.2.2.2.2.2.2.2.2.2.2.2.2.1,q.2.2.2.2.2.2.2.2.2.2.2.2.2.2.2.2.2.2.1⟩)
     clear hK K
     try simp only [putS]
     obtain ⟨u9,e9,hy9,hB9,hK9⟩:=store9 hy8 hB8 (Nat.le_of_lt hbylo) (.int .i64 c5) (.int .i64 n5) (.int .i64 k5) (.int .i64 p5) (.string s5) (.slice ya ym yc) (.int .i64 tc5) (.int .i64 tn5) (.bool on5);obtain ⟨g0,g1,g2,g3,g4,g5,g6,g7,g8⟩:=box9 hy8;obtain ⟨gz0,gz1,gz2,gz3,gz4,gz5,gz6,gz7,gz8⟩:=wr9 hy8;have hX9:=hK9.block hX8 (by omega);have hx9:=hK9.block hx8 (by omega);have ho9:=own_type ho8 hy8 (by decide) hK9;have hoy9:=own_type hoy8 hy8 (by decide) hK9;refine wpAnyH_ready (rs:=[14]) (by kernel_rfl) (by simp) ?_;refine AllReadyH.cons rfl (fun K hK=>?_) AllReadyH.nil;go_simp
     try rw [e9]
     clear hHeld;refine hK.out _ _ ?hS210 (fun hHeld=>?rest210)
     case' hS210=>(have q:=box24 hX9;exact ⟨q.2.1,q.2.2.1,q.2.2.2.1,q.2.2.2.2.1,q.2.2.2.2.2.1,q.2.2.2.2.2.2.1,q.2.2.2.2.2.2.2.1,q.2.2.2.2.2.2.2.2.1,q.2.2.2.2.2.2.2.2.2.1,q.2.2.2.2.2.2.2.2.2.2.1,q.2.2.2.2.2.2.2.2.2.2.2.1,q.2.2.2.2.2.2.2.2.2.2.2.2.1,q.2.2.2.2.2.2.2.2.2.2.2.2.2.1,q.2.2.2.2.2.2.2.2.2.2.2.2.2.2.1,q.2.2.2.2.2.2.2.2.2.2.2.2.2.2.2.1,q.2.2.2.2.2.2.2.2.2.2.2.2.2.2.2.2.1,q.2.2.2.2.2.2.2.2.2.2.2.2.2.2.2.2.2.1,q.2.2.2.2.2.2.2.2.2.2.2.2.2.2.2.2.2.2.1⟩)
     clear hK K
     try simp only [putS]
     refine tD 15 (some 13) ?_
     try simp only [putS]
     refine wpAnyH_done (by kernel_rfl) ?_ _
   case' b191_1 =>
    have hbxhbylt:hbyx<u2.heap.size:=(gA hby);go_simp;obtain ⟨u3,hv⟩:∃ V,u2.alloc (Obj.cells #[.int .i64 0,.int .i64 0,.int .i64 0,.int .i64 0,.string ⟨#[]⟩,.slice none 0 0,.int .i64 0,.int .i64 0,.bool false] 33)=V:=⟨_,rfl⟩;have hb:Below u2.heap.size u2 u3:=by rw [← hv];exact (bE _ _).alloc (lR _) _
    have hX3:=(hb.block _ alt2).trans hX2;have hB3:=hB2.trans (hb.mono hB2.size);have alt3:w.heap.size<u3.heap.size:=(gA hX3);have hby:=(hb.block _ (gA hby)).trans hby;have hr1:=hr1.below hb;have hbx:u3.heap[u2.heap.size]?=some (Obj.cells #[.int .i64 0,.int .i64 0,.int .i64 0,.int .i64 0,.string ⟨#[]⟩,.slice none 0 0,.int .i64 0,.int .i64 0,.bool false] 33):=by rw [← hv];exact heap_alloc_new _ _
    have hbxlo:w.heap.size<u2.heap.size:=alt2;rw [hv];generalize u2.heap.size=hbxx at *;clear hb hv;clear hHeld;refine hK.out _ _ ?hS212 (fun hHeld=>?rest212)
    case' hS212=>(have q:=box24 hX3;exact ⟨q.2.1,q.2.2.1,q.2.2.2.1,q.2.2.2.2.1,q.2.2.2.2.2.1,q.2.2.2.2.2.2.1,q.2.2.2.2.2.2.2.1,q.2.2.2.2.2.2.2.2.1,q.2.2.2.2.2.2.2.2.2.1,q.2.2.2.2.2.2.2.2.2.2.1,q.2.2.2.2.2.2.2.2.2.2.2.1,q.2.2.2.2.2.2.2.2.2.2.2.2.1,q.2.2.2.2.2.2.2.2.2.2.2.2.2.1,q.2.2.2.2.2.2.2.2.2.2.2.2.2.2.1,q.2.2.2.2.2.2.2.2.2.2.2.2.2.2.2.1,q.2.2.2.2.2.2.2.2.2.2.2.2.2.2.2.2.1,q.2.2.2.2.2.2.2.2.2.2.2.2.2.2.2.2.2.1,q.2.2.2.2.2.2.2.2.2.2.2.2.2.2.2.2.2.2.1⟩)
    clear hK K
    try simp only [putS]
    refine wpAnyH_ready (rs:=[5]) (by kernel_rfl) (by simp) ?_;refine AllReadyH.cons rfl (fun K hK=>?_) AllReadyH.nil;go_simp;refine (HC2.out _ hB3).mono ?_;rintro e2 u4 ⟨y2,z2,rfl,ho2,hb⟩;have hX4:=(hb.block _ alt3).trans hX3;have hB4:=hB3.trans (hb.mono hB3.size);have alt4:w.heap.size<u4.heap.size:=(gA hX4);have hby:=(hb.block _ (gA hby)).trans hby;have hbx:=(hb.block _ (gA hbx)).trans hbx;have hr1:=hr1.below hb;have hr2:Rw rangeV 2 u4 y2 m2 z2 l2:=ho2.rw_ layG;clear ho2;clear hb;clear hHeld;refine hK.out _ _ ?hS213 (fun hHeld=>?rest213)
    case' hS213=>(have q:=box24 hX4;exact ⟨q.2.1,q.2.2.1,q.2.2.2.1,q.2.2.2.2.1,q.2.2.2.2.2.1,q.2.2.2.2.2.2.1,q.2.2.2.2.2.2.2.1,q.2.2.2.2.2.2.2.2.1,q.2.2.2.2.2.2.2.2.2.1,q.2.2.2.2.2.2.2.2.2.2.1,q.2.2.2.2.2.2.2.2.2.2.2.1,q.2.2.2.2.2.2.2.2.2.2.2.2.1,q.2.2.2.2.2.2.2.2.2.2.2.2.2.1,q.2.2.2.2.2.2.2.2.2.2.2.2.2.2.1,q.2.2.2.2.2.2.2.2.2.2.2.2.2.2.2.1,q.2.2.2.2.2.2.2.2.2.2.2.2.2.2.2.2.1,q.2.2.2.2.2.2.2.2.2.2.2.2.2.2.2.2.2.1,q.2.2.2.2.2.2.2.2.2.2.2.2.2.2.2.2.2.2.1⟩)
    clear hK K
    try simp only [putS]
    refine wpAnyH_ready (rs:=[6]) (by kernel_rfl) (by simp) ?_;refine AllReadyH.cons rfl (fun K hK=>?_) AllReadyH.nil;go_simp;refine (HI.out _ _ _ _ _ hB4 hr1 hr2).mono ?_;rintro e2 u5 ⟨va,vm,vc,ya,ym,yc,rfl,ho3,hoy3,hb⟩;have hX5:=(hb.block _ alt4).trans hX4;have hB5:=hB4.trans (hb.mono hB4.size);have alt5:w.heap.size<u5.heap.size:=(gA hX5);have hby:=(hb.block _ (gA hby)).trans hby;have hbx:=(hb.block _ (gA hbx)).trans hbx;have hr1:=hr1.below hb;have hr2:=hr2.below hb;clear hb;clear hHeld;refine hK.out _ _ ?hS214 (fun hHeld=>?rest214)
    case' hS214=>(have q:=box24 hX5;exact ⟨q.2.1,q.2.2.1,q.2.2.2.1,q.2.2.2.2.1,q.2.2.2.2.2.1,q.2.2.2.2.2.2.1,q.2.2.2.2.2.2.2.1,q.2.2.2.2.2.2.2.2.1,q.2.2.2.2.2.2.2.2.2.1,q.2.2.2.2.2.2.2.2.2.2.1,q.2.2.2.2.2.2.2.2.2.2.2.1,q.2.2.2.2.2.2.2.2.2.2.2.2.1,q.2.2.2.2.2.2.2.2.2.2.2.2.2.1,q.2.2.2.2.2.2.2.2.2.2.2.2.2.2.1,q.2.2.2.2.2.2.2.2.2.2.2.2.2.2.2.1,q.2.2.2.2.2.2.2.2.2.2.2.2.2.2.2.2.1,q.2.2.2.2.2.2.2.2.2.2.2.2.2.2.2.2.2.1,q.2.2.2.2.2.2.2.2.2.2.2.2.2.2.2.2.2.2.1⟩)
    clear hK K
    try simp only [putS]
    refine tD 7 (some 79) ?_
    try simp only [putS]
    refine tD 8 (some 87) ?_
    try simp only [putS]
    refine tD 9 (some 88) ?_
    try simp only [putS]
    refine tD 10 (some 89) ?_
    try simp only [putS]
    obtain ⟨u8,e8,hx8,hB8,hK8⟩:=store9 hbx hB5 (Nat.le_of_lt hbxlo) (.int .i64 c3) (.int .i64 n3) (.int .i64 k3) (.int .i64 p3) (.string s3) (.slice va vm vc) (.int .i64 tc3) (.int .i64 tn3) (.bool on3);obtain ⟨d0,d1,d2,d3,d4,d5,d6,d7,d8⟩:=box9 hbx;obtain ⟨dz0,dz1,dz2,dz3,dz4,dz5,dz6,dz7,dz8⟩:=wr9 hbx;have hX8:=hK8.block hX5 (by omega);have hy8:=hK8.block hby (by omega);have ho8:=own_type ho3 hbx (by decide) hK8;have hoy8:=own_type hoy3 hbx (by decide) hK8;refine wpAnyH_ready (rs:=[13]) (by kernel_rfl) (by simp) ?_;refine AllReadyH.cons rfl (fun K hK=>?_) AllReadyH.nil;go_simp
    try rw [e8]
    clear hHeld;refine hK.out _ _ ?hS219 (fun hHeld=>?rest219)
    case' hS219=>(have q:=box24 hX8;exact ⟨q.2.1,q.2.2.1,q.2.2.2.1,q.2.2.2.2.1,q.2.2.2.2.2.1,q.2.2.2.2.2.2.1,q.2.2.2.2.2.2.2.1,q.2.2.2.2.2.2.2.2.1,q.2.2.2.2.2.2.2.2.2.1,q.2.2.2.2.2.2.2.2.2.2.1,q.2.2.2.2.2.2.2.2.2.2.2.1,q.2.2.2.2.2.2.2.2.2.2.2.2.1,q.2.2.2.2.2.2.2.2.2.2.2.2.2.1,q.2.2.2.2.2.2.2.2.2.2.2.2.2.2.1,q.2.2.2.2.2.2.2.2.2.2.2.2.2.2.2.1,q.2.2.2.2.2.2.2.2.2.2.2.2.2.2.2.2.1,q.2.2.2.2.2.2.2.2.2.2.2.2.2.2.2.2.2.1,q.2.2.2.2.2.2.2.2.2.2.2.2.2.2.2.2.2.2.1⟩)
    clear hK K
    try simp only [putS]
    obtain ⟨u9,e9,hy9,hB9,hK9⟩:=store9 hy8 hB8 (Nat.le_of_lt hbylo) (.int .i64 c5) (.int .i64 n5) (.int .i64 k5) (.int .i64 p5) (.string s5) (.slice ya ym yc) (.int .i64 tc5) (.int .i64 tn5) (.bool on5);obtain ⟨g0,g1,g2,g3,g4,g5,g6,g7,g8⟩:=box9 hy8;obtain ⟨gz0,gz1,gz2,gz3,gz4,gz5,gz6,gz7,gz8⟩:=wr9 hy8;have hX9:=hK9.block hX8 (by omega);have hx9:=hK9.block hx8 (by omega);have ho9:=own_type ho8 hy8 (by decide) hK9;have hoy9:=own_type hoy8 hy8 (by decide) hK9;refine wpAnyH_ready (rs:=[14]) (by kernel_rfl) (by simp) ?_;refine AllReadyH.cons rfl (fun K hK=>?_) AllReadyH.nil;go_simp
    try rw [e9]
    clear hHeld;refine hK.out _ _ ?hS220 (fun hHeld=>?rest220)
    case' hS220=>(have q:=box24 hX9;exact ⟨q.2.1,q.2.2.1,q.2.2.2.1,q.2.2.2.2.1,q.2.2.2.2.2.1,q.2.2.2.2.2.2.1,q.2.2.2.2.2.2.2.1,q.2.2.2.2.2.2.2.2.1,q.2.2.2.2.2.2.2.2.2.1,q.2.2.2.2.2.2.2.2.2.2.1,q.2.2.2.2.2.2.2.2.2.2.2.1,q.2.2.2.2.2.2.2.2.2.2.2.2.1,q.2.2.2.2.2.2.2.2.2.2.2.2.2.1,q.2.2.2.2.2.2.2.2.2.2.2.2.2.2.1,q.2.2.2.2.2.2.2.2.2.2.2.2.2.2.2.1,q.2.2.2.2.2.2.2.2.2.2.2.2.2.2.2.2.1,q.2.2.2.2.2.2.2.2.2.2.2.2.2.2.2.2.2.1,q.2.2.2.2.2.2.2.2.2.2.2.2.2.2.2.2.2.2.1⟩)
    clear hK K
    try simp only [putS]
    refine tD 15 (some 13) ?_
    try simp only [putS]
    refine wpAnyH_done (by kernel_rfl) ?_ _
  case' b189_1 =>
   have hbxhbylt:hbyx<u1.heap.size:=(gA hby);go_simp;obtain ⟨u2,hv⟩:∃ V,u1.alloc (Obj.cells #[.int .i64 0,.int .i64 0,.int .i64 0,.int .i64 0,.string ⟨#[]⟩,.slice none 0 0,.int .i64 0,.int .i64 0,.bool false] 33)=V:=⟨_,rfl⟩;have hb:Below u1.heap.size u1 u2:=by rw [← hv];exact (bE _ _).alloc (lR _) _
   have hX2:=(hb.block _ alt1).trans hX1;have hB2:=hB1.trans (hb.mono hB1.size);have alt2:w.heap.size<u2.heap.size:=(gA hX2);have hby:=(hb.block _ (gA hby)).trans hby;have hbx:u2.heap[u1.heap.size]?=some (Obj.cells #[.int .i64 0,.int .i64 0,.int .i64 0,.int .i64 0,.string ⟨#[]⟩,.slice none 0 0,.int .i64 0,.int .i64 0,.bool false] 33):=by rw [← hv];exact heap_alloc_new _ _
   have hbxlo:w.heap.size<u1.heap.size:=alt1;rw [hv];generalize u1.heap.size=hbxx at *;clear hb hv;clear hHeld;refine hK.out _ _ ?hS222 (fun hHeld=>?rest222)
   case' hS222=>(have q:=box24 hX2;exact ⟨q.2.1,q.2.2.1,q.2.2.2.1,q.2.2.2.2.1,q.2.2.2.2.2.1,q.2.2.2.2.2.2.1,q.2.2.2.2.2.2.2.1,q.2.2.2.2.2.2.2.2.1,q.2.2.2.2.2.2.2.2.2.1,q.2.2.2.2.2.2.2.2.2.2.1,q.2.2.2.2.2.2.2.2.2.2.2.1,q.2.2.2.2.2.2.2.2.2.2.2.2.1,q.2.2.2.2.2.2.2.2.2.2.2.2.2.1,q.2.2.2.2.2.2.2.2.2.2.2.2.2.2.1,q.2.2.2.2.2.2.2.2.2.2.2.2.2.2.2.1,q.2.2.2.2.2.2.2.2.2.2.2.2.2.2.2.2.1,q.2.2.2.2.2.2.2.2.2.2.2.2.2.2.2.2.2.1,q.2.2.2.2.2.2.2.2.2.2.2.2.2.2.2.2.2.2.1⟩)
   clear hK K
   try simp only [putS]
   refine wpAnyH_ready (rs:=[2]) (by kernel_rfl) (by simp) ?_;refine AllReadyH.cons rfl (fun K hK=>?_) AllReadyH.nil;go_simp;refine (HC1.out _ hB2).mono ?_;rintro e2 u3 ⟨y1,z1,rfl,ho1,hb⟩;have hX3:=(hb.block _ alt2).trans hX2;have hB3:=hB2.trans (hb.mono hB2.size);have alt3:w.heap.size<u3.heap.size:=(gA hX3);have hby:=(hb.block _ (gA hby)).trans hby;have hbx:=(hb.block _ (gA hbx)).trans hbx;have hr1:Rw rangeV 2 u3 y1 m1 z1 l1:=ho1.rw_ layG;clear ho1;clear hb;clear hHeld;refine hK.out _ _ ?hS223 (fun hHeld=>?rest223)
   case' hS223=>(have q:=box24 hX3;exact ⟨q.2.1,q.2.2.1,q.2.2.2.1,q.2.2.2.2.1,q.2.2.2.2.2.1,q.2.2.2.2.2.2.1,q.2.2.2.2.2.2.2.1,q.2.2.2.2.2.2.2.2.1,q.2.2.2.2.2.2.2.2.2.1,q.2.2.2.2.2.2.2.2.2.2.1,q.2.2.2.2.2.2.2.2.2.2.2.1,q.2.2.2.2.2.2.2.2.2.2.2.2.1,q.2.2.2.2.2.2.2.2.2.2.2.2.2.1,q.2.2.2.2.2.2.2.2.2.2.2.2.2.2.1,q.2.2.2.2.2.2.2.2.2.2.2.2.2.2.2.1,q.2.2.2.2.2.2.2.2.2.2.2.2.2.2.2.2.1,q.2.2.2.2.2.2.2.2.2.2.2.2.2.2.2.2.2.1,q.2.2.2.2.2.2.2.2.2.2.2.2.2.2.2.2.2.2.1⟩)
   clear hK K
   try simp only [putS]
   refine wpAnyH_ready (rs:=[5]) (by kernel_rfl) (by simp) ?_;refine AllReadyH.cons rfl (fun K hK=>?_) AllReadyH.nil;go_simp;refine (HC2.out _ hB3).mono ?_;rintro e2 u4 ⟨y2,z2,rfl,ho2,hb⟩;have hX4:=(hb.block _ alt3).trans hX3;have hB4:=hB3.trans (hb.mono hB3.size);have alt4:w.heap.size<u4.heap.size:=(gA hX4);have hby:=(hb.block _ (gA hby)).trans hby;have hbx:=(hb.block _ (gA hbx)).trans hbx;have hr1:=hr1.below hb;have hr2:Rw rangeV 2 u4 y2 m2 z2 l2:=ho2.rw_ layG;clear ho2;clear hb;clear hHeld;refine hK.out _ _ ?hS224 (fun hHeld=>?rest224)
   case' hS224=>(have q:=box24 hX4;exact ⟨q.2.1,q.2.2.1,q.2.2.2.1,q.2.2.2.2.1,q.2.2.2.2.2.1,q.2.2.2.2.2.2.1,q.2.2.2.2.2.2.2.1,q.2.2.2.2.2.2.2.2.1,q.2.2.2.2.2.2.2.2.2.1,q.2.2.2.2.2.2.2.2.2.2.1,q.2.2.2.2.2.2.2.2.2.2.2.1,q.2.2.2.2.2.2.2.2.2.2.2.2.1,q.2.2.2.2.2.2.2.2.2.2.2.2.2.1,q.2.2.2.2.2.2.2.2.2.2.2.2.2.2.1,q.2.2.2.2.2.2.2.2.2.2.2.2.2.2.2.1,q.2.2.2.2.2.2.2.2.2.2.2.2.2.2.2.2.1,q.2.2.2.2.2.2.2.2.2.2.2.2.2.2.2.2.2.1,q.2.2.2.2.2.2.2.2.2.2.2.2.2.2.2.2.2.2.1⟩)
   clear hK K
   try simp only [putS]
   refine wpAnyH_ready (rs:=[6]) (by kernel_rfl) (by simp) ?_;refine AllReadyH.cons rfl (fun K hK=>?_) AllReadyH.nil;go_simp;refine (HI.out _ _ _ _ _ hB4 hr1 hr2).mono ?_;rintro e2 u5 ⟨va,vm,vc,ya,ym,yc,rfl,ho3,hoy3,hb⟩;have hX5:=(hb.block _ alt4).trans hX4;have hB5:=hB4.trans (hb.mono hB4.size);have alt5:w.heap.size<u5.heap.size:=(gA hX5);have hby:=(hb.block _ (gA hby)).trans hby;have hbx:=(hb.block _ (gA hbx)).trans hbx;have hr1:=hr1.below hb;have hr2:=hr2.below hb;clear hb;clear hHeld;refine hK.out _ _ ?hS225 (fun hHeld=>?rest225)
   case' hS225=>(have q:=box24 hX5;exact ⟨q.2.1,q.2.2.1,q.2.2.2.1,q.2.2.2.2.1,q.2.2.2.2.2.1,q.2.2.2.2.2.2.1,q.2.2.2.2.2.2.2.1,q.2.2.2.2.2.2.2.2.1,q.2.2.2.2.2.2.2.2.2.1,q.2.2.2.2.2.2.2.2.2.2.1,q.2.2.2.2.2.2.2.2.2.2.2.1,q.2.2.2.2.2.2.2.2.2.2.2.2.1,q.2.2.2.2.2.2.2.2.2.2.2.2.2.1,q.2.2.2.2.2.2.2.2.2.2.2.2.2.2.1,q.2.2.2.2.2.2.2.2.2.2.2.2.2.2.2.1,q.2.2.2.2.2.2.2.2.2.2.2.2.2.2.2.2.1,q.2.2.2.2.2.2.2.2.2.2.2.2.2.2.2.2.2.1,q.2.2.2.2.2.2.2.2.2.2.2.2.2.2.2.2.2.2.1⟩)
   clear hK K
   try simp only [putS]
   refine tD 7 (some 79) ?_
   try simp only [putS]
   refine tD 8 (some 87) ?_
   try simp only [putS]
   refine tD 9 (some 88) ?_
   try simp only [putS]
   refine tD 10 (some 89) ?_
   try simp only [putS]
   obtain ⟨u8,e8,hx8,hB8,hK8⟩:=store9 hbx hB5 (Nat.le_of_lt hbxlo) (.int .i64 c3) (.int .i64 n3) (.int .i64 k3) (.int .i64 p3) (.string s3) (.slice va vm vc) (.int .i64 tc3) (.int .i64 tn3) (.bool on3);obtain ⟨d0,d1,d2,d3,d4,d5,d6,d7,d8⟩:=box9 hbx;obtain ⟨dz0,dz1,dz2,dz3,dz4,dz5,dz6,dz7,dz8⟩:=wr9 hbx;have hX8:=hK8.block hX5 (by omega);have hy8:=hK8.block hby (by omega);have ho8:=own_type ho3 hbx (by decide) hK8;have hoy8:=own_type hoy3 hbx (by decide) hK8;refine wpAnyH_ready (rs:=[13]) (by kernel_rfl) (by simp) ?_;refine AllReadyH.cons rfl (fun K hK=>?_) AllReadyH.nil;go_simp
   try rw [e8]
   clear hHeld;refine hK.out _ _ ?hS230 (fun hHeld=>?rest230)
   case' hS230=>(have q:=box24 hX8;exact ⟨q.2.1,q.2.2.1,q.2.2.2.1,q.2.2.2.2.1,q.2.2.2.2.2.1,q.2.2.2.2.2.2.1,q.2.2.2.2.2.2.2.1,q.2.2.2.2.2.2.2.2.1,q.2.2.2.2.2.2.2.2.2.1,q.2.2.2.2.2.2.2.2.2.2.1,q.2.2.2.2.2.2.2.2.2.2.2.1,q.2.2.2.2.2.2.2.2.2.2.2.2.1,q.2.2.2.2.2.2.2.2.2.2.2.2.2.1,q.2.2.2.2.2.2.2.2.2.2.2.2.2.2.1,q.2.2.2.2.2.2.2.2.2.2.2.2.2.2.2.1,q.2.2.2.2.2.2.2.2.2.2.2.2.2.2.2.2.1,q.2.2.2.2.2.2.2.2.2.2.2.2.2.2.2.2.2.1,q.2.2.2.2.2.2.2.2.2.2.2.2.2.2.2.2.2.2.1⟩)
   clear hK K
   try simp only [putS]
   obtain ⟨u9,e9,hy9,hB9,hK9⟩:=store9 hy8 hB8 (Nat.le_of_lt hbylo) (.int .i64 c5) (.int .i64 n5) (.int .i64 k5) (.int .i64 p5) (.string s5) (.slice ya ym yc) (.int .i64 tc5) (.int .i64 tn5) (.bool on5);obtain ⟨g0,g1,g2,g3,g4,g5,g6,g7,g8⟩:=box9 hy8;obtain ⟨gz0,gz1,gz2,gz3,gz4,gz5,gz6,gz7,gz8⟩:=wr9 hy8;have hX9:=hK9.block hX8 (by omega);have hx9:=hK9.block hx8 (by omega);have ho9:=own_type ho8 hy8 (by decide) hK9;have hoy9:=own_type hoy8 hy8 (by decide) hK9;refine wpAnyH_ready (rs:=[14]) (by kernel_rfl) (by simp) ?_;refine AllReadyH.cons rfl (fun K hK=>?_) AllReadyH.nil;go_simp
   try rw [e9]
   clear hHeld;refine hK.out _ _ ?hS231 (fun hHeld=>?rest231)
   case' hS231=>(have q:=box24 hX9;exact ⟨q.2.1,q.2.2.1,q.2.2.2.1,q.2.2.2.2.1,q.2.2.2.2.2.1,q.2.2.2.2.2.2.1,q.2.2.2.2.2.2.2.1,q.2.2.2.2.2.2.2.2.1,q.2.2.2.2.2.2.2.2.2.1,q.2.2.2.2.2.2.2.2.2.2.1,q.2.2.2.2.2.2.2.2.2.2.2.1,q.2.2.2.2.2.2.2.2.2.2.2.2.1,q.2.2.2.2.2.2.2.2.2.2.2.2.2.1,q.2.2.2.2.2.2.2.2.2.2.2.2.2.2.1,q.2.2.2.2.2.2.2.2.2.2.2.2.2.2.2.1,q.2.2.2.2.2.2.2.2.2.2.2.2.2.2.2.2.1,q.2.2.2.2.2.2.2.2.2.2.2.2.2.2.2.2.2.1,q.2.2.2.2.2.2.2.2.2.2.2.2.2.2.2.2.2.2.1⟩)
   clear hK K
   try simp only [putS]
   refine tD 15 (some 13) ?_
   try simp only [putS]
   refine wpAnyH_done (by kernel_rfl) ?_ _
 all_goals
  (try clear hr1)
  (try clear hr2)
  have HO9:Hid (OwnF rangeV 2 94 u9 _ (.slice va vm vc) l3∧OwnF rangeV 2 94 u9 _ (.slice ya ym yc) l5):=⟨ho9,hoy9⟩;clear hHeld ho9 ho8 ho3 hoy9 hoy8 hoy3 HC1 HC2 HI d0 d1 d2 d3 d4 d5 d6 d7 d8 dz0 dz1 dz2 dz3 dz4 dz5 dz6 dz7 dz8 g0 g1 g2 g3 g4 g5 g6 g7 g8 gz0 gz1 gz2 gz3 gz4 gz5 gz6 gz7 gz8 ax0 ax1 ax2 ax3 ax4 ax5 ax6 ax7 ax8 ax9 ax10 ax11 ax12 ax13 ax14 ax15 ax16 ax17 ax18 ax19 ax20 ax21 ax22 ax23;obtain ⟨bx0,bx1,bx2,bx3,bx4,bx5,bx6,bx7,bx8,bx9,bx10,bx11,bx12,bx13,bx14,bx15,bx16,bx17,bx18,bx19,bx20,bx21,bx22,bx23⟩:=box24 hX9;obtain ⟨r0,r1,r2,r3,r4,r5,r6,r7,r8⟩:=box9 hx9;obtain ⟨t0,t1,t2,t3,t4,t5,t6,t7,t8⟩:=box9 hy9;go_wp2_with fail;refine (HG.out _ hB9).mono ?_;rintro e2 v4 ⟨fa,fm,fc,ha,hm,hc,rfl,ho4,hoy4,hb4⟩;have hx4:=(hb4.block _ (gA hx9)).trans hx9;have hy4:=(hb4.block _ (gA hy9)).trans hy9;have hB4:=hB9.trans (hb4.mono hB9.size);have ho9:=HO9.out.1.below hb4;have hoy9:=HO9.out.2.below hb4;clear HG HO9 hX9 hx9 hy9 hB9 hb4 bx0 bx1 bx2 bx3 bx4 bx5 bx6 bx7 bx8 bx9 bx10 bx11 bx12 bx13 bx14 bx15 bx16 bx17 bx18 bx19 bx20 bx21 bx22 bx23 r0 r1 r2 r3 r4 r5 r6 r7 r8 t0 t1 t2 t3 t4 t5 t6 t7 t8;obtain ⟨v6,hv6⟩:∃ V,(v4.alloc (Obj.cells #[.int .i64 c3,.int .i64 n3,.int .i64 k3,.int .i64 p3,.string s3,.slice fa fm fc,.int .i64 tc3,.int .i64 tn3,.bool on3] 33)).alloc (Obj.cells #[.int .i64 c5,.int .i64 n5,.int .i64 k5,.int .i64 p5,.string s5,.slice ha hm hc,.int .i64 tc5,.int .i64 tn5,.bool on5] 33)=V:=⟨_,rfl⟩;have hb6:Below v4.heap.size v4 v6:=by rw [← hv6];exact ((bE _ _).alloc (lR _) _).alloc (by simp) _
  have hf6:v6.heap[v4.heap.size]?=some (Obj.cells #[.int .i64 c3,.int .i64 n3,.int .i64 k3,.int .i64 p3,.string s3,.slice fa fm fc,.int .i64 tc3,.int .i64 tn3,.bool on3] 33):=by rw [← hv6];exact (Below.heap_alloc _ _ _ (by simp)).trans (heap_alloc_new _ _)
  have hh6:v6.heap[v4.heap.size+1]?=some (Obj.cells #[.int .i64 c5,.int .i64 n5,.int .i64 k5,.int .i64 p5,.string s5,.slice ha hm hc,.int .i64 tc5,.int .i64 tn5,.bool on5] 33):=by rw [← hv6];exact alloc_last _ _ _ (by simp)
  have hx6:=(hb6.block _ (gA hx4)).trans hx4;have hy6:=(hb6.block _ (gA hy4)).trans hy4;have hB6:=hB4.trans (hb6.mono hB4.size);have HTW:=two_self (o:=⟨c3,n3,k3,p3,s3,l3,tc3,tn3,on3⟩) (x:=⟨c5,n5,k5,p5,s5,l5,tc5,tn5,on5⟩) (z:=z3) (rng_of_rw ((ho9.below hb6).rw_ layG)) (rng_of_rw ((hoy9.below hb6).rw_ layG)) (rng_of_rw ((ho4.below hb6).rw_ layG)) (rng_of_rw ((hoy4.below hb6).rw_ layG));simp only [opVal] at HTW;obtain ⟨r0,r1,r2,r3,r4,r5,r6,r7,r8⟩:=box9 hx6;obtain ⟨t0,t1,t2,t3,t4,t5,t6,t7,t8⟩:=box9 hy6;obtain ⟨f0,f1,f2,f3,f4,f5,f6,f7,f8⟩:=box9 hf6;obtain ⟨h0,h1,h2,h3,h4,h5,h6,h7,h8⟩:=box9 hh6;clear ho9 ho4 hoy9 hoy4 hx4 hy4 hB4 hb6;go_wp2_with fail;refine HTW.mono ?_;rintro e2 v7 ⟨rfl,hb7⟩;have hB7:=hB6.trans (hb7.mono hB6.size);clear HTW r0 r1 r2 r3 r4 r5 r6 r7 r8 t0 t1 t2 t3 t4 t5 t6 t7 t8 f0 f1 f2 f3 f4 f5 f6 f7 f8 h0 h1 h2 h3 h4 h5 h6 h7 h8 hb7;go_wp2_with fail;go_ret;exact ⟨rfl,hB7⟩
end Go.Proofs.YtmeciikfnbbllaaGreatDoor
