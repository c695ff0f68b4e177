import Derived.Test.YtmeciikfnbbllaaGreatDoorAl
import Derived.Test.YtmeciikfnbbllaaGreatDoorGr67
import Derived.Test.YtmeciikfnbbllaaGreatDoorXhJ
set_option maxHeartbeats 32000000
set_option maxRecDepth 100000
namespace Go.Proofs.YtmeciikfnbbllaaGreatDoor
open Go.RowKit Go.Lib
theorem plays_2 {x:XOp} {w:World} (hx:XOk w x) (hk1:x.k=2) (hw:Bar w) :
  Calls Tryz.prog 17 #[.agg (xopF x).toArray] w fun e w'=>e=.returned (.bool true)∧Below w.heap.size w w':=by
 obtain ⟨h1,h2,-,-,-,-,-⟩:=hx;obtain ⟨k1,o1,a1,m1,c1,o2,a2,m2,cp2,ra,rm,rc,R,sa,sm,sc,S,e,N,M⟩:=x;simp only at hk1;subst hk1;simp only at h1 h2;have HC1:Hid (∀ W,Below w.heap.size w W→Calls Tryz.prog 26 #[opVal o1 (.slice a1 m1 c1)] W fun e w'=>∃ a' cap',e=.returned (opVal o1 (.slice a' m1 cap'))∧OwnF rangeV 2 94 w' W.heap.size (.slice a' m1 cap') o1.l∧Below W.heap.size W w'):=fun W hb=>copy_any (h1.1.below hb) (by have:=h1.2.1;simp only at this;omega)
 have HC2:Hid (∀ W,Below w.heap.size w W→Calls Tryz.prog 26 #[opVal o2 (.slice a2 m2 cp2)] W fun e w'=>∃ a' cap',e=.returned (opVal o2 (.slice a' m2 cap'))∧OwnF rangeV 2 94 w' W.heap.size (.slice a' m2 cap') o2.l∧Below W.heap.size W w'):=fun W hb=>copy_any (h2.1.below hb) (by have:=h2.2.1;simp only at this;omega)
 have hs1:=h1.2.2;have hs2:=h2.2.2;simp only at hs1 hs2;obtain ⟨⟨⟨c3,n3,k3,p3,s3,l3,tc3,tn3,on3⟩,z3⟩,hq⟩:∃ q,xExclude o1 o2=q:=⟨_,rfl⟩;have HI:Hid (∀ (W:World) y1 z1 y2 z2,Below w.heap.size w W→Rw rangeV 2 W y1 m1 z1 o1.l→Rw rangeV 2 W y2 m2 z2 o2.l→Calls Tryz.prog 19 #[opVal o1 (.slice y1 m1 z1),opVal o2 (.slice y2 m2 z2)] W fun e w'=>∃ va vm vc,e=.returned (.tuple #[opVal ⟨c3,n3,k3,p3,s3,l3,tc3,tn3,on3⟩ (.slice va vm vc),.int .i64 z3])∧OwnF rangeV 2 94 w' W.heap.size (.slice va vm vc) l3∧Below W.heap.size W w'):=fun W y1 z1 y2 z2 hb r1 r2=>by
  have:=Exclude_any (rng_of_rw r1) (rng_of_rw r2) (by omega) (by omega) (hw.below hb);rw [hq] at this;exact this
 have HG:Hid (∀ (W:World),Below w.heap.size w W→Calls Tryz.prog 29 #[opVal o1 (.slice a1 m1 c1),opVal o2 (.slice a2 m2 cp2)] W fun e w'=>∃ va vm vc,e=.returned (.tuple #[opVal ⟨c3,n3,k3,p3,s3,l3,tc3,tn3,on3⟩ (.slice va vm vc),.int .i64 z3])∧OwnF rangeV 2 94 w' W.heap.size (.slice va vm vc) l3∧Below W.heap.size W w'):=fun W hb=>by
  have:=gExclude_any (h1.below hb) (h2.below hb);rw [hq] at this;exact this
 clear hq h1 h2 hw hs1 hs2;obtain ⟨c,n,k,p,s,l1,tc,tn,on⟩:=o1;obtain ⟨c2,n2,k2,p2,s2,l2,tc2,tn2,on2⟩:=o2;simp only [opVal,xopF] at *;obtain ⟨W0,hW0⟩:∃ W0,w.alloc (Obj.cells #[.int .i64 2,.int .i64 c,.int .i64 n,.int .i64 k,.int .i64 p,.string s,.slice a1 m1 c1,.int .i64 tc,.int .i64 tn,.bool on,.int .i64 c2,.int .i64 n2,.int .i64 k2,.int .i64 p2,.string s2,.slice a2 m2 cp2,.int .i64 tc2,.int .i64 tn2,.bool on2,.slice ra rm rc,.slice sa sm sc,.bool e,.int .i64 N,.int .i64 M] 45)=W0:=⟨_,rfl⟩;have hX0:W0.heap[w.heap.size]?=some (Obj.cells #[.int .i64 2,.int .i64 c,.int .i64 n,.int .i64 k,.int .i64 p,.string s,.slice a1 m1 c1,.int .i64 tc,.int .i64 tn,.bool on,.int .i64 c2,.int .i64 n2,.int .i64 k2,.int .i64 p2,.string s2,.slice a2 m2 cp2,.int .i64 tc2,.int .i64 tn2,.bool on2,.slice ra rm rc,.slice sa sm sc,.bool e,.int .i64 N,.int .i64 M] 45):=by rw [← hW0];exact heap_alloc_new _ _
 have hB0:Below w.heap.size w W0:=by rw [← hW0];exact (bE w.heap.size w).alloc (lR _) _
 have alt0:w.heap.size<W0.heap.size:=(gA hX0);obtain ⟨ax0,ax1,ax2,ax3,ax4,ax5,ax6,ax7,ax8,ax9,ax10,ax11,ax12,ax13,ax14,ax15,ax16,ax17,ax18,ax19,ax20,ax21,ax22,ax23⟩:=box24 hX0;go_enter Tryz.func17,Tryz.ntmps17;go_wp2_with fail;refine wp_region_held_drew (S:=(fun W=>W.cell? ⟨w.heap.size,1,none⟩=some (.int .i64 c)∧W.cell? ⟨w.heap.size,2,none⟩=some (.int .i64 n)∧W.cell? ⟨w.heap.size,3,none⟩=some (.int .i64 k)∧W.cell? ⟨w.heap.size,4,none⟩=some (.int .i64 p)∧W.cell? ⟨w.heap.size,5,none⟩=some (.string s)∧W.cell? ⟨w.heap.size,6,none⟩=some (.slice a1 m1 c1)∧W.cell? ⟨w.heap.size,7,none⟩=some (.int .i64 tc)∧W.cell? ⟨w.heap.size,8,none⟩=some (.int .i64 tn)∧W.cell? ⟨w.heap.size,9,none⟩=some (.bool on)∧W.cell? ⟨w.heap.size,10,none⟩=some (.int .i64 c2)∧W.cell? ⟨w.heap.size,11,none⟩=some (.int .i64 n2)∧W.cell? ⟨w.heap.size,12,none⟩=some (.int .i64 k2)∧W.cell? ⟨w.heap.size,13,none⟩=some (.int .i64 p2)∧W.cell? ⟨w.heap.size,14,none⟩=some (.string s2)∧W.cell? ⟨w.heap.size,15,none⟩=some (.slice a2 m2 cp2)∧W.cell? ⟨w.heap.size,16,none⟩=some (.int .i64 tc2)∧W.cell? ⟨w.heap.size,17,none⟩=some (.int .i64 tn2)∧W.cell? ⟨w.heap.size,18,none⟩=some (.bool on2))) (by kernel_rfl) ?hS13 (fun hHeld=>?rest13)
 case hS13=>(have q:=box24 hX0;exact ⟨q.2.1,q.2.2.1,q.2.2.2.1,q.2.2.2.2.1,q.2.2.2.2.2.1,q.2.2.2.2.2.2.1,q.2.2.2.2.2.2.2.1,q.2.2.2.2.2.2.2.2.1,q.2.2.2.2.2.2.2.2.2.1,q.2.2.2.2.2.2.2.2.2.2.1,q.2.2.2.2.2.2.2.2.2.2.2.1,q.2.2.2.2.2.2.2.2.2.2.2.2.1,q.2.2.2.2.2.2.2.2.2.2.2.2.2.1,q.2.2.2.2.2.2.2.2.2.2.2.2.2.2.1,q.2.2.2.2.2.2.2.2.2.2.2.2.2.2.2.1,q.2.2.2.2.2.2.2.2.2.2.2.2.2.2.2.2.1,q.2.2.2.2.2.2.2.2.2.2.2.2.2.2.2.2.2.1,q.2.2.2.2.2.2.2.2.2.2.2.2.2.2.2.2.2.2.1⟩)
 obtain ⟨u0,hu0⟩:∃ V,World.drew W0=V:=⟨_,rfl⟩;rw [hu0];have hX0:u0.heap[w.heap.size]?=some (Obj.cells #[.int .i64 2,.int .i64 c,.int .i64 n,.int .i64 k,.int .i64 p,.string s,.slice a1 m1 c1,.int .i64 tc,.int .i64 tn,.bool on,.int .i64 c2,.int .i64 n2,.int .i64 k2,.int .i64 p2,.string s2,.slice a2 m2 cp2,.int .i64 tc2,.int .i64 tn2,.bool on2,.slice ra rm rc,.slice sa sm sc,.bool e,.int .i64 N,.int .i64 M] 45):=by rw [← hu0];exact hX0
 have hB0:Below w.heap.size w u0:=by rw [← hu0];exact hB0.drew
 have alt0:w.heap.size<u0.heap.size:=by rw [← hu0];exact alt0
 rw [hu0] at hHeld;clear hu0;refine tD 0 (some 55) ?_
 try simp only [putS]
 refine tD 1 (some 56) ?_
 try simp only [putS]
 refine tD 3 (some 58) ?_
 try simp only [putS]
 refine tD 4 (some 59) ?_
 try simp only [putS]
 refine wpAnyH_ready (rs:=[2,10]) (by kernel_rfl) (by simp) ?_;refine AllReadyH.cons rfl (fun K hK=>?b18_0) (AllReadyH.cons rfl (fun K hK=>?b18_1) (AllReadyH.nil))
 case' b18_0 =>
  go_simp;refine (HC1.out _ hB0).mono ?_;rintro e2 u1 ⟨y1,z1,rfl,ho1,hb⟩;have hX1:=(hb.block _ alt0).trans hX0;have hB1:=hB0.trans (hb.mono hB0.size);have alt1:w.heap.size<u1.heap.size:=(gA hX1);have hr1:Rw rangeV 2 u1 y1 m1 z1 l1:=ho1.rw_ layG;clear ho1;clear hb;clear hHeld;refine hK.out _ _ ?hS19 (fun hHeld=>?rest19)
  case' hS19=>(have q:=box24 hX1;exact ⟨q.2.1,q.2.2.1,q.2.2.2.1,q.2.2.2.2.1,q.2.2.2.2.2.1,q.2.2.2.2.2.2.1,q.2.2.2.2.2.2.2.1,q.2.2.2.2.2.2.2.2.1,q.2.2.2.2.2.2.2.2.2.1,q.2.2.2.2.2.2.2.2.2.2.1,q.2.2.2.2.2.2.2.2.2.2.2.1,q.2.2.2.2.2.2.2.2.2.2.2.2.1,q.2.2.2.2.2.2.2.2.2.2.2.2.2.1,q.2.2.2.2.2.2.2.2.2.2.2.2.2.2.1,q.2.2.2.2.2.2.2.2.2.2.2.2.2.2.2.1,q.2.2.2.2.2.2.2.2.2.2.2.2.2.2.2.2.1,q.2.2.2.2.2.2.2.2.2.2.2.2.2.2.2.2.2.1,q.2.2.2.2.2.2.2.2.2.2.2.2.2.2.2.2.2.2.1⟩)
  clear hK K
  try simp only [putS]
  refine wpAnyH_ready (rs:=[5,10]) (by kernel_rfl) (by simp) ?_;refine AllReadyH.cons rfl (fun K hK=>?b20_0) (AllReadyH.cons rfl (fun K hK=>?b20_1) (AllReadyH.nil))
  case' b20_0 =>
   go_simp;refine (HC2.out _ hB1).mono ?_;rintro e2 u2 ⟨y2,z2,rfl,ho2,hb⟩;have hX2:=(hb.block _ alt1).trans hX1;have hB2:=hB1.trans (hb.mono hB1.size);have alt2:w.heap.size<u2.heap.size:=(gA hX2);have hr1:=hr1.below hb;have hr2:Rw rangeV 2 u2 y2 m2 z2 l2:=ho2.rw_ layG;clear ho2;clear hb;clear hHeld;refine hK.out _ _ ?hS21 (fun hHeld=>?rest21)
   case' hS21=>(have q:=box24 hX2;exact ⟨q.2.1,q.2.2.1,q.2.2.2.1,q.2.2.2.2.1,q.2.2.2.2.2.1,q.2.2.2.2.2.2.1,q.2.2.2.2.2.2.2.1,q.2.2.2.2.2.2.2.2.1,q.2.2.2.2.2.2.2.2.2.1,q.2.2.2.2.2.2.2.2.2.2.1,q.2.2.2.2.2.2.2.2.2.2.2.1,q.2.2.2.2.2.2.2.2.2.2.2.2.1,q.2.2.2.2.2.2.2.2.2.2.2.2.2.1,q.2.2.2.2.2.2.2.2.2.2.2.2.2.2.1,q.2.2.2.2.2.2.2.2.2.2.2.2.2.2.2.1,q.2.2.2.2.2.2.2.2.2.2.2.2.2.2.2.2.1,q.2.2.2.2.2.2.2.2.2.2.2.2.2.2.2.2.2.1,q.2.2.2.2.2.2.2.2.2.2.2.2.2.2.2.2.2.2.1⟩)
   clear hK K
   try simp only [putS]
   refine wpAnyH_ready (rs:=[6,10]) (by kernel_rfl) (by simp) ?_;refine AllReadyH.cons rfl (fun K hK=>?b22_0) (AllReadyH.cons rfl (fun K hK=>?b22_1) (AllReadyH.nil))
   case' b22_0 =>
    go_simp;refine (HI.out _ _ _ _ _ hB2 hr1 hr2).mono ?_;rintro e2 u3 ⟨va,vm,vc,rfl,ho3,hb⟩;have hX3:=(hb.block _ alt2).trans hX2;have hB3:=hB2.trans (hb.mono hB2.size);have alt3:w.heap.size<u3.heap.size:=(gA hX3);have hr1:=hr1.below hb;have hr2:=hr2.below hb;clear hb;clear hHeld;refine hK.out _ _ ?hS23 (fun hHeld=>?rest23)
    case' hS23=>(have q:=box24 hX3;exact ⟨q.2.1,q.2.2.1,q.2.2.2.1,q.2.2.2.2.1,q.2.2.2.2.2.1,q.2.2.2.2.2.2.1,q.2.2.2.2.2.2.2.1,q.2.2.2.2.2.2.2.2.1,q.2.2.2.2.2.2.2.2.2.1,q.2.2.2.2.2.2.2.2.2.2.1,q.2.2.2.2.2.2.2.2.2.2.2.1,q.2.2.2.2.2.2.2.2.2.2.2.2.1,q.2.2.2.2.2.2.2.2.2.2.2.2.2.1,q.2.2.2.2.2.2.2.2.2.2.2.2.2.2.1,q.2.2.2.2.2.2.2.2.2.2.2.2.2.2.2.1,q.2.2.2.2.2.2.2.2.2.2.2.2.2.2.2.2.1,q.2.2.2.2.2.2.2.2.2.2.2.2.2.2.2.2.2.1,q.2.2.2.2.2.2.2.2.2.2.2.2.2.2.2.2.2.2.1⟩)
    clear hK K
    try simp only [putS]
    refine tD 7 (some 54) ?_
    try simp only [putS]
    refine tD 8 (some 62) ?_
    try simp only [putS]
    refine tD 9 (some 63) ?_
    try simp only [putS]
    refine wpAnyH_ready (rs:=[10]) (by kernel_rfl) (by simp) ?_;refine AllReadyH.cons rfl (fun K hK=>?_) AllReadyH.nil;go_simp;obtain ⟨u4,hv⟩:∃ V,u3.alloc (Obj.cells #[.int .i64 0,.int .i64 0,.int .i64 0,.int .i64 0,.string ⟨#[]⟩,.slice none 0 0,.int .i64 0,.int .i64 0,.bool false] 33)=V:=⟨_,rfl⟩;have hb:Below u3.heap.size u3 u4:=by rw [← hv];exact (bE _ _).alloc (lR _) _
    have hX4:=(hb.block _ alt3).trans hX3;have hB4:=hB3.trans (hb.mono hB3.size);have alt4:w.heap.size<u4.heap.size:=(gA hX4);have hr1:=hr1.below hb;have hr2:=hr2.below hb;have ho3:=ho3.below hb;have hbx:u4.heap[u3.heap.size]?=some (Obj.cells #[.int .i64 0,.int .i64 0,.int .i64 0,.int .i64 0,.string ⟨#[]⟩,.slice none 0 0,.int .i64 0,.int .i64 0,.bool false] 33):=by rw [← hv];exact heap_alloc_new _ _
    have hbxlo:w.heap.size<u3.heap.size:=alt3;rw [hv];generalize u3.heap.size=hbxx at *;clear hb hv;clear hHeld;refine hK.out _ _ ?hS27 (fun hHeld=>?rest27)
    case' hS27=>(have q:=box24 hX4;exact ⟨q.2.1,q.2.2.1,q.2.2.2.1,q.2.2.2.2.1,q.2.2.2.2.2.1,q.2.2.2.2.2.2.1,q.2.2.2.2.2.2.2.1,q.2.2.2.2.2.2.2.2.1,q.2.2.2.2.2.2.2.2.2.1,q.2.2.2.2.2.2.2.2.2.2.1,q.2.2.2.2.2.2.2.2.2.2.2.1,q.2.2.2.2.2.2.2.2.2.2.2.2.1,q.2.2.2.2.2.2.2.2.2.2.2.2.2.1,q.2.2.2.2.2.2.2.2.2.2.2.2.2.2.1,q.2.2.2.2.2.2.2.2.2.2.2.2.2.2.2.1,q.2.2.2.2.2.2.2.2.2.2.2.2.2.2.2.2.1,q.2.2.2.2.2.2.2.2.2.2.2.2.2.2.2.2.2.1,q.2.2.2.2.2.2.2.2.2.2.2.2.2.2.2.2.2.2.1⟩)
    clear hK K
    try simp only [putS]
    obtain ⟨u9,e9,hx9,hB9,hK9⟩:=store9 hbx hB4 (Nat.le_of_lt hbxlo) (.int .i64 c3) (.int .i64 n3) (.int .i64 k3) (.int .i64 p3) (.string s3) (.slice va vm vc) (.int .i64 tc3) (.int .i64 tn3) (.bool on3);obtain ⟨d0,d1,d2,d3,d4,d5,d6,d7,d8⟩:=box9 hbx;obtain ⟨dz0,dz1,dz2,dz3,dz4,dz5,dz6,dz7,dz8⟩:=wr9 hbx;have hX9:=hK9.block hX4 (by omega);have ho9:=own_type ho3 hbx (by decide) hK9;refine wpAnyH_ready (rs:=[11]) (by kernel_rfl) (by simp) ?_;refine AllReadyH.cons rfl (fun K hK=>?_) AllReadyH.nil;go_simp
    try rw [e9]
    clear hHeld;refine hK.out _ _ ?hS28 (fun hHeld=>?rest28)
    case' hS28=>(have q:=box24 hX9;exact ⟨q.2.1,q.2.2.1,q.2.2.2.1,q.2.2.2.2.1,q.2.2.2.2.2.1,q.2.2.2.2.2.2.1,q.2.2.2.2.2.2.2.1,q.2.2.2.2.2.2.2.2.1,q.2.2.2.2.2.2.2.2.2.1,q.2.2.2.2.2.2.2.2.2.2.1,q.2.2.2.2.2.2.2.2.2.2.2.1,q.2.2.2.2.2.2.2.2.2.2.2.2.1,q.2.2.2.2.2.2.2.2.2.2.2.2.2.1,q.2.2.2.2.2.2.2.2.2.2.2.2.2.2.1,q.2.2.2.2.2.2.2.2.2.2.2.2.2.2.2.1,q.2.2.2.2.2.2.2.2.2.2.2.2.2.2.2.2.1,q.2.2.2.2.2.2.2.2.2.2.2.2.2.2.2.2.2.1,q.2.2.2.2.2.2.2.2.2.2.2.2.2.2.2.2.2.2.1⟩)
    clear hK K
    try simp only [putS]
    refine tD 12 (some 8) ?_
    try simp only [putS]
    refine wpAnyH_done (by kernel_rfl) ?_ _
   case' b22_1 =>
    go_simp;obtain ⟨u3,hv⟩:∃ V,u2.alloc (Obj.cells #[.int .i64 0,.int .i64 0,.int .i64 0,.int .i64 0,.string ⟨#[]⟩,.slice none 0 0,.int .i64 0,.int .i64 0,.bool false] 33)=V:=⟨_,rfl⟩;have hb:Below u2.heap.size u2 u3:=by rw [← hv];exact (bE _ _).alloc (lR _) _
    have hX3:=(hb.block _ alt2).trans hX2;have hB3:=hB2.trans (hb.mono hB2.size);have alt3:w.heap.size<u3.heap.size:=(gA hX3);have hr1:=hr1.below hb;have hr2:=hr2.below hb;have hbx:u3.heap[u2.heap.size]?=some (Obj.cells #[.int .i64 0,.int .i64 0,.int .i64 0,.int .i64 0,.string ⟨#[]⟩,.slice none 0 0,.int .i64 0,.int .i64 0,.bool false] 33):=by rw [← hv];exact heap_alloc_new _ _
    have hbxlo:w.heap.size<u2.heap.size:=alt2;rw [hv];generalize u2.heap.size=hbxx at *;clear hb hv;clear hHeld;refine hK.out _ _ ?hS30 (fun hHeld=>?rest30)
    case' hS30=>(have q:=box24 hX3;exact ⟨q.2.1,q.2.2.1,q.2.2.2.1,q.2.2.2.2.1,q.2.2.2.2.2.1,q.2.2.2.2.2.2.1,q.2.2.2.2.2.2.2.1,q.2.2.2.2.2.2.2.2.1,q.2.2.2.2.2.2.2.2.2.1,q.2.2.2.2.2.2.2.2.2.2.1,q.2.2.2.2.2.2.2.2.2.2.2.1,q.2.2.2.2.2.2.2.2.2.2.2.2.1,q.2.2.2.2.2.2.2.2.2.2.2.2.2.1,q.2.2.2.2.2.2.2.2.2.2.2.2.2.2.1,q.2.2.2.2.2.2.2.2.2.2.2.2.2.2.2.1,q.2.2.2.2.2.2.2.2.2.2.2.2.2.2.2.2.1,q.2.2.2.2.2.2.2.2.2.2.2.2.2.2.2.2.2.1,q.2.2.2.2.2.2.2.2.2.2.2.2.2.2.2.2.2.2.1⟩)
    clear hK K
    try simp only [putS]
    refine wpAnyH_ready (rs:=[6]) (by kernel_rfl) (by simp) ?_;refine AllReadyH.cons rfl (fun K hK=>?_) AllReadyH.nil;go_simp;refine (HI.out _ _ _ _ _ hB3 hr1 hr2).mono ?_;rintro e2 u4 ⟨va,vm,vc,rfl,ho3,hb⟩;have hX4:=(hb.block _ alt3).trans hX3;have hB4:=hB3.trans (hb.mono hB3.size);have alt4:w.heap.size<u4.heap.size:=(gA hX4);have hbx:=(hb.block _ (gA hbx)).trans hbx;have hr1:=hr1.below hb;have hr2:=hr2.below hb;clear hb;clear hHeld;refine hK.out _ _ ?hS31 (fun hHeld=>?rest31)
    case' hS31=>(have q:=box24 hX4;exact ⟨q.2.1,q.2.2.1,q.2.2.2.1,q.2.2.2.2.1,q.2.2.2.2.2.1,q.2.2.2.2.2.2.1,q.2.2.2.2.2.2.2.1,q.2.2.2.2.2.2.2.2.1,q.2.2.2.2.2.2.2.2.2.1,q.2.2.2.2.2.2.2.2.2.2.1,q.2.2.2.2.2.2.2.2.2.2.2.1,q.2.2.2.2.2.2.2.2.2.2.2.2.1,q.2.2.2.2.2.2.2.2.2.2.2.2.2.1,q.2.2.2.2.2.2.2.2.2.2.2.2.2.2.1,q.2.2.2.2.2.2.2.2.2.2.2.2.2.2.2.1,q.2.2.2.2.2.2.2.2.2.2.2.2.2.2.2.2.1,q.2.2.2.2.2.2.2.2.2.2.2.2.2.2.2.2.2.1,q.2.2.2.2.2.2.2.2.2.2.2.2.2.2.2.2.2.2.1⟩)
    clear hK K
    try simp only [putS]
    refine tD 7 (some 54) ?_
    try simp only [putS]
    refine tD 8 (some 62) ?_
    try simp only [putS]
    refine tD 9 (some 63) ?_
    try simp only [putS]
    obtain ⟨u9,e9,hx9,hB9,hK9⟩:=store9 hbx hB4 (Nat.le_of_lt hbxlo) (.int .i64 c3) (.int .i64 n3) (.int .i64 k3) (.int .i64 p3) (.string s3) (.slice va vm vc) (.int .i64 tc3) (.int .i64 tn3) (.bool on3);obtain ⟨d0,d1,d2,d3,d4,d5,d6,d7,d8⟩:=box9 hbx;obtain ⟨dz0,dz1,dz2,dz3,dz4,dz5,dz6,dz7,dz8⟩:=wr9 hbx;have hX9:=hK9.block hX4 (by omega);have ho9:=own_type ho3 hbx (by decide) hK9;refine wpAnyH_ready (rs:=[11]) (by kernel_rfl) (by simp) ?_;refine AllReadyH.cons rfl (fun K hK=>?_) AllReadyH.nil;go_simp
    try rw [e9]
    clear hHeld;refine hK.out _ _ ?hS35 (fun hHeld=>?rest35)
    case' hS35=>(have q:=box24 hX9;exact ⟨q.2.1,q.2.2.1,q.2.2.2.1,q.2.2.2.2.1,q.2.2.2.2.2.1,q.2.2.2.2.2.2.1,q.2.2.2.2.2.2.2.1,q.2.2.2.2.2.2.2.2.1,q.2.2.2.2.2.2.2.2.2.1,q.2.2.2.2.2.2.2.2.2.2.1,q.2.2.2.2.2.2.2.2.2.2.2.1,q.2.2.2.2.2.2.2.2.2.2.2.2.1,q.2.2.2.2.2.2.2.2.2.2.2.2.2.1,q.2.2.2.2.2.2.2.2.2.2.2.2.2.2.1,q.2.2.2.2.2.2.2.2.2.2.2.2.2.2.2.1,q.2.2.2.2.2.2.2.2.2.2.2.2.2.2.2.2.1,q.2.2.2.2.2.2.2.2.2.2.2.2.2.2.2.2.2.1,q.2.2.2.2.2.2.2.2.2.2.2.2.2.2.2.2.2.2.1⟩)
    clear hK K
    try simp only [putS]
    refine tD 12 (some 8) ?_
    try simp only [putS]
    refine wpAnyH_done (by kernel_rfl) ?_ _
  case' b20_1 =>
   go_simp;obtain ⟨u2,hv⟩:∃ V,u1.alloc (Obj.cells #[.int .i64 0,.int .i64 0,.int .i64 0,.int .i64 0,.string ⟨#[]⟩,.slice none 0 0,.int .i64 0,.int .i64 0,.bool false] 33)=V:=⟨_,rfl⟩;have hb:Below u1.heap.size u1 u2:=by rw [← hv];exact (bE _ _).alloc (lR _) _
   have hX2:=(hb.block _ alt1).trans hX1;have hB2:=hB1.trans (hb.mono hB1.size);have alt2:w.heap.size<u2.heap.size:=(gA hX2);have hr1:=hr1.below hb;have hbx:u2.heap[u1.heap.size]?=some (Obj.cells #[.int .i64 0,.int .i64 0,.int .i64 0,.int .i64 0,.string ⟨#[]⟩,.slice none 0 0,.int .i64 0,.int .i64 0,.bool false] 33):=by rw [← hv];exact heap_alloc_new _ _
   have hbxlo:w.heap.size<u1.heap.size:=alt1;rw [hv];generalize u1.heap.size=hbxx at *;clear hb hv;clear hHeld;refine hK.out _ _ ?hS37 (fun hHeld=>?rest37)
   case' hS37=>(have q:=box24 hX2;exact ⟨q.2.1,q.2.2.1,q.2.2.2.1,q.2.2.2.2.1,q.2.2.2.2.2.1,q.2.2.2.2.2.2.1,q.2.2.2.2.2.2.2.1,q.2.2.2.2.2.2.2.2.1,q.2.2.2.2.2.2.2.2.2.1,q.2.2.2.2.2.2.2.2.2.2.1,q.2.2.2.2.2.2.2.2.2.2.2.1,q.2.2.2.2.2.2.2.2.2.2.2.2.1,q.2.2.2.2.2.2.2.2.2.2.2.2.2.1,q.2.2.2.2.2.2.2.2.2.2.2.2.2.2.1,q.2.2.2.2.2.2.2.2.2.2.2.2.2.2.2.1,q.2.2.2.2.2.2.2.2.2.2.2.2.2.2.2.2.1,q.2.2.2.2.2.2.2.2.2.2.2.2.2.2.2.2.2.1,q.2.2.2.2.2.2.2.2.2.2.2.2.2.2.2.2.2.2.1⟩)
   clear hK K
   try simp only [putS]
   refine wpAnyH_ready (rs:=[5]) (by kernel_rfl) (by simp) ?_;refine AllReadyH.cons rfl (fun K hK=>?_) AllReadyH.nil;go_simp;refine (HC2.out _ hB2).mono ?_;rintro e2 u3 ⟨y2,z2,rfl,ho2,hb⟩;have hX3:=(hb.block _ alt2).trans hX2;have hB3:=hB2.trans (hb.mono hB2.size);have alt3:w.heap.size<u3.heap.size:=(gA hX3);have hbx:=(hb.block _ (gA hbx)).trans hbx;have hr1:=hr1.below hb;have hr2:Rw rangeV 2 u3 y2 m2 z2 l2:=ho2.rw_ layG;clear ho2;clear hb;clear hHeld;refine hK.out _ _ ?hS38 (fun hHeld=>?rest38)
   case' hS38=>(have q:=box24 hX3;exact ⟨q.2.1,q.2.2.1,q.2.2.2.1,q.2.2.2.2.1,q.2.2.2.2.2.1,q.2.2.2.2.2.2.1,q.2.2.2.2.2.2.2.1,q.2.2.2.2.2.2.2.2.1,q.2.2.2.2.2.2.2.2.2.1,q.2.2.2.2.2.2.2.2.2.2.1,q.2.2.2.2.2.2.2.2.2.2.2.1,q.2.2.2.2.2.2.2.2.2.2.2.2.1,q.2.2.2.2.2.2.2.2.2.2.2.2.2.1,q.2.2.2.2.2.2.2.2.2.2.2.2.2.2.1,q.2.2.2.2.2.2.2.2.2.2.2.2.2.2.2.1,q.2.2.2.2.2.2.2.2.2.2.2.2.2.2.2.2.1,q.2.2.2.2.2.2.2.2.2.2.2.2.2.2.2.2.2.1,q.2.2.2.2.2.2.2.2.2.2.2.2.2.2.2.2.2.2.1⟩)
   clear hK K
   try simp only [putS]
   refine wpAnyH_ready (rs:=[6]) (by kernel_rfl) (by simp) ?_;refine AllReadyH.cons rfl (fun K hK=>?_) AllReadyH.nil;go_simp;refine (HI.out _ _ _ _ _ hB3 hr1 hr2).mono ?_;rintro e2 u4 ⟨va,vm,vc,rfl,ho3,hb⟩;have hX4:=(hb.block _ alt3).trans hX3;have hB4:=hB3.trans (hb.mono hB3.size);have alt4:w.heap.size<u4.heap.size:=(gA hX4);have hbx:=(hb.block _ (gA hbx)).trans hbx;have hr1:=hr1.below hb;have hr2:=hr2.below hb;clear hb;clear hHeld;refine hK.out _ _ ?hS39 (fun hHeld=>?rest39)
   case' hS39=>(have q:=box24 hX4;exact ⟨q.2.1,q.2.2.1,q.2.2.2.1,q.2.2.2.2.1,q.2.2.2.2.2.1,q.2.2.2.2.2.2.1,q.2.2.2.2.2.2.2.1,q.2.2.2.2.2.2.2.2.1,q.2.2.2.2.2.2.2.2.2.1,q.2.2.2.2.2.2.2.2.2.2.1,q.2.2.2.2.2.2.2.2.2.2.2.1,q.2.2.2.2.2.2.2.2.2.2.2.2.1,q.2.2.2.2.2.2.2.2.2.2.2.2.2.1,q.2.2.2.2.2.2.2.2.2.2.2.2.2.2.1,q.2.2.2.2.2.2.2.2.2.2.2.2.2.2.2.1,q.2.2.2.2.2.2.2.2.2.2.2.2.2.2.2.2.1,q.2.2.2.2.2.2.2.2.2.2.2.2.2.2.2.2.2.1,q.2.2.2.2.2.2.2.2.2.2.2.2.2.2.2.2.2.2.1⟩)
   clear hK K
   try simp only [putS]
   refine tD 7 (some 54) ?_
   try simp only [putS]
   refine tD 8 (some 62) ?_
   try simp only [putS]
   refine tD 9 (some 63) ?_
   try simp only [putS]
   obtain ⟨u9,e9,hx9,hB9,hK9⟩:=store9 hbx hB4 (Nat.le_of_lt hbxlo) (.int .i64 c3) (.int .i64 n3) (.int .i64 k3) (.int .i64 p3) (.string s3) (.slice va vm vc) (.int .i64 tc3) (.int .i64 tn3) (.bool on3);obtain ⟨d0,d1,d2,d3,d4,d5,d6,d7,d8⟩:=box9 hbx;obtain ⟨dz0,dz1,dz2,dz3,dz4,dz5,dz6,dz7,dz8⟩:=wr9 hbx;have hX9:=hK9.block hX4 (by omega);have ho9:=own_type ho3 hbx (by decide) hK9;refine wpAnyH_ready (rs:=[11]) (by kernel_rfl) (by simp) ?_;refine AllReadyH.cons rfl (fun K hK=>?_) AllReadyH.nil;go_simp
   try rw [e9]
   clear hHeld;refine hK.out _ _ ?hS43 (fun hHeld=>?rest43)
   case' hS43=>(have q:=box24 hX9;exact ⟨q.2.1,q.2.2.1,q.2.2.2.1,q.2.2.2.2.1,q.2.2.2.2.2.1,q.2.2.2.2.2.2.1,q.2.2.2.2.2.2.2.1,q.2.2.2.2.2.2.2.2.1,q.2.2.2.2.2.2.2.2.2.1,q.2.2.2.2.2.2.2.2.2.2.1,q.2.2.2.2.2.2.2.2.2.2.2.1,q.2.2.2.2.2.2.2.2.2.2.2.2.1,q.2.2.2.2.2.2.2.2.2.2.2.2.2.1,q.2.2.2.2.2.2.2.2.2.2.2.2.2.2.1,q.2.2.2.2.2.2.2.2.2.2.2.2.2.2.2.1,q.2.2.2.2.2.2.2.2.2.2.2.2.2.2.2.2.1,q.2.2.2.2.2.2.2.2.2.2.2.2.2.2.2.2.2.1,q.2.2.2.2.2.2.2.2.2.2.2.2.2.2.2.2.2.2.1⟩)
   clear hK K
   try simp only [putS]
   refine tD 12 (some 8) ?_
   try simp only [putS]
   refine wpAnyH_done (by kernel_rfl) ?_ _
 case' b18_1 =>
  go_simp;obtain ⟨u1,hv⟩:∃ V,u0.alloc (Obj.cells #[.int .i64 0,.int .i64 0,.int .i64 0,.int .i64 0,.string ⟨#[]⟩,.slice none 0 0,.int .i64 0,.int .i64 0,.bool false] 33)=V:=⟨_,rfl⟩;have hb:Below u0.heap.size u0 u1:=by rw [← hv];exact (bE _ _).alloc (lR _) _
  have hX1:=(hb.block _ alt0).trans hX0;have hB1:=hB0.trans (hb.mono hB0.size);have alt1:w.heap.size<u1.heap.size:=(gA hX1);have hbx:u1.heap[u0.heap.size]?=some (Obj.cells #[.int .i64 0,.int .i64 0,.int .i64 0,.int .i64 0,.string ⟨#[]⟩,.slice none 0 0,.int .i64 0,.int .i64 0,.bool false] 33):=by rw [← hv];exact heap_alloc_new _ _
  have hbxlo:w.heap.size<u0.heap.size:=alt0;rw [hv];generalize u0.heap.size=hbxx at *;clear hb hv;clear hHeld;refine hK.out _ _ ?hS45 (fun hHeld=>?rest45)
  case' hS45=>(have q:=box24 hX1;exact ⟨q.2.1,q.2.2.1,q.2.2.2.1,q.2.2.2.2.1,q.2.2.2.2.2.1,q.2.2.2.2.2.2.1,q.2.2.2.2.2.2.2.1,q.2.2.2.2.2.2.2.2.1,q.2.2.2.2.2.2.2.2.2.1,q.2.2.2.2.2.2.2.2.2.2.1,q.2.2.2.2.2.2.2.2.2.2.2.1,q.2.2.2.2.2.2.2.2.2.2.2.2.1,q.2.2.2.2.2.2.2.2.2.2.2.2.2.1,q.2.2.2.2.2.2.2.2.2.2.2.2.2.2.1,q.2.2.2.2.2.2.2.2.2.2.2.2.2.2.2.1,q.2.2.2.2.2.2.2.2.2.2.2.2.2.2.2.2.1,q.2.2.2.2.2.2.2.2.2.2.2.2.2.2.2.2.2.1,q.2.2.2.2.2.2.2.2.2.2.2.2.2.2.2.2.2.2.1⟩)
  clear hK K
  try simp only [putS]
  refine wpAnyH_ready (rs:=[2]) (by kernel_rfl) (by simp) ?_;refine AllReadyH.cons rfl (fun K hK=>?_) AllReadyH.nil;go_simp;refine (HC1.out _ hB1).mono ?_;rintro e2 u2 ⟨y1,z1,rfl,ho1,hb⟩;have hX2:=(hb.block _ alt1).trans hX1;have hB2:=hB1.trans (hb.mono hB1.size);have alt2:w.heap.size<u2.heap.size:=(gA hX2);have hbx:=(hb.block _ (gA hbx)).trans hbx;have hr1:Rw rangeV 2 u2 y1 m1 z1 l1:=ho1.rw_ layG;clear ho1;clear hb;clear hHeld;refine hK.out _ _ ?hS46 (fun hHeld=>?rest46)
  case' hS46=>(have q:=box24 hX2;exact ⟨q.2.1,q.2.2.1,q.2.2.2.1,q.2.2.2.2.1,q.2.2.2.2.2.1,q.2.2.2.2.2.2.1,q.2.2.2.2.2.2.2.1,q.2.2.2.2.2.2.2.2.1,q.2.2.2.2.2.2.2.2.2.1,q.2.2.2.2.2.2.2.2.2.2.1,q.2.2.2.2.2.2.2.2.2.2.2.1,q.2.2.2.2.2.2.2.2.2.2.2.2.1,q.2.2.2.2.2.2.2.2.2.2.2.2.2.1,q.2.2.2.2.2.2.2.2.2.2.2.2.2.2.1,q.2.2.2.2.2.2.2.2.2.2.2.2.2.2.2.1,q.2.2.2.2.2.2.2.2.2.2.2.2.2.2.2.2.1,q.2.2.2.2.2.2.2.2.2.2.2.2.2.2.2.2.2.1,q.2.2.2.2.2.2.2.2.2.2.2.2.2.2.2.2.2.2.1⟩)
  clear hK K
  try simp only [putS]
  refine wpAnyH_ready (rs:=[5]) (by kernel_rfl) (by simp) ?_;refine AllReadyH.cons rfl (fun K hK=>?_) AllReadyH.nil;go_simp;refine (HC2.out _ hB2).mono ?_;rintro e2 u3 ⟨y2,z2,rfl,ho2,hb⟩;have hX3:=(hb.block _ alt2).trans hX2;have hB3:=hB2.trans (hb.mono hB2.size);have alt3:w.heap.size<u3.heap.size:=(gA hX3);have hbx:=(hb.block _ (gA hbx)).trans hbx;have hr1:=hr1.below hb;have hr2:Rw rangeV 2 u3 y2 m2 z2 l2:=ho2.rw_ layG;clear ho2;clear hb;clear hHeld;refine hK.out _ _ ?hS47 (fun hHeld=>?rest47)
  case' hS47=>(have q:=box24 hX3;exact ⟨q.2.1,q.2.2.1,q.2.2.2.1,q.2.2.2.2.1,q.2.2.2.2.2.1,q.2.2.2.2.2.2.1,q.2.2.2.2.2.2.2.1,q.2.2.2.2.2.2.2.2.1,q.2.2.2.2.2.2.2.2.2.1,q.2.2.2.2.2.2.2.2.2.2.1,q.2.2.2.2.2.2.2.2.2.2.2.1,q.2.2.2.2.2.2.2.2.2.2.2.2.1,q.2.2.2.2.2.2.2.2.2.2.2.2.2.1,q.2.2.2.2.2.2.2.2.2.2.2.2.2.2.1,q.2.2.2.2.2.2.2.2.2.2.2.2.2.2.2.1,q.2.2.2.2.2.2.2.2.2.2.2.2.2.2.2.2.1,q.2.2.2.2.2.2.2.2.2.2.2.2.2.2.2.2.2.1,q.2.2.2.2.2.2.2.2.2.2.2.2.2.2.2.2.2.2.1⟩)
  clear hK K
  try simp only [putS]
  refine wpAnyH_ready (rs:=[6]) (by kernel_rfl) (by simp) ?_;refine AllReadyH.cons rfl (fun K hK=>?_) AllReadyH.nil;go_simp;refine (HI.out _ _ _ _ _ hB3 hr1 hr2).mono ?_;rintro e2 u4 ⟨va,vm,vc,rfl,ho3,hb⟩;have hX4:=(hb.block _ alt3).trans hX3;have hB4:=hB3.trans (hb.mono hB3.size);have alt4:w.heap.size<u4.heap.size:=(gA hX4);have hbx:=(hb.block _ (gA hbx)).trans hbx;have hr1:=hr1.below hb;have hr2:=hr2.below hb;clear hb;clear hHeld;refine hK.out _ _ ?hS48 (fun hHeld=>?rest48)
  case' hS48=>(have q:=box24 hX4;exact ⟨q.2.1,q.2.2.1,q.2.2.2.1,q.2.2.2.2.1,q.2.2.2.2.2.1,q.2.2.2.2.2.2.1,q.2.2.2.2.2.2.2.1,q.2.2.2.2.2.2.2.2.1,q.2.2.2.2.2.2.2.2.2.1,q.2.2.2.2.2.2.2.2.2.2.1,q.2.2.2.2.2.2.2.2.2.2.2.1,q.2.2.2.2.2.2.2.2.2.2.2.2.1,q.2.2.2.2.2.2.2.2.2.2.2.2.2.1,q.2.2.2.2.2.2.2.2.2.2.2.2.2.2.1,q.2.2.2.2.2.2.2.2.2.2.2.2.2.2.2.1,q.2.2.2.2.2.2.2.2.2.2.2.2.2.2.2.2.1,q.2.2.2.2.2.2.2.2.2.2.2.2.2.2.2.2.2.1,q.2.2.2.2.2.2.2.2.2.2.2.2.2.2.2.2.2.2.1⟩)
  clear hK K
  try simp only [putS]
  refine tD 7 (some 54) ?_
  try simp only [putS]
  refine tD 8 (some 62) ?_
  try simp only [putS]
  refine tD 9 (some 63) ?_
  try simp only [putS]
  obtain ⟨u9,e9,hx9,hB9,hK9⟩:=store9 hbx hB4 (Nat.le_of_lt hbxlo) (.int .i64 c3) (.int .i64 n3) (.int .i64 k3) (.int .i64 p3) (.string s3) (.slice va vm vc) (.int .i64 tc3) (.int .i64 tn3) (.bool on3);obtain ⟨d0,d1,d2,d3,d4,d5,d6,d7,d8⟩:=box9 hbx;obtain ⟨dz0,dz1,dz2,dz3,dz4,dz5,dz6,dz7,dz8⟩:=wr9 hbx;have hX9:=hK9.block hX4 (by omega);have ho9:=own_type ho3 hbx (by decide) hK9;refine wpAnyH_ready (rs:=[11]) (by kernel_rfl) (by simp) ?_;refine AllReadyH.cons rfl (fun K hK=>?_) AllReadyH.nil;go_simp
  try rw [e9]
  clear hHeld;refine hK.out _ _ ?hS52 (fun hHeld=>?rest52)
  case' hS52=>(have q:=box24 hX9;exact ⟨q.2.1,q.2.2.1,q.2.2.2.1,q.2.2.2.2.1,q.2.2.2.2.2.1,q.2.2.2.2.2.2.1,q.2.2.2.2.2.2.2.1,q.2.2.2.2.2.2.2.2.1,q.2.2.2.2.2.2.2.2.2.1,q.2.2.2.2.2.2.2.2.2.2.1,q.2.2.2.2.2.2.2.2.2.2.2.1,q.2.2.2.2.2.2.2.2.2.2.2.2.1,q.2.2.2.2.2.2.2.2.2.2.2.2.2.1,q.2.2.2.2.2.2.2.2.2.2.2.2.2.2.1,q.2.2.2.2.2.2.2.2.2.2.2.2.2.2.2.1,q.2.2.2.2.2.2.2.2.2.2.2.2.2.2.2.2.1,q.2.2.2.2.2.2.2.2.2.2.2.2.2.2.2.2.2.1,q.2.2.2.2.2.2.2.2.2.2.2.2.2.2.2.2.2.2.1⟩)
  clear hK K
  try simp only [putS]
  refine tD 12 (some 8) ?_
  try simp only [putS]
  refine wpAnyH_done (by kernel_rfl) ?_ _
 all_goals
  (try clear hr1)
  (try clear hr2)
  have HO9:Hid (OwnF rangeV 2 94 u9 _ (.slice va vm vc) l3):=ho9;clear hHeld ho9 ho3 HC1 HC2 HI d0 d1 d2 d3 d4 d5 d6 d7 d8 dz0 dz1 dz2 dz3 dz4 dz5 dz6 dz7 dz8 ax0 ax1 ax2 ax3 ax4 ax5 ax6 ax7 ax8 ax9 ax10 ax11 ax12 ax13 ax14 ax15 ax16 ax17 ax18 ax19 ax20 ax21 ax22 ax23;obtain ⟨bx0,bx1,bx2,bx3,bx4,bx5,bx6,bx7,bx8,bx9,bx10,bx11,bx12,bx13,bx14,bx15,bx16,bx17,bx18,bx19,bx20,bx21,bx22,bx23⟩:=box24 hX9;obtain ⟨r0,r1,r2,r3,r4,r5,r6,r7,r8⟩:=box9 hx9;go_wp2_with fail;refine (HG.out _ hB9).mono ?_;rintro e2 v4 ⟨ya,ym,yc,rfl,ho4,hb4⟩;have hx4:=(hb4.block _ (gA hx9)).trans hx9;have hB4:=hB9.trans (hb4.mono hB9.size);have ho9:=HO9.out.below hb4;clear HG HO9 hX9 hx9 hB9 hb4 bx0 bx1 bx2 bx3 bx4 bx5 bx6 bx7 bx8 bx9 bx10 bx11 bx12 bx13 bx14 bx15 bx16 bx17 bx18 bx19 bx20 bx21 bx22 bx23 r0 r1 r2 r3 r4 r5 r6 r7 r8;obtain ⟨v5,hv5⟩:∃ V,v4.alloc (Obj.cells #[.int .i64 c3,.int .i64 n3,.int .i64 k3,.int .i64 p3,.string s3,.slice ya ym yc,.int .i64 tc3,.int .i64 tn3,.bool on3] 33)=V:=⟨_,rfl⟩;have hb5:Below v4.heap.size v4 v5:=by rw [← hv5];exact (bE _ _).alloc (lR _) _
  have hy5:v5.heap[v4.heap.size]?=some (Obj.cells #[.int .i64 c3,.int .i64 n3,.int .i64 k3,.int .i64 p3,.string s3,.slice ya ym yc,.int .i64 tc3,.int .i64 tn3,.bool on3] 33):=by rw [← hv5];exact heap_alloc_new _ _
  have hx5:=(hb5.block _ (gA hx4)).trans hx4;have hB5:=hB4.trans (hb5.mono hB4.size);have HON:=one_self (o:=⟨c3,n3,k3,p3,s3,l3,tc3,tn3,on3⟩) (z:=z3) (rng_of_rw ((ho9.below hb5).rw_ layG)) (rng_of_rw ((ho4.below hb5).rw_ layG));simp only [opVal] at HON;obtain ⟨r0,r1,r2,r3,r4,r5,r6,r7,r8⟩:=box9 hx5;obtain ⟨y0,y1,y2,y3,y4,y5,y6,y7,y8⟩:=box9 hy5;clear ho9 ho4 hx4 hB4 hb5;go_wp2_with fail;refine HON.mono ?_;rintro e2 v6 ⟨rfl,hb6⟩;have hB6:=hB5.trans (hb6.mono hB5.size);clear HON r0 r1 r2 r3 r4 r5 r6 r7 r8 y0 y1 y2 y3 y4 y5 y6 y7 y8 hb6;go_wp2_with fail;go_ret;exact ⟨rfl,hB6⟩
end Go.Proofs.YtmeciikfnbbllaaGreatDoor
