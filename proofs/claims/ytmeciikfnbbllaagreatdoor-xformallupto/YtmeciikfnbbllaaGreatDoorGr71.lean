import Derived.Test.YtmeciikfnbbllaaGreatDoorAl
import Derived.Test.YtmeciikfnbbllaaGreatDoorGr49
import Derived.Test.YtmeciikfnbbllaaGreatDoorGr50
import Derived.Test.YtmeciikfnbbllaaGreatDoorXkC
set_option maxHeartbeats 32000000
set_option maxRecDepth 100000
namespace Go.Proofs.YtmeciikfnbbllaaGreatDoor
open Go.RowKit Go.Lib
theorem keep_ranges {w4 w6:World} {B:Nat} {v0:Value} {L:List OpM} (ho4:OwnF opF 9 33 w4 B v0 L) (hkp:Keeps w4 w6 v0) {C:Nat} {v:Value} {l:List (Int×Int)} (hv:OwnF rangeV 2 94 w4 C v l):OwnF rangeV 2 94 w6 C v l:=by
 refine ⟨hv.1,?_⟩;rcases hv.2 with h0|⟨gx,cx,cur,e,h1,hh,rest⟩
 ·exact .inl h0
 ·refine .inr ⟨gx,cx,cur,e,h1,?_,rest⟩;rw [hkp gx (gA hh) (fun e3=>?_)]
  ·exact hh
  ·rcases ho4.2 with ⟨e4,_⟩|⟨gy,cy,cur2,e4,_,hh2,_⟩
   ·rw [e4] at e3;simp [Value.ownBlock] at e3
   ·rw [e4] at e3;simp [Value.ownBlock] at e3;subst e3;rw [hh] at hh2;simp at hh2
theorem copyRun_any {w:World} {a:Option Addr} {m cap:Nat} {L:List OpM} (h:Rw opF 9 w a m cap L) (hL:∀ x∈L,Rdy w x) (hm:m≤1048576) :
  Calls Tryz.prog 54 #[.slice a m cap] w fun e w'=>∃ va vc L',e=.returned (.slice va m vc)∧OwnF opF 9 33 w' w.heap.size (.slice va m vc) L'∧L'.map (·.1)=L.map (·.1)∧OwnRs w' w.heap.size L'∧Below w.heap.size w w':=by
 have hln:=h.len;have HH:Hid (Rw opF 9 w a m cap L):=h;have HL:Hid (∀ x∈L,Rdy w x):=hL;clear h hL;go_enter Tryz.func54,Tryz.ntmps54;go_wp2_with fail;go_loopw [3,4] (fun v vi W=>∃ (j:Nat) (L':List OpM),vi=.int .i64 j∧j≤m∧L'.length=j∧OwnF opF 9 33 W w.heap.size v L'∧Hid (L'.map (·.1)=(L.take j).map (·.1)∧OwnRs W w.heap.size L')∧Below w.heap.size w W) (fun _ vi _=>m-(RowKit.intOf vi).toNat)
 case atStart=>exact ⟨0,[],rfl,Nat.zero_le _,rfl,ownF_nil _ _,⟨by simp,fun x hx=>by cases hx⟩,bE _ _⟩
 case round =>
  obtain ⟨j,L',rfl,hjm,hLl,ho,HP,hb⟩:=hrel;by_cases hj:j<m
  ·obtain ⟨g,off,x,rfl,hg,hx,c0,c1,c2,c3,c4,c5,c6,c7,c8⟩:=HH.out.at9 hb j hj;have hrd:=(HL.out x (List.mem_of_getElem? hx)).below hb;have HCp:Hid (Calls Tryz.prog 26 #[opVal x.1 (.slice x.2.1 x.2.2.1 x.2.2.2)] wr fun e w'=>∃ a' cap',e=.returned (opVal x.1 (.slice a' x.2.2.1 cap'))∧OwnF rangeV 2 94 w' wr.heap.size (.slice a' x.2.2.1 cap') x.1.l∧Below wr.heap.size wr w'):=(copy_any hrd.rng (by have:=hrd.rng.len;have:=hrd.few;omega)).mono fun e2 w5 ⟨a',cap',he,ho5,hb5⟩=>⟨a',cap',he,ho5.mono (by first|exact lR _|omega),hb5⟩
   have hmap:(L.take (j+1)).map (·.1)=(L.take j).map (·.1)++[x.1]:=by
    obtain ⟨hl,rfl⟩:=List.getElem?_eq_some_iff.1 hx;rw [List.take_succ_eq_append_getElem hl,List.map_append];rfl
   have b1:(j:Int)<(m:Int):=by omega
   have b0:(0:Int)≤(j:Int):=by omega
   obtain ⟨ao,co,rfl⟩:=ho.shape;clear hrd hx;obtain ⟨⟨oc,on_,ok,op_,os,ol,otc,otn,oo⟩,xa,xm,xcap⟩:=x;simp only [opVal] at *;go_wp2_with fail;refine HCp.out.mono ?_;rintro e2 w4 ⟨va,vc,rfl,hoy,hb4⟩;have hb5:=hb.trans (hb4.mono hb.size);have ho4:=ho.below hb4;obtain ⟨g5,cap5,w6,hr,ho6,hb6,hkp,_,_⟩:=appendF_one kindO layO ho4 hb5.size (⟨oc,on_,ok,op_,os,ol,otc,otn,oo⟩,(va,xm,vc)) #[.int .i64 oc,.int .i64 on_,.int .i64 ok,.int .i64 op_,.string os,.slice va xm vc,.int .i64 otc,.int .i64 otn,.bool oo] rfl 33 (by omega) (by omega) 43;have hb7:=hb5.trans hb6;have HFIN:Hid ((L'++[((⟨oc,on_,ok,op_,os,ol,otc,otn,oo⟩:OpV),((va,xm,vc):Option Addr×Nat×Nat))]).map (·.1)=(L.take (j+1)).map (·.1)∧OwnRs w6 w.heap.size (L'++[(⟨oc,on_,ok,op_,os,ol,otc,otn,oo⟩,(va,xm,vc))])):=by
    refine ⟨by rw [List.map_append,HP.out.1,hmap];rfl,fun y hy=>?_⟩;rcases List.mem_append.1 hy with hy|hy
    ·exact keep_ranges ho4 hkp ((HP.out.2 y hy).below hb4)
    ·simp only [List.mem_singleton] at hy;subst hy;exact (keep_ranges ho4 hkp hoy).mono hb.size
   rw [hLl] at hr ho6;have HO6:Hid (OwnF opF 9 33 w6 w.heap.size (.slice (some ⟨g5,0,none⟩) (j+1) cap5) (L'++[(⟨oc,on_,ok,op_,os,ol,otc,otn,oo⟩,(va,xm,vc))])):=ho6;clear ho4 ho6 hb5 hb6 hkp hoy hb4 HP ho HCp c0 c1 c2 c3 c4 c5 c6 c7 c8 hmap;go_wp2_with (at_builtin;refine wpList_append_hr rfl _ _ 43 rfl _ _ rfl rfl hr ?_);go_roundw
   case rel=>exact ⟨j+1,_,by go_num,by omega,by simp [hLl],HO6.out,HFIN,hb7⟩
   case measure=>simp [RowKit.intOf];omega
  ·obtain rfl:j=m:=by omega
   obtain ⟨ao,co,rfl⟩:=ho.shape;rw [hLl] at ho ⊢;have HO:Hid (OwnF opF 9 33 wr w.heap.size (.slice ao j co) L'):=ho;have HF:Hid (L'.map (·.1)=L.map (·.1)∧OwnRs wr w.heap.size L'):=⟨by rw [HP.out.1,List.take_of_length_le (by omega)],HP.out.2⟩;have b1:decide ((j:Int)<(j:Int))=false:=decide_eq_false (by omega);clear ho HP;go_wp2_with fail;go_ret;exact ⟨_,_,rfl,L',HO.out,HF.out.1,HF.out.2,hb⟩
def RunIn (W:World) (a:Option Addr) (n cap:Nat) (L:List OpV):Prop:=∃ L',L'.map (·.1)=L∧(∃ B,OwnF opF 9 33 W B (.slice a n cap) L')∧∀ x∈L',Rdy W x
theorem RunIn.below {W W':World} {a:Option Addr} {n cap:Nat} {L:List OpV} (h:RunIn W a n cap L) (hb:Below W.heap.size W W'):RunIn W' a n cap L:=by
 obtain ⟨L',h1,⟨B,h2⟩,h3⟩:=h;exact ⟨L',h1,⟨B,h2.below hb⟩,fun x hx=>(h3 x hx).below hb⟩
theorem run_copied {w:World} {a:Option Addr} {m cap:Nat} {L:List OpM} (h:Rw opF 9 w a m cap L) (hL:∀ x∈L,OpOk w x) (hm:m≤1048576) :
  Calls Tryz.prog 54 #[.slice a m cap] w fun e w'=>∃ va vc,e=.returned (.slice va m vc)∧RunIn w' va m vc (L.map (·.1))∧Below w.heap.size w w' :=
 (copyRun_any h (fun x hx=>opOk_rdy (hL x hx)) hm).mono fun e w' ⟨va,vc,L',he,ho,hl,hr,hb⟩=>⟨va,vc,he,⟨L',hl,⟨_,ho⟩,fun x hx=>by
  have h1:x.1∈L.map (·.1):=by rw [← hl];exact List.mem_map_of_mem hx
  obtain ⟨y,hy,e1⟩:=List.mem_map.1 h1
  have h2:=opOk_rdy (hL y hy)
  exact ⟨rng_of_rw ((hr x hx).rw_ layG),by rw [← e1];exact h2.few,by rw [← e1];exact h2.size⟩⟩,hb⟩
theorem runs_4 {x:XOp} {w:World} (hx:XOk w x) (hk1:x.k=4) (hw:Bar w) :
  Calls Tryz.prog 32 #[.agg (xopF x).toArray] w fun e w'=>e=.returned (.bool true)∧Below w.heap.size w w':=by
 obtain ⟨h1,-,hrow,hops,-,-,hfew⟩:=hx;obtain ⟨k1,o1,a1,m1,c1,o2,a2,m2,cp2,ra,rm,rc,R,sa,sm,sc,S,e,N,M⟩:=x;simp only at hk1;subst hk1;simp only at h1 hrow hops hfew;have HC1:Hid (∀ W,Below w.heap.size w W→Calls Tryz.prog 26 #[opVal o1 (.slice a1 m1 c1)] W fun e w'=>∃ a' cap',e=.returned (opVal o1 (.slice a' m1 cap'))∧OwnF rangeV 2 94 w' W.heap.size (.slice a' m1 cap') o1.l∧Below W.heap.size W w'):=fun W hb=>copy_any (h1.1.below hb) (by have:=h1.2.1;simp only at this;omega)
 have HCR:Hid (∀ W,Below w.heap.size w W→Calls Tryz.prog 54 #[.slice ra rm rc] W fun e w'=>∃ va vc,e=.returned (.slice va rm vc)∧RunIn w' va rm vc (R.map (·.1))∧Below W.heap.size W w'):=fun W hb=>run_copied (hrow.below hb) (fun x hx=>(hops x hx).below hb) hfew.1
 obtain ⟨⟨⟨c3,n3,k3,p3,s3,l3,tc3,tn3,on3⟩,z3⟩,hq⟩:∃ q,xOver o1 e (R.map (·.1))=q:=⟨_,rfl⟩;have HI:Hid (∀ (W:World) y1 z1 y3 z3_,Below w.heap.size w W→Rw rangeV 2 W y1 m1 z1 o1.l→RunIn W y3 rm z3_ (R.map (·.1))→Calls Tryz.prog 14 #[opVal o1 (.slice y1 m1 z1),.bool e,.slice y3 rm z3_] W fun e w'=>∃ va vm vc,e=.returned (.tuple #[opVal ⟨c3,n3,k3,p3,s3,l3,tc3,tn3,on3⟩ (.slice va vm vc),.int .i64 z3])∧OwnF rangeV 2 94 w' W.heap.size (.slice va vm vc) l3∧Below W.heap.size W w'):=fun W y1 z1 y3 z3_ hb r1 r2=>by
  obtain ⟨L',hl,⟨B,ho⟩,hr⟩:=r2;have h1r:=opOk_rdy h1;have:=Over_any (o:=o1) (a:=y1) (m:=m1) (cap:=z1) (ear:=e) ⟨rng_of_rw r1,h1r.few,h1r.size⟩ (ho.rw_ layO) hr hfew.1 (hw.below hb);rw [hl,hq] at this;exact this
 have HG:Hid (∀ (W:World),Below w.heap.size w W→Calls Tryz.prog 55 #[opVal o1 (.slice a1 m1 c1),.bool e,.slice ra rm rc] W fun e w'=>∃ va vm vc,e=.returned (.tuple #[opVal ⟨c3,n3,k3,p3,s3,l3,tc3,tn3,on3⟩ (.slice va vm vc),.int .i64 z3])∧OwnF rangeV 2 94 w' W.heap.size (.slice va vm vc) l3∧Below W.heap.size W w'):=fun W hb=>by
  have:=gOver_any (ear:=e) (h1.below hb) (hrow.below hb) (fun x hx=>(hops x hx).below hb);rw [hq] at this;exact this
 clear hq h1 hw hrow hops hfew;generalize R.map (·.1)=RL at *;obtain ⟨c,n,k,p,s,l1,tc,tn,on⟩:=o1;obtain ⟨c2,n2,k2,p2,s2,l2,tc2,tn2,on2⟩:=o2;simp only [opVal,xopF] at *;obtain ⟨W0,hW0⟩:∃ W0,w.alloc (Obj.cells #[.int .i64 4,.int .i64 c,.int .i64 n,.int .i64 k,.int .i64 p,.string s,.slice a1 m1 c1,.int .i64 tc,.int .i64 tn,.bool on,.int .i64 c2,.int .i64 n2,.int .i64 k2,.int .i64 p2,.string s2,.slice a2 m2 cp2,.int .i64 tc2,.int .i64 tn2,.bool on2,.slice ra rm rc,.slice sa sm sc,.bool e,.int .i64 N,.int .i64 M] 45)=W0:=⟨_,rfl⟩;have hX0:W0.heap[w.heap.size]?=some (Obj.cells #[.int .i64 4,.int .i64 c,.int .i64 n,.int .i64 k,.int .i64 p,.string s,.slice a1 m1 c1,.int .i64 tc,.int .i64 tn,.bool on,.int .i64 c2,.int .i64 n2,.int .i64 k2,.int .i64 p2,.string s2,.slice a2 m2 cp2,.int .i64 tc2,.int .i64 tn2,.bool on2,.slice ra rm rc,.slice sa sm sc,.bool e,.int .i64 N,.int .i64 M] 45):=by rw [← hW0];exact heap_alloc_new _ _
 have hB0:Below w.heap.size w W0:=by rw [← hW0];exact (bE w.heap.size w).alloc (lR _) _
 have alt0:w.heap.size<W0.heap.size:=(gA hX0);obtain ⟨ax0,ax1,ax2,ax3,ax4,ax5,ax6,ax7,ax8,ax9,ax10,ax11,ax12,ax13,ax14,ax15,ax16,ax17,ax18,ax19,ax20,ax21,ax22,ax23⟩:=box24 hX0;go_enter Tryz.func32,Tryz.ntmps32;go_wp2_with fail;refine wp_region_held_drew (S:=(fun W=>W.cell? ⟨w.heap.size,1,none⟩=some (.int .i64 c)∧W.cell? ⟨w.heap.size,2,none⟩=some (.int .i64 n)∧W.cell? ⟨w.heap.size,3,none⟩=some (.int .i64 k)∧W.cell? ⟨w.heap.size,4,none⟩=some (.int .i64 p)∧W.cell? ⟨w.heap.size,5,none⟩=some (.string s)∧W.cell? ⟨w.heap.size,6,none⟩=some (.slice a1 m1 c1)∧W.cell? ⟨w.heap.size,7,none⟩=some (.int .i64 tc)∧W.cell? ⟨w.heap.size,8,none⟩=some (.int .i64 tn)∧W.cell? ⟨w.heap.size,9,none⟩=some (.bool on)∧W.cell? ⟨w.heap.size,19,none⟩=some (.slice ra rm rc)∧W.cell? ⟨w.heap.size,21,none⟩=some (.bool e))) (by kernel_rfl) ?hS56 (fun hHeld=>?rest56)
 case hS56=>(have q:=box24 hX0;exact ⟨q.2.1,q.2.2.1,q.2.2.2.1,q.2.2.2.2.1,q.2.2.2.2.2.1,q.2.2.2.2.2.2.1,q.2.2.2.2.2.2.2.1,q.2.2.2.2.2.2.2.2.1,q.2.2.2.2.2.2.2.2.2.1,q.2.2.2.2.2.2.2.2.2.2.2.2.2.2.2.2.2.2.2.1,q.2.2.2.2.2.2.2.2.2.2.2.2.2.2.2.2.2.2.2.2.2.1⟩)
 obtain ⟨u0,hu0⟩:∃ V,World.drew W0=V:=⟨_,rfl⟩;rw [hu0];have hX0:u0.heap[w.heap.size]?=some (Obj.cells #[.int .i64 4,.int .i64 c,.int .i64 n,.int .i64 k,.int .i64 p,.string s,.slice a1 m1 c1,.int .i64 tc,.int .i64 tn,.bool on,.int .i64 c2,.int .i64 n2,.int .i64 k2,.int .i64 p2,.string s2,.slice a2 m2 cp2,.int .i64 tc2,.int .i64 tn2,.bool on2,.slice ra rm rc,.slice sa sm sc,.bool e,.int .i64 N,.int .i64 M] 45):=by rw [← hu0];exact hX0
 have hB0:Below w.heap.size w u0:=by rw [← hu0];exact hB0.drew
 have alt0:w.heap.size<u0.heap.size:=by rw [← hu0];exact alt0
 rw [hu0] at hHeld;clear hu0;refine tD 0 (some 22) ?_
 try simp only [putS]
 refine tD 1 (some 23) ?_
 try simp only [putS]
 refine tD 3 (some 25) ?_
 try simp only [putS]
 refine tD 4 (some 26) ?_
 try simp only [putS]
 refine tD 5 (some 27) ?_
 try simp only [putS]
 refine tD 6 (some 28) ?_
 try simp only [putS]
 refine wpAnyH_ready (rs:=[2,12]) (by kernel_rfl) (by simp) ?_;refine AllReadyH.cons rfl (fun K hK=>?b63_0) (AllReadyH.cons rfl (fun K hK=>?b63_1) (AllReadyH.nil))
 case' b63_0 =>
  go_simp;refine (HC1.out _ hB0).mono ?_;rintro e2 u1 ⟨y1,z1,rfl,ho1,hb⟩;have hX1:=(hb.block _ alt0).trans hX0;have hB1:=hB0.trans (hb.mono hB0.size);have alt1:w.heap.size<u1.heap.size:=(gA hX1);have hr1:Rw rangeV 2 u1 y1 m1 z1 l1:=ho1.rw_ layG;clear ho1;clear hb;clear hHeld;refine hK.out _ _ ?hS64 (fun hHeld=>?rest64)
  case' hS64=>(have q:=box24 hX1;exact ⟨q.2.1,q.2.2.1,q.2.2.2.1,q.2.2.2.2.1,q.2.2.2.2.2.1,q.2.2.2.2.2.2.1,q.2.2.2.2.2.2.2.1,q.2.2.2.2.2.2.2.2.1,q.2.2.2.2.2.2.2.2.2.1,q.2.2.2.2.2.2.2.2.2.2.2.2.2.2.2.2.2.2.2.1,q.2.2.2.2.2.2.2.2.2.2.2.2.2.2.2.2.2.2.2.2.2.1⟩)
  clear hK K
  try simp only [putS]
  refine wpAnyH_ready (rs:=[7,12]) (by kernel_rfl) (by simp) ?_;refine AllReadyH.cons rfl (fun K hK=>?b65_0) (AllReadyH.cons rfl (fun K hK=>?b65_1) (AllReadyH.nil))
  case' b65_0 =>
   go_simp;refine (HCR.out _ hB1).mono ?_;rintro e2 u2 ⟨y3,x3,rfl,hrn,hb⟩;have hX2:=(hb.block _ alt1).trans hX1;have hB2:=hB1.trans (hb.mono hB1.size);have alt2:w.heap.size<u2.heap.size:=(gA hX2);have hr1:=hr1.below hb;clear hb;clear hHeld;refine hK.out _ _ ?hS66 (fun hHeld=>?rest66)
   case' hS66=>(have q:=box24 hX2;exact ⟨q.2.1,q.2.2.1,q.2.2.2.1,q.2.2.2.2.1,q.2.2.2.2.2.1,q.2.2.2.2.2.2.1,q.2.2.2.2.2.2.2.1,q.2.2.2.2.2.2.2.2.1,q.2.2.2.2.2.2.2.2.2.1,q.2.2.2.2.2.2.2.2.2.2.2.2.2.2.2.2.2.2.2.1,q.2.2.2.2.2.2.2.2.2.2.2.2.2.2.2.2.2.2.2.2.2.1⟩)
   clear hK K
   try simp only [putS]
   refine wpAnyH_ready (rs:=[8,12]) (by kernel_rfl) (by simp) ?_;refine AllReadyH.cons rfl (fun K hK=>?b67_0) (AllReadyH.cons rfl (fun K hK=>?b67_1) (AllReadyH.nil))
   case' b67_0 =>
    go_simp;refine (HI.out _ _ _ _ _ hB2 hr1 hrn).mono ?_;rintro e2 u3 ⟨va,vm,vc,rfl,ho3,hb⟩;have hX3:=(hb.block _ alt2).trans hX2;have hB3:=hB2.trans (hb.mono hB2.size);have alt3:w.heap.size<u3.heap.size:=(gA hX3);have hr1:=hr1.below hb;have hrn:=hrn.below hb;clear hb;clear hHeld;refine hK.out _ _ ?hS68 (fun hHeld=>?rest68)
    case' hS68=>(have q:=box24 hX3;exact ⟨q.2.1,q.2.2.1,q.2.2.2.1,q.2.2.2.2.1,q.2.2.2.2.2.1,q.2.2.2.2.2.2.1,q.2.2.2.2.2.2.2.1,q.2.2.2.2.2.2.2.2.1,q.2.2.2.2.2.2.2.2.2.1,q.2.2.2.2.2.2.2.2.2.2.2.2.2.2.2.2.2.2.2.1,q.2.2.2.2.2.2.2.2.2.2.2.2.2.2.2.2.2.2.2.2.2.1⟩)
    clear hK K
    try simp only [putS]
    refine tD 9 (some 21) ?_
    try simp only [putS]
    refine tD 10 (some 31) ?_
    try simp only [putS]
    refine tD 11 (some 32) ?_
    try simp only [putS]
    refine wpAnyH_ready (rs:=[12]) (by kernel_rfl) (by simp) ?_;refine AllReadyH.cons rfl (fun K hK=>?_) AllReadyH.nil;go_simp;obtain ⟨u4,hv⟩:∃ V,u3.alloc (Obj.cells #[.int .i64 0,.int .i64 0,.int .i64 0,.int .i64 0,.string ⟨#[]⟩,.slice none 0 0,.int .i64 0,.int .i64 0,.bool false] 33)=V:=⟨_,rfl⟩;have hb:Below u3.heap.size u3 u4:=by rw [← hv];exact (bE _ _).alloc (lR _) _
    have hX4:=(hb.block _ alt3).trans hX3;have hB4:=hB3.trans (hb.mono hB3.size);have alt4:w.heap.size<u4.heap.size:=(gA hX4);have hr1:=hr1.below hb;have hrn:=hrn.below hb;have ho3:=ho3.below hb;have hbx:u4.heap[u3.heap.size]?=some (Obj.cells #[.int .i64 0,.int .i64 0,.int .i64 0,.int .i64 0,.string ⟨#[]⟩,.slice none 0 0,.int .i64 0,.int .i64 0,.bool false] 33):=by rw [← hv];exact heap_alloc_new _ _
    have hbxlo:w.heap.size<u3.heap.size:=alt3;rw [hv];generalize u3.heap.size=hbxx at *;clear hb hv;clear hHeld;refine hK.out _ _ ?hS72 (fun hHeld=>?rest72)
    case' hS72=>(have q:=box24 hX4;exact ⟨q.2.1,q.2.2.1,q.2.2.2.1,q.2.2.2.2.1,q.2.2.2.2.2.1,q.2.2.2.2.2.2.1,q.2.2.2.2.2.2.2.1,q.2.2.2.2.2.2.2.2.1,q.2.2.2.2.2.2.2.2.2.1,q.2.2.2.2.2.2.2.2.2.2.2.2.2.2.2.2.2.2.2.1,q.2.2.2.2.2.2.2.2.2.2.2.2.2.2.2.2.2.2.2.2.2.1⟩)
    clear hK K
    try simp only [putS]
    obtain ⟨u9,e9,hx9,hB9,hK9⟩:=store9 hbx hB4 (Nat.le_of_lt hbxlo) (.int .i64 c3) (.int .i64 n3) (.int .i64 k3) (.int .i64 p3) (.string s3) (.slice va vm vc) (.int .i64 tc3) (.int .i64 tn3) (.bool on3);obtain ⟨d0,d1,d2,d3,d4,d5,d6,d7,d8⟩:=box9 hbx;obtain ⟨dz0,dz1,dz2,dz3,dz4,dz5,dz6,dz7,dz8⟩:=wr9 hbx;have hX9:=hK9.block hX4 (by omega);have ho9:=own_type ho3 hbx (by decide) hK9;refine wpAnyH_ready (rs:=[13]) (by kernel_rfl) (by simp) ?_;refine AllReadyH.cons rfl (fun K hK=>?_) AllReadyH.nil;go_simp
    try rw [e9]
    clear hHeld;refine hK.out _ _ ?hS73 (fun hHeld=>?rest73)
    case' hS73=>(have q:=box24 hX9;exact ⟨q.2.1,q.2.2.1,q.2.2.2.1,q.2.2.2.2.1,q.2.2.2.2.2.1,q.2.2.2.2.2.2.1,q.2.2.2.2.2.2.2.1,q.2.2.2.2.2.2.2.2.1,q.2.2.2.2.2.2.2.2.2.1,q.2.2.2.2.2.2.2.2.2.2.2.2.2.2.2.2.2.2.2.1,q.2.2.2.2.2.2.2.2.2.2.2.2.2.2.2.2.2.2.2.2.2.1⟩)
    clear hK K
    try simp only [putS]
    refine tD 14 (some 4) ?_
    try simp only [putS]
    refine wpAnyH_done (by kernel_rfl) ?_ _
   case' b67_1 =>
    go_simp;obtain ⟨u3,hv⟩:∃ V,u2.alloc (Obj.cells #[.int .i64 0,.int .i64 0,.int .i64 0,.int .i64 0,.string ⟨#[]⟩,.slice none 0 0,.int .i64 0,.int .i64 0,.bool false] 33)=V:=⟨_,rfl⟩;have hb:Below u2.heap.size u2 u3:=by rw [← hv];exact (bE _ _).alloc (lR _) _
    have hX3:=(hb.block _ alt2).trans hX2;have hB3:=hB2.trans (hb.mono hB2.size);have alt3:w.heap.size<u3.heap.size:=(gA hX3);have hr1:=hr1.below hb;have hrn:=hrn.below hb;have hbx:u3.heap[u2.heap.size]?=some (Obj.cells #[.int .i64 0,.int .i64 0,.int .i64 0,.int .i64 0,.string ⟨#[]⟩,.slice none 0 0,.int .i64 0,.int .i64 0,.bool false] 33):=by rw [← hv];exact heap_alloc_new _ _
    have hbxlo:w.heap.size<u2.heap.size:=alt2;rw [hv];generalize u2.heap.size=hbxx at *;clear hb hv;clear hHeld;refine hK.out _ _ ?hS75 (fun hHeld=>?rest75)
    case' hS75=>(have q:=box24 hX3;exact ⟨q.2.1,q.2.2.1,q.2.2.2.1,q.2.2.2.2.1,q.2.2.2.2.2.1,q.2.2.2.2.2.2.1,q.2.2.2.2.2.2.2.1,q.2.2.2.2.2.2.2.2.1,q.2.2.2.2.2.2.2.2.2.1,q.2.2.2.2.2.2.2.2.2.2.2.2.2.2.2.2.2.2.2.1,q.2.2.2.2.2.2.2.2.2.2.2.2.2.2.2.2.2.2.2.2.2.1⟩)
    clear hK K
    try simp only [putS]
    refine wpAnyH_ready (rs:=[8]) (by kernel_rfl) (by simp) ?_;refine AllReadyH.cons rfl (fun K hK=>?_) AllReadyH.nil;go_simp;refine (HI.out _ _ _ _ _ hB3 hr1 hrn).mono ?_;rintro e2 u4 ⟨va,vm,vc,rfl,ho3,hb⟩;have hX4:=(hb.block _ alt3).trans hX3;have hB4:=hB3.trans (hb.mono hB3.size);have alt4:w.heap.size<u4.heap.size:=(gA hX4);have hbx:=(hb.block _ (gA hbx)).trans hbx;have hr1:=hr1.below hb;have hrn:=hrn.below hb;clear hb;clear hHeld;refine hK.out _ _ ?hS76 (fun hHeld=>?rest76)
    case' hS76=>(have q:=box24 hX4;exact ⟨q.2.1,q.2.2.1,q.2.2.2.1,q.2.2.2.2.1,q.2.2.2.2.2.1,q.2.2.2.2.2.2.1,q.2.2.2.2.2.2.2.1,q.2.2.2.2.2.2.2.2.1,q.2.2.2.2.2.2.2.2.2.1,q.2.2.2.2.2.2.2.2.2.2.2.2.2.2.2.2.2.2.2.1,q.2.2.2.2.2.2.2.2.2.2.2.2.2.2.2.2.2.2.2.2.2.1⟩)
    clear hK K
    try simp only [putS]
    refine tD 9 (some 21) ?_
    try simp only [putS]
    refine tD 10 (some 31) ?_
    try simp only [putS]
    refine tD 11 (some 32) ?_
    try simp only [putS]
    obtain ⟨u9,e9,hx9,hB9,hK9⟩:=store9 hbx hB4 (Nat.le_of_lt hbxlo) (.int .i64 c3) (.int .i64 n3) (.int .i64 k3) (.int .i64 p3) (.string s3) (.slice va vm vc) (.int .i64 tc3) (.int .i64 tn3) (.bool on3);obtain ⟨d0,d1,d2,d3,d4,d5,d6,d7,d8⟩:=box9 hbx;obtain ⟨dz0,dz1,dz2,dz3,dz4,dz5,dz6,dz7,dz8⟩:=wr9 hbx;have hX9:=hK9.block hX4 (by omega);have ho9:=own_type ho3 hbx (by decide) hK9;refine wpAnyH_ready (rs:=[13]) (by kernel_rfl) (by simp) ?_;refine AllReadyH.cons rfl (fun K hK=>?_) AllReadyH.nil;go_simp
    try rw [e9]
    clear hHeld;refine hK.out _ _ ?hS80 (fun hHeld=>?rest80)
    case' hS80=>(have q:=box24 hX9;exact ⟨q.2.1,q.2.2.1,q.2.2.2.1,q.2.2.2.2.1,q.2.2.2.2.2.1,q.2.2.2.2.2.2.1,q.2.2.2.2.2.2.2.1,q.2.2.2.2.2.2.2.2.1,q.2.2.2.2.2.2.2.2.2.1,q.2.2.2.2.2.2.2.2.2.2.2.2.2.2.2.2.2.2.2.1,q.2.2.2.2.2.2.2.2.2.2.2.2.2.2.2.2.2.2.2.2.2.1⟩)
    clear hK K
    try simp only [putS]
    refine tD 14 (some 4) ?_
    try simp only [putS]
    refine wpAnyH_done (by kernel_rfl) ?_ _
  case' b65_1 =>
   go_simp;obtain ⟨u2,hv⟩:∃ V,u1.alloc (Obj.cells #[.int .i64 0,.int .i64 0,.int .i64 0,.int .i64 0,.string ⟨#[]⟩,.slice none 0 0,.int .i64 0,.int .i64 0,.bool false] 33)=V:=⟨_,rfl⟩;have hb:Below u1.heap.size u1 u2:=by rw [← hv];exact (bE _ _).alloc (lR _) _
   have hX2:=(hb.block _ alt1).trans hX1;have hB2:=hB1.trans (hb.mono hB1.size);have alt2:w.heap.size<u2.heap.size:=(gA hX2);have hr1:=hr1.below hb;have hbx:u2.heap[u1.heap.size]?=some (Obj.cells #[.int .i64 0,.int .i64 0,.int .i64 0,.int .i64 0,.string ⟨#[]⟩,.slice none 0 0,.int .i64 0,.int .i64 0,.bool false] 33):=by rw [← hv];exact heap_alloc_new _ _
   have hbxlo:w.heap.size<u1.heap.size:=alt1;rw [hv];generalize u1.heap.size=hbxx at *;clear hb hv;clear hHeld;refine hK.out _ _ ?hS82 (fun hHeld=>?rest82)
   case' hS82=>(have q:=box24 hX2;exact ⟨q.2.1,q.2.2.1,q.2.2.2.1,q.2.2.2.2.1,q.2.2.2.2.2.1,q.2.2.2.2.2.2.1,q.2.2.2.2.2.2.2.1,q.2.2.2.2.2.2.2.2.1,q.2.2.2.2.2.2.2.2.2.1,q.2.2.2.2.2.2.2.2.2.2.2.2.2.2.2.2.2.2.2.1,q.2.2.2.2.2.2.2.2.2.2.2.2.2.2.2.2.2.2.2.2.2.1⟩)
   clear hK K
   try simp only [putS]
   refine wpAnyH_ready (rs:=[7]) (by kernel_rfl) (by simp) ?_;refine AllReadyH.cons rfl (fun K hK=>?_) AllReadyH.nil;go_simp;refine (HCR.out _ hB2).mono ?_;rintro e2 u3 ⟨y3,x3,rfl,hrn,hb⟩;have hX3:=(hb.block _ alt2).trans hX2;have hB3:=hB2.trans (hb.mono hB2.size);have alt3:w.heap.size<u3.heap.size:=(gA hX3);have hbx:=(hb.block _ (gA hbx)).trans hbx;have hr1:=hr1.below hb;clear hb;clear hHeld;refine hK.out _ _ ?hS83 (fun hHeld=>?rest83)
   case' hS83=>(have q:=box24 hX3;exact ⟨q.2.1,q.2.2.1,q.2.2.2.1,q.2.2.2.2.1,q.2.2.2.2.2.1,q.2.2.2.2.2.2.1,q.2.2.2.2.2.2.2.1,q.2.2.2.2.2.2.2.2.1,q.2.2.2.2.2.2.2.2.2.1,q.2.2.2.2.2.2.2.2.2.2.2.2.2.2.2.2.2.2.2.1,q.2.2.2.2.2.2.2.2.2.2.2.2.2.2.2.2.2.2.2.2.2.1⟩)
   clear hK K
   try simp only [putS]
   refine wpAnyH_ready (rs:=[8]) (by kernel_rfl) (by simp) ?_;refine AllReadyH.cons rfl (fun K hK=>?_) AllReadyH.nil;go_simp;refine (HI.out _ _ _ _ _ hB3 hr1 hrn).mono ?_;rintro e2 u4 ⟨va,vm,vc,rfl,ho3,hb⟩;have hX4:=(hb.block _ alt3).trans hX3;have hB4:=hB3.trans (hb.mono hB3.size);have alt4:w.heap.size<u4.heap.size:=(gA hX4);have hbx:=(hb.block _ (gA hbx)).trans hbx;have hr1:=hr1.below hb;have hrn:=hrn.below hb;clear hb;clear hHeld;refine hK.out _ _ ?hS84 (fun hHeld=>?rest84)
   case' hS84=>(have q:=box24 hX4;exact ⟨q.2.1,q.2.2.1,q.2.2.2.1,q.2.2.2.2.1,q.2.2.2.2.2.1,q.2.2.2.2.2.2.1,q.2.2.2.2.2.2.2.1,q.2.2.2.2.2.2.2.2.1,q.2.2.2.2.2.2.2.2.2.1,q.2.2.2.2.2.2.2.2.2.2.2.2.2.2.2.2.2.2.2.1,q.2.2.2.2.2.2.2.2.2.2.2.2.2.2.2.2.2.2.2.2.2.1⟩)
   clear hK K
   try simp only [putS]
   refine tD 9 (some 21) ?_
   try simp only [putS]
   refine tD 10 (some 31) ?_
   try simp only [putS]
   refine tD 11 (some 32) ?_
   try simp only [putS]
   obtain ⟨u9,e9,hx9,hB9,hK9⟩:=store9 hbx hB4 (Nat.le_of_lt hbxlo) (.int .i64 c3) (.int .i64 n3) (.int .i64 k3) (.int .i64 p3) (.string s3) (.slice va vm vc) (.int .i64 tc3) (.int .i64 tn3) (.bool on3);obtain ⟨d0,d1,d2,d3,d4,d5,d6,d7,d8⟩:=box9 hbx;obtain ⟨dz0,dz1,dz2,dz3,dz4,dz5,dz6,dz7,dz8⟩:=wr9 hbx;have hX9:=hK9.block hX4 (by omega);have ho9:=own_type ho3 hbx (by decide) hK9;refine wpAnyH_ready (rs:=[13]) (by kernel_rfl) (by simp) ?_;refine AllReadyH.cons rfl (fun K hK=>?_) AllReadyH.nil;go_simp
   try rw [e9]
   clear hHeld;refine hK.out _ _ ?hS88 (fun hHeld=>?rest88)
   case' hS88=>(have q:=box24 hX9;exact ⟨q.2.1,q.2.2.1,q.2.2.2.1,q.2.2.2.2.1,q.2.2.2.2.2.1,q.2.2.2.2.2.2.1,q.2.2.2.2.2.2.2.1,q.2.2.2.2.2.2.2.2.1,q.2.2.2.2.2.2.2.2.2.1,q.2.2.2.2.2.2.2.2.2.2.2.2.2.2.2.2.2.2.2.1,q.2.2.2.2.2.2.2.2.2.2.2.2.2.2.2.2.2.2.2.2.2.1⟩)
   clear hK K
   try simp only [putS]
   refine tD 14 (some 4) ?_
   try simp only [putS]
   refine wpAnyH_done (by kernel_rfl) ?_ _
 case' b63_1 =>
  go_simp;obtain ⟨u1,hv⟩:∃ V,u0.alloc (Obj.cells #[.int .i64 0,.int .i64 0,.int .i64 0,.int .i64 0,.string ⟨#[]⟩,.slice none 0 0,.int .i64 0,.int .i64 0,.bool false] 33)=V:=⟨_,rfl⟩;have hb:Below u0.heap.size u0 u1:=by rw [← hv];exact (bE _ _).alloc (lR _) _
  have hX1:=(hb.block _ alt0).trans hX0;have hB1:=hB0.trans (hb.mono hB0.size);have alt1:w.heap.size<u1.heap.size:=(gA hX1);have hbx:u1.heap[u0.heap.size]?=some (Obj.cells #[.int .i64 0,.int .i64 0,.int .i64 0,.int .i64 0,.string ⟨#[]⟩,.slice none 0 0,.int .i64 0,.int .i64 0,.bool false] 33):=by rw [← hv];exact heap_alloc_new _ _
  have hbxlo:w.heap.size<u0.heap.size:=alt0;rw [hv];generalize u0.heap.size=hbxx at *;clear hb hv;clear hHeld;refine hK.out _ _ ?hS90 (fun hHeld=>?rest90)
  case' hS90=>(have q:=box24 hX1;exact ⟨q.2.1,q.2.2.1,q.2.2.2.1,q.2.2.2.2.1,q.2.2.2.2.2.1,q.2.2.2.2.2.2.1,q.2.2.2.2.2.2.2.1,q.2.2.2.2.2.2.2.2.1,q.2.2.2.2.2.2.2.2.2.1,q.2.2.2.2.2.2.2.2.2.2.2.2.2.2.2.2.2.2.2.1,q.2.2.2.2.2.2.2.2.2.2.2.2.2.2.2.2.2.2.2.2.2.1⟩)
  clear hK K
  try simp only [putS]
  refine wpAnyH_ready (rs:=[2]) (by kernel_rfl) (by simp) ?_;refine AllReadyH.cons rfl (fun K hK=>?_) AllReadyH.nil;go_simp;refine (HC1.out _ hB1).mono ?_;rintro e2 u2 ⟨y1,z1,rfl,ho1,hb⟩;have hX2:=(hb.block _ alt1).trans hX1;have hB2:=hB1.trans (hb.mono hB1.size);have alt2:w.heap.size<u2.heap.size:=(gA hX2);have hbx:=(hb.block _ (gA hbx)).trans hbx;have hr1:Rw rangeV 2 u2 y1 m1 z1 l1:=ho1.rw_ layG;clear ho1;clear hb;clear hHeld;refine hK.out _ _ ?hS91 (fun hHeld=>?rest91)
  case' hS91=>(have q:=box24 hX2;exact ⟨q.2.1,q.2.2.1,q.2.2.2.1,q.2.2.2.2.1,q.2.2.2.2.2.1,q.2.2.2.2.2.2.1,q.2.2.2.2.2.2.2.1,q.2.2.2.2.2.2.2.2.1,q.2.2.2.2.2.2.2.2.2.1,q.2.2.2.2.2.2.2.2.2.2.2.2.2.2.2.2.2.2.2.1,q.2.2.2.2.2.2.2.2.2.2.2.2.2.2.2.2.2.2.2.2.2.1⟩)
  clear hK K
  try simp only [putS]
  refine wpAnyH_ready (rs:=[7]) (by kernel_rfl) (by simp) ?_;refine AllReadyH.cons rfl (fun K hK=>?_) AllReadyH.nil;go_simp;refine (HCR.out _ hB2).mono ?_;rintro e2 u3 ⟨y3,x3,rfl,hrn,hb⟩;have hX3:=(hb.block _ alt2).trans hX2;have hB3:=hB2.trans (hb.mono hB2.size);have alt3:w.heap.size<u3.heap.size:=(gA hX3);have hbx:=(hb.block _ (gA hbx)).trans hbx;have hr1:=hr1.below hb;clear hb;clear hHeld;refine hK.out _ _ ?hS92 (fun hHeld=>?rest92)
  case' hS92=>(have q:=box24 hX3;exact ⟨q.2.1,q.2.2.1,q.2.2.2.1,q.2.2.2.2.1,q.2.2.2.2.2.1,q.2.2.2.2.2.2.1,q.2.2.2.2.2.2.2.1,q.2.2.2.2.2.2.2.2.1,q.2.2.2.2.2.2.2.2.2.1,q.2.2.2.2.2.2.2.2.2.2.2.2.2.2.2.2.2.2.2.1,q.2.2.2.2.2.2.2.2.2.2.2.2.2.2.2.2.2.2.2.2.2.1⟩)
  clear hK K
  try simp only [putS]
  refine wpAnyH_ready (rs:=[8]) (by kernel_rfl) (by simp) ?_;refine AllReadyH.cons rfl (fun K hK=>?_) AllReadyH.nil;go_simp;refine (HI.out _ _ _ _ _ hB3 hr1 hrn).mono ?_;rintro e2 u4 ⟨va,vm,vc,rfl,ho3,hb⟩;have hX4:=(hb.block _ alt3).trans hX3;have hB4:=hB3.trans (hb.mono hB3.size);have alt4:w.heap.size<u4.heap.size:=(gA hX4);have hbx:=(hb.block _ (gA hbx)).trans hbx;have hr1:=hr1.below hb;have hrn:=hrn.below hb;clear hb;clear hHeld;refine hK.out _ _ ?hS93 (fun hHeld=>?rest93)
  case' hS93=>(have q:=box24 hX4;exact ⟨q.2.1,q.2.2.1,q.2.2.2.1,q.2.2.2.2.1,q.2.2.2.2.2.1,q.2.2.2.2.2.2.1,q.2.2.2.2.2.2.2.1,q.2.2.2.2.2.2.2.2.1,q.2.2.2.2.2.2.2.2.2.1,q.2.2.2.2.2.2.2.2.2.2.2.2.2.2.2.2.2.2.2.1,q.2.2.2.2.2.2.2.2.2.2.2.2.2.2.2.2.2.2.2.2.2.1⟩)
  clear hK K
  try simp only [putS]
  refine tD 9 (some 21) ?_
  try simp only [putS]
  refine tD 10 (some 31) ?_
  try simp only [putS]
  refine tD 11 (some 32) ?_
  try simp only [putS]
  obtain ⟨u9,e9,hx9,hB9,hK9⟩:=store9 hbx hB4 (Nat.le_of_lt hbxlo) (.int .i64 c3) (.int .i64 n3) (.int .i64 k3) (.int .i64 p3) (.string s3) (.slice va vm vc) (.int .i64 tc3) (.int .i64 tn3) (.bool on3);obtain ⟨d0,d1,d2,d3,d4,d5,d6,d7,d8⟩:=box9 hbx;obtain ⟨dz0,dz1,dz2,dz3,dz4,dz5,dz6,dz7,dz8⟩:=wr9 hbx;have hX9:=hK9.block hX4 (by omega);have ho9:=own_type ho3 hbx (by decide) hK9;refine wpAnyH_ready (rs:=[13]) (by kernel_rfl) (by simp) ?_;refine AllReadyH.cons rfl (fun K hK=>?_) AllReadyH.nil;go_simp
  try rw [e9]
  clear hHeld;refine hK.out _ _ ?hS97 (fun hHeld=>?rest97)
  case' hS97=>(have q:=box24 hX9;exact ⟨q.2.1,q.2.2.1,q.2.2.2.1,q.2.2.2.2.1,q.2.2.2.2.2.1,q.2.2.2.2.2.2.1,q.2.2.2.2.2.2.2.1,q.2.2.2.2.2.2.2.2.1,q.2.2.2.2.2.2.2.2.2.1,q.2.2.2.2.2.2.2.2.2.2.2.2.2.2.2.2.2.2.2.1,q.2.2.2.2.2.2.2.2.2.2.2.2.2.2.2.2.2.2.2.2.2.1⟩)
  clear hK K
  try simp only [putS]
  refine tD 14 (some 4) ?_
  try simp only [putS]
  refine wpAnyH_done (by kernel_rfl) ?_ _
 all_goals
  (try clear hr1)
  (try clear hrn)
  have HO9:Hid (OwnF rangeV 2 94 u9 _ (.slice va vm vc) l3):=ho9;clear hHeld ho9 ho3 HC1 HCR HI d0 d1 d2 d3 d4 d5 d6 d7 d8 dz0 dz1 dz2 dz3 dz4 dz5 dz6 dz7 dz8 ax0 ax1 ax2 ax3 ax4 ax5 ax6 ax7 ax8 ax9 ax10 ax11 ax12 ax13 ax14 ax15 ax16 ax17 ax18 ax19 ax20 ax21 ax22 ax23;obtain ⟨bx0,bx1,bx2,bx3,bx4,bx5,bx6,bx7,bx8,bx9,bx10,bx11,bx12,bx13,bx14,bx15,bx16,bx17,bx18,bx19,bx20,bx21,bx22,bx23⟩:=box24 hX9;obtain ⟨r0,r1,r2,r3,r4,r5,r6,r7,r8⟩:=box9 hx9;go_wp2_with fail;refine (HG.out _ hB9).mono ?_;rintro e2 v4 ⟨ya,ym,yc,rfl,ho4,hb4⟩;have hx4:=(hb4.block _ (gA hx9)).trans hx9;have hB4:=hB9.trans (hb4.mono hB9.size);have ho9:=HO9.out.below hb4;clear HG HO9 hX9 hx9 hB9 hb4 bx0 bx1 bx2 bx3 bx4 bx5 bx6 bx7 bx8 bx9 bx10 bx11 bx12 bx13 bx14 bx15 bx16 bx17 bx18 bx19 bx20 bx21 bx22 bx23 r0 r1 r2 r3 r4 r5 r6 r7 r8;obtain ⟨v5,hv5⟩:∃ V,v4.alloc (Obj.cells #[.int .i64 c3,.int .i64 n3,.int .i64 k3,.int .i64 p3,.string s3,.slice ya ym yc,.int .i64 tc3,.int .i64 tn3,.bool on3] 33)=V:=⟨_,rfl⟩;have hb5:Below v4.heap.size v4 v5:=by rw [← hv5];exact (bE _ _).alloc (lR _) _
  have hy5:v5.heap[v4.heap.size]?=some (Obj.cells #[.int .i64 c3,.int .i64 n3,.int .i64 k3,.int .i64 p3,.string s3,.slice ya ym yc,.int .i64 tc3,.int .i64 tn3,.bool on3] 33):=by rw [← hv5];exact heap_alloc_new _ _
  have hx5:=(hb5.block _ (gA hx4)).trans hx4;have hB5:=hB4.trans (hb5.mono hB4.size);have HON:=one_self (o:=⟨c3,n3,k3,p3,s3,l3,tc3,tn3,on3⟩) (z:=z3) (rng_of_rw ((ho9.below hb5).rw_ layG)) (rng_of_rw ((ho4.below hb5).rw_ layG));simp only [opVal] at HON;obtain ⟨r0,r1,r2,r3,r4,r5,r6,r7,r8⟩:=box9 hx5;obtain ⟨y0,y1,y2,y3,y4,y5,y6,y7,y8⟩:=box9 hy5;clear ho9 ho4 hx4 hB4 hb5;go_wp2_with fail;refine HON.mono ?_;rintro e2 v6 ⟨rfl,hb6⟩;have hB6:=hB5.trans (hb6.mono hB5.size);clear HON r0 r1 r2 r3 r4 r5 r6 r7 r8 y0 y1 y2 y3 y4 y5 y6 y7 y8 hb6;go_wp2_with fail;go_ret;exact ⟨rfl,hB6⟩
end Go.Proofs.YtmeciikfnbbllaaGreatDoor
