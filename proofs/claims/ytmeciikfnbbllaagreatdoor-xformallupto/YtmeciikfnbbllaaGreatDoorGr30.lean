import Derived.Test.YtmeciikfnbbllaaGreatDoorAl
import Derived.Test.YtmeciikfnbbllaaGreatDoorXmC
import Derived.Test.YtmeciikfnbbllaaGreatDoorGr70
import Derived.Test.YtmeciikfnbbllaaGreatDoorGr40
set_option maxHeartbeats 16000000
set_option maxRecDepth 100000
namespace Go.Proofs.YtmeciikfnbbllaaGreatDoor
open Go.RowKit Go.Lib
theorem runs_6 {x:XOp} {w:World} (hx:XOk w x) (hk1:x.k=6) (hw:Bar w) :
  Calls Tryz.prog 32 #[.agg (xopF x).toArray] w fun e w'=>e=.returned (.bool true)∧Below w.heap.size w w':=by
 obtain ⟨-,-,hrow,hops,-,-,hfew⟩:=hx;obtain ⟨k1,⟨c,n,k,p,s,l1,tc,tn,on⟩,a1,m1,c1,⟨c2,n2,k2,p2,s2,l2,tc2,tn2,on2⟩,a2,m2,cp2,ra,rm,rc,R,sa,sm,sc,S,e,N,M⟩:=x;simp only at hk1;subst hk1;simp only at hrow hops hfew;have HC1:Hid (∀ W,Below w.heap.size w W→Calls Tryz.prog 54 #[.slice ra rm rc] W fun e w'=>∃ va vc,e=.returned (.slice va rm vc)∧RunIn w' va rm vc (R.map (·.1))∧Below W.heap.size W w'):=fun W hb=>run_copied (hrow.below hb) (fun x hx=>(hops x hx).below hb) hfew.1
 have HG:Hid (∀ (W:World),Below w.heap.size w W→Calls Tryz.prog 60 #[.slice ra rm rc,.int .i64 N,.int .i64 M] W fun e w'=>AnsB W (xBring (R.map (·.1)) N M) e w'):=fun W hb=>gBring_any (hrow.below hb) (fun x hx=>(hops x hx).below hb) hfew.1 N M
 have HI:Hid (∀ (W:World) y1 z1,Below w.heap.size w W→RunIn W y1 rm z1 (R.map (·.1))→Calls Tryz.prog 59 #[.slice y1 rm z1,.int .i64 N,.int .i64 M] W fun e w'=>AnsB W (xBring (R.map (·.1)) N M) e w'):=fun W y1 z1 hb r1=>Bring_any r1 hfew.1 (hw.below hb) N M
 generalize R.map (·.1)=RL at *;obtain ⟨⟨Q1,z⟩,hq⟩:∃ q,xBring RL N M=q:=⟨_,rfl⟩;rw [hq] at HI HG;unfold AnsB at HI HG;have HN:Hid (∀ W,Calls Tryz.prog 11 #[.int .i64 z] W fun r w'=>r=.returned (.int .i64 z)∧W=w'):=fun W=>(num_any z W).mono fun e w' h=>⟨h.1,h.2.symm⟩
 clear hrow hops hfew hw hq;simp only [xopF] at *;obtain ⟨W0,hW0⟩:∃ W0,w.alloc (Obj.cells #[.int .i64 6,.int .i64 c,.int .i64 n,.int .i64 k,.int .i64 p,.string s,.slice a1 m1 c1,.int .i64 tc,.int .i64 tn,.bool on,.int .i64 c2,.int .i64 n2,.int .i64 k2,.int .i64 p2,.string s2,.slice a2 m2 cp2,.int .i64 tc2,.int .i64 tn2,.bool on2,.slice ra rm rc,.slice sa sm sc,.bool e,.int .i64 N,.int .i64 M] 45)=W0:=⟨_,rfl⟩;have hX0:W0.heap[w.heap.size]?=some (Obj.cells #[.int .i64 6,.int .i64 c,.int .i64 n,.int .i64 k,.int .i64 p,.string s,.slice a1 m1 c1,.int .i64 tc,.int .i64 tn,.bool on,.int .i64 c2,.int .i64 n2,.int .i64 k2,.int .i64 p2,.string s2,.slice a2 m2 cp2,.int .i64 tc2,.int .i64 tn2,.bool on2,.slice ra rm rc,.slice sa sm sc,.bool e,.int .i64 N,.int .i64 M] 45):=by rw [← hW0];exact heap_alloc_new _ _
 have hB0:Below w.heap.size w W0:=by rw [← hW0];exact (bE w.heap.size w).alloc (lR _) _
 have alt0:w.heap.size<W0.heap.size:=(gA hX0);obtain ⟨ax0,ax1,ax2,ax3,ax4,ax5,ax6,ax7,ax8,ax9,ax10,ax11,ax12,ax13,ax14,ax15,ax16,ax17,ax18,ax19,ax20,ax21,ax22,ax23⟩:=box24 hX0;go_enter Tryz.func32,Tryz.ntmps32;go_wp2_with fail;refine wp_region_held_drew (S:=(fun W=>W.cell? ⟨w.heap.size,19,none⟩=some (.slice ra rm rc)∧W.cell? ⟨w.heap.size,22,none⟩=some (.int .i64 N)∧W.cell? ⟨w.heap.size,23,none⟩=some (.int .i64 M))) (by kernel_rfl) ?hS13 (fun hHeld=>?rest13)
 case hS13=>(have q:=box24 hX0;exact ⟨q.2.2.2.2.2.2.2.2.2.2.2.2.2.2.2.2.2.2.2.1,q.2.2.2.2.2.2.2.2.2.2.2.2.2.2.2.2.2.2.2.2.2.2.1,q.2.2.2.2.2.2.2.2.2.2.2.2.2.2.2.2.2.2.2.2.2.2.2⟩)
 obtain ⟨u0,hu0⟩:∃ V,World.drew W0=V:=⟨_,rfl⟩;rw [hu0];have hX0:u0.heap[w.heap.size]?=some (Obj.cells #[.int .i64 6,.int .i64 c,.int .i64 n,.int .i64 k,.int .i64 p,.string s,.slice a1 m1 c1,.int .i64 tc,.int .i64 tn,.bool on,.int .i64 c2,.int .i64 n2,.int .i64 k2,.int .i64 p2,.string s2,.slice a2 m2 cp2,.int .i64 tc2,.int .i64 tn2,.bool on2,.slice ra rm rc,.slice sa sm sc,.bool e,.int .i64 N,.int .i64 M] 45):=by rw [← hu0];exact hX0
 have hB0:Below w.heap.size w u0:=by rw [← hu0];exact hB0.drew
 have alt0:w.heap.size<u0.heap.size:=by rw [← hu0];exact alt0
 rw [hu0] at hHeld;clear hu0;refine tD 0 (some 85) ?_
 try simp only [putS]
 refine tD 1 (some 86) ?_
 try simp only [putS]
 refine tD 3 (some 88) ?_
 try simp only [putS]
 refine tD 4 (some 89) ?_
 try simp only [putS]
 refine tD 5 (some 90) ?_
 try simp only [putS]
 refine tD 6 (some 91) ?_
 try simp only [putS]
 refine wpAnyH_ready (rs:=[2]) (by kernel_rfl) (by simp) ?_;refine AllReadyH.cons rfl (fun K hK=>?_) AllReadyH.nil;go_simp;refine (HC1.out _ hB0).mono ?_;rintro e2 u1 ⟨y1,z1,rfl,hrn,hb⟩;have hX1:=(hb.block _ alt0).trans hX0;have hB1:=hB0.trans (hb.mono hB0.size);have alt1:w.heap.size<u1.heap.size:=(gA hX1);clear hb;clear hHeld;refine hK.out _ _ ?hS20 (fun hHeld=>?rest20)
 case' hS20=>(have q:=box24 hX1;exact ⟨q.2.2.2.2.2.2.2.2.2.2.2.2.2.2.2.2.2.2.2.1,q.2.2.2.2.2.2.2.2.2.2.2.2.2.2.2.2.2.2.2.2.2.2.1,q.2.2.2.2.2.2.2.2.2.2.2.2.2.2.2.2.2.2.2.2.2.2.2⟩)
 clear hK K
 try simp only [putS]
 refine wpAnyH_ready (rs:=[7]) (by kernel_rfl) (by simp) ?_;refine AllReadyH.cons rfl (fun K hK=>?_) AllReadyH.nil;go_simp;refine (HI.out _ _ _ hB1 hrn).mono ?_;rintro e2 u2 ⟨u1_,m1_,x1,rfl,hq1,hb⟩;have hX2:=(hb.block _ alt1).trans hX1;have hB2:=hB1.trans (hb.mono hB1.size);have alt2:w.heap.size<u2.heap.size:=(gA hX2);have hrn:=hrn.below hb;clear hb;clear hHeld;refine hK.out _ _ ?hS21 (fun hHeld=>?rest21)
 case' hS21=>(have q:=box24 hX2;exact ⟨q.2.2.2.2.2.2.2.2.2.2.2.2.2.2.2.2.2.2.2.1,q.2.2.2.2.2.2.2.2.2.2.2.2.2.2.2.2.2.2.2.2.2.2.1,q.2.2.2.2.2.2.2.2.2.2.2.2.2.2.2.2.2.2.2.2.2.2.2⟩)
 clear hK K
 try simp only [putS]
 refine tD 8 (some 84) ?_
 try simp only [putS]
 refine tD 9 (some 93) ?_
 try simp only [putS]
 refine tD 10 (some 94) ?_
 try simp only [putS]
 refine tD 11 (some 13) ?_
 try simp only [putS]
 refine tD 12 (some 14) ?_
 try simp only [putS]
 refine wpAnyH_done (by kernel_rfl) ?_ _;have HQ:Hid (RunIn u2 u1_ m1_ x1 Q1):=hq1;clear hHeld HC1 HI hrn hq1 ax0 ax1 ax2 ax3 ax4 ax5 ax6 ax7 ax8 ax9 ax10 ax11 ax12 ax13 ax14 ax15 ax16 ax17 ax18 ax19 ax20 ax21 ax22 ax23;obtain ⟨bx0,bx1,bx2,bx3,bx4,bx5,bx6,bx7,bx8,bx9,bx10,bx11,bx12,bx13,bx14,bx15,bx16,bx17,bx18,bx19,bx20,bx21,bx22,bx23⟩:=box24 hX2;go_wp2_with fail;refine (HG.out _ hB2).mono ?_;rintro e2 v4 ⟨y1,n1_,q1,rfl,ho1,hb4⟩;have hB4:=hB2.trans (hb4.mono hB2.size);have HS1:Hid (∀ W,Below v4.heap.size v4 W→Calls Tryz.prog 58 #[.slice u1_ m1_ x1,.slice y1 n1_ q1] W fun e w'=>e=.returned (.bool true)∧Below W.heap.size W w'):=fun W hb=>sameRun_self ((HQ.out.below hb4).below hb) (ho1.below hb)
 clear HG HQ ho1 hb4 hX2 bx0 bx1 bx2 bx3 bx4 bx5 bx6 bx7 bx8 bx9 bx10 bx11 bx12 bx13 bx14 bx15 bx16 bx17 bx18 bx19 bx20 bx21 bx22 bx23;go_wp2_with fail;refine (HN.out _).mono ?_;rintro e2 v5 ⟨rfl,rfl⟩;go_wp2_with fail;refine (HS1.out _ (bE _ _)).mono ?_;rintro e2 v6 ⟨rfl,hb6⟩;have hB6:=hB4.trans (hb6.mono hB4.size);clear HS1 HN hb6;go_wp2_with fail;go_ret;exact ⟨rfl,hB6⟩
theorem plays_runs {x:XOp} {w:World} (hk:x.k=4∨x.k=5∨x.k=6)
  (HR:∀ W,Below w.heap.size w W→Calls Tryz.prog 32 #[.agg (xopF x).toArray] W fun e w'=>e=.returned (.bool true)∧Below W.heap.size W w') :
  Calls Tryz.prog 17 #[.agg (xopF x).toArray] w fun e w'=>e=.returned (.bool true)∧Below w.heap.size w w':=by
 obtain ⟨v1,v2,v3,v4,v5,v6,v7,v8,v9,v10,v11,v12,v13,v14,v15,v16,v17,v18,v19,v20,v21,v22,v23,hv⟩:=xopF_eq x;generalize x.k=K at *;have h1c:(Array.all ((xopF x).toArray) (fun v=>v.oneCell'))=true:=all_oneCell_toArray (layXo.one x);rw [hv] at HR h1c ⊢;have HRR:Hid (∀ W,Below w.heap.size w W→Calls Tryz.prog 32 #[.agg #[.int .i64 K,v1,v2,v3,v4,v5,v6,v7,v8,v9,v10,v11,v12,v13,v14,v15,v16,v17,v18,v19,v20,v21,v22,v23]] W fun e w'=>e=.returned (.bool true)∧Below W.heap.size W w'):=HR;have H1C:Hid ((Array.all (#[.int .i64 K,v1,v2,v3,v4,v5,v6,v7,v8,v9,v10,v11,v12,v13,v14,v15,v16,v17,v18,v19,v20,v21,v22,v23]) (fun v=>v.oneCell'))=true):=h1c;clear HR h1c hv;obtain ⟨X1,hX1⟩:∃ V,w.alloc (Obj.cells #[.int .i64 K,v1,v2,v3,v4,v5,v6,v7,v8,v9,v10,v11,v12,v13,v14,v15,v16,v17,v18,v19,v20,v21,v22,v23] 45)=V:=⟨_,rfl⟩;have hB1:Below w.heap.size w X1:=hX1▸(bE w.heap.size w).alloc (lR _) _;have hb1:X1.heap[w.heap.size]?=some (.cells #[.int .i64 K,v1,v2,v3,v4,v5,v6,v7,v8,v9,v10,v11,v12,v13,v14,v15,v16,v17,v18,v19,v20,v21,v22,v23] 45):=hX1▸heap_alloc_new _ _;have HBX:Hid (X1.rangeAt w.heap.size 0 [.int .i64 K,v1,v2,v3,v4,v5,v6,v7,v8,v9,v10,v11,v12,v13,v14,v15,v16,v17,v18,v19,v20,v21,v22,v23]):=range_blockX hb1;have x0:X1.cell? ⟨w.heap.size,0,none⟩=some (.int .i64 K):=by rw [cH hb1];rfl
 clear hb1;go_enter Tryz.func17,Tryz.ntmps17;rcases hk with rfl|rfl|rfl
 all_goals
  go_wp2_with (first|refine wpList_load_mid rfl 45 _ rfl w.heap.size 0 rfl _ _ HBX.out Tryz.underlying45 rfl (by kernel_rfl) ?_|fail);refine (HRR.out _ hB1).mono ?_;rintro e w2 ⟨rfl,hb2⟩;have hB2:=hB1.trans (hb2.mono hB1.size);clear hb2 HBX HRR x0 hB1 H1C;go_wp2_with fail;go_ret;exact ⟨rfl,hB2⟩
structure Scr (w:World) (a:Option Addr) (n cap:Nat) (L:List XOp):Prop where
 row:Rw xopF 24 w a n cap L
 ok:∀ x∈L,XOk w x
 bar:Bar w
theorem Scr.below {w W:World} {a:Option Addr} {n cap:Nat} {L:List XOp} (h:Scr w a n cap L) (hb:Below w.heap.size w W):Scr W a n cap L :=
 ⟨h.row.below hb,fun x hx=>(h.ok x hx).below hb,h.bar.below hb⟩
end Go.Proofs.YtmeciikfnbbllaaGreatDoor
