import Derived.Test.YtijpfbcippijoaaGreatDoorAl
import Derived.Test.YtijpfbcippijoaaGreatDoorGr116
import Derived.Test.YtijpfbcippijoaaGreatDoorGr137
import Derived.Sort.CutIn
import Derived.Sort.QuietTacIn
set_option maxHeartbeats 16000000
set_option maxRecDepth 100000
namespace Go.Proofs.YtijpfbcippijoaaGreatDoor
open Go.RowKit Go.Lib Go.Shelf Go.Sort
attribute [local go_sem] Oper.semAt_some
theorem encVs_pos {rs:List Int} (h:rs≠[]):0<(encVs rs).length:=by
 rw [encVs_bytes];cases rs with
 | nil=>exact absurd rfl h
 | cons r rs =>
  have:=encB_pos r;simp only [Lib.byteCells,encs_cons,List.map_append,List.length_append,List.length_map];omega
def gr (p:List Int×Int):GRun:=⟨strOf p.1,p.1,p.2⟩
def RunI (w:World) (s:RunSt) (W:World):Prop :=
 Lib.IsBuilderF 87 5 (w.heap.size+1) (w.heap.size+1) (encVs s.2.1) W∧W.heap[w.heap.size+1+1]?=some (.cells #[.int .i64 s.2.2] 3)∧(∃ v,W.heap[w.heap.size]?=some (.cells #[v] 35)∧OwnF runV 2 65 W (w.heap.size+1+1+1) v (s.1.map gr))∧Below w.heap.size w W∧∀ r∈s.2.1,okR r
theorem runI_keep {w:World} {B:Nat} (hB:w.heap.size≤B) {s:RunSt} {A C:World} {row:Option Nat} (h:RunI w s A) (hg:A.grownBy C row) (hr:∀ r,row=some r→B≤r∧∃ o:Obj,A.heap[r]?=some o∧o.isCells=false) (hA:w.heap.size≤A.heap.size):RunI w s C:=by
 obtain ⟨h1,h2,⟨v,h3,h4⟩,h5,h6⟩:=h
 have key:∀ (b:Nat) (cs:Array Value) (T:TypeId),A.heap[b]?=some (.cells cs T)→C.heap[b]?=some (.cells cs T):=fun b cs T hb=>(hg.block b (gA hb) (fun e=>by
  obtain ⟨_,o,ho,hc⟩:=hr b e.symm
  rw [hb] at ho
  cases ho
  simp [Obj.isCells] at hc)).trans hb
 refine ⟨isBuilderF_keep h1 hg (fun r e=>(hr r e).2),key _ _ _ h2,⟨v,key _ _ _ h3,ownF_keep h4 (fun g e=>?_)⟩,h5.grown hg hA (fun k e=>by have:=(hr k e).1;omega),h6⟩;obtain ⟨cs,fz,hh⟩:=ownF_type h4 e
 exact hg.block g (h4.lt e) (fun e2=>by
  obtain ⟨_,o,ho,hc⟩:=hr g e2.symm
  rw [hh] at ho
  cases ho
  simp [Obj.isCells] at hc)
theorem ropeRuns_any {w:World} {q:Nat} {t:Tr} (h:RopeAt w q t) (hR:t.Rp) (hO:Okl t.lv) :
  Calls Tryz.prog 13 #[.pointer (some ⟨q,0,none⟩)] w fun e w'=>∃ v,e=.returned v∧OwnF runV 2 65 w' w.heap.size v ((runsOfRow t.row).map gr)∧Below w.heap.size w w':=by
 refine (callsIn_wide (n:=6)).1 ?_;have hlen:=hR.len;have hsome:=hR.pcs.some_;have HGV:Hid (gv t.lv 0 0 (t.row.length:Int)=pls t.lv 0):=gv_whole t.lv 0 _ hsome (by omega) (by rw [← Tr.row_lv];omega);have hrow:rowOf t.lv=t.row:=(Tr.row_lv t).symm;have HT:Hid (∀ W,Below w.heap.size w W→Calls Tryz.prog 24 #[.pointer (some ⟨q,0,none⟩)] W fun e w'=>e=.returned (.int .i64 (t.row.length:Int))∧w'=W):=fun W hW=>ropeTotal_any (h.below hW)
 have HP:Hid (∀ W,Below w.heap.size w W→Calls Tryz.prog 29 #[.pointer (some ⟨q,0,none⟩),.int .i64 0,.int .i64 (t.row.length:Int)] W fun e w'=>∃ lb,e=.returned (.func (.func 68) #[] lb)∧Below W.heap.size W w' ∧
   ∀ n,SeqV Fence.wide n Tryz.prog 68 lb Pc.encs KpT Pc.V (fun xs=>xs.map Pc.dat=gv t.lv 0 0 (t.row.length:Int)) (fun xs=>xs.map Pc.dat <+: gv t.lv 0 0 (t.row.length:Int)) w'):=fun W hW=>pieces_any (h.below hW) hR hO 0 (t.row.length:Int)
 clear h hR hO;have HRW:Hid ((∀ p∈t.lv,p.1≠[])∧rowOf t.lv=t.row):=⟨hsome,hrow⟩;clear hsome hrow;generalize hN:t.row.length=N at *;refine callsIn_of_wp_marks Tryz.func13 rfl trivial ?_ rfl;simp only [Tryz.ntmps13,List.size_toArray,List.length_cons,List.length_nil,Nat.reduceAdd,Nat.reduceSub,Array.replicate_succ,Array.replicate_zero,List.push_toArray,List.append_toArray,List.nil_append,List.cons_append];gi_wp2;obtain ⟨wb,ewb⟩:∃ W,((w.alloc (.cells #[.slice none 0 0] 35)).alloc (.cells #[.pointer none,.slice none 0 0] 87)).alloc (.cells #[.int .i64 0] 3)=W:=⟨_,rfl⟩;have hbb:Below w.heap.size w wb:=ewb▸((((bE _ w).alloc (lR _) _).alloc (by simp) _).alloc (by simp;omega) _);have hI0:RunI w ([],[],0) wb:=by
  rw [← ewb];refine ⟨isBuilderF_below (by have:=isBuilderF_new (w.alloc (.cells #[.slice none 0 0] 35));rw [World.size_alloc] at this;exact this) ((bE _ _).alloc (lR _) _),?_,⟨.slice none 0 0,?_,ownF_nil _ _⟩,by rw [ewb];exact hbb,fun r hr=>by cases hr⟩
  ·simp only [World.alloc,Array.getElem?_push,Array.size_push];simp
  ·simp only [World.alloc,Array.getElem?_push,Array.size_push];rw [if_neg (by omega),if_neg (by omega),if_pos trivial]
 rw [ewb];refine ⟨trivial,(callsIn_wide.2 (HT.out _ hbb)).mono ?_⟩;rintro e w0 ⟨rfl,rfl⟩;gi_wp2;refine ⟨trivial,(callsIn_wide.2 (HP.out _ hbb)).mono ?_⟩;rintro e w1 ⟨lb,rfl,hb1,hseq⟩;have hB1:Below w.heap.size w w1:=hbb.trans (hb1.mono hbb.size);have hI1:RunI w ([],[],0) w1:=runI_keep (B:=w.heap.size) (lR _) hI0 (grown_of_below hb1) (fun r e=>by cases e) hbb.size;have hs1:w.heap.size+1+1<w1.heap.size:=(Array.getElem?_eq_some_iff.1 hI1.2.1).1;clear hI0 hb1 ewb;gi_wp2
 refine rangeV (α:=Pc) rfl rfl (by decide) (gf:=68) (lb:=lb) rfl trivial (enters_of Tryz.func68 (by kernel_rfl) rfl) (hseq 5) KpT.trans kpT_b (bE _ _) (fun _=>rfl)
  (fun (pre:List Pc) W=>RunI w (stR (pre.map Pc.dat)) W) (fun _ _ _=>False)
  (fun s X Y row hs hg hr=>runI_keep (B:=w1.heap.size) hB1.size hs hg hr hs.2.2.2.1.size)
  (fun c s X Y row hs hg hr=>hs) (fun x=>pc_own _ x) hI1
  (fun x=>{ tmps:=#[.pointer (some ⟨q,0,none⟩),undef,.slice none 0 0,.pointer (some ⟨w.heap.size,0,none⟩),.pointer (some ⟨w.heap.size+1,0,none⟩),.pointer (some ⟨w.heap.size+1+1,0,none⟩),.int .i64 x.at_,.pointer (some ⟨x.g,0,none⟩),.pointer (some ⟨q,0,none⟩),.pointer (some ⟨q,0,none⟩),.int .i64 (N:Int),.func (.func 68) #[] lb,.int .i64 x.at_,.pointer (some ⟨x.g,0,none⟩),undef,undef,undef,undef,undef,undef,undef,undef,undef,undef,undef,undef,undef,undef,undef,undef,undef,undef,undef,undef,undef,undef,undef,undef,undef,undef,undef,undef,undef,undef,undef,undef,undef,undef],defers:=[] }) ?assign ?body ?done ?stop
 case assign =>
  intro lp x W K hK;simp only [Pc.encs];gi_wp2;exact hK
 case body =>
  rintro lp pre x W hI ⟨st,hA,hfine,h32,hokx⟩ hsp;rw [HGV.out] at hsp;have hbd:=stR_bound HRW.out.1 (List.IsPrefix.trans (show pre.map Pc.dat <+: (pre++[x]).map Pc.dat from ⟨[x.dat],by simp⟩) hsp);rw [HRW.out.2,hN] at hbd;have HST0:Hid (stR ((pre++[x]).map Pc.dat)=stp (stR (pre.map Pc.dat)) (x.at_,x.rs,x.h)):=by
   show _=_;rw [List.map_append,List.map_cons,List.map_nil,stR_snoc];rfl
  clear hsp;generalize stR (pre.map Pc.dat)=s at *;obtain ⟨D,cur,h⟩:=s;obtain ⟨hbu0,hh0,⟨v,hv0,hown0⟩,hB0,hokc⟩:=hI;simp only at hbu0 hh0 hown0 hokc hbd;have HSL:Hid (cur.length≤1048576∧D.length≤1048576):=⟨by omega,by omega⟩;have HOKC:Hid (∀ r∈cur,okR r):=hokc;have HOKX:Hid (∀ r∈x.rs,okR r):=hokx;clear hokc hokx hfine hbd;have hwd:∀ f,Fence.wide.fn f:=fun _=>trivial
  gi_wp2;by_cases hat:¬ (0:Int)<x.at_
  ·have d0:decide ((0:Int)<x.at_)=false:=decide_eq_false hat;have HST:Hid (stR ((pre++[x]).map Pc.dat)=(D,cur++x.rs,x.h)):=by show _=_;rw [HST0.out];unfold stp;rw [if_neg (fun hc=>hat hc.1)]
   clear HST0;refine region_below_round (by kernel_rfl) (by kernel_rfl) (by kernel_rfl) ?_
   repeat (quiet_step_in ((intros;trivial)))
   refine wpQuietIn_nil ?_;intro W2 hw2;obtain ⟨⟨dq,osq⟩,hw3⟩:=hw2;have hb2:Below W.heap.size W W2:=by rw [hw3];exact below_regrown W dq osq
   clear hw3;have hk:KpT W W2:=KpT.below hb2;have hf:KeepsFrom w1.heap.size W W2:=keepsFrom_below hb2;have hbu:=isBuilderF_below hbu0 hb2;have hh:=(hb2.block _ (gA hh0)).trans hh0;have hv:=(hb2.block _ (gA hv0)).trans hv0;have hown:=hown0.below hb2;have hAt:=hA.below hb2;have hB:Below w.heap.size w W2:=hB0.trans (hb2.mono hB0.size);clear hbu0 hh0 hv0 hown0 hA hB0 hb2 hwd;obtain ⟨D2,hD2⟩:∃ D2,D2=D:=⟨_,rfl⟩;subst hD2;obtain ⟨c0,c1,c2,c3,c4,c5,c6,c7,c8,c9⟩:=hAt.ten;have HS:=smHid_any (Tr.leaf x.rs x.h st).sm W2;rw [show (Tr.leaf x.rs x.h st).sm.fh=x.h from rfl] at HS;have HF:Hid (Lib.IsBuilderF 87 5 (w.heap.size+1) (w.heap.size+1) (encVs cur) W2∧W2.heap[w.heap.size]?=some (.cells #[v] 35)∧OwnF runV 2 65 W2 (w.heap.size+1+1+1) v (D2.map gr)∧Below w.heap.size w W2∧At W2 (Tr.leaf x.rs x.h st) x.g∧KpT W W2∧KeepsFrom w1.heap.size W W2∧W2.heap[w.heap.size+1+1]?=some (.cells #[.int .i64 h] 3)):=⟨hbu,hv,hown,hB,hAt,hk,hf,hh⟩;clear hbu hv hown hB hAt hk hf hh;gi_wp2;refine ⟨trivial,CallsIn.inRound _ ((callsIn_wide.2 HS).mono ?_)⟩;rintro e W3 ⟨rfl,hb3⟩;clear c0 c1 c2 c3 c4 c5 c6 c7 c8 c9 HS;obtain ⟨hbu,hv,hown,hB,hAt,hk,hf,hh⟩:=HF.out;clear HF;have hbu3:=isBuilderF_below hbu hb3;have hh3:=(hb3.block _ (gA hh)).trans hh;have hv3:=(hb3.block _ (gA hv)).trans hv;have hown3:=hown.below hb3;have hAt3:=hAt.below hb3;have hB3:Below w.heap.size w W3:=hB.trans (hb3.mono hB.size);have k0:W3.cell? ⟨w.heap.size+1+1,0,none⟩=some (.int .i64 h):=by rw [cH hh3];rfl
   have kf:W3.frozen? ⟨w.heap.size+1+1,0,none⟩=false:=Lib.frozen_of_heap hh3 0;have hset:=set_box hh3 (.int .i64 x.h);obtain ⟨W4,eW4⟩:∃ Z,W3.setCell ⟨w.heap.size+1+1,0,none⟩ (.int .i64 x.h)=Z:=⟨_,rfl⟩;rw [eW4] at hset;obtain ⟨hh4,hg4⟩:=hset;have hbu4:=builder_other hbu3 hg4 (fun r e=>by cases e;exact ⟨by omega,fun cs fz e2=>by rw [hh3] at e2;cases e2⟩);have hkT4:KpT W3 W4:=KpT.grown hg4 (fun r o e ho=>by cases e;rw [hh3] at ho;cases ho;exact ⟨fun cs fr e2=>(by cases e2),fun cs fr e2=>(by cases e2)⟩);have hAt4:=hAt3.kpT hkT4;have hv4:=(hg4.block _ (gA hv3) (by simp;omega)).trans hv3;have hown4:=ownF_grown hown3 hg4 (.inr (fun e2=>by obtain ⟨cs,fz,hx⟩:=ownF_type hown3 e2;rw [hh3] at hx;cases hx));have hB4:Below w.heap.size w W4:=hB3.grown hg4 hB3.size (fun k hk=>by cases hk;omega);have hl4:=(gA hh4);have HW:=write_any (B:=w.heap.size+1) (b:=w.heap.size+1) hAt4 (fun r hr=>(HOKX.out r hr).1) h32 hbu4 (by have h1:=encVs_len (rs:=cur) (fun r hr=>(HOKC.out r hr).1);have h2:=HSL.out.1;omega) (by omega);have hbk:=isBuilderF_block hbu4;have HG:Hid (W4.heap[w.heap.size+1+1]?=some (.cells #[.int .i64 x.h] 3)∧W4.heap[w.heap.size]?=some (.cells #[v] 35)∧OwnF runV 2 65 W4 (w.heap.size+1+1+1) v (D2.map gr)∧Below w.heap.size w W4∧KpT W W4∧KeepsFrom w1.heap.size W W4):=⟨hh4,hv4,hown4,hB4,hk.trans ((KpT.below hb3).trans hkT4),hf.trans ((keepsFrom_below hb3).trans (KeepsFrom.of_grownBy hg4 (fun j e=>by cases e;omega)))⟩;clear hbu hv hown hB hAt hk hf hh hbu3 hh3 hv3 hown3 hAt3 hB3 hh4 hg4 hbu4 hkT4 hAt4 hv4 hown4 hB4 hb3;gi_wp2;refine ⟨trivial,CallsIn.inRound _ ((callsIn_wide.2 HW).mono ?_)⟩;rintro e W5 ⟨⟨vv,rfl⟩,hbu5,hb5,ho5⟩;clear HW k0 kf;obtain ⟨hh4,hv4,hown4,hB4,hk,hf⟩:=HG.out;have hh5:=ho5 _ _ hh4 (by simp) (fun c fz e=>by cases e);have hv5:=ho5 _ _ hv4 (by simp) (fun c fz e=>by cases e);have hown5:=ownF_others hown4 ho5 (by omega) (by decide);have hB5:Below w.heap.size w W5:=hB4.trans (hb5.mono (by omega));gi_wp2;refine ⟨hf.trans (keepsFrom_others ho5 hbk hb5.size),hk.trans (KpT.others ho5 hbk hb5.size),?_⟩;show RunI w (stR ((pre++[x]).map Pc.dat)) W5;rw [HST.out]
   first|exact ⟨by rw [encVs_append];exact hbu5,hh5,⟨v,hv5,hown5⟩,hB5,fun r hr=>(List.mem_append.1 hr).elim (HOKC.out r) (HOKX.out r)⟩
  ·have hat:=Classical.not_not.1 hat;have d0:decide ((0:Int)<x.at_)=true:=decide_eq_true hat;obtain ⟨c0,c1,c2,c3,c4,c5,c6,c7,c8,c9⟩:=hA.ten;have g0:=fun d os=>cell_regrown c0 d os
   have g1:=fun d os=>cell_regrown c1 d os
   have g2:=fun d os=>cell_regrown c2 d os
   have g3:=fun d os=>cell_regrown c3 d os
   have g4:=fun d os=>cell_regrown c4 d os
   have g5:=fun d os=>cell_regrown c5 d os
   have g6:=fun d os=>cell_regrown c6 d os
   have g7:=fun d os=>cell_regrown c7 d os
   have g8:=fun d os=>cell_regrown c8 d os
   have g9:=fun d os=>cell_regrown c9 d os
   have ch:W.cell? ⟨w.heap.size+1+1,0,none⟩=some (.int .i64 h):=by rw [cH hh0];rfl
   have gh:=fun d os=>cell_regrown ch d os
   clear c0 c1 c2 c3 c4 c5 c6 c7 c8 c9 ch;have HHC:∀ d os,CallsIn (Fence.wide.inRound lp) 3 Tryz.prog 30 #[.agg (Tr.leaf x.rs x.h st).sm.vals] (grow (redrawn W d) os) fun e w''=>e=.returned (.int .i64 x.h)∧∃ p:Regrown,w''=grow (redrawn W p.d) p.os:=fun d os=>(CallsIn.inRound _ (callsIn_wide.2 (Calls.regrown_of (smHid_any (Tr.leaf x.rs x.h st).sm _))))
   by_cases hxh:x.h=h
   ·have d1:(x.h != h)=false:=by simp [hxh]
    have d2:(x.h==h)=true:=by simp [hxh]
    have HST:Hid (stR ((pre++[x]).map Pc.dat)=(D,cur++x.rs,x.h)):=by show _=_;rw [HST0.out];unfold stp;rw [if_neg (fun hc=>hc.2 hxh)]
    clear HST0 hxh;refine region_below_round (by kernel_rfl) (by kernel_rfl) (by kernel_rfl) ?_
    repeat (quiet_step_in (first|exact HHC _ _|exact ⟨trivial,HHC _ _⟩))
    refine wpQuietIn_nil ?_;intro W2 hw2;obtain ⟨⟨dq,osq⟩,hw3⟩:=hw2;have hb2:Below W.heap.size W W2:=by rw [hw3];exact below_regrown W dq osq
    clear hw3;have hk:KpT W W2:=KpT.below hb2;have hf:KeepsFrom w1.heap.size W W2:=keepsFrom_below hb2;have hbu:=isBuilderF_below hbu0 hb2;have hh:=(hb2.block _ (gA hh0)).trans hh0;have hv:=(hb2.block _ (gA hv0)).trans hv0;have hown:=hown0.below hb2;have hAt:=hA.below hb2;have hB:Below w.heap.size w W2:=hB0.trans (hb2.mono hB0.size);clear hbu0 hh0 hv0 hown0 hA hB0 hb2 hwd;clear HHC g0 g1 g2 g3 g4 g5 g6 g7 g8 g9 gh;obtain ⟨D2,hD2⟩:∃ D2,D2=D:=⟨_,rfl⟩;subst hD2;obtain ⟨c0,c1,c2,c3,c4,c5,c6,c7,c8,c9⟩:=hAt.ten;have HS:=smHid_any (Tr.leaf x.rs x.h st).sm W2;rw [show (Tr.leaf x.rs x.h st).sm.fh=x.h from rfl] at HS;have HF:Hid (Lib.IsBuilderF 87 5 (w.heap.size+1) (w.heap.size+1) (encVs cur) W2∧W2.heap[w.heap.size]?=some (.cells #[v] 35)∧OwnF runV 2 65 W2 (w.heap.size+1+1+1) v (D2.map gr)∧Below w.heap.size w W2∧At W2 (Tr.leaf x.rs x.h st) x.g∧KpT W W2∧KeepsFrom w1.heap.size W W2∧W2.heap[w.heap.size+1+1]?=some (.cells #[.int .i64 h] 3)):=⟨hbu,hv,hown,hB,hAt,hk,hf,hh⟩;clear hbu hv hown hB hAt hk hf hh;gi_wp2;refine ⟨trivial,CallsIn.inRound _ ((callsIn_wide.2 HS).mono ?_)⟩;rintro e W3 ⟨rfl,hb3⟩;clear c0 c1 c2 c3 c4 c5 c6 c7 c8 c9 HS;obtain ⟨hbu,hv,hown,hB,hAt,hk,hf,hh⟩:=HF.out;clear HF;have hbu3:=isBuilderF_below hbu hb3;have hh3:=(hb3.block _ (gA hh)).trans hh;have hv3:=(hb3.block _ (gA hv)).trans hv;have hown3:=hown.below hb3;have hAt3:=hAt.below hb3;have hB3:Below w.heap.size w W3:=hB.trans (hb3.mono hB.size);have k0:W3.cell? ⟨w.heap.size+1+1,0,none⟩=some (.int .i64 h):=by rw [cH hh3];rfl
    have kf:W3.frozen? ⟨w.heap.size+1+1,0,none⟩=false:=Lib.frozen_of_heap hh3 0;have hset:=set_box hh3 (.int .i64 x.h);obtain ⟨W4,eW4⟩:∃ Z,W3.setCell ⟨w.heap.size+1+1,0,none⟩ (.int .i64 x.h)=Z:=⟨_,rfl⟩;rw [eW4] at hset;obtain ⟨hh4,hg4⟩:=hset;have hbu4:=builder_other hbu3 hg4 (fun r e=>by cases e;exact ⟨by omega,fun cs fz e2=>by rw [hh3] at e2;cases e2⟩);have hkT4:KpT W3 W4:=KpT.grown hg4 (fun r o e ho=>by cases e;rw [hh3] at ho;cases ho;exact ⟨fun cs fr e2=>(by cases e2),fun cs fr e2=>(by cases e2)⟩);have hAt4:=hAt3.kpT hkT4;have hv4:=(hg4.block _ (gA hv3) (by simp;omega)).trans hv3;have hown4:=ownF_grown hown3 hg4 (.inr (fun e2=>by obtain ⟨cs,fz,hx⟩:=ownF_type hown3 e2;rw [hh3] at hx;cases hx));have hB4:Below w.heap.size w W4:=hB3.grown hg4 hB3.size (fun k hk=>by cases hk;omega);have hl4:=(gA hh4);have HW:=write_any (B:=w.heap.size+1) (b:=w.heap.size+1) hAt4 (fun r hr=>(HOKX.out r hr).1) h32 hbu4 (by have h1:=encVs_len (rs:=cur) (fun r hr=>(HOKC.out r hr).1);have h2:=HSL.out.1;omega) (by omega);have hbk:=isBuilderF_block hbu4;have HG:Hid (W4.heap[w.heap.size+1+1]?=some (.cells #[.int .i64 x.h] 3)∧W4.heap[w.heap.size]?=some (.cells #[v] 35)∧OwnF runV 2 65 W4 (w.heap.size+1+1+1) v (D2.map gr)∧Below w.heap.size w W4∧KpT W W4∧KeepsFrom w1.heap.size W W4):=⟨hh4,hv4,hown4,hB4,hk.trans ((KpT.below hb3).trans hkT4),hf.trans ((keepsFrom_below hb3).trans (KeepsFrom.of_grownBy hg4 (fun j e=>by cases e;omega)))⟩;clear hbu hv hown hB hAt hk hf hh hbu3 hh3 hv3 hown3 hAt3 hB3 hh4 hg4 hbu4 hkT4 hAt4 hv4 hown4 hB4 hb3;gi_wp2;refine ⟨trivial,CallsIn.inRound _ ((callsIn_wide.2 HW).mono ?_)⟩;rintro e W5 ⟨⟨vv,rfl⟩,hbu5,hb5,ho5⟩;clear HW k0 kf;obtain ⟨hh4,hv4,hown4,hB4,hk,hf⟩:=HG.out;have hh5:=ho5 _ _ hh4 (by simp) (fun c fz e=>by cases e);have hv5:=ho5 _ _ hv4 (by simp) (fun c fz e=>by cases e);have hown5:=ownF_others hown4 ho5 (by omega) (by decide);have hB5:Below w.heap.size w W5:=hB4.trans (hb5.mono (by omega));gi_wp2;refine ⟨hf.trans (keepsFrom_others ho5 hbk hb5.size),hk.trans (KpT.others ho5 hbk hb5.size),?_⟩;show RunI w (stR ((pre++[x]).map Pc.dat)) W5;rw [HST.out]
    first|exact ⟨by rw [encVs_append];exact hbu5,hh5,⟨v,hv5,hown5⟩,hB5,fun r hr=>(List.mem_append.1 hr).elim (HOKC.out r) (HOKX.out r)⟩
   ·have d1:(x.h != h)=true:=by simp [hxh]
    have d2:(x.h==h)=false:=by simp [hxh]
    have HST:Hid (stR ((pre++[x]).map Pc.dat)=(D++[(cur,h)],x.rs,x.h)):=by show _=_;rw [HST0.out];unfold stp;rw [if_pos ⟨hat,hxh⟩]
    clear HST0 hxh;refine region_below_round (by kernel_rfl) (by kernel_rfl) (by kernel_rfl) ?_
    repeat (quiet_step_in (first|exact HHC _ _|exact ⟨trivial,HHC _ _⟩))
    refine wpQuietIn_nil ?_;intro W2 hw2;obtain ⟨⟨dq,osq⟩,hw3⟩:=hw2;have hb2:Below W.heap.size W W2:=by rw [hw3];exact below_regrown W dq osq
    clear hw3;have hk:KpT W W2:=KpT.below hb2;have hf:KeepsFrom w1.heap.size W W2:=keepsFrom_below hb2;have hbu:=isBuilderF_below hbu0 hb2;have hh:=(hb2.block _ (gA hh0)).trans hh0;have hv:=(hb2.block _ (gA hv0)).trans hv0;have hown:=hown0.below hb2;have hAt:=hA.below hb2;have hB:Below w.heap.size w W2:=hB0.trans (hb2.mono hB0.size);clear hbu0 hh0 hv0 hown0 hA hB0 hb2 hwd;clear HHC g0 g1 g2 g3 g4 g5 g6 g7 g8 g9 gh;have r2:W2.cell? ⟨w.heap.size,0,none⟩=some v:=by rw [cH hv];rfl
    have h2:W2.cell? ⟨w.heap.size+1+1,0,none⟩=some (.int .i64 h):=by rw [cH hh];rfl
    have hl2:=(gA hh);have HST2:=Tryz.Builder_String_any_k (w.heap.size+1) (w.heap.size+1) _ W2.drew (by rw [encVs_bytes] at hbu;exact isBuilderF_below hbu ((bE _ _).drew)) (by show w.heap.size+1≤W2.heap.size;omega)
    have HNX:Hid (∀ W6,Lib.IsBuilderF 87 5 (w.heap.size+1) (w.heap.size+1) (Lib.byteCells (encs cur)) W6→Below (w.heap.size+1) W2.drew W6→Lib.OthersKept 5 (some (w.heap.size+1)) W2.drew W6→W6.cell? ⟨w.heap.size,0,none⟩=some v∧W6.cell? ⟨w.heap.size+1+1,0,none⟩=some (.int .i64 h)∧w.heap.size<W6.heap.size ∧
   Hid (∃ g7 n7 cap7 W7,(Builtin.append_ #[35,35] 35 #[v,.slice (some ⟨W6.heap.size,0,none⟩) 1 1]).run Tryz.prog (W6.alloc (.cells #[.string ⟨(encs cur).toArray⟩,.int .i64 h] 65))=.ok (.slice (some ⟨g7,0,none⟩) n7 cap7) W7∧W7.cell? ⟨w.heap.size,0,none⟩=some v∧W7.frozen? ⟨w.heap.size,0,none⟩=false∧Hid (Lib.IsBuilderF 87 5 (w.heap.size+1) (w.heap.size+1) (encVs cur) (W7.setCell ⟨w.heap.size,0,none⟩ (.slice (some ⟨g7,0,none⟩) n7 cap7))∧(W7.setCell ⟨w.heap.size,0,none⟩ (.slice (some ⟨g7,0,none⟩) n7 cap7)).heap[w.heap.size+1+1]?=some (.cells #[.int .i64 h] 3)∧(∃ v',(W7.setCell ⟨w.heap.size,0,none⟩ (.slice (some ⟨g7,0,none⟩) n7 cap7)).heap[w.heap.size]?=some (.cells #[v'] 35)∧OwnF runV 2 65 (W7.setCell ⟨w.heap.size,0,none⟩ (.slice (some ⟨g7,0,none⟩) n7 cap7)) (w.heap.size+1+1+1) v' ((D++[(cur,h)]).map gr))∧Below w.heap.size w (W7.setCell ⟨w.heap.size,0,none⟩ (.slice (some ⟨g7,0,none⟩) n7 cap7))∧At (W7.setCell ⟨w.heap.size,0,none⟩ (.slice (some ⟨g7,0,none⟩) n7 cap7)) (Tr.leaf x.rs x.h st) x.g∧KpT W (W7.setCell ⟨w.heap.size,0,none⟩ (.slice (some ⟨g7,0,none⟩) n7 cap7))∧KeepsFrom w1.heap.size W (W7.setCell ⟨w.heap.size,0,none⟩ (.slice (some ⟨g7,0,none⟩) n7 cap7))))):=by
     intro W6 hbu6 hb6 ho6;have hv6:=ho6 _ _ (show W2.drew.heap[_]?=_ from hv) (by simp) (fun c fz e=>by cases e);have hh6:=ho6 _ _ (show W2.drew.heap[_]?=_ from hh) (by simp) (fun c fz e=>by cases e);have hown6:=ownF_others (hown.below ((bE _ _).drew)) ho6 (by omega) (by decide);have hbk2:∃ cs fz,W2.drew.heap[w.heap.size+1]?=some (.cells cs 87 fz):=isBuilderF_block hbu;have hkT6:KpT W2.drew W6:=KpT.others ho6 hbk2 hb6.size;have hAt6:=(hAt.below ((bE _ _).drew)).kpT hkT6;have hl6:=(gA hh6);have hB6:Below w.heap.size w W6:=(hB.drew).trans (hb6.mono (by omega));obtain ⟨g7,cap7,W7,hr7,ho7,hb7,hkp7,hsz7,hat7⟩:=appendF_one kindR layR hown6 (by omega) (gr (cur,h)) #[.string ⟨(encs cur).toArray⟩,.int .i64 h] rfl 65 (by have:=HSL.out.2;simp only [List.length_map];omega) (by have:=HSL.out.2;simp only [List.length_map];omega) 35;have hg7:W6.grownBy W7 v.ownBlock:=⟨hb7.os,hb7.tape,hb7.output,hb7.size,fun k hk hne=>hkp7 k hk (fun e=>hne e.symm)⟩;have hne7:∀ (b:Nat) (cs:Array Value) (T:TypeId),W6.heap[b]?=some (.cells cs T)→T≠65→v.ownBlock≠some b:=fun b cs T hb hT e=>by obtain ⟨cs2,fz2,hx⟩:=ownF_type hown6 e;rw [hb] at hx;cases hx;exact hT rfl
     have hv7:=(hkp7 _ (gA hv6) (hne7 _ _ _ hv6 (by decide))).trans hv6;have hh7:=(hkp7 _ (gA hh6) (hne7 _ _ _ hh6 (by decide))).trans hh6;have hbu7:=builder_other hbu6 hg7 (fun r e=>by obtain ⟨cs,fz,hx⟩:=ownF_type hown6 e;refine ⟨fun e2=>?_,fun cs2 fz2 e2=>by rw [hx] at e2;cases e2⟩;have:=hown6.ge e;omega);have hkT7:KpT W6 W7:=KpT.grown hg7 (fun r o e ho=>by obtain ⟨cs,fz,hx⟩:=ownF_type hown6 e;rw [hx] at ho;cases ho;exact ⟨fun cs fr e2=>(by cases e2),fun cs fr e2=>(by cases e2)⟩);have hB7:Below w.heap.size w W7:=hB6.trans (hb7.mono (by omega));have hset:=set_box hv7 (.slice (some ⟨g7,0,none⟩) ((D.map gr).length+1) cap7);have k7:W7.cell? ⟨w.heap.size,0,none⟩=some v:=by rw [cH hv7];rfl
     have kf7:W7.frozen? ⟨w.heap.size,0,none⟩=false:=Lib.frozen_of_heap hv7 0;obtain ⟨hv8,hg8⟩:=hset;refine ⟨by rw [cH hv6];rfl,by rw [cH hh6];rfl,by omega,⟨_,_,_,W7,hr7,k7,kf7,builder_other (by rw [encVs_bytes];exact hbu7) hg8 (fun r e=>by cases e;exact ⟨by omega,fun cs fz e2=>by rw [hv7] at e2;cases e2⟩),(hg8.block _ (gA hh7) (by simp;omega)).trans hh7,⟨_,hv8,?_⟩,hB7.grown hg8 hB7.size (fun k hk=>by cases hk;exact lR _),?_,?_,?_⟩⟩
     ·rw [List.map_append];exact ownF_grown ho7 hg8 (.inr (fun e=>by have:=ho7.ge e;omega))
     ·exact (hAt6.kpT hkT7).kpT (KpT.grown hg8 (fun r o e ho=>by cases e;rw [hv7] at ho;cases ho;exact ⟨fun cs fr e2=>(by cases e2),fun cs fr e2=>(by cases e2)⟩))
     ·exact hk.trans (((KpT.below ((bE _ _).drew)).trans (hkT6.trans hkT7)).trans (KpT.grown hg8 (fun r o e ho=>by cases e;rw [hv7] at ho;cases ho;exact ⟨fun cs fr e2=>(by cases e2),fun cs fr e2=>(by cases e2)⟩)))
     ·exact hf.trans ((keepsFrom_below ((bE _ _).drew)).trans ((keepsFrom_others ho6 hbk2 hb6.size).trans ((⟨hb7.size,fun k o hB hk ho=>(hkp7 k (gA hk) (fun e=>by obtain ⟨cs,fz,hx⟩:=ownF_type hown6 e;rw [hx] at hk;cases hk;simp [Obj.isCells] at ho)).trans hk⟩:KeepsFrom w1.heap.size W6 W7).trans (KeepsFrom.of_grownBy hg8 (fun j e=>by cases e;omega)))))
    clear hbu hh hv hown hAt hB hk hf;gi_wp2;gi_cut [] from 25 (fun W8=>Lib.IsBuilderF 87 5 (w.heap.size+1) (w.heap.size+1) (encVs cur) W8∧W8.heap[w.heap.size+1+1]?=some (.cells #[.int .i64 h] 3)∧(∃ v',W8.heap[w.heap.size]?=some (.cells #[v'] 35)∧OwnF runV 2 65 W8 (w.heap.size+1+1+1) v' ((D++[(cur,h)]).map gr))∧Below w.heap.size w W8∧At W8 (Tr.leaf x.rs x.h st) x.g∧KpT W W8∧KeepsFrom w1.heap.size W W8)
    case first =>
     refine wpIn_region_any (by kernel_rfl) ?_;change wpAnyIn _ _ _ _ _ _ _ _ _ W2.drew;refine wpAnyIn_ready (rs:=[0,1,2]) (by kernel_rfl) (by simp) (AllReadyIn.cons rfl (fun K hK=>?b1_0) (AllReadyIn.cons rfl (fun K hK=>?b1_1) (AllReadyIn.cons rfl (fun K hK=>?b1_2) AllReadyIn.nil)))
     case b1_0 =>
      go_simp;refine hK _ _ ?_;clear hK K
      try simp only [putS]
      refine wpAnyIn_ready (rs:=[1,2]) (by kernel_rfl) (by simp) (AllReadyIn.cons rfl (fun K hK=>?b2_1) (AllReadyIn.cons rfl (fun K hK=>?b2_2) AllReadyIn.nil))
      case b2_1 =>
       go_simp;refine ⟨trivial,CallsIn.inRound _ ((callsIn_wide.2 HST2).mono ?_)⟩;rintro e W6 ⟨rfl,hX6,hb6,ho6⟩;obtain ⟨r6,h6,ra6,HAP⟩:=HNX.out W6 hX6 hb6 ho6;clear hX6 hb6 ho6;refine hK _ _ ?_;clear hK K
       try simp only [putS]
       refine wpAnyIn_ready (rs:=[2]) (by kernel_rfl) (by simp) (AllReadyIn.cons rfl (fun K hK=>?b3_2) AllReadyIn.nil)
       case b3_2 =>
        go_simp;refine hK _ _ ?_;clear hK K
        try simp only [putS]
        refine wpAnyIn_ready (rs:=[3]) (by kernel_rfl) (by simp) (AllReadyIn.cons rfl (fun K hK=>?b4_3) AllReadyIn.nil)
        case b4_3 =>
         go_simp;refine hK _ _ ?_;clear hK K
         try simp only [putS]
         refine wpAnyIn_ready (rs:=[4]) (by kernel_rfl) (by simp) (AllReadyIn.cons rfl (fun K hK=>?b5_4) AllReadyIn.nil)
         case b5_4 =>
          go_simp;refine hK _ _ ?_;clear hK K
          try simp only [putS]
          refine wpAnyIn_ready (rs:=[5]) (by kernel_rfl) (by simp) (AllReadyIn.cons rfl (fun K hK=>?b6_5) AllReadyIn.nil)
          case b6_5 =>
           obtain ⟨g7,n7,cap7,W7,hr7,k7,kf7,HE7⟩:=HAP.out;rw [if_pos (by rfl)];refine wpIn_append_hr (.tmp 25) (.tmp 29) 35 (some 30) rfl rfl _ _ rfl rfl hr7 ?_;refine hK _ _ ?_;clear hK K
           try simp only [putS]
           refine wpAnyIn_ready (rs:=[6]) (by kernel_rfl) (by simp) (AllReadyIn.cons rfl (fun K hK=>?b7_6) AllReadyIn.nil)
           case b7_6 =>
            go_simp;refine hK _ _ ?_;clear hK K
            try simp only [putS]
            refine wpAnyIn_done (by kernel_rfl) ?_ _;gi_wp2;gi_meet
            case rel=>exact HE7.out
      case b2_2 =>
       go_simp;refine hK _ _ ?_;clear hK K
       try simp only [putS]
       refine wpAnyIn_ready (rs:=[1]) (by kernel_rfl) (by simp) (AllReadyIn.cons rfl (fun K hK=>?b8_1) AllReadyIn.nil)
       case b8_1 =>
        go_simp;refine ⟨trivial,CallsIn.inRound _ ((callsIn_wide.2 HST2).mono ?_)⟩;rintro e W6 ⟨rfl,hX6,hb6,ho6⟩;obtain ⟨r6,h6,ra6,HAP⟩:=HNX.out W6 hX6 hb6 ho6;clear hX6 hb6 ho6;refine hK _ _ ?_;clear hK K
        try simp only [putS]
        refine wpAnyIn_ready (rs:=[3]) (by kernel_rfl) (by simp) (AllReadyIn.cons rfl (fun K hK=>?b9_3) AllReadyIn.nil)
        case b9_3 =>
         go_simp;refine hK _ _ ?_;clear hK K
         try simp only [putS]
         refine wpAnyIn_ready (rs:=[4]) (by kernel_rfl) (by simp) (AllReadyIn.cons rfl (fun K hK=>?b10_4) AllReadyIn.nil)
         case b10_4 =>
          go_simp;refine hK _ _ ?_;clear hK K
          try simp only [putS]
          refine wpAnyIn_ready (rs:=[5]) (by kernel_rfl) (by simp) (AllReadyIn.cons rfl (fun K hK=>?b11_5) AllReadyIn.nil)
          case b11_5 =>
           obtain ⟨g7,n7,cap7,W7,hr7,k7,kf7,HE7⟩:=HAP.out;rw [if_pos (by rfl)];refine wpIn_append_hr (.tmp 25) (.tmp 29) 35 (some 30) rfl rfl _ _ rfl rfl hr7 ?_;refine hK _ _ ?_;clear hK K
           try simp only [putS]
           refine wpAnyIn_ready (rs:=[6]) (by kernel_rfl) (by simp) (AllReadyIn.cons rfl (fun K hK=>?b12_6) AllReadyIn.nil)
           case b12_6 =>
            go_simp;refine hK _ _ ?_;clear hK K
            try simp only [putS]
            refine wpAnyIn_done (by kernel_rfl) ?_ _;gi_wp2;gi_meet
            case rel=>exact HE7.out
     case b1_1 =>
      go_simp;refine ⟨trivial,CallsIn.inRound _ ((callsIn_wide.2 HST2).mono ?_)⟩;rintro e W6 ⟨rfl,hX6,hb6,ho6⟩;obtain ⟨r6,h6,ra6,HAP⟩:=HNX.out W6 hX6 hb6 ho6;clear hX6 hb6 ho6;refine hK _ _ ?_;clear hK K
      try simp only [putS]
      refine wpAnyIn_ready (rs:=[0,2]) (by kernel_rfl) (by simp) (AllReadyIn.cons rfl (fun K hK=>?b13_0) (AllReadyIn.cons rfl (fun K hK=>?b13_2) AllReadyIn.nil))
      case b13_0 =>
       go_simp;refine hK _ _ ?_;clear hK K
       try simp only [putS]
       refine wpAnyIn_ready (rs:=[2]) (by kernel_rfl) (by simp) (AllReadyIn.cons rfl (fun K hK=>?b14_2) AllReadyIn.nil)
       case b14_2 =>
        go_simp;refine hK _ _ ?_;clear hK K
        try simp only [putS]
        refine wpAnyIn_ready (rs:=[3]) (by kernel_rfl) (by simp) (AllReadyIn.cons rfl (fun K hK=>?b15_3) AllReadyIn.nil)
        case b15_3 =>
         go_simp;refine hK _ _ ?_;clear hK K
         try simp only [putS]
         refine wpAnyIn_ready (rs:=[4]) (by kernel_rfl) (by simp) (AllReadyIn.cons rfl (fun K hK=>?b16_4) AllReadyIn.nil)
         case b16_4 =>
          go_simp;refine hK _ _ ?_;clear hK K
          try simp only [putS]
          refine wpAnyIn_ready (rs:=[5]) (by kernel_rfl) (by simp) (AllReadyIn.cons rfl (fun K hK=>?b17_5) AllReadyIn.nil)
          case b17_5 =>
           obtain ⟨g7,n7,cap7,W7,hr7,k7,kf7,HE7⟩:=HAP.out;rw [if_pos (by rfl)];refine wpIn_append_hr (.tmp 25) (.tmp 29) 35 (some 30) rfl rfl _ _ rfl rfl hr7 ?_;refine hK _ _ ?_;clear hK K
           try simp only [putS]
           refine wpAnyIn_ready (rs:=[6]) (by kernel_rfl) (by simp) (AllReadyIn.cons rfl (fun K hK=>?b18_6) AllReadyIn.nil)
           case b18_6 =>
            go_simp;refine hK _ _ ?_;clear hK K
            try simp only [putS]
            refine wpAnyIn_done (by kernel_rfl) ?_ _;gi_wp2;gi_meet
            case rel=>exact HE7.out
      case b13_2 =>
       go_simp;refine hK _ _ ?_;clear hK K
       try simp only [putS]
       refine wpAnyIn_ready (rs:=[0,3]) (by kernel_rfl) (by simp) (AllReadyIn.cons rfl (fun K hK=>?b19_0) (AllReadyIn.cons rfl (fun K hK=>?b19_3) AllReadyIn.nil))
       case b19_0 =>
        go_simp;refine hK _ _ ?_;clear hK K
        try simp only [putS]
        refine wpAnyIn_ready (rs:=[3]) (by kernel_rfl) (by simp) (AllReadyIn.cons rfl (fun K hK=>?b20_3) AllReadyIn.nil)
        case b20_3 =>
         go_simp;refine hK _ _ ?_;clear hK K
         try simp only [putS]
         refine wpAnyIn_ready (rs:=[4]) (by kernel_rfl) (by simp) (AllReadyIn.cons rfl (fun K hK=>?b21_4) AllReadyIn.nil)
         case b21_4 =>
          go_simp;refine hK _ _ ?_;clear hK K
          try simp only [putS]
          refine wpAnyIn_ready (rs:=[5]) (by kernel_rfl) (by simp) (AllReadyIn.cons rfl (fun K hK=>?b22_5) AllReadyIn.nil)
          case b22_5 =>
           obtain ⟨g7,n7,cap7,W7,hr7,k7,kf7,HE7⟩:=HAP.out;rw [if_pos (by rfl)];refine wpIn_append_hr (.tmp 25) (.tmp 29) 35 (some 30) rfl rfl _ _ rfl rfl hr7 ?_;refine hK _ _ ?_;clear hK K
           try simp only [putS]
           refine wpAnyIn_ready (rs:=[6]) (by kernel_rfl) (by simp) (AllReadyIn.cons rfl (fun K hK=>?b23_6) AllReadyIn.nil)
           case b23_6 =>
            go_simp;refine hK _ _ ?_;clear hK K
            try simp only [putS]
            refine wpAnyIn_done (by kernel_rfl) ?_ _;gi_wp2;gi_meet
            case rel=>exact HE7.out
       case b19_3 =>
        go_simp;refine hK _ _ ?_;clear hK K
        try simp only [putS]
        refine wpAnyIn_ready (rs:=[0,4]) (by kernel_rfl) (by simp) (AllReadyIn.cons rfl (fun K hK=>?b24_0) (AllReadyIn.cons rfl (fun K hK=>?b24_4) AllReadyIn.nil))
        case b24_0 =>
         go_simp;refine hK _ _ ?_;clear hK K
         try simp only [putS]
         refine wpAnyIn_ready (rs:=[4]) (by kernel_rfl) (by simp) (AllReadyIn.cons rfl (fun K hK=>?b25_4) AllReadyIn.nil)
         case b25_4 =>
          go_simp;refine hK _ _ ?_;clear hK K
          try simp only [putS]
          refine wpAnyIn_ready (rs:=[5]) (by kernel_rfl) (by simp) (AllReadyIn.cons rfl (fun K hK=>?b26_5) AllReadyIn.nil)
          case b26_5 =>
           obtain ⟨g7,n7,cap7,W7,hr7,k7,kf7,HE7⟩:=HAP.out;rw [if_pos (by rfl)];refine wpIn_append_hr (.tmp 25) (.tmp 29) 35 (some 30) rfl rfl _ _ rfl rfl hr7 ?_;refine hK _ _ ?_;clear hK K
           try simp only [putS]
           refine wpAnyIn_ready (rs:=[6]) (by kernel_rfl) (by simp) (AllReadyIn.cons rfl (fun K hK=>?b27_6) AllReadyIn.nil)
           case b27_6 =>
            go_simp;refine hK _ _ ?_;clear hK K
            try simp only [putS]
            refine wpAnyIn_done (by kernel_rfl) ?_ _;gi_wp2;gi_meet
            case rel=>exact HE7.out
        case b24_4 =>
         go_simp;refine hK _ _ ?_;clear hK K
         try simp only [putS]
         refine wpAnyIn_ready (rs:=[0]) (by kernel_rfl) (by simp) (AllReadyIn.cons rfl (fun K hK=>?b28_0) AllReadyIn.nil)
         case b28_0 =>
          go_simp;refine hK _ _ ?_;clear hK K
          try simp only [putS]
          refine wpAnyIn_ready (rs:=[5]) (by kernel_rfl) (by simp) (AllReadyIn.cons rfl (fun K hK=>?b29_5) AllReadyIn.nil)
          case b29_5 =>
           obtain ⟨g7,n7,cap7,W7,hr7,k7,kf7,HE7⟩:=HAP.out;rw [if_pos (by rfl)];refine wpIn_append_hr (.tmp 25) (.tmp 29) 35 (some 30) rfl rfl _ _ rfl rfl hr7 ?_;refine hK _ _ ?_;clear hK K
           try simp only [putS]
           refine wpAnyIn_ready (rs:=[6]) (by kernel_rfl) (by simp) (AllReadyIn.cons rfl (fun K hK=>?b30_6) AllReadyIn.nil)
           case b30_6 =>
            go_simp;refine hK _ _ ?_;clear hK K
            try simp only [putS]
            refine wpAnyIn_done (by kernel_rfl) ?_ _;gi_wp2;gi_meet
            case rel=>exact HE7.out
     case b1_2 =>
      go_simp;refine hK _ _ ?_;clear hK K
      try simp only [putS]
      refine wpAnyIn_ready (rs:=[0,1]) (by kernel_rfl) (by simp) (AllReadyIn.cons rfl (fun K hK=>?b31_0) (AllReadyIn.cons rfl (fun K hK=>?b31_1) AllReadyIn.nil))
      case b31_0 =>
       go_simp;refine hK _ _ ?_;clear hK K
       try simp only [putS]
       refine wpAnyIn_ready (rs:=[1]) (by kernel_rfl) (by simp) (AllReadyIn.cons rfl (fun K hK=>?b32_1) AllReadyIn.nil)
       case b32_1 =>
        go_simp;refine ⟨trivial,CallsIn.inRound _ ((callsIn_wide.2 HST2).mono ?_)⟩;rintro e W6 ⟨rfl,hX6,hb6,ho6⟩;obtain ⟨r6,h6,ra6,HAP⟩:=HNX.out W6 hX6 hb6 ho6;clear hX6 hb6 ho6;refine hK _ _ ?_;clear hK K
        try simp only [putS]
        refine wpAnyIn_ready (rs:=[3]) (by kernel_rfl) (by simp) (AllReadyIn.cons rfl (fun K hK=>?b33_3) AllReadyIn.nil)
        case b33_3 =>
         go_simp;refine hK _ _ ?_;clear hK K
         try simp only [putS]
         refine wpAnyIn_ready (rs:=[4]) (by kernel_rfl) (by simp) (AllReadyIn.cons rfl (fun K hK=>?b34_4) AllReadyIn.nil)
         case b34_4 =>
          go_simp;refine hK _ _ ?_;clear hK K
          try simp only [putS]
          refine wpAnyIn_ready (rs:=[5]) (by kernel_rfl) (by simp) (AllReadyIn.cons rfl (fun K hK=>?b35_5) AllReadyIn.nil)
          case b35_5 =>
           obtain ⟨g7,n7,cap7,W7,hr7,k7,kf7,HE7⟩:=HAP.out;rw [if_pos (by rfl)];refine wpIn_append_hr (.tmp 25) (.tmp 29) 35 (some 30) rfl rfl _ _ rfl rfl hr7 ?_;refine hK _ _ ?_;clear hK K
           try simp only [putS]
           refine wpAnyIn_ready (rs:=[6]) (by kernel_rfl) (by simp) (AllReadyIn.cons rfl (fun K hK=>?b36_6) AllReadyIn.nil)
           case b36_6 =>
            go_simp;refine hK _ _ ?_;clear hK K
            try simp only [putS]
            refine wpAnyIn_done (by kernel_rfl) ?_ _;gi_wp2;gi_meet
            case rel=>exact HE7.out
      case b31_1 =>
       go_simp;refine ⟨trivial,CallsIn.inRound _ ((callsIn_wide.2 HST2).mono ?_)⟩;rintro e W6 ⟨rfl,hX6,hb6,ho6⟩;obtain ⟨r6,h6,ra6,HAP⟩:=HNX.out W6 hX6 hb6 ho6;clear hX6 hb6 ho6;refine hK _ _ ?_;clear hK K
       try simp only [putS]
       refine wpAnyIn_ready (rs:=[0,3]) (by kernel_rfl) (by simp) (AllReadyIn.cons rfl (fun K hK=>?b37_0) (AllReadyIn.cons rfl (fun K hK=>?b37_3) AllReadyIn.nil))
       case b37_0 =>
        go_simp;refine hK _ _ ?_;clear hK K
        try simp only [putS]
        refine wpAnyIn_ready (rs:=[3]) (by kernel_rfl) (by simp) (AllReadyIn.cons rfl (fun K hK=>?b38_3) AllReadyIn.nil)
        case b38_3 =>
         go_simp;refine hK _ _ ?_;clear hK K
         try simp only [putS]
         refine wpAnyIn_ready (rs:=[4]) (by kernel_rfl) (by simp) (AllReadyIn.cons rfl (fun K hK=>?b39_4) AllReadyIn.nil)
         case b39_4 =>
          go_simp;refine hK _ _ ?_;clear hK K
          try simp only [putS]
          refine wpAnyIn_ready (rs:=[5]) (by kernel_rfl) (by simp) (AllReadyIn.cons rfl (fun K hK=>?b40_5) AllReadyIn.nil)
          case b40_5 =>
           obtain ⟨g7,n7,cap7,W7,hr7,k7,kf7,HE7⟩:=HAP.out;rw [if_pos (by rfl)];refine wpIn_append_hr (.tmp 25) (.tmp 29) 35 (some 30) rfl rfl _ _ rfl rfl hr7 ?_;refine hK _ _ ?_;clear hK K
           try simp only [putS]
           refine wpAnyIn_ready (rs:=[6]) (by kernel_rfl) (by simp) (AllReadyIn.cons rfl (fun K hK=>?b41_6) AllReadyIn.nil)
           case b41_6 =>
            go_simp;refine hK _ _ ?_;clear hK K
            try simp only [putS]
            refine wpAnyIn_done (by kernel_rfl) ?_ _;gi_wp2;gi_meet
            case rel=>exact HE7.out
       case b37_3 =>
        go_simp;refine hK _ _ ?_;clear hK K
        try simp only [putS]
        refine wpAnyIn_ready (rs:=[0,4]) (by kernel_rfl) (by simp) (AllReadyIn.cons rfl (fun K hK=>?b42_0) (AllReadyIn.cons rfl (fun K hK=>?b42_4) AllReadyIn.nil))
        case b42_0 =>
         go_simp;refine hK _ _ ?_;clear hK K
         try simp only [putS]
         refine wpAnyIn_ready (rs:=[4]) (by kernel_rfl) (by simp) (AllReadyIn.cons rfl (fun K hK=>?b43_4) AllReadyIn.nil)
         case b43_4 =>
          go_simp;refine hK _ _ ?_;clear hK K
          try simp only [putS]
          refine wpAnyIn_ready (rs:=[5]) (by kernel_rfl) (by simp) (AllReadyIn.cons rfl (fun K hK=>?b44_5) AllReadyIn.nil)
          case b44_5 =>
           obtain ⟨g7,n7,cap7,W7,hr7,k7,kf7,HE7⟩:=HAP.out;rw [if_pos (by rfl)];refine wpIn_append_hr (.tmp 25) (.tmp 29) 35 (some 30) rfl rfl _ _ rfl rfl hr7 ?_;refine hK _ _ ?_;clear hK K
           try simp only [putS]
           refine wpAnyIn_ready (rs:=[6]) (by kernel_rfl) (by simp) (AllReadyIn.cons rfl (fun K hK=>?b45_6) AllReadyIn.nil)
           case b45_6 =>
            go_simp;refine hK _ _ ?_;clear hK K
            try simp only [putS]
            refine wpAnyIn_done (by kernel_rfl) ?_ _;gi_wp2;gi_meet
            case rel=>exact HE7.out
        case b42_4 =>
         go_simp;refine hK _ _ ?_;clear hK K
         try simp only [putS]
         refine wpAnyIn_ready (rs:=[0]) (by kernel_rfl) (by simp) (AllReadyIn.cons rfl (fun K hK=>?b46_0) AllReadyIn.nil)
         case b46_0 =>
          go_simp;refine hK _ _ ?_;clear hK K
          try simp only [putS]
          refine wpAnyIn_ready (rs:=[5]) (by kernel_rfl) (by simp) (AllReadyIn.cons rfl (fun K hK=>?b47_5) AllReadyIn.nil)
          case b47_5 =>
           obtain ⟨g7,n7,cap7,W7,hr7,k7,kf7,HE7⟩:=HAP.out;rw [if_pos (by rfl)];refine wpIn_append_hr (.tmp 25) (.tmp 29) 35 (some 30) rfl rfl _ _ rfl rfl hr7 ?_;refine hK _ _ ?_;clear hK K
           try simp only [putS]
           refine wpAnyIn_ready (rs:=[6]) (by kernel_rfl) (by simp) (AllReadyIn.cons rfl (fun K hK=>?b48_6) AllReadyIn.nil)
           case b48_6 =>
            go_simp;refine hK _ _ ?_;clear hK K
            try simp only [putS]
            refine wpAnyIn_done (by kernel_rfl) ?_ _;gi_wp2;gi_meet
            case rel=>exact HE7.out
    case rest =>
     clear HNX HST2 r2 h2 hl2;obtain ⟨hbu,hh,⟨v,hv,hown⟩,hB,hAt,hk,hf⟩:=hcut;have HRS:=builderReset_any hbu;have hbk8:=isBuilderF_block hbu;gi_wp2;refine ⟨trivial,CallsIn.inRound _ ((callsIn_wide.2 HRS).mono ?_)⟩;rintro e W9 ⟨⟨vv,rfl⟩,hbu9,hb9,ho9⟩;clear HRS;have hh9:=ho9 _ _ hh (by simp) (fun c fz e=>by cases e);have hv9:=ho9 _ _ hv (by simp) (fun c fz e=>by cases e);have hown9:=ownF_others hown ho9 (by omega) (by decide);have hAt9:=hAt.kpT (KpT.others ho9 hbk8 hb9.size);have hB9:Below w.heap.size w W9:=hB.trans (hb9.mono (by omega));have hk9:=hk.trans (KpT.others ho9 hbk8 hb9.size);have hf9:KeepsFrom w1.heap.size W W9:=hf.trans (keepsFrom_others ho9 hbk8 hb9.size);clear hbu hh hv hown hAt hB hk hf hb9 ho9 hbk8;have hbu:=hbu9;have hh:=hh9;have hv:=hv9;have hown:=hown9;have hAt:=hAt9;have hB:=hB9;have hk:=hk9;have hf:=hf9;clear hbu9 hh9 hv9 hown9 hAt9 hB9 hk9 hf9;obtain ⟨D2,hD2⟩:∃ D2,D++[(cur,h)]=D2:=⟨_,rfl⟩;rw [hD2] at hown;have HST2:Hid (stR ((pre++[x]).map Pc.dat)=(D2,x.rs,x.h)):=by show _=_;rw [← hD2];exact HST.out
     clear HST;have HST:=HST2;clear HST2;obtain ⟨c0,c1,c2,c3,c4,c5,c6,c7,c8,c9⟩:=hAt.ten;have HS:=smHid_any (Tr.leaf x.rs x.h st).sm W9;rw [show (Tr.leaf x.rs x.h st).sm.fh=x.h from rfl] at HS;have HF:Hid (Lib.IsBuilderF 87 5 (w.heap.size+1) (w.heap.size+1) (encVs []) W9∧W9.heap[w.heap.size]?=some (.cells #[v] 35)∧OwnF runV 2 65 W9 (w.heap.size+1+1+1) v (D2.map gr)∧Below w.heap.size w W9∧At W9 (Tr.leaf x.rs x.h st) x.g∧KpT W W9∧KeepsFrom w1.heap.size W W9∧W9.heap[w.heap.size+1+1]?=some (.cells #[.int .i64 h] 3)):=⟨hbu,hv,hown,hB,hAt,hk,hf,hh⟩;clear hbu hv hown hB hAt hk hf hh;gi_wp2;refine ⟨trivial,CallsIn.inRound _ ((callsIn_wide.2 HS).mono ?_)⟩;rintro e W3 ⟨rfl,hb3⟩;clear c0 c1 c2 c3 c4 c5 c6 c7 c8 c9 HS;obtain ⟨hbu,hv,hown,hB,hAt,hk,hf,hh⟩:=HF.out;clear HF;have hbu3:=isBuilderF_below hbu hb3;have hh3:=(hb3.block _ (gA hh)).trans hh;have hv3:=(hb3.block _ (gA hv)).trans hv;have hown3:=hown.below hb3;have hAt3:=hAt.below hb3;have hB3:Below w.heap.size w W3:=hB.trans (hb3.mono hB.size);have k0:W3.cell? ⟨w.heap.size+1+1,0,none⟩=some (.int .i64 h):=by rw [cH hh3];rfl
     have kf:W3.frozen? ⟨w.heap.size+1+1,0,none⟩=false:=Lib.frozen_of_heap hh3 0;have hset:=set_box hh3 (.int .i64 x.h);obtain ⟨W4,eW4⟩:∃ Z,W3.setCell ⟨w.heap.size+1+1,0,none⟩ (.int .i64 x.h)=Z:=⟨_,rfl⟩;rw [eW4] at hset;obtain ⟨hh4,hg4⟩:=hset;have hbu4:=builder_other hbu3 hg4 (fun r e=>by cases e;exact ⟨by omega,fun cs fz e2=>by rw [hh3] at e2;cases e2⟩);have hkT4:KpT W3 W4:=KpT.grown hg4 (fun r o e ho=>by cases e;rw [hh3] at ho;cases ho;exact ⟨fun cs fr e2=>(by cases e2),fun cs fr e2=>(by cases e2)⟩);have hAt4:=hAt3.kpT hkT4;have hv4:=(hg4.block _ (gA hv3) (by simp;omega)).trans hv3;have hown4:=ownF_grown hown3 hg4 (.inr (fun e2=>by obtain ⟨cs,fz,hx⟩:=ownF_type hown3 e2;rw [hh3] at hx;cases hx));have hB4:Below w.heap.size w W4:=hB3.grown hg4 hB3.size (fun k hk=>by cases hk;omega);have hl4:=(gA hh4);have HW:=write_any (B:=w.heap.size+1) (b:=w.heap.size+1) hAt4 (fun r hr=>(HOKX.out r hr).1) h32 hbu4 (by simp [encVs]) (by omega);have hbk:=isBuilderF_block hbu4;have HG:Hid (W4.heap[w.heap.size+1+1]?=some (.cells #[.int .i64 x.h] 3)∧W4.heap[w.heap.size]?=some (.cells #[v] 35)∧OwnF runV 2 65 W4 (w.heap.size+1+1+1) v (D2.map gr)∧Below w.heap.size w W4∧KpT W W4∧KeepsFrom w1.heap.size W W4):=⟨hh4,hv4,hown4,hB4,hk.trans ((KpT.below hb3).trans hkT4),hf.trans ((keepsFrom_below hb3).trans (KeepsFrom.of_grownBy hg4 (fun j e=>by cases e;omega)))⟩;clear hbu hv hown hB hAt hk hf hh hbu3 hh3 hv3 hown3 hAt3 hB3 hh4 hg4 hbu4 hkT4 hAt4 hv4 hown4 hB4 hb3;gi_wp2;refine ⟨trivial,CallsIn.inRound _ ((callsIn_wide.2 HW).mono ?_)⟩;rintro e W5 ⟨⟨vv,rfl⟩,hbu5,hb5,ho5⟩;clear HW k0 kf;obtain ⟨hh4,hv4,hown4,hB4,hk,hf⟩:=HG.out;have hh5:=ho5 _ _ hh4 (by simp) (fun c fz e=>by cases e);have hv5:=ho5 _ _ hv4 (by simp) (fun c fz e=>by cases e);have hown5:=ownF_others hown4 ho5 (by omega) (by decide);have hB5:Below w.heap.size w W5:=hB4.trans (hb5.mono (by omega));gi_wp2;refine ⟨hf.trans (keepsFrom_others ho5 hbk hb5.size),hk.trans (KpT.others ho5 hbk hb5.size),?_⟩;show RunI w (stR ((pre++[x]).map Pc.dat)) W5;rw [HST.out];exact ⟨by simpa [encVs] using hbu5,hh5,⟨v,hv5,hown5⟩,hB5,HOKX.out⟩
 case done =>
  rintro De ys W hD hS hI hKd;rw [HGV.out] at hS;rw [hS] at hI;have HST:Hid (stR (pls t.lv 0)=cstR t.row):=by show _=_;unfold stR cstR;rw [stp_cells t.lv 0 _ HRW.out.1 (by omega) (by simp),HRW.out.2]
  rw [HST.out] at hI;have HRO:Hid (runsOfRow t.row=if (cstR t.row).2.1=[] then (cstR t.row).1 else (cstR t.row).1++[((cstR t.row).2.1,(cstR t.row).2.2)]):=rfl;have hbd:=stR_bound HRW.out.1 (ys:=pls t.lv 0) (List.prefix_refl _);rw [HST.out,HRW.out.2,hN] at hbd;generalize hcs:cstR t.row=s at *;clear hcs;obtain ⟨D,cur,h⟩:=s;obtain ⟨hbu,hh,⟨v,hv,hown⟩,hB,hokc⟩:=hI;simp only at hbu hh hown hokc hbd;have HLN:=builderLen_any hbu;have HRO2:=HRO.out;simp only at HRO2;have HE:Hid (runsOfRow t.row=if cur=[] then D else D++[(cur,h)]):=HRO2;clear HRO HRO2;obtain ⟨av,cv,hsv⟩:=hown.shape;rw [List.length_map] at hsv;subst hsv;have r0:W.cell? ⟨w.heap.size,0,none⟩=some (.slice av D.length cv):=by rw [cH hv];rfl
  gi_wp2;refine ⟨trivial,(callsIn_wide.2 HLN).mono ?_⟩;rintro e W' ⟨rfl,hw'⟩;subst hw';clear HLN;by_cases hc0:cur=[]
  ·have z0:((encVs cur).length:Int)=0:=by rw [hc0];rfl
   rw [z0];have HE2:Hid (runsOfRow t.row=D):=by show _=_;rw [HE.out,if_pos hc0]
   clear HE;gi_wp2;refine ⟨by simp,.inl ⟨_,_,rfl,run_takeDeferred hKd,?_⟩⟩;refine ⟨_,results_tmp rfl _ _ _,_,rfl,?_,?_⟩
   ·rw [HE2.out];exact (ownF_grown hown (grownBy_putObj' W' De _) (.inr (fun e=>by obtain ⟨cs2,fz2,hx⟩:=ownF_type hown e;rw [hKd] at hx;cases hx))).mono (by omega)
   ·exact hB.grown (grownBy_putObj' W' De _) hB.size (fun k hk=>by cases hk;omega)
  ·have z0:decide ((0:Int)<((encVs cur).length:Int))=true:=decide_eq_true (by have:=encVs_pos hc0;omega);have HE2:Hid (runsOfRow t.row=D++[(cur,h)]):=by show _=_;rw [HE.out,if_neg hc0]
   clear HE;have hpos:=encVs_pos hc0;generalize hle:(encVs cur).length=LE at *;have z1:decide (0<LE)=true:=decide_eq_true hpos;have r2:W'.cell? ⟨w.heap.size,0,none⟩=some (.slice av D.length cv):=r0;have h2:W'.cell? ⟨w.heap.size+1+1,0,none⟩=some (.int .i64 h):=by rw [cH hh];rfl
   have hl2:=(gA hh);have HST2:=Tryz.Builder_String_any_k (w.heap.size+1) (w.heap.size+1) _ W'.drew (by rw [encVs_bytes] at hbu;exact isBuilderF_below hbu ((bE _ _).drew)) (by show w.heap.size+1≤W'.heap.size;omega)
   have HNX:Hid (∀ W6,Lib.IsBuilderF 87 5 (w.heap.size+1) (w.heap.size+1) (Lib.byteCells (encs cur)) W6→Below (w.heap.size+1) W'.drew W6→Lib.OthersKept 5 (some (w.heap.size+1)) W'.drew W6→W6.cell? ⟨w.heap.size,0,none⟩=some (.slice av D.length cv)∧W6.cell? ⟨w.heap.size+1+1,0,none⟩=some (.int .i64 h)∧w.heap.size<W6.heap.size ∧
   Hid (∃ g7 n7 cap7 W7,(Builtin.append_ #[35,35] 35 #[.slice av D.length cv,.slice (some ⟨W6.heap.size,0,none⟩) 1 1]).run Tryz.prog (W6.alloc (.cells #[.string ⟨(encs cur).toArray⟩,.int .i64 h] 65))=.ok (.slice (some ⟨g7,0,none⟩) n7 cap7) W7∧W7.cell? ⟨w.heap.size,0,none⟩=some (.slice av D.length cv)∧W7.frozen? ⟨w.heap.size,0,none⟩=false∧Hid ((∃ a8 c8,(W7.setCell ⟨w.heap.size,0,none⟩ (.slice (some ⟨g7,0,none⟩) n7 cap7)).heap[w.heap.size]?=some (.cells #[.slice a8 (D.length+1) c8] 35)∧OwnF runV 2 65 (W7.setCell ⟨w.heap.size,0,none⟩ (.slice (some ⟨g7,0,none⟩) n7 cap7)) (w.heap.size+1+1+1) (.slice a8 (D.length+1) c8) ((D++[(cur,h)]).map gr))∧Below w.heap.size w (W7.setCell ⟨w.heap.size,0,none⟩ (.slice (some ⟨g7,0,none⟩) n7 cap7))∧(W7.setCell ⟨w.heap.size,0,none⟩ (.slice (some ⟨g7,0,none⟩) n7 cap7)).heap[De]?=some (.deferred (some []))))):=by
    intro W6 hbu6 hb6 ho6;have hv6:=ho6 _ _ (show W'.drew.heap[_]?=_ from hv) (by simp) (fun c fz e=>by cases e);have hh6:=ho6 _ _ (show W'.drew.heap[_]?=_ from hh) (by simp) (fun c fz e=>by cases e);have hK6:=ho6 _ _ (show W'.drew.heap[_]?=_ from hKd) (fun e=>by cases e;obtain ⟨cs,fz,hx⟩:=isBuilderF_block hbu;rw [hx] at hKd;cases hKd) (fun c fz e=>by cases e);have hown6:=ownF_others (hown.below ((bE _ _).drew)) ho6 (by omega) (by decide);have hl6:=(gA hh6);have hB6:Below w.heap.size w W6:=(hB.drew).trans (hb6.mono (by omega));obtain ⟨g7,cap7,W7,hr7,ho7,hb7,hkp7,hsz7,hat7⟩:=appendF_one kindR layR hown6 (by omega) (gr (cur,h)) #[.string ⟨(encs cur).toArray⟩,.int .i64 h] rfl 65 (by have:=hbd.1;simp only [List.length_map];omega) (by have:=hbd.1;simp only [List.length_map];omega) 35;rw [List.length_map] at hr7 ho7;have hne7:∀ (b:Nat) (cs:Array Value) (T:TypeId),W6.heap[b]?=some (.cells cs T)→T≠65→(Value.slice av D.length cv).ownBlock≠some b:=fun b cs T hb hT e=>by obtain ⟨cs2,fz2,hx⟩:=ownF_type hown6 e;rw [hb] at hx;cases hx;exact hT rfl
    have hv7:=(hkp7 _ (gA hv6) (hne7 _ _ _ hv6 (by decide))).trans hv6;have hK7:=(hkp7 _ (gA hK6) (fun e=>by obtain ⟨cs2,fz2,hx⟩:=ownF_type hown6 e;rw [hK6] at hx;cases hx)).trans hK6;have hB7:Below w.heap.size w W7:=hB6.trans (hb7.mono (by omega));obtain ⟨hv8,hg8⟩:=set_box hv7 (.slice (some ⟨g7,0,none⟩) (D.length+1) cap7);have k7:W7.cell? ⟨w.heap.size,0,none⟩=some (.slice av D.length cv):=by rw [cH hv7];rfl
    have kf7:W7.frozen? ⟨w.heap.size,0,none⟩=false:=Lib.frozen_of_heap hv7 0;refine ⟨by rw [cH hv6];rfl,by rw [cH hh6];rfl,by omega,⟨_,_,_,W7,hr7,k7,kf7,⟨some ⟨g7,0,none⟩,cap7,hv8,?_⟩,hB7.grown hg8 hB7.size (fun k hk=>by cases hk;exact lR _),(hg8.block _ (gA hK7) (fun e=>by cases e;rw [hv7] at hK7;cases hK7)).trans hK7⟩⟩;rw [List.map_append];exact ownF_grown ho7 hg8 (.inr (fun e=>by have:=ho7.ge e;omega))
   clear hbu hh hv hown hB;gi_wp2;gi_cut [] from 41 (fun W8=>(∃ a8 c8,W8.heap[w.heap.size]?=some (.cells #[.slice a8 (D.length+1) c8] 35)∧OwnF runV 2 65 W8 (w.heap.size+1+1+1) (.slice a8 (D.length+1) c8) ((D++[(cur,h)]).map gr))∧Below w.heap.size w W8∧W8.heap[De]?=some (.deferred (some [])))
   case first =>
    refine wpIn_region_any (by kernel_rfl) ?_;change wpAnyIn _ _ _ _ _ _ _ _ _ W'.drew;refine wpAnyIn_ready (rs:=[0,1,2]) (by kernel_rfl) (by simp) (AllReadyIn.cons rfl (fun K hK=>?b1_0) (AllReadyIn.cons rfl (fun K hK=>?b1_1) (AllReadyIn.cons rfl (fun K hK=>?b1_2) AllReadyIn.nil)))
    case b1_0 =>
     go_simp;refine hK _ _ ?_;clear hK K
     try simp only [putS]
     refine wpAnyIn_ready (rs:=[1,2]) (by kernel_rfl) (by simp) (AllReadyIn.cons rfl (fun K hK=>?b2_1) (AllReadyIn.cons rfl (fun K hK=>?b2_2) AllReadyIn.nil))
     case b2_1 =>
      go_simp;refine ⟨trivial,(callsIn_wide.2 HST2).mono ?_⟩;rintro e W6 ⟨rfl,hX6,hb6,ho6⟩;obtain ⟨r6,h6,ra6,HAP⟩:=HNX.out W6 hX6 hb6 ho6;clear hX6 hb6 ho6;refine hK _ _ ?_;clear hK K
      try simp only [putS]
      refine wpAnyIn_ready (rs:=[2]) (by kernel_rfl) (by simp) (AllReadyIn.cons rfl (fun K hK=>?b3_2) AllReadyIn.nil)
      case b3_2 =>
       go_simp;refine hK _ _ ?_;clear hK K
       try simp only [putS]
       refine wpAnyIn_ready (rs:=[3]) (by kernel_rfl) (by simp) (AllReadyIn.cons rfl (fun K hK=>?b4_3) AllReadyIn.nil)
       case b4_3 =>
        go_simp;refine hK _ _ ?_;clear hK K
        try simp only [putS]
        refine wpAnyIn_ready (rs:=[4]) (by kernel_rfl) (by simp) (AllReadyIn.cons rfl (fun K hK=>?b5_4) AllReadyIn.nil)
        case b5_4 =>
         go_simp;refine hK _ _ ?_;clear hK K
         try simp only [putS]
         refine wpAnyIn_ready (rs:=[5]) (by kernel_rfl) (by simp) (AllReadyIn.cons rfl (fun K hK=>?b6_5) AllReadyIn.nil)
         case b6_5 =>
          obtain ⟨g7,n7,cap7,W7,hr7,k7,kf7,HE7⟩:=HAP.out;rw [if_pos (by rfl)];refine wpIn_append_hr (.tmp 41) (.tmp 45) 35 (some 46) rfl rfl _ _ rfl rfl hr7 ?_;refine hK _ _ ?_;clear hK K
          try simp only [putS]
          refine wpAnyIn_ready (rs:=[6]) (by kernel_rfl) (by simp) (AllReadyIn.cons rfl (fun K hK=>?b7_6) AllReadyIn.nil)
          case b7_6 =>
           go_simp;refine hK _ _ ?_;clear hK K
           try simp only [putS]
           refine wpAnyIn_done (by kernel_rfl) ?_ _;gi_wp2;gi_meet
           case rel=>exact HE7.out
     case b2_2 =>
      go_simp;refine hK _ _ ?_;clear hK K
      try simp only [putS]
      refine wpAnyIn_ready (rs:=[1]) (by kernel_rfl) (by simp) (AllReadyIn.cons rfl (fun K hK=>?b8_1) AllReadyIn.nil)
      case b8_1 =>
       go_simp;refine ⟨trivial,(callsIn_wide.2 HST2).mono ?_⟩;rintro e W6 ⟨rfl,hX6,hb6,ho6⟩;obtain ⟨r6,h6,ra6,HAP⟩:=HNX.out W6 hX6 hb6 ho6;clear hX6 hb6 ho6;refine hK _ _ ?_;clear hK K
       try simp only [putS]
       refine wpAnyIn_ready (rs:=[3]) (by kernel_rfl) (by simp) (AllReadyIn.cons rfl (fun K hK=>?b9_3) AllReadyIn.nil)
       case b9_3 =>
        go_simp;refine hK _ _ ?_;clear hK K
        try simp only [putS]
        refine wpAnyIn_ready (rs:=[4]) (by kernel_rfl) (by simp) (AllReadyIn.cons rfl (fun K hK=>?b10_4) AllReadyIn.nil)
        case b10_4 =>
         go_simp;refine hK _ _ ?_;clear hK K
         try simp only [putS]
         refine wpAnyIn_ready (rs:=[5]) (by kernel_rfl) (by simp) (AllReadyIn.cons rfl (fun K hK=>?b11_5) AllReadyIn.nil)
         case b11_5 =>
          obtain ⟨g7,n7,cap7,W7,hr7,k7,kf7,HE7⟩:=HAP.out;rw [if_pos (by rfl)];refine wpIn_append_hr (.tmp 41) (.tmp 45) 35 (some 46) rfl rfl _ _ rfl rfl hr7 ?_;refine hK _ _ ?_;clear hK K
          try simp only [putS]
          refine wpAnyIn_ready (rs:=[6]) (by kernel_rfl) (by simp) (AllReadyIn.cons rfl (fun K hK=>?b12_6) AllReadyIn.nil)
          case b12_6 =>
           go_simp;refine hK _ _ ?_;clear hK K
           try simp only [putS]
           refine wpAnyIn_done (by kernel_rfl) ?_ _;gi_wp2;gi_meet
           case rel=>exact HE7.out
    case b1_1 =>
     go_simp;refine ⟨trivial,(callsIn_wide.2 HST2).mono ?_⟩;rintro e W6 ⟨rfl,hX6,hb6,ho6⟩;obtain ⟨r6,h6,ra6,HAP⟩:=HNX.out W6 hX6 hb6 ho6;clear hX6 hb6 ho6;refine hK _ _ ?_;clear hK K
     try simp only [putS]
     refine wpAnyIn_ready (rs:=[0,2]) (by kernel_rfl) (by simp) (AllReadyIn.cons rfl (fun K hK=>?b13_0) (AllReadyIn.cons rfl (fun K hK=>?b13_2) AllReadyIn.nil))
     case b13_0 =>
      go_simp;refine hK _ _ ?_;clear hK K
      try simp only [putS]
      refine wpAnyIn_ready (rs:=[2]) (by kernel_rfl) (by simp) (AllReadyIn.cons rfl (fun K hK=>?b14_2) AllReadyIn.nil)
      case b14_2 =>
       go_simp;refine hK _ _ ?_;clear hK K
       try simp only [putS]
       refine wpAnyIn_ready (rs:=[3]) (by kernel_rfl) (by simp) (AllReadyIn.cons rfl (fun K hK=>?b15_3) AllReadyIn.nil)
       case b15_3 =>
        go_simp;refine hK _ _ ?_;clear hK K
        try simp only [putS]
        refine wpAnyIn_ready (rs:=[4]) (by kernel_rfl) (by simp) (AllReadyIn.cons rfl (fun K hK=>?b16_4) AllReadyIn.nil)
        case b16_4 =>
         go_simp;refine hK _ _ ?_;clear hK K
         try simp only [putS]
         refine wpAnyIn_ready (rs:=[5]) (by kernel_rfl) (by simp) (AllReadyIn.cons rfl (fun K hK=>?b17_5) AllReadyIn.nil)
         case b17_5 =>
          obtain ⟨g7,n7,cap7,W7,hr7,k7,kf7,HE7⟩:=HAP.out;rw [if_pos (by rfl)];refine wpIn_append_hr (.tmp 41) (.tmp 45) 35 (some 46) rfl rfl _ _ rfl rfl hr7 ?_;refine hK _ _ ?_;clear hK K
          try simp only [putS]
          refine wpAnyIn_ready (rs:=[6]) (by kernel_rfl) (by simp) (AllReadyIn.cons rfl (fun K hK=>?b18_6) AllReadyIn.nil)
          case b18_6 =>
           go_simp;refine hK _ _ ?_;clear hK K
           try simp only [putS]
           refine wpAnyIn_done (by kernel_rfl) ?_ _;gi_wp2;gi_meet
           case rel=>exact HE7.out
     case b13_2 =>
      go_simp;refine hK _ _ ?_;clear hK K
      try simp only [putS]
      refine wpAnyIn_ready (rs:=[0,3]) (by kernel_rfl) (by simp) (AllReadyIn.cons rfl (fun K hK=>?b19_0) (AllReadyIn.cons rfl (fun K hK=>?b19_3) AllReadyIn.nil))
      case b19_0 =>
       go_simp;refine hK _ _ ?_;clear hK K
       try simp only [putS]
       refine wpAnyIn_ready (rs:=[3]) (by kernel_rfl) (by simp) (AllReadyIn.cons rfl (fun K hK=>?b20_3) AllReadyIn.nil)
       case b20_3 =>
        go_simp;refine hK _ _ ?_;clear hK K
        try simp only [putS]
        refine wpAnyIn_ready (rs:=[4]) (by kernel_rfl) (by simp) (AllReadyIn.cons rfl (fun K hK=>?b21_4) AllReadyIn.nil)
        case b21_4 =>
         go_simp;refine hK _ _ ?_;clear hK K
         try simp only [putS]
         refine wpAnyIn_ready (rs:=[5]) (by kernel_rfl) (by simp) (AllReadyIn.cons rfl (fun K hK=>?b22_5) AllReadyIn.nil)
         case b22_5 =>
          obtain ⟨g7,n7,cap7,W7,hr7,k7,kf7,HE7⟩:=HAP.out;rw [if_pos (by rfl)];refine wpIn_append_hr (.tmp 41) (.tmp 45) 35 (some 46) rfl rfl _ _ rfl rfl hr7 ?_;refine hK _ _ ?_;clear hK K
          try simp only [putS]
          refine wpAnyIn_ready (rs:=[6]) (by kernel_rfl) (by simp) (AllReadyIn.cons rfl (fun K hK=>?b23_6) AllReadyIn.nil)
          case b23_6 =>
           go_simp;refine hK _ _ ?_;clear hK K
           try simp only [putS]
           refine wpAnyIn_done (by kernel_rfl) ?_ _;gi_wp2;gi_meet
           case rel=>exact HE7.out
      case b19_3 =>
       go_simp;refine hK _ _ ?_;clear hK K
       try simp only [putS]
       refine wpAnyIn_ready (rs:=[0,4]) (by kernel_rfl) (by simp) (AllReadyIn.cons rfl (fun K hK=>?b24_0) (AllReadyIn.cons rfl (fun K hK=>?b24_4) AllReadyIn.nil))
       case b24_0 =>
        go_simp;refine hK _ _ ?_;clear hK K
        try simp only [putS]
        refine wpAnyIn_ready (rs:=[4]) (by kernel_rfl) (by simp) (AllReadyIn.cons rfl (fun K hK=>?b25_4) AllReadyIn.nil)
        case b25_4 =>
         go_simp;refine hK _ _ ?_;clear hK K
         try simp only [putS]
         refine wpAnyIn_ready (rs:=[5]) (by kernel_rfl) (by simp) (AllReadyIn.cons rfl (fun K hK=>?b26_5) AllReadyIn.nil)
         case b26_5 =>
          obtain ⟨g7,n7,cap7,W7,hr7,k7,kf7,HE7⟩:=HAP.out;rw [if_pos (by rfl)];refine wpIn_append_hr (.tmp 41) (.tmp 45) 35 (some 46) rfl rfl _ _ rfl rfl hr7 ?_;refine hK _ _ ?_;clear hK K
          try simp only [putS]
          refine wpAnyIn_ready (rs:=[6]) (by kernel_rfl) (by simp) (AllReadyIn.cons rfl (fun K hK=>?b27_6) AllReadyIn.nil)
          case b27_6 =>
           go_simp;refine hK _ _ ?_;clear hK K
           try simp only [putS]
           refine wpAnyIn_done (by kernel_rfl) ?_ _;gi_wp2;gi_meet
           case rel=>exact HE7.out
       case b24_4 =>
        go_simp;refine hK _ _ ?_;clear hK K
        try simp only [putS]
        refine wpAnyIn_ready (rs:=[0]) (by kernel_rfl) (by simp) (AllReadyIn.cons rfl (fun K hK=>?b28_0) AllReadyIn.nil)
        case b28_0 =>
         go_simp;refine hK _ _ ?_;clear hK K
         try simp only [putS]
         refine wpAnyIn_ready (rs:=[5]) (by kernel_rfl) (by simp) (AllReadyIn.cons rfl (fun K hK=>?b29_5) AllReadyIn.nil)
         case b29_5 =>
          obtain ⟨g7,n7,cap7,W7,hr7,k7,kf7,HE7⟩:=HAP.out;rw [if_pos (by rfl)];refine wpIn_append_hr (.tmp 41) (.tmp 45) 35 (some 46) rfl rfl _ _ rfl rfl hr7 ?_;refine hK _ _ ?_;clear hK K
          try simp only [putS]
          refine wpAnyIn_ready (rs:=[6]) (by kernel_rfl) (by simp) (AllReadyIn.cons rfl (fun K hK=>?b30_6) AllReadyIn.nil)
          case b30_6 =>
           go_simp;refine hK _ _ ?_;clear hK K
           try simp only [putS]
           refine wpAnyIn_done (by kernel_rfl) ?_ _;gi_wp2;gi_meet
           case rel=>exact HE7.out
    case b1_2 =>
     go_simp;refine hK _ _ ?_;clear hK K
     try simp only [putS]
     refine wpAnyIn_ready (rs:=[0,1]) (by kernel_rfl) (by simp) (AllReadyIn.cons rfl (fun K hK=>?b31_0) (AllReadyIn.cons rfl (fun K hK=>?b31_1) AllReadyIn.nil))
     case b31_0 =>
      go_simp;refine hK _ _ ?_;clear hK K
      try simp only [putS]
      refine wpAnyIn_ready (rs:=[1]) (by kernel_rfl) (by simp) (AllReadyIn.cons rfl (fun K hK=>?b32_1) AllReadyIn.nil)
      case b32_1 =>
       go_simp;refine ⟨trivial,(callsIn_wide.2 HST2).mono ?_⟩;rintro e W6 ⟨rfl,hX6,hb6,ho6⟩;obtain ⟨r6,h6,ra6,HAP⟩:=HNX.out W6 hX6 hb6 ho6;clear hX6 hb6 ho6;refine hK _ _ ?_;clear hK K
       try simp only [putS]
       refine wpAnyIn_ready (rs:=[3]) (by kernel_rfl) (by simp) (AllReadyIn.cons rfl (fun K hK=>?b33_3) AllReadyIn.nil)
       case b33_3 =>
        go_simp;refine hK _ _ ?_;clear hK K
        try simp only [putS]
        refine wpAnyIn_ready (rs:=[4]) (by kernel_rfl) (by simp) (AllReadyIn.cons rfl (fun K hK=>?b34_4) AllReadyIn.nil)
        case b34_4 =>
         go_simp;refine hK _ _ ?_;clear hK K
         try simp only [putS]
         refine wpAnyIn_ready (rs:=[5]) (by kernel_rfl) (by simp) (AllReadyIn.cons rfl (fun K hK=>?b35_5) AllReadyIn.nil)
         case b35_5 =>
          obtain ⟨g7,n7,cap7,W7,hr7,k7,kf7,HE7⟩:=HAP.out;rw [if_pos (by rfl)];refine wpIn_append_hr (.tmp 41) (.tmp 45) 35 (some 46) rfl rfl _ _ rfl rfl hr7 ?_;refine hK _ _ ?_;clear hK K
          try simp only [putS]
          refine wpAnyIn_ready (rs:=[6]) (by kernel_rfl) (by simp) (AllReadyIn.cons rfl (fun K hK=>?b36_6) AllReadyIn.nil)
          case b36_6 =>
           go_simp;refine hK _ _ ?_;clear hK K
           try simp only [putS]
           refine wpAnyIn_done (by kernel_rfl) ?_ _;gi_wp2;gi_meet
           case rel=>exact HE7.out
     case b31_1 =>
      go_simp;refine ⟨trivial,(callsIn_wide.2 HST2).mono ?_⟩;rintro e W6 ⟨rfl,hX6,hb6,ho6⟩;obtain ⟨r6,h6,ra6,HAP⟩:=HNX.out W6 hX6 hb6 ho6;clear hX6 hb6 ho6;refine hK _ _ ?_;clear hK K
      try simp only [putS]
      refine wpAnyIn_ready (rs:=[0,3]) (by kernel_rfl) (by simp) (AllReadyIn.cons rfl (fun K hK=>?b37_0) (AllReadyIn.cons rfl (fun K hK=>?b37_3) AllReadyIn.nil))
      case b37_0 =>
       go_simp;refine hK _ _ ?_;clear hK K
       try simp only [putS]
       refine wpAnyIn_ready (rs:=[3]) (by kernel_rfl) (by simp) (AllReadyIn.cons rfl (fun K hK=>?b38_3) AllReadyIn.nil)
       case b38_3 =>
        go_simp;refine hK _ _ ?_;clear hK K
        try simp only [putS]
        refine wpAnyIn_ready (rs:=[4]) (by kernel_rfl) (by simp) (AllReadyIn.cons rfl (fun K hK=>?b39_4) AllReadyIn.nil)
        case b39_4 =>
         go_simp;refine hK _ _ ?_;clear hK K
         try simp only [putS]
         refine wpAnyIn_ready (rs:=[5]) (by kernel_rfl) (by simp) (AllReadyIn.cons rfl (fun K hK=>?b40_5) AllReadyIn.nil)
         case b40_5 =>
          obtain ⟨g7,n7,cap7,W7,hr7,k7,kf7,HE7⟩:=HAP.out;rw [if_pos (by rfl)];refine wpIn_append_hr (.tmp 41) (.tmp 45) 35 (some 46) rfl rfl _ _ rfl rfl hr7 ?_;refine hK _ _ ?_;clear hK K
          try simp only [putS]
          refine wpAnyIn_ready (rs:=[6]) (by kernel_rfl) (by simp) (AllReadyIn.cons rfl (fun K hK=>?b41_6) AllReadyIn.nil)
          case b41_6 =>
           go_simp;refine hK _ _ ?_;clear hK K
           try simp only [putS]
           refine wpAnyIn_done (by kernel_rfl) ?_ _;gi_wp2;gi_meet
           case rel=>exact HE7.out
      case b37_3 =>
       go_simp;refine hK _ _ ?_;clear hK K
       try simp only [putS]
       refine wpAnyIn_ready (rs:=[0,4]) (by kernel_rfl) (by simp) (AllReadyIn.cons rfl (fun K hK=>?b42_0) (AllReadyIn.cons rfl (fun K hK=>?b42_4) AllReadyIn.nil))
       case b42_0 =>
        go_simp;refine hK _ _ ?_;clear hK K
        try simp only [putS]
        refine wpAnyIn_ready (rs:=[4]) (by kernel_rfl) (by simp) (AllReadyIn.cons rfl (fun K hK=>?b43_4) AllReadyIn.nil)
        case b43_4 =>
         go_simp;refine hK _ _ ?_;clear hK K
         try simp only [putS]
         refine wpAnyIn_ready (rs:=[5]) (by kernel_rfl) (by simp) (AllReadyIn.cons rfl (fun K hK=>?b44_5) AllReadyIn.nil)
         case b44_5 =>
          obtain ⟨g7,n7,cap7,W7,hr7,k7,kf7,HE7⟩:=HAP.out;rw [if_pos (by rfl)];refine wpIn_append_hr (.tmp 41) (.tmp 45) 35 (some 46) rfl rfl _ _ rfl rfl hr7 ?_;refine hK _ _ ?_;clear hK K
          try simp only [putS]
          refine wpAnyIn_ready (rs:=[6]) (by kernel_rfl) (by simp) (AllReadyIn.cons rfl (fun K hK=>?b45_6) AllReadyIn.nil)
          case b45_6 =>
           go_simp;refine hK _ _ ?_;clear hK K
           try simp only [putS]
           refine wpAnyIn_done (by kernel_rfl) ?_ _;gi_wp2;gi_meet
           case rel=>exact HE7.out
       case b42_4 =>
        go_simp;refine hK _ _ ?_;clear hK K
        try simp only [putS]
        refine wpAnyIn_ready (rs:=[0]) (by kernel_rfl) (by simp) (AllReadyIn.cons rfl (fun K hK=>?b46_0) AllReadyIn.nil)
        case b46_0 =>
         go_simp;refine hK _ _ ?_;clear hK K
         try simp only [putS]
         refine wpAnyIn_ready (rs:=[5]) (by kernel_rfl) (by simp) (AllReadyIn.cons rfl (fun K hK=>?b47_5) AllReadyIn.nil)
         case b47_5 =>
          obtain ⟨g7,n7,cap7,W7,hr7,k7,kf7,HE7⟩:=HAP.out;rw [if_pos (by rfl)];refine wpIn_append_hr (.tmp 41) (.tmp 45) 35 (some 46) rfl rfl _ _ rfl rfl hr7 ?_;refine hK _ _ ?_;clear hK K
          try simp only [putS]
          refine wpAnyIn_ready (rs:=[6]) (by kernel_rfl) (by simp) (AllReadyIn.cons rfl (fun K hK=>?b48_6) AllReadyIn.nil)
          case b48_6 =>
           go_simp;refine hK _ _ ?_;clear hK K
           try simp only [putS]
           refine wpAnyIn_done (by kernel_rfl) ?_ _;gi_wp2;gi_meet
           case rel=>exact HE7.out
   case rest =>
    clear HNX HST2 r2 h2 hl2 r0;obtain ⟨⟨a8,c8,hv8,hown8⟩,hB8,hKd8⟩:=hcut;have r8:wc.cell? ⟨w.heap.size,0,none⟩=some (.slice a8 (D.length+1) c8):=by rw [cH hv8];rfl
    gi_wp2;refine ⟨by simp,.inl ⟨_,_,rfl,run_takeDeferred hKd8,?_⟩⟩;refine ⟨_,results_tmp rfl _ _ _,_,rfl,?_,?_⟩
    ·rw [HE2.out];exact (ownF_grown hown8 (grownBy_putObj' wc De _) (.inr (fun e=>by obtain ⟨cs2,fz2,hx⟩:=ownF_type hown8 e;rw [hKd8] at hx;cases hx))).mono (by omega)
    ·exact hB8.grown (grownBy_putObj' wc De _) hB8.size (fun k hk=>by cases hk;omega)
 case stop =>
  rintro D c pre W hD hSp hf hKd;exact hf.elim
end Go.Proofs.YtijpfbcippijoaaGreatDoor
