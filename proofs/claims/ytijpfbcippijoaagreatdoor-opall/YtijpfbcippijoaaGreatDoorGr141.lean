import Derived.Test.YtijpfbcippijoaaGreatDoorAl
import Derived.Test.YtijpfbcippijoaaGreatDoorGr145
import Derived.Sort.QuietIn
import Derived.Lib.RuneBytes
import Derived.Lib.FrozenHead2
import Derived.Lib.OthersKept
import Derived.Shelf.Strings.BuilderK
import Derived.Test.YtijpfbcippijoaaGreatDoorProg
set_option maxHeartbeats 4000000
set_option maxRecDepth 100000
namespace Go.Proofs.YtijpfbcippijoaaGreatDoor
open Go.RowKit Go.Lib Go.Shelf
attribute [local go_sem] Oper.semAt_some
theorem give_out (l n:Nat) (J Jx:List Pc→World→Prop) (hJ:∀ s A B,J s A→Below A.heap.size A B→J s B) {t:Tr} {g:Nat} {W:World} (pre:List Pc) (f lo hi:Int) (hA:At W t g) (hf:t.Can) (hf0:0≤f) (hfn:f+t.row.length≤2097152) (hj:J pre W) (hle:min hi (f+t.sm.cells)≤max lo f) :
  CallsIn Fence.wide n Tryz.prog 69 #[.pointer (some ⟨g,0,none⟩),.int .i64 f,.int .i64 lo,.int .i64 hi,.func (.yield l) #[] #[]] W fun e W'=>(e=.returned (.bool true)∧∃ ys:List Pc,ys.map Pc.dat=gv t.lv f lo hi∧J (pre++ys) W'∧KpT W W')∨(e=.returned (.bool false)∧∃ ys:List Pc,ys.map Pc.dat <+: gv t.lv f lo hi∧Jx (pre++ys) W'):=by
 have hsc:=t.sm_cells;have hbd:=hf.smBd (by omega);have hcb:=hbd.cells;have hmx:=max_run;have hmn:=min_run;have u0:IntKind.i64.wrap (f+t.sm.cells)=f+t.sm.cells:=IntWalk.i64_in _ (by omega);obtain ⟨c0,c1,c2,c3,c4,c5,c6,c7,c8,c9⟩:=hA.ten;have hg0:gv t.lv f lo hi=[]:=gv_none t.lv f lo hi (by rw [hsc,Tr.row_len] at hle;exact hle);rw [hg0];clear hsc hg0;refine callsIn_of_wp Tryz.func69 rfl trivial ?_ rfl;simp only [Tryz.ntmps69,List.size_toArray,List.length_cons,List.length_nil,Nat.reduceAdd,Nat.reduceSub,Array.replicate_succ,Array.replicate_zero,List.push_toArray,List.append_toArray,List.nil_append,List.cons_append];gi_wp2;gi_quiet_th (fail);have hb1:=below_drewN (bE W.heap.size W) nq;generalize W.drewN nq=W1 at *;gi_wp2;go_ret;exact .inl ⟨rfl,[],rfl,by simpa using hJ _ _ _ hj hb1,KpT.below hb1⟩
theorem give_in (l:Nat) (J Jx:List Pc→World→Prop) (Q:List Pc→Prop) (hJ:∀ s A B,J s A→Below A.heap.size A B→J s B)
  (hY:∀ m pre x W1,J pre W1→Pc.V x W1→Q (pre++[x])→YieldAt Fence.wide m Tryz.prog l (Pc.encs x) W1 fun e W'=>(e=.returned (.bool true)∧J (pre++[x]) W'∧KpT W1 W')∨(e=.returned (.bool false)∧Jx (pre++[x]) W')) :
  ∀ (N n:Nat) {t:Tr} {g:Nat} {W:World} (pre:List Pc) (f lo hi:Int),t.sm.high≤(N:Int)→At W t g→t.Can→Pcs t.lv→Okl t.lv→0≤f→f+t.row.length≤2097152→J pre W→(∀ ys:List Pc,ys.map Pc.dat <+: gv t.lv f lo hi→Q (pre++ys)) →
   CallsIn Fence.wide n Tryz.prog 69 #[.pointer (some ⟨g,0,none⟩),.int .i64 f,.int .i64 lo,.int .i64 hi,.func (.yield l) #[] #[]] W fun e W'=>(e=.returned (.bool true)∧∃ ys:List Pc,ys.map Pc.dat=gv t.lv f lo hi∧J (pre++ys) W'∧KpT W W')∨(e=.returned (.bool false)∧∃ ys:List Pc,ys.map Pc.dat <+: gv t.lv f lo hi∧Jx (pre++ys) W'):=by
 intro N
 induction N with
 | zero =>
  intro n t g W pre f lo hi hN hA hf hP hO hf0 hfn hj hQ;rcases hf with rfl|hf
  ·exact give_out l n J Jx hJ pre f lo hi hA (.inl rfl) hf0 hfn hj (by have e0:Tr.nil.sm.cells=0:=rfl;rw [e0];omega)
  ·have:=hf.pos;omega
 | succ N ih =>
  intro n t g W pre f lo hi hN hA hf hP hO hf0 hfn hj hQ;by_cases hle:min hi (f+t.sm.cells)≤max lo f
  ·exact give_out l n J Jx hJ pre f lo hi hA hf hf0 hfn hj hle
  have hfi:t.Fine:=hf.resolve_left (by rintro rfl;have e0:Tr.nil.sm.cells=0:=rfl;rw [e0] at hle;omega);have HIH:Hid (∀ (n:Nat) {t:Tr} {g:Nat} {W:World} (pre:List Pc) (f lo hi:Int),t.sm.high≤(N:Int)→At W t g→t.Can→Pcs t.lv→Okl t.lv→0≤f→f+t.row.length≤2097152→J pre W→(∀ ys:List Pc,ys.map Pc.dat <+: gv t.lv f lo hi→Q (pre++ys))→CallsIn Fence.wide n Tryz.prog 69 #[.pointer (some ⟨g,0,none⟩),.int .i64 f,.int .i64 lo,.int .i64 hi,.func (.yield l) #[] #[]] W fun e W'=>(e=.returned (.bool true)∧∃ ys:List Pc,ys.map Pc.dat=gv t.lv f lo hi∧J (pre++ys) W'∧KpT W W')∨(e=.returned (.bool false)∧∃ ys:List Pc,ys.map Pc.dat <+: gv t.lv f lo hi∧Jx (pre++ys) W')):=ih;have HJ:Hid (∀ s A B,J s A→Below A.heap.size A B→J s B):=hJ;have HY:Hid (∀ m pre x W1,J pre W1→Pc.V x W1→Q (pre++[x])→YieldAt Fence.wide m Tryz.prog l (Pc.encs x) W1 fun e W'=>(e=.returned (.bool true)∧J (pre++[x]) W'∧KpT W1 W')∨(e=.returned (.bool false)∧Jx (pre++[x]) W')):=hY;clear ih hJ hY;have hsc:=t.sm_cells;have hbd:=hf.smBd (by omega);have hcb:=hbd.cells;have hmx:=max_run;have hmn:=min_run;have u0:IntKind.i64.wrap (f+t.sm.cells)=f+t.sm.cells:=IntWalk.i64_in _ (by omega);obtain ⟨c0,c1,c2,c3,c4,c5,c6,c7,c8,c9⟩:=hA.ten;have hgl:=hA.lt;have hlo':max lo f<min hi (f+t.sm.cells):=by omega
  have hlow:f≤max lo f:=by omega
  have hhiw:min hi (f+t.sm.cells)≤f+t.sm.cells:=by omega
  cases t with
  | nil=>exact hfi.wf.elim
  | leaf rs hid st =>
   have HIP:=smIsPiece_any (Tr.leaf rs hid st).sm;rw [Tr.sm_high_leaf] at HIP;have hcr:(Tr.leaf rs hid st).sm.cells=(rs.length:Int):=rfl;have hOk:∀ r∈rs,okR r:=fun r hr=>hO (rs,hid) (by simp [Tr.lv]) r hr
   have h32:rs.length≤32:=hP.few (rs,hid) (by simp [Tr.lv]);have HG:Hid (gv (Tr.leaf rs hid st).lv f lo hi=[(max lo f,(rs.take (min hi (f+rs.length)-f).toNat).drop (max lo f-f).toNat,hid)]):=by
    show _=_;simp only [Tr.lv,gv,one,List.append_nil];rw [hcr] at hlo';rw [if_pos hlo']
   have HPT:Hid (∀ W',Below W.heap.size W W'→Calls Tryz.prog 91 #[.pointer (some ⟨g,0,none⟩),.int .i64 (max lo f-f),.int .i64 (min hi (f+(Tr.leaf rs hid st).sm.cells)-f)] W' fun e W2=>∃ g' t',e=.returned (.pointer (some ⟨g',0,none⟩))∧At W2 t' g'∧PartOf rs hid (max lo f-f).toNat (min hi (f+rs.length)-f).toNat t'∧Below W'.heap.size W' W2):=fun W' hW'=>by
    have h:=part_any (hA.below hW') hfi (max lo f-f).toNat (min hi (f+rs.length)-f).toNat (by rw [hcr] at hlo';omega) (by omega) (by omega);rw [Int.toNat_of_nonneg (by omega),Int.toNat_of_nonneg (by rw [hcr] at hlo';omega)] at h;rw [hcr];exact h
   have hab:(max lo f-f).toNat<(min hi (f+rs.length)-f).toNat:=by rw [hcr] at hlo';omega
   have hbr:(min hi (f+rs.length)-f).toNat≤rs.length:=by omega
   clear hcr hsc;generalize hlf:Tr.leaf rs hid st=lf at *;generalize hLO:max lo f=lo' at *;have HLF:Hid (Tr.leaf rs hid st=lf):=hlf;have HLO:Hid (max lo f=lo'):=hLO;clear hlf hLO;generalize hHI:min hi (f+lf.sm.cells)=hi' at *;have HHI:Hid (min hi (f+lf.sm.cells)=hi'):=hHI;clear hHI;refine callsIn_of_wp Tryz.func69 rfl trivial ?_ rfl;simp only [Tryz.ntmps69,List.size_toArray,List.length_cons,List.length_nil,Nat.reduceAdd,Nat.reduceSub,Array.replicate_succ,Array.replicate_zero,List.push_toArray,List.append_toArray,List.nil_append,List.cons_append];gi_wp2;gi_quiet_th (fail);have hb1:=below_drewN (bE W.heap.size W) nq;rw [HLO.out,HHI.out];generalize W.drewN nq=W1 at *
   replace c0:=(hb1.cell (p:=⟨g,0,none⟩) hgl).trans c0
   replace c1:=(hb1.cell (p:=⟨g,1,none⟩) hgl).trans c1
   replace c2:=(hb1.cell (p:=⟨g,2,none⟩) hgl).trans c2
   replace c3:=(hb1.cell (p:=⟨g,3,none⟩) hgl).trans c3
   replace c4:=(hb1.cell (p:=⟨g,4,none⟩) hgl).trans c4
   replace c5:=(hb1.cell (p:=⟨g,5,none⟩) hgl).trans c5
   replace c6:=(hb1.cell (p:=⟨g,6,none⟩) hgl).trans c6
   replace c7:=(hb1.cell (p:=⟨g,7,none⟩) hgl).trans c7
   replace c8:=(hb1.cell (p:=⟨g,8,none⟩) hgl).trans c8
   replace c9:=(hb1.cell (p:=⟨g,9,none⟩) hgl).trans c9
   clear hmx hmn;gi_wp2;refine ⟨trivial,fun h=>(by cases h),(callsIn_wide.2 (HIP _)).mono ?_⟩;rintro e W2 ⟨rfl,hb2⟩;have hB2:=hb1.trans (hb2.mono hb1.size);clear c0 c1 c2 c3 c4 c5 c6 c7 c8 c9;gi_wp2;refine ⟨trivial,fun h=>(by cases h),(callsIn_wide.2 (HPT.out _ hB2)).mono ?_⟩;rintro e W3 ⟨g3,t3,rfl,hA3,hp3,hb3⟩;have hB3:=hB2.trans (hb3.mono hB2.size);have hlv3:t3.lv=[((rs.take (min hi (f+rs.length)-f).toNat).drop (lo'-f).toNat,hid)]:=by rw [hp3.lv];unfold partL;rw [if_neg (by omega)]
   obtain ⟨st3,rfl⟩:=hp3.can.one hlv3;have hfin:=hp3.can.resolve_left (by simp);have hV3:Pc.V ⟨lo',g3,(rs.take (min hi (f+rs.length)-f).toNat).drop (lo'-f).toNat,hid⟩ W3:=⟨st3,hA3,hfin,by simp only [List.length_drop,List.length_take];omega,fun r hr=>hOk r (List.mem_of_mem_take (List.mem_of_mem_drop hr))⟩;obtain ⟨fn,tmps,assign,body,hy,hR⟩:=HY.out (n-1) pre ⟨lo',g3,(rs.take (min hi (f+rs.length)-f).toNat).drop (lo'-f).toNat,hid⟩ W3 (HJ.out _ _ _ hj hB3) hV3 (hQ [_] (by rw [HG.out];exact List.prefix_refl _));have HG2:Hid (([⟨lo',g3,(rs.take (min hi (f+rs.length)-f).toNat).drop (lo'-f).toNat,hid⟩]:List Pc).map Pc.dat=gv lf.lv f lo hi):=by
    show _=_;rw [HG.out];rfl
   simp only [Pc.encs] at hy;generalize (Pc.mk lo' g3 ((rs.take (min hi (f+rs.length)-f).toNat).drop (lo'-f).toNat) hid)=x at *;clear hV3 hlv3 hA3 hfin hp3;gi_wp2;refine ⟨fun h=>(by cases h),hR.mono ?_⟩;rintro e W4 (⟨rfl,hJ4,hk4⟩|⟨rfl,hx4⟩)
   ·gi_wp2;go_ret;exact .inl ⟨rfl,[x],HG2.out,hJ4,(KpT.below hB3).trans hk4⟩
   ·gi_wp2;go_ret;exact .inr ⟨rfl,[x],by rw [HG2.out];exact List.prefix_refl _,hx4⟩
  | node l0 r0 st =>
   have HIP:=smIsPiece_any (Tr.node l0 r0 st).sm;have hh2:=hfi.wf.high_node;rw [show decide ((Tr.node l0 r0 st).sm.high≤1)=false by simp;omega] at HIP;have HSC:Hid ((Tr.node l0 r0 st).sm.cells=((Tr.node l0 r0 st).row.length:Int)):=hsc;clear hsc;generalize Tr.node l0 r0 st=t at *;generalize hLO:max lo f=lo' at *;have HLO:Hid (max lo f=lo'):=hLO;clear hLO;generalize hHI:min hi (f+t.sm.cells)=hi' at *;have HHI:Hid (min hi (f+t.sm.cells)=hi'):=hHI;clear hHI;refine callsIn_of_wp Tryz.func69 rfl trivial ?_ rfl;simp only [Tryz.ntmps69,List.size_toArray,List.length_cons,List.length_nil,Nat.reduceAdd,Nat.reduceSub,Array.replicate_succ,Array.replicate_zero,List.push_toArray,List.append_toArray,List.nil_append,List.cons_append];gi_wp2;gi_quiet_th (fail);have hb1:=below_drewN (bE W.heap.size W) nq;rw [HLO.out,HHI.out];generalize W.drewN nq=W1 at *
   replace c0:=(hb1.cell (p:=⟨g,0,none⟩) hgl).trans c0
   replace c1:=(hb1.cell (p:=⟨g,1,none⟩) hgl).trans c1
   replace c2:=(hb1.cell (p:=⟨g,2,none⟩) hgl).trans c2
   replace c3:=(hb1.cell (p:=⟨g,3,none⟩) hgl).trans c3
   replace c4:=(hb1.cell (p:=⟨g,4,none⟩) hgl).trans c4
   replace c5:=(hb1.cell (p:=⟨g,5,none⟩) hgl).trans c5
   replace c6:=(hb1.cell (p:=⟨g,6,none⟩) hgl).trans c6
   replace c7:=(hb1.cell (p:=⟨g,7,none⟩) hgl).trans c7
   replace c8:=(hb1.cell (p:=⟨g,8,none⟩) hgl).trans c8
   replace c9:=(hb1.cell (p:=⟨g,9,none⟩) hgl).trans c9
   clear hmx hmn;gi_wp2;refine ⟨trivial,fun h=>(by cases h),(callsIn_wide.2 (HIP _)).mono ?_⟩;rintro e W2 ⟨rfl,hb2⟩;have hB2:=hb1.trans (hb2.mono hb1.size);clear c0 c1 c2 c3 c4 c5 c6 c7 c8 c9;gi_wp2;refine ⟨trivial,fun h=>(by cases h),(callsIn_wide.2 (sides_p (hA.below hB2) hfi hh2 (by omega))).mono ?_⟩;rintro e W3 ⟨gl,gr,tl,tr,rfl,hl,hr,hs,hb3⟩;have hB3:=hB2.trans (hb3.mono hB2.size);have hlen:=hs.len;have q0:=hs.high;have hPl:Pcs tl.lv:=by rw [hs.lv] at hP;exact hP.left
   have hPr:Pcs tr.lv:=by rw [hs.lv] at hP;exact hP.right
   have hOl:Okl tl.lv:=by rw [hs.lv] at hO;exact hO.left
   have hOr:Okl tr.lv:=by rw [hs.lv] at hO;exact hO.right
   have hlc:=tl.sm_cells;have hHsc:=HSC.out;have HL:Hid (gv tl.lv f lo' hi'=gv tl.lv f lo hi):=by
    show _=_;rw [← HLO.out,← HHI.out];exact gv_clip tl.lv f lo hi f _ (by omega) (by rw [← Tr.row_len];omega)
   have HR:Hid (gv tr.lv (f+tl.sm.cells) lo' hi'=gv tr.lv (f+tl.sm.cells) lo hi):=by
    show _=_;rw [← HLO.out,← HHI.out];exact gv_clip tr.lv _ lo hi f _ (by omega) (by rw [← Tr.row_len];omega)
   have HG:Hid (gv t.lv f lo hi=gv tl.lv f lo hi++gv tr.lv (f+tl.sm.cells) lo hi):=by
    show _=_;rw [hs.lv,gv_append,← Tr.row_len,hlc]
   have HLC:Hid (tl.sm.cells=(tl.row.length:Int)):=hlc;have hlb:0≤tl.sm.cells∧tl.sm.cells≤2097152:=by omega
   have hfl2:f+tl.sm.cells+(tr.row.length:Int)≤2097152:=by omega
   have hflb:f+(tl.row.length:Int)≤2097152:=by omega
   clear hlc hHsc;gi_wp2;refine ⟨trivial,fun h=>(by cases h),(HIH.out (n-1) pre f lo' hi' (by have:=hs.fr.pos;omega) hl (.inr hs.fl) hPl hOl hf0 hflb (HJ.out _ _ _ hj hB3) (fun ys hys=>hQ ys (by rw [HG.out];rw [HL.out] at hys;exact hys.trans (List.prefix_append _ _)))).mono ?_⟩;rintro e W4 (⟨rfl,ys,hy4,hJ4,hk4⟩|⟨rfl,ys,hy4,hx4⟩)
   ·have hl4:=hl.kpT hk4;have hr4:=hr.kpT hk4;have d0:=hl4.cells;gi_wp2;refine ⟨trivial,fun h=>(by cases h),(HIH.out (n-1) (pre++ys) (f+tl.sm.cells) lo' hi' (by have:=hs.fl.pos;omega) hr4 (.inr hs.fr) hPr hOr (by omega) hfl2 hJ4 (fun zs hzs=>by rw [List.append_assoc];exact hQ (ys++zs) (by rw [List.map_append,hy4,HG.out,HL.out];rw [HR.out] at hzs;exact (List.prefix_append_right_inj _).2 hzs))).mono ?_⟩;rintro e W5 (⟨rfl,zs,hy5,hJ5,hk5⟩|⟨rfl,zs,hy5,hx5⟩)
    ·gi_wp2;go_ret;exact .inl ⟨rfl,ys++zs,by rw [List.map_append,hy4,hy5,HL.out,HR.out,HG.out],by rw [← List.append_assoc];exact hJ5,(KpT.below hB3).trans (hk4.trans hk5)⟩
    ·gi_wp2;go_ret;exact .inr ⟨rfl,ys++zs,by rw [List.map_append,hy4,HG.out,HL.out];rw [HR.out] at hy5;exact (List.prefix_append_right_inj _).2 hy5,by rw [← List.append_assoc];exact hx5⟩
   ·gi_wp2;refine ⟨trivial,?_⟩;gi_wp2;go_ret;exact .inr ⟨rfl,ys,by rw [HG.out];rw [HL.out] at hy4;exact hy4.trans (List.prefix_append _ _),hx4⟩
attribute [local go_sem] Oper.semAt_some
theorem pieces1_seq (n:Nat) {w:World} {t:Tr} {g b1 b2 b3:Nat} {lo hi:Int} (hA:At w t g) (hf:t.Can) (hP:Pcs t.lv) (hO:Okl t.lv) (hn:t.row.length≤2097152)
  (k1:w.cell? ⟨b1,0,none⟩=some (.pointer (some ⟨g,0,none⟩))) (k2:w.cell? ⟨b2,0,none⟩=some (.int .i64 lo)) (k3:w.cell? ⟨b3,0,none⟩=some (.int .i64 hi)) (l1:b1<w.heap.size) (l2:b2<w.heap.size) (l3:b3<w.heap.size) :
  SeqV Fence.wide n Tryz.prog 68 #[.pointer (some ⟨b1,0,none⟩),.pointer (some ⟨b2,0,none⟩),.pointer (some ⟨b3,0,none⟩)] Pc.encs KpT Pc.V (fun xs=>xs.map Pc.dat=gv t.lv 0 lo hi) (fun xs=>xs.map Pc.dat <+: gv t.lv 0 lo hi) w:=by
 intro l J Jx W hb hJ hY h0
 replace k1:=(hb.cell (p:=⟨b1,0,none⟩) l1).trans k1
 replace k2:=(hb.cell (p:=⟨b2,0,none⟩) l2).trans k2
 replace k3:=(hb.cell (p:=⟨b3,0,none⟩) l3).trans k3
 have hA':=hA.below hb;obtain ⟨N,hN⟩:∃ N:Nat,t.sm.high≤(N:Int):=⟨t.sm.high.toNat,by omega⟩;have HG:Hid (∀ m,CallsIn Fence.wide m Tryz.prog 69 #[.pointer (some ⟨g,0,none⟩),.int .i64 0,.int .i64 lo,.int .i64 hi,.func (.yield l) #[] #[]] W fun e W'=>(e=.returned (.bool true)∧∃ ys:List Pc,ys.map Pc.dat=gv t.lv 0 lo hi∧J ([]++ys) W'∧KpT W W')∨(e=.returned (.bool false)∧∃ ys:List Pc,ys.map Pc.dat <+: gv t.lv 0 lo hi∧Jx ([]++ys) W')):=fun m =>
  give_in l J Jx (fun xs=>xs.map Pc.dat <+: gv t.lv 0 lo hi) hJ hY N m [] 0 lo hi hN hA' hf hP hO (Int.le_refl _) (by omega) h0 (fun ys h=>h)
 clear hA hA' hf hP hO hJ hY h0 hN hn hb;refine callsIn_of_wp Tryz.func68 rfl trivial ?_ rfl;simp only [Tryz.ntmps68,List.size_toArray,List.length_cons,List.length_nil,Nat.reduceAdd,Nat.reduceSub,Array.replicate_succ,Array.replicate_zero,List.push_toArray,List.append_toArray,List.nil_append,List.cons_append];gi_wp2;refine ⟨trivial,fun h=>(by cases h),(HG.out _).mono ?_⟩;rintro e W4 (⟨rfl,ys,hy4,hJ4,hk4⟩|⟨rfl,ys,hy4,hx4⟩)
 ·gi_wp2;go_end0;exact ⟨⟨_,rfl⟩,.inl ⟨ys,hy4,hJ4⟩⟩
 ·gi_wp2;go_end0;exact ⟨⟨_,rfl⟩,.inr ⟨ys,hy4,hx4⟩⟩
theorem cell_new (w:World) (v:Value) (T:TypeId):(w.alloc (.cells #[v] T)).cell? ⟨w.heap.size,0,none⟩=some v:=by
 have h:=World.alloc_heap_new w (.cells #[v] T);generalize w.alloc (.cells #[v] T)=w' at *;simp only [World.cell?,h];rfl
theorem cell_old (w:World) (o:Obj) (p:Addr) (h:p.block<w.heap.size):(w.alloc o).cell? p=w.cell? p:=((bE _ w).alloc (lR _) o).cell h
theorem cell_at (w:World) (v:Value) (T:TypeId) (b:Nat) (e:b=w.heap.size):(w.alloc (.cells #[v] T)).cell? ⟨b,0,none⟩=some v:=by subst e;exact cell_new w v T
theorem pieces_any {w:World} {q:Nat} {t:Tr} (h:RopeAt w q t) (hR:t.Rp) (hO:Okl t.lv) (lo hi:Int) :
  Calls Tryz.prog 29 #[.pointer (some ⟨q,0,none⟩),.int .i64 lo,.int .i64 hi] w fun e w'=>∃ lb,e=.returned (.func (.func 68) #[] lb)∧Below w.heap.size w w' ∧
   ∀ n,SeqV Fence.wide n Tryz.prog 68 lb Pc.encs KpT Pc.V (fun xs=>xs.map Pc.dat=gv t.lv 0 lo hi) (fun xs=>xs.map Pc.dat <+: gv t.lv 0 lo hi) w':=by
 obtain ⟨g,hc,hA⟩:=h.cell;have hql:=h.lt;have hn:=hR.len;have HR:Hid t.Rp:=hR;have HA:Hid (At w t g):=hA;have HO:Hid (Okl t.lv):=hO;clear h hR hA hO;go_enter Tryz.func29,Tryz.ntmps29;go_wp2_with fail;go_ret;refine ⟨_,rfl,?_,fun n=>pieces1_seq n (g:=g) (HA.out.below ?_) HR.out.can HR.out.pcs HO.out (by omega) ?_ ?_ ?_ ?_ ?_ ?_⟩
 ·exact (((bE _ w).alloc (lR _) _).alloc (by simp) _).alloc (by simp;omega) _
 ·exact (((bE _ w).alloc (lR _) _).alloc (by simp) _).alloc (by simp;omega) _
 ·exact cell_at _ _ _ _ (by simp [World.size_alloc])
 ·exact (cell_old _ _ _ (by simp [World.size_alloc];omega)).trans ((cell_old _ _ _ (by simp [World.size_alloc])).trans (cell_new _ _ _))
 ·exact (cell_old _ _ _ (by simp [World.size_alloc])).trans (cell_at _ _ _ _ (by simp [World.size_alloc]))
 ·simp [World.size_alloc]
 ·simp [World.size_alloc];omega
 ·simp [World.size_alloc]
end Go.Proofs.YtijpfbcippijoaaGreatDoor
namespace Go.Proofs.YtijpfbcippijoaaGreatDoor
open Go.RowKit Go.Lib
theorem infoB:(Tryz.prog.info? 5).map (fun i=>(i.zero,i.size,i.bytes))=some (some (.int .u8 0),1,1):=by kernel_rfl
def encV (r:Int):List Value:=(encB r).map fun b=>Value.int .u8 b.toNat
theorem u8_of (n:Nat) (x:Int) (h:(n:Int)=x) (hn:n<256):Value.int .u8 (UInt8.ofNat n).toNat=Value.int .u8 x:=by rw [ofNat_toNat n hn,h]
theorem encV1 {r:Int} (h0:0≤r) (h1:r≤127):encV r=[.int .u8 r]:=by
 obtain ⟨c,rfl⟩:=Int.eq_ofNat_of_zero_le h0;unfold encV;rw [encB1 c (by omega)];simp only [List.map_cons,List.map_nil];rw [u8_of _ _ rfl (by omega)]
theorem encV2 {r:Int} (h0:128≤r) (h1:r≤2047):encV r=[.int .u8 (192+r / 64),.int .u8 (128+r % 64)]:=by
 obtain ⟨c,rfl⟩:=Int.eq_ofNat_of_zero_le (show 0≤r by omega);unfold encV;rw [encB2 c (by omega) (by omega)];simp only [List.map_cons,List.map_nil];rw [u8_of _ (192+(c:Int) / 64) (by omega) (by omega),u8_of _ (128+(c:Int) % 64) (by omega) (by omega)]
theorem encV3 {r:Int} (h0:2048≤r) (h1:r≤65535) (hv:Utf8.valid r=true):encV r=[.int .u8 (224+r / 4096),.int .u8 (128+r / 64 % 64),.int .u8 (128+r % 64)]:=by
 obtain ⟨c,rfl⟩:=Int.eq_ofNat_of_zero_le (show 0≤r by omega);unfold encV;rw [encB3 c (by omega) (by omega) hv];simp only [List.map_cons,List.map_nil];rw [u8_of _ (224+(c:Int) / 4096) (by omega) (by omega),u8_of _ (128+(c:Int) / 64 % 64) (by omega) (by omega),u8_of _ (128+(c:Int) % 64) (by omega) (by omega)]
theorem encV4 {r:Int} (h0:65536≤r) (hv:Utf8.valid r=true):encV r=[.int .u8 (240+r / 262144),.int .u8 (128+r / 4096 % 64),.int .u8 (128+r / 64 % 64),.int .u8 (128+r % 64)]:=by
 have hle:=(valid_le hv).2.1;obtain ⟨c,rfl⟩:=Int.eq_ofNat_of_zero_le (show 0≤r by omega);unfold encV;rw [encB4 c (by omega) hv];simp only [List.map_cons,List.map_nil];rw [u8_of _ (240+(c:Int) / 262144) (by omega) (by omega),u8_of _ (128+(c:Int) / 4096 % 64) (by omega) (by omega),u8_of _ (128+(c:Int) / 64 % 64) (by omega) (by omega),u8_of _ (128+(c:Int) % 64) (by omega) (by omega)]
theorem beyond_two (B:Nat) (v:Value) (n:Nat) (xs:List Value) (r:Int) (h0:128≤r) (h1:r≤2047) (w:World) (hown:w.ownsRowF B 5 1 v n xs) (hlen:n+4≤140737488355328) (hBw:B≤w.heap.size) :
  Calls Tryz.prog 127 #[v,.int .i32 r] w fun e w'=>∃ v',e=.returned v'∧w'.ownsRowF B 5 1 v' (n+2) (xs++[.int .u8 (192+r / 64),.int .u8 (128+r % 64)])∧∃ o,(w.alloc o).grownBy w' v.ownBlock:=by
 obtain ⟨i0,hi,hz0,hz1,hz2⟩:=info_parts infoB;go_enter Tryz.func127,Tryz.ntmps127;go_wp2_with (at_builtin;refine wpList_append_ownF _ rfl _ _ 85 rfl B 5 i0 (.int .u8 0) 1 1 Tryz.underlying85 hi hz0 hz1 hz2 rfl (by decide) _ _ _ rfl (hown.alloc _) ⟨w.heap.size,0,none⟩ 2 2 [.int .u8 (192+r / 64),.int .u8 (128+r % 64)] rfl rfl ?c1 ?c2 ?c3 ?c4 ?c5 ?_)
 case c1 =>
  intro j u hj;have hjk:j<2:=(List.getElem?_eq_some_iff.1 hj).1;by_cases e0:j=0
  ·subst e0;simp at hj;subst hj;simp [Addr.add]
  by_cases e1:j=1
  ·subst e1;simp at hj;subst hj;simp [Addr.add]
  omega
 case c2=>intro u hu;simp at hu;rcases hu with rfl|rfl<;>rfl
 case c3=>unfold maxLen;omega
 case c4=>omega
 case c5=>simp;omega
 intro v' w2 hown' hgrow _;go_wp2;go_ret;exact ⟨_,rfl,hown',_,hgrow⟩
theorem beyond_lo (B:Nat) (v:Value) (n:Nat) (xs:List Value) (r:Int) (h0:2048≤r) (h1:r<55296) (w:World) (hown:w.ownsRowF B 5 1 v n xs) (hlen:n+4≤140737488355328) (hBw:B≤w.heap.size) :
  Calls Tryz.prog 127 #[v,.int .i32 r] w fun e w'=>∃ v',e=.returned v'∧w'.ownsRowF B 5 1 v' (n+3) (xs++[.int .u8 (224+r / 4096),.int .u8 (128+r / 64 % 64),.int .u8 (128+r % 64)])∧∃ o,(w.alloc o).grownBy w' v.ownBlock:=by
 obtain ⟨i0,hi,hz0,hz1,hz2⟩:=info_parts infoB;go_enter Tryz.func127,Tryz.ntmps127;go_wp2_with (at_builtin;refine wpList_append_ownF _ rfl _ _ 85 rfl B 5 i0 (.int .u8 0) 1 1 Tryz.underlying85 hi hz0 hz1 hz2 rfl (by decide) _ _ _ rfl (hown.alloc _) ⟨w.heap.size,0,none⟩ 3 3 [.int .u8 (224+r / 4096),.int .u8 (128+r / 64 % 64),.int .u8 (128+r % 64)] rfl rfl ?c1 ?c2 ?c3 ?c4 ?c5 ?_)
 case c1 =>
  intro j u hj;have hjk:j<3:=(List.getElem?_eq_some_iff.1 hj).1;by_cases e0:j=0
  ·subst e0;simp at hj;subst hj;simp [Addr.add]
  by_cases e1:j=1
  ·subst e1;simp at hj;subst hj;simp [Addr.add]
  by_cases e2:j=2
  ·subst e2;simp at hj;subst hj;simp [Addr.add]
  omega
 case c2=>intro u hu;simp at hu;rcases hu with rfl|rfl|rfl<;>rfl
 case c3=>unfold maxLen;omega
 case c4=>omega
 case c5=>simp;omega
 intro v' w2 hown' hgrow _;go_wp2;go_ret;exact ⟨_,rfl,hown',_,hgrow⟩
theorem beyond_hi (B:Nat) (v:Value) (n:Nat) (xs:List Value) (r:Int) (h0:57343<r) (h1:r≤65535) (w:World) (hown:w.ownsRowF B 5 1 v n xs) (hlen:n+4≤140737488355328) (hBw:B≤w.heap.size) :
  Calls Tryz.prog 127 #[v,.int .i32 r] w fun e w'=>∃ v',e=.returned v'∧w'.ownsRowF B 5 1 v' (n+3) (xs++[.int .u8 (224+r / 4096),.int .u8 (128+r / 64 % 64),.int .u8 (128+r % 64)])∧∃ o,(w.alloc o).grownBy w' v.ownBlock:=by
 obtain ⟨i0,hi,hz0,hz1,hz2⟩:=info_parts infoB;go_enter Tryz.func127,Tryz.ntmps127;go_wp2_with (at_builtin;refine wpList_append_ownF _ rfl _ _ 85 rfl B 5 i0 (.int .u8 0) 1 1 Tryz.underlying85 hi hz0 hz1 hz2 rfl (by decide) _ _ _ rfl (hown.alloc _) ⟨w.heap.size,0,none⟩ 3 3 [.int .u8 (224+r / 4096),.int .u8 (128+r / 64 % 64),.int .u8 (128+r % 64)] rfl rfl ?c1 ?c2 ?c3 ?c4 ?c5 ?_)
 case c1 =>
  intro j u hj;have hjk:j<3:=(List.getElem?_eq_some_iff.1 hj).1;by_cases e0:j=0
  ·subst e0;simp at hj;subst hj;simp [Addr.add]
  by_cases e1:j=1
  ·subst e1;simp at hj;subst hj;simp [Addr.add]
  by_cases e2:j=2
  ·subst e2;simp at hj;subst hj;simp [Addr.add]
  omega
 case c2=>intro u hu;simp at hu;rcases hu with rfl|rfl|rfl<;>rfl
 case c3=>unfold maxLen;omega
 case c4=>omega
 case c5=>simp;omega
 intro v' w2 hown' hgrow _;go_wp2;go_ret;exact ⟨_,rfl,hown',_,hgrow⟩
theorem beyond_four (B:Nat) (v:Value) (n:Nat) (xs:List Value) (r:Int) (h0:65536≤r) (h1:r≤1114111) (w:World) (hown:w.ownsRowF B 5 1 v n xs) (hlen:n+4≤140737488355328) (hBw:B≤w.heap.size) :
  Calls Tryz.prog 127 #[v,.int .i32 r] w fun e w'=>∃ v',e=.returned v'∧w'.ownsRowF B 5 1 v' (n+4) (xs++[.int .u8 (240+r / 262144),.int .u8 (128+r / 4096 % 64),.int .u8 (128+r / 64 % 64),.int .u8 (128+r % 64)])∧∃ o,(w.alloc o).grownBy w' v.ownBlock:=by
 obtain ⟨i0,hi,hz0,hz1,hz2⟩:=info_parts infoB;go_enter Tryz.func127,Tryz.ntmps127;go_wp2_with (at_builtin;refine wpList_append_ownF _ rfl _ _ 85 rfl B 5 i0 (.int .u8 0) 1 1 Tryz.underlying85 hi hz0 hz1 hz2 rfl (by decide) _ _ _ rfl (hown.alloc _) ⟨w.heap.size,0,none⟩ 4 4 [.int .u8 (240+r / 262144),.int .u8 (128+r / 4096 % 64),.int .u8 (128+r / 64 % 64),.int .u8 (128+r % 64)] rfl rfl ?c1 ?c2 ?c3 ?c4 ?c5 ?_)
 case c1 =>
  intro j u hj;have hjk:j<4:=(List.getElem?_eq_some_iff.1 hj).1;by_cases e0:j=0
  ·subst e0;simp at hj;subst hj;simp [Addr.add]
  by_cases e1:j=1
  ·subst e1;simp at hj;subst hj;simp [Addr.add]
  by_cases e2:j=2
  ·subst e2;simp at hj;subst hj;simp [Addr.add]
  by_cases e3:j=3
  ·subst e3;simp at hj;subst hj;simp [Addr.add]
  omega
 case c2=>intro u hu;simp at hu;rcases hu with rfl|rfl|rfl|rfl<;>rfl
 case c3=>unfold maxLen;omega
 case c4=>omega
 case c5=>simp;omega
 intro v' w2 hown' hgrow _;go_wp2;go_ret;exact ⟨_,rfl,hown',_,hgrow⟩
theorem low_one (B:Nat) (v:Value) (n:Nat) (xs:List Value) (r:Int) (h0:0≤r) (h1:r≤127) (w:World) (hown:w.ownsRowF B 5 1 v n xs) (hlen:n+4≤140737488355328) (hBw:B≤w.heap.size) :
  Calls Tryz.prog 101 #[v,.int .i32 r] w fun e w'=>∃ v',e=.returned v'∧w'.ownsRowF B 5 1 v' (n+1) (xs++[.int .u8 (r)])∧∃ o,(w.alloc o).grownBy w' v.ownBlock:=by
 obtain ⟨i0,hi,hz0,hz1,hz2⟩:=info_parts infoB;go_enter Tryz.func101,Tryz.ntmps101;go_wp2_with (at_builtin;refine wpList_append_ownF _ rfl _ _ 85 rfl B 5 i0 (.int .u8 0) 1 1 Tryz.underlying85 hi hz0 hz1 hz2 rfl (by decide) _ _ _ rfl (hown.alloc _) ⟨w.heap.size,0,none⟩ 1 1 [.int .u8 (r)] rfl rfl ?c1 ?c2 ?c3 ?c4 ?c5 ?_)
 case c1 =>
  intro j u hj;have hjk:j<1:=(List.getElem?_eq_some_iff.1 hj).1;by_cases e0:j=0
  ·subst e0;simp at hj;subst hj;simp [Addr.add]
  omega
 case c2=>intro u hu;simp at hu;subst hu;rfl
 case c3=>unfold maxLen;omega
 case c4=>omega
 case c5=>simp;omega
 intro v' w2 hown' hgrow _;go_wp2;go_ret;exact ⟨_,rfl,hown',_,hgrow⟩
theorem beyond_any (B:Nat) (v:Value) (n:Nat) (xs:List Value) (r:Int) (hv:Utf8.valid r=true) (h0:128≤r) (w:World) (hown:w.ownsRowF B 5 1 v n xs) (hlen:n+4≤140737488355328) (hBw:B≤w.heap.size) :
  Calls Tryz.prog 127 #[v,.int .i32 r] w fun e w'=>∃ v',e=.returned v'∧w'.ownsRowF B 5 1 v' (n+(encV r).length) (xs++encV r)∧∃ o,(w.alloc o).grownBy w' v.ownBlock:=by
 obtain ⟨_,hle,hsur⟩:=valid_le hv;by_cases a:r≤2047
 ·rw [encV2 h0 a];exact beyond_two B v n xs r h0 a w hown hlen hBw
 by_cases b:r≤65535
 ·rw [encV3 (by omega) b hv];by_cases c:r<55296
  ·exact beyond_lo B v n xs r (by omega) c w hown hlen hBw
  ·exact beyond_hi B v n xs r (by omega) b w hown hlen hBw
 ·rw [encV4 (by omega) hv];exact beyond_four B v n xs r (by omega) hle w hown hlen hBw
theorem appendRune_any (B:Nat) (v:Value) (n:Nat) (xs:List Value) (r:Int) (hv:Utf8.valid r=true) (w:World) (hown:w.ownsRowF B 5 1 v n xs) (hlen:n+4≤140737488355328) (hBw:B≤w.heap.size) :
  Calls Tryz.prog 101 #[v,.int .i32 r] w fun e w'=>∃ v',e=.returned v'∧w'.ownsRowF B 5 1 v' (n+(encV r).length) (xs++encV r)∧∃ o,(w.alloc o).grownBy w' v.ownBlock:=by
 obtain ⟨h0,hle,hsur⟩:=valid_le hv;by_cases a:r≤127
 ·rw [encV1 h0 a];exact low_one B v n xs r h0 a w hown hlen hBw
 have HB:=beyond_any B v n xs r hv (by omega) w hown hlen hBw;generalize encV r=E at *;clear hv hsur;go_enter Tryz.func101,Tryz.ntmps101;go_wp2_with fail;refine HB.mono ?_;rintro e w1 ⟨v',rfl,h1,h2⟩;go_wp2;go_ret;exact ⟨_,rfl,h1,h2⟩
theorem sizeB:(Tryz.prog.info? 87).map (·.size)=some 2:=by kernel_rfl
theorem liesB:liesAt Tryz.prog Tryz.prog.depth 87 (2 / Tryz.prog.cellsOf 87) 0 87 1=true:=by kernel_rfl
theorem copyCheck_fresh (b:Nat) (w:World) (h0:w.cell? ⟨b,0,none⟩=some (.pointer none)) (hsh:w.shape? b=some (87,2)) (hfz:w.frozen? ⟨b,0,none⟩=false) :
  Calls Tryz.prog 100 #[.pointer (some ⟨b,0,none⟩)] w fun e w'=>e=.returned (.tuple #[])∧w'=w.setCell ⟨b,0,none⟩ (.pointer (some ⟨b,0,none⟩)):=by
 obtain ⟨j,hj,hjs⟩:=Option.map_eq_some_iff.1 sizeB;go_enter Tryz.func100,Tryz.ntmps100;go_wp2;rw [Lib.run_to_unsafe w ⟨b,0,none⟩ Tryz.underlying84 Tryz.underlying173 hj (by rw [hjs];decide) hsh (Nat.zero_lt_succ 1)];simp only [Result.andThen];rw [Oper.upon_value];go_wp2;rw [run_callFunc_extern Tryz.func126 (by kernel_rfl) (by kernel_rfl) (by kernel_rfl) (e:=Extern.AbiNoEscape.same) (by kernel_rfl)];rw [Lib.run_noEscape];simp only [Result.andThen];rw [Oper.upon_value];go_wp2;rw [Lib.run_from_unsafe w ⟨b,0,none⟩ Tryz.underlying173 Tryz.underlying84 hj hsh liesB];simp only [Result.andThen];rw [Oper.upon_value];go_wp2;go_end0;exact ⟨rfl,rfl⟩
theorem copyCheck_used (b:Nat) (w:World) (h0:w.cell? ⟨b,0,none⟩=some (.pointer (some ⟨b,0,none⟩))) :
  Calls Tryz.prog 100 #[.pointer (some ⟨b,0,none⟩)] w fun e w'=>e=.returned (.tuple #[])∧w'=w:=by
 obtain ⟨j,hj,_⟩:=Option.map_eq_some_iff.1 sizeB;go_enter Tryz.func100,Tryz.ntmps100;go_wp2;rw [Lib.run_neq_ptr_same w _ Tryz.underlying84 hj];go_wp2;go_end0;exact ⟨rfl,rfl⟩
theorem copyCheck_any (B b:Nat) (bs:List Value) (w:World) (h:Lib.IsBuilderF 87 5 B b bs w) :
  Calls Tryz.prog 100 #[.pointer (some ⟨b,0,none⟩)] w fun e w'=>e=.returned (.tuple #[])∧(Lib.BuilderAtF 87 5 B b (.pointer (some ⟨b,0,none⟩)) bs w'∧Below B w w'∧Lib.OthersKept 5 (some b) w w'):=by
 rcases h with h|h
 ·refine (copyCheck_fresh b w h.cell0 h.shape h.frozen0).mono ?_;rintro e w' ⟨rfl,rfl⟩;exact ⟨rfl,h.used _,(bE B w).setCell (p:=⟨b,0,none⟩) h.1 _,(Lib.OthersKept.refl _ _ w).setCell ⟨b,0,none⟩ rfl _⟩
 ·refine (copyCheck_used b w h.cell0).mono ?_;rintro e w' ⟨rfl,rfl⟩;exact ⟨rfl,h,bE B _,Lib.OthersKept.refl _ _ _⟩
theorem writeRune_any (B b:Nat) (bs:List Value) (r:Int) (hv:Utf8.valid r=true) (w:World) (h:Lib.IsBuilderF 87 5 B b bs w) (hlen:bs.length+4≤140737488355328) (hBw:B≤w.heap.size) :
  Calls Tryz.prog 70 #[.pointer (some ⟨b,0,none⟩),.int .i32 r] w fun e w'=>(∃ v,e=.returned v)∧(Lib.BuilderAtF 87 5 B b (.pointer (some ⟨b,0,none⟩)) (bs++encV r) w'∧Below B w w'∧Lib.OthersKept 5 (some b) w w'):=by
 go_enter Tryz.func70,Tryz.ntmps70;go_wp2_with fail;refine (copyCheck_any B b bs _ h).mono ?_;rintro e w1 ⟨rfl,h1,hb1,hk1⟩;obtain ⟨hB,v,hbk,hown,hne⟩:=h1;have c0:w1.cell? ⟨b,0,none⟩=some (.pointer (some ⟨b,0,none⟩)):=by rw [cH hbk];rfl
 have c1:w1.cell? ⟨b,1,none⟩=some v:=by rw [cH hbk];rfl
 have hs1:=hb1.size;obtain ⟨a0,n0,cap0,e0⟩:∃ ao n' cap,v=.slice ao n' cap:=by
  rcases hown.2 with ⟨hv,_⟩|⟨g,cap,cur,fz,hv,_⟩
  ·exact ⟨_,_,_,hv⟩
  ·exact ⟨_,_,_,hv⟩
 have hn0:n0≤140737488355328:=by
  rcases hown.2 with ⟨hv,_⟩|⟨g,cap,cur,fz,hv,_⟩
  ·rw [e0] at hv;cases hv;omega
  ·rw [e0] at hv;cases hv;omega
 have HA:=appendRune_any B v bs.length bs r hv w1 hown hlen (by omega);subst e0;clear hv h;go_wp2_with fail;refine HA.mono ?_;rintro e w2 ⟨v',rfl,hown',o,hgrow⟩;have hlt:b<w1.heap.size:=(gA hbk);have hb2:w2.heap[b]?=some (.cells #[.pointer (some ⟨b,0,none⟩),.slice a0 n0 cap0] 87 (0,0)):=by
  rw [hgrow.block b (by simp [World.size_alloc];omega) (fun e=>hne e.symm),Lib.alloc_old w1 _ b hlt];exact hbk
 have d0:w2.cell? ⟨b,0,none⟩=some (.pointer (some ⟨b,0,none⟩)):=by rw [cH hb2];rfl
 have d1:w2.cell? ⟨b,1,none⟩=some (.slice a0 n0 cap0):=by rw [cH hb2];rfl
 have f1:w2.frozen? ⟨b,1,none⟩=false:=Lib.frozen_of_heap hb2 1;obtain ⟨ao,n',cap,rfl⟩:∃ ao n' cap,v'=.slice ao n' cap:=by
  rcases hown'.2 with ⟨hv,_⟩|⟨g,cap,cur,fz,hv,_⟩
  ·exact ⟨_,_,_,hv⟩
  ·exact ⟨_,_,_,hv⟩
 go_wp2;go_ret2;refine ⟨⟨_,rfl⟩,?_,?_,((hk1.alloc _).grown hgrow (Lib.ownsRowF_kind (hown.alloc _))).setCell ⟨b,1,none⟩ rfl _⟩
 ·exact Lib.BuilderAtF.put (T:=87) (e:=5) hB hb2 (bs':=bs++encV r) (by simpa using hown') (by decide)
 ·exact ((hb1.alloc (by omega) _).grown hgrow (by simp [World.size_alloc];omega) (fun k hk=>(hown.lt k hk).1)).setCell (p:=⟨b,1,none⟩) hB _
end Go.Proofs.YtijpfbcippijoaaGreatDoor
namespace Go.Proofs.YtijpfbcippijoaaGreatDoor
open Go.RowKit Go.Lib Go.Shelf
theorem isBuilderF_block {B b:Nat} {bs:List Value} {w:World} (h:Lib.IsBuilderF 87 5 B b bs w):∃ cs fz,w.heap[b]?=some (.cells cs 87 fz):=by
 rcases h with ⟨_,v,h,_⟩|⟨_,v,h,_⟩
 ·exact ⟨_,_,h⟩
 ·exact ⟨_,_,h⟩
theorem KpT.others {w w':World} {b:Nat} (h:Lib.OthersKept 5 (some b) w w') (hb:∃ cs fz,w.heap[b]?=some (.cells cs 87 fz)) (hs:w.heap.size≤w'.heap.size):KpT w w':=by
 obtain ⟨cb,fb,hb⟩:=hb;refine ⟨hs,fun k cs fr hk=>?_,fun k cs fr hk=>?_⟩
 ·rw [hk];exact h k _ hk (fun e=>by cases e;rw [hb] at hk;simp at hk) (fun c fz e=>by simp at e)
 ·rw [hk];exact h k _ hk (fun e=>by cases e;rw [hb] at hk;simp at hk) (fun c fz e=>by simp at e)
def encVs (rs:List Int):List Value:=rs.flatMap encV
theorem encVs_append (l k:List Int):encVs (l++k)=encVs l++encVs k:=by simp [encVs]
theorem encVs_take (rs:List Int) (j:Nat) (hj:j<rs.length):encVs (rs.take (j+1))=encVs (rs.take j)++encV rs[j]:=by
 rw [List.take_succ_eq_append_getElem hj,encVs_append];simp [encVs]
theorem encV_len {r:Int} (hv:Utf8.valid r=true):(encV r).length≤4:=by
 obtain ⟨h0,hle,hsur⟩:=valid_le hv;by_cases a:r≤127
 ·rw [encV1 h0 a];simp
 by_cases b:r≤2047
 ·rw [encV2 (by omega) b];simp
 by_cases c:r≤65535
 ·rw [encV3 (by omega) c hv];simp
 ·rw [encV4 (by omega) hv];simp
theorem encVs_len:∀ {rs:List Int},(∀ r∈rs,Utf8.valid r=true)→(encVs rs).length≤4*rs.length
 | [],_=>by simp [encVs]
 | r::rs,h=>by
  have h1:=encV_len (h r (by simp));have h2:=encVs_len (rs:=rs) (fun x hx=>h x (by simp [hx]));have e:encVs (r::rs)=encV r++encVs rs:=by simp [encVs]
  rw [e,List.length_append,List.length_cons];omega
theorem write_any {w:World} {B b g:Nat} {bs:List Value} {rs:List Int} {hid st:Int} (hA:At w (.leaf rs hid st) g) (hr:∀ r∈rs,Utf8.valid r=true) (hl:rs.length≤32) (h:Lib.IsBuilderF 87 5 B b bs w) (hlen:bs.length+200≤140737488355328) (hBw:B≤w.heap.size) :
  Calls Tryz.prog 33 #[.pointer (some ⟨g,0,none⟩),.pointer (some ⟨b,0,none⟩)] w fun e w'=>(∃ v,e=.returned v)∧(Lib.IsBuilderF 87 5 B b (bs++encVs rs) w'∧Below B w w'∧Lib.OthersKept 5 (some b) w w'):=by
 have HBK:=isBuilderF_block h;obtain ⟨a,cap,hN,hrw⟩:=hA;have c10:=hN.four.1;have hcap:=hrw.rw_.2.1;have H0:Hid (Lib.IsBuilderF 87 5 B b bs w):=h;have HR:Hid (∀ r∈rs,Utf8.valid r=true):=hr;have HRW:Hid (RwN w a rs.length cap rs):=hrw;clear hN h hr hrw;go_enter Tryz.func33,Tryz.ntmps33;go_wp2_with fail;go_loopw [11] (fun vi wr=>∃ j:Nat,j≤rs.length∧vi=.int .i64 (j:Int)∧Lib.IsBuilderF 87 5 B b (bs++encVs (rs.take j)) wr∧Below B w wr∧Lib.OthersKept 5 (some b) w wr) (fun vi _=>rs.length-(RowKit.intOf vi).toNat)
 case atStart=>exact ⟨0,Nat.zero_le _,rfl,by simpa [encVs] using H0.out,bE _ _,Lib.OthersKept.refl _ _ _⟩
 case round =>
  obtain ⟨j,hj,rfl,hbj,hblj,hoj⟩:=hrel;have hsz:=hblj.size;by_cases hlt:j<rs.length
  ·have hkp:=KpT.others hoj HBK hblj.size;have hrw':=HRW.out.keep (fun h0 gr off e=>by obtain ⟨cs,fr,hh⟩:=HRW.out.typ h0 gr off e;exact hkp.rune gr cs fr hh) hblj.size;obtain ⟨gr,off,x,rfl,hgr,hx,hc⟩:=hrw'.rw_.at j hlt;have hcx:wr.cell? ⟨gr,off+j,none⟩=some (.int .i32 x):=by simpa using hc 0 (.int .i32 x) rfl
   have hxe:rs[j]=x:=by rw [List.getElem?_eq_getElem hlt] at hx;exact Option.some.inj hx
   have hvx:Utf8.valid x=true:=HR.out x (by rw [← hxe];exact List.getElem_mem hlt)
   have HW:Hid (Calls Tryz.prog 70 #[.pointer (some ⟨b,0,none⟩),.int .i32 x] wr fun e w'=>(∃ v,e=.returned v)∧(Lib.BuilderAtF 87 5 B b (.pointer (some ⟨b,0,none⟩)) (bs++encVs (rs.take j)++encV x) w'∧Below B wr w'∧Lib.OthersKept 5 (some b) wr w')) :=
    writeRune_any B b _ x hvx wr hbj (by
     have:=encVs_len (rs:=rs.take j) (fun r hr=>HR.out r (List.mem_of_mem_take hr))
     rw [List.length_append]
     rw [List.length_take] at this
     omega) (by omega)
   have HE:Hid (bs++encVs (rs.take j)++encV x=bs++encVs (rs.take (j+1))):=by show _=_;rw [encVs_take rs j hlt,hxe,List.append_assoc]
   clear hrw' hc hbj hvx hxe hx;go_wp2_with fail;refine HW.out.mono ?_;rintro e w2 ⟨⟨v,rfl⟩,h2,hb2,ho2⟩;rw [HE.out] at h2;go_wp2;refine ⟨⟨j+1,by omega,by go_num,.inr h2,hblj.trans hb2,hoj.trans ho2⟩,by simp [RowKit.intOf];omega⟩
  ·obtain rfl:j=rs.length:=by omega
   rw [List.take_length] at hbj;go_wp2_with fail;go_end0;exact ⟨⟨_,rfl⟩,hbj,hblj,hoj⟩
end Go.Proofs.YtijpfbcippijoaaGreatDoor
namespace Go.Proofs
open Go.Shelf
def Tryz.lays169_ren:Go.Shelf.Ren:=⟨fun|169=>31|n=>n,fun|70=>84|9=>9|0=>0|72=>87|37=>85|127=>127|3=>3|5=>5|n=>n,fun|n=>n⟩
theorem Tryz.lays169:Go.Proofs.Lays.n169 Tryz.prog Tryz.lays169_ren:={
 mixed:=by kernel_rfl
 f169:=Tryz.func31.trans (congrArg some (by kernel_rfl))
 t0:=Tryz.underlying0
 a0:=Tryz.isAgg0
 z0:=Tryz.sizeOf0
 v0:=Tryz.zeroValue0
 t3:=Tryz.underlying3
 a3:=Tryz.isAgg3
 z3:=Tryz.sizeOf3
 v3:=Tryz.zeroValue3
 t9:=Tryz.underlying9
 a9:=Tryz.isAgg9
 z9:=Tryz.sizeOf9
 v9:=Tryz.zeroValue9
 t37:=Tryz.underlying85
 a37:=Tryz.isAgg85
 z37:=Tryz.sizeOf85
 v37:=Tryz.zeroValue85
 t70:=Tryz.underlying84
 a70:=Tryz.isAgg84
 z70:=Tryz.sizeOf84
 v70:=Tryz.zeroValue84
 t72:=Tryz.underlying87
 a72:=Tryz.isAgg87
 z72:=Tryz.sizeOf87
 v72:=Tryz.zeroValue87
 t127:=Tryz.underlying127
 a127:=Tryz.isAgg127
 z127:=Tryz.sizeOf127
 v127:=Tryz.zeroValue127 }
theorem Tryz.Builder_Extra_169:Builder.Extra Tryz.prog Tryz.lays169_ren:={
 sizeBuilder:=by kernel_rfl
 liesBuilder:=by kernel_rfl
 t5:=Tryz.underlying5
 a5:=Tryz.isAgg5
 z5:=Tryz.sizeOf5
 v5:=Tryz.zeroValue5
 infoByte:=by kernel_rfl
 cellsByte:=by kernel_rfl
 sizeByte:=by kernel_rfl
 neB5:=by decide }
open Go.RowKit in
theorem Tryz.Builder_String_any_k (B b:Nat) (l:List UInt8) (w:World) (h:Lib.IsBuilderF 87 5 B b (Lib.byteCells l) w) (hBw:B≤w.heap.size) :
  Calls Tryz.prog 31 #[.pointer (some ⟨b,0,none⟩)] w fun e w'=>e=.returned (.string ⟨l.toArray⟩)∧(Lib.IsBuilderF 87 5 B b (Lib.byteCells l) w'∧Below B w w'∧Lib.OthersKept 5 (some b) w w'):=Any.Builder_String_any_k Tryz.lays169 Tryz.Builder_Extra_169 B b l w h hBw
end Go.Proofs
namespace Go.Proofs.YtijpfbcippijoaaGreatDoor
open Go.RowKit Go.Lib Go.Shelf
attribute [local go_sem] Oper.semAt_some
theorem encVs_bytes (rs:List Int):encVs rs=Lib.byteCells (encs rs):=by
 unfold encVs encs Lib.byteCells encV
 induction rs with
 | nil=>rfl
 | cons r rs ih=>simp only [List.flatMap_cons,List.map_append,ih]
theorem builderAtF_keep {B b:Nat} {p:Value} {bs:List Value} {A C:World} {row:Option Nat} (h:Lib.BuilderAtF 87 5 B b p bs A) (hg:A.grownBy C row) (hr:∀ r,row=some r→∃ o:Obj,A.heap[r]?=some o∧o.isCells=false):Lib.BuilderAtF 87 5 B b p bs C:=by
 obtain ⟨hB,v,hb,hown,hne⟩:=h;refine ⟨hB,v,(hg.block b (gA hb) (fun e=>?_)).trans hb,hown.kept hg ?_,hne⟩
 ·obtain ⟨o,ho,hc⟩:=hr b e.symm;rw [hb] at ho;cases ho;simp [Obj.isCells] at hc
 ·by_cases e:v.ownBlock=row
  ·left;cases row with
   | none=>exact e
   | some r =>
    obtain ⟨o,ho,hc⟩:=hr r rfl;obtain ⟨c,fz,hh⟩:=Lib.ownsRowF_kind hown r e;rw [hh] at ho;cases ho;simp [Obj.isCells] at hc
  ·exact .inr e
theorem isBuilderF_keep {B b:Nat} {bs:List Value} {A C:World} {row:Option Nat} (h:Lib.IsBuilderF 87 5 B b bs A) (hg:A.grownBy C row) (hr:∀ r,row=some r→∃ o:Obj,A.heap[r]?=some o∧o.isCells=false):Lib.IsBuilderF 87 5 B b bs C :=
 h.elim (fun x=>.inl (builderAtF_keep x hg hr)) (fun x=>.inr (builderAtF_keep x hg hr))
theorem isBuilderF_below {B b:Nat} {bs:List Value} {A C:World} (h:Lib.IsBuilderF 87 5 B b bs A) (hb:Below A.heap.size A C):Lib.IsBuilderF 87 5 B b bs C :=
 isBuilderF_keep h (grown_of_below hb) (fun r e=>by cases e)
theorem isBuilderF_new (w:World):Lib.IsBuilderF 87 5 w.heap.size w.heap.size [] (w.alloc (.cells #[.pointer none,.slice none 0 0] 87)) :=
 .inl ⟨lR _,_,World.alloc_heap_new _ _,World.ownsRowF_nil _ _ _ _,by simp [Value.ownBlock]⟩
theorem keepsFrom_others {B b:Nat} {w w':World} (h:Lib.OthersKept 5 (some b) w w') (hb:∃ cs fz,w.heap[b]?=some (.cells cs 87 fz)) (hs:w.heap.size≤w'.heap.size):KeepsFrom B w w':=by
 obtain ⟨cs,fz,hb⟩:=hb;refine ⟨hs,fun k ob _ hk hc=>h k ob hk (fun e=>?_) (fun c fz e=>?_)⟩
 ·cases e;rw [hb] at hk;cases hk;simp [Obj.isCells] at hc
 ·subst e;simp [Obj.isCells] at hc
theorem keepsFrom_below {B:Nat} {w w':World} (h:Below w.heap.size w w'):KeepsFrom B w w':=⟨h.size,fun k _ _ hk _=>(h.block k (gA hk)).trans hk⟩
end Go.Proofs.YtijpfbcippijoaaGreatDoor
