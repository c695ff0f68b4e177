import Derived.Test.YtijpfbcippijoaaGreatDoorAl
import Derived.Test.YtijpfbcippijoaaGreatDoorGr127
import Derived.Test.YtijpfbcippijoaaGreatDoorGr143
set_option maxHeartbeats 8000000
set_option maxRecDepth 100000
namespace Go.Proofs.YtijpfbcippijoaaGreatDoor
open Go.RowKit Go.Lib
structure Bin (t:Tr) (f:Nat) (l:List (Int×Int)):Prop where
 fine:t.Fine
 pcs:Pcs t.lv
 cnt:∀ c∈t.row,0≤c.2∧c.2≤1048576
 len:f+t.row.length≤1048576
 srt:Srt l
 bd:∀ x∈l,0≤x.1∧x.2≤1048576
structure Bout (t:Tr) (f:Nat) (l:List (Int×Int)) (d:Int) (t':Tr):Prop where
 fine:t'.Fine
 pcs:Pcs t'.lv
 row:t'.row=bmp l d f t.row
theorem bumped_none {w:World} {t:Tr} {g f:Nat} {a:Option Addr} {m cap:Nat} {l:List (Int×Int)} (hA:At w t g) (hi:Bin t f l) (hl:Rw pieceV 2 w a m cap l) (hm:m≤4294967296) (d:Int) (hn:meetL f ((f:Int)+t.sm.cells) l=[]) :
  Calls Tryz.prog 60 #[.pointer (some ⟨g,0,none⟩),.int .i64 (f:Int),.slice a m cap,.int .i64 d] w fun e w'=>∃ g' t',e=.returned (.pointer (some ⟨g',0,none⟩))∧At w' t' g'∧Bout t f l d t'∧Below w.heap.size w w':=by
 have hsc:=t.sm_cells;have hlen:=hi.len;have c0:=hA.cells;have u0:IntKind.i64.wrap ((f:Int)+t.sm.cells)=(f:Int)+t.sm.cells:=IntWalk.i64_in _ (by omega);have HM:=meeting_list hl hm hi.srt (f:Int) ((f:Int)+t.sm.cells) (by omega);rw [hn] at HM;have HB:Hid (Bout t f l d t):=⟨hi.fine,hi.pcs,(bmp_none _ _ fun q h1 h2=>by rw [← inL_meet l (lo:=(f:Int)) (hi:=(f:Int)+t.sm.cells) h1 (by omega),hn];rfl).symm⟩;clear hl hi hsc hn;go_enter Tryz.func60,Tryz.ntmps60;go_wp2_with fail;refine HM.mono ?_;rintro e w1 ⟨a1,cap1,rfl,_,hb1⟩;clear HM;go_wp2_with fail;go_ret;exact ⟨g,t,rfl,hA.below hb1,HB.out,hb1⟩
theorem bumped_whole {w:World} {t:Tr} {g f:Nat} {a:Option Addr} {m cap:Nat} {l:List (Int×Int)} (hA:At w t g) (hi:Bin t f l) (hl:Rw pieceV 2 w a m cap l) (hm:m≤4294967296) (d:Int) (hd:-1≤d∧d≤1) {x:Int×Int} {k:List (Int×Int)} (hn:meetL f ((f:Int)+t.sm.cells) l=x::k) (h1:x.1≤f) (h2:(f:Int)+t.sm.cells≤x.2) :
  Calls Tryz.prog 60 #[.pointer (some ⟨g,0,none⟩),.int .i64 (f:Int),.slice a m cap,.int .i64 d] w fun e w'=>∃ g' t',e=.returned (.pointer (some ⟨g',0,none⟩))∧At w' t' g'∧Bout t f l d t'∧Below w.heap.size w w':=by
 have hsc:=t.sm_cells;have hlen:=hi.len;have c0:=hA.cells;have hgl:=hA.lt;have u0:IntKind.i64.wrap ((f:Int)+t.sm.cells)=(f:Int)+t.sm.cells:=IntWalk.i64_in _ (by omega);have HM:=meeting_list hl hm hi.srt (f:Int) ((f:Int)+t.sm.cells) (by omega);rw [hn] at HM;have hlr:LimR (t.raise d).row:=fun c hc=>by
  rw [Tr.row_raise,mem_upL] at hc;have:=hi.cnt _ hc;unfold Lim;simp only at this;omega
 have HB:Hid (Bout t f l d (t.raise d)):=⟨⟨Tr.wf_raise t hi.fine.wf d,hi.fine.bd.raise hi.fine.wf d hlr,Tr.avl_raise t d hi.fine.avl⟩,by rw [Tr.lv_raise];exact hi.pcs.up d,by
  rw [Tr.row_raise]
  refine (bmp_all _ _ fun q q1 q2=>?_).symm
  rw [← inL_meet l (lo:=(f:Int)) (hi:=(f:Int)+t.sm.cells) q1 (by omega),hn]
  exact inL_true (x:=x) (by simp) (by omega)⟩
 have HR:Hid (∀ W,Below w.heap.size w W→Calls Tryz.prog 98 #[.pointer (some ⟨g,0,none⟩),.int .i64 d] W fun e w'=>∃ g',e=.returned (.pointer (some ⟨g',0,none⟩))∧At w' (t.raise d) g'∧Below W.heap.size W w'):=fun W hW=>raised_any (hA.below hW) hi.fine.wf hi.fine.bd (by omega) d (by omega)
 clear hl hi hsc hn hlr hA;go_enter Tryz.func60,Tryz.ntmps60;go_wp2_with fail;refine HM.mono ?_;rintro e w1 ⟨a1,cap1,rfl,hr1,hb1⟩;clear HM;obtain ⟨g1,o1,y,rfl,hg1,hy,hc1⟩:=hr1.at 0 (by simp);obtain rfl:x=y:=by simpa using hy
 have k0:=hc1 0 _ rfl;have k1:=hc1 1 _ rfl;simp only [Nat.zero_mul,Nat.add_zero] at k0 k1;have e0:=(hb1.cell (p:=⟨g,0,none⟩) hgl).trans c0;simp only [List.length_cons] at hr1 ⊢;obtain ⟨K,hK⟩:∃ K,k.length=K:=⟨_,rfl⟩;rw [hK];clear hc1 hr1 hy c0;go_wp2_with fail;go_quiet (fail);have hbq:=below_drewN hb1 nq;generalize w1.drewN nq=wq at *;go_wp2_with fail;refine (HR.out _ hbq).mono ?_;rintro e w2 ⟨g2,rfl,hA2,hb2⟩;go_wp2_with fail;go_ret;exact ⟨g2,_,rfl,hA2,HB.out,hbq.trans (hb2.mono hbq.size)⟩
theorem meetL_len (lo hi:Int) (l:List (Int×Int)):(meetL lo hi l).length≤l.length:=List.length_filter_le _ _
theorem bumped_leaf {w:World} {rs:List Int} {h st:Int} {g f:Nat} {a:Option Addr} {m cap:Nat} {l:List (Int×Int)} (hA:At w (.leaf rs h st) g) (hi:Bin (.leaf rs h st) f l) (hl:Rw pieceV 2 w a m cap l) (hm:m≤4294967296) (d:Int) (hd:-1≤d∧d≤1) {x:Int×Int} {k:List (Int×Int)} (hn:meetL f ((f:Int)+rs.length) l=x::k) (hw:¬ (x.1≤f∧(f:Int)+rs.length≤x.2)) :
  Calls Tryz.prog 60 #[.pointer (some ⟨g,0,none⟩),.int .i64 (f:Int),.slice a m cap,.int .i64 d] w fun e w'=>∃ g' t',e=.returned (.pointer (some ⟨g',0,none⟩))∧At w' t' g'∧Bout (.leaf rs h st) f l d t'∧Below w.heap.size w w':=by
 have hrl:(Tr.leaf rs h st).row.length=rs.length:=by simp [Tr.row]
 have hlen:=hi.len;rw [hrl] at hlen;obtain ⟨c0,c1,c2,c3,c4,c5,c6,c7,c8,c9⟩:=hA.ten;have hgl:=hA.lt;have hcs:(Tr.leaf rs h st).sm.cells=((rs.length:Nat):Int):=rfl;have h32:rs.length≤32:=hi.pcs.few (rs,h) (by simp [Tr.lv]);have HIP:=smIsPiece_any (Tr.leaf rs h st).sm;rw [Tr.sm_high_leaf] at HIP;have u0:IntKind.i64.wrap ((f:Int)+(Tr.leaf rs h st).sm.cells)=(f:Int)+(Tr.leaf rs h st).sm.cells:=IntWalk.i64_in _ (by rw [hcs];omega);have HM:=meeting_list hl hm hi.srt (f:Int) ((f:Int)+rs.length) (by omega);have hll:=hl.len;have hml:=meetL_len (f:Int) ((f:Int)+rs.length) l;have hlim:Lim (h+d):=by
  obtain ⟨y,t,e⟩:=List.exists_cons_of_ne_nil hi.fine.wf;have:=hi.cnt (y,h) (by simp [Tr.row,e]);simp only at this;unfold Lim;omega
 have hpos:0<rs.length:=List.length_pos_iff.2 hi.fine.wf;have hms:=hi.srt.meet (f:Int) ((f:Int)+rs.length);have hmm:∀ x∈meetL (f:Int) ((f:Int)+rs.length) l,(f:Int)<x.2∧x.1<(f:Int)+rs.length:=fun x hx=>(meetL_mem hx).2
 have HP:Hid (∀ (W:World) (b:Option Addr) (cb:Nat),Below w.heap.size w W→Rw pieceV 2 W b (meetL (f:Int) ((f:Int)+rs.length) l).length cb (meetL (f:Int) ((f:Int)+rs.length) l)→Calls Tryz.prog 99 #[.pointer (some ⟨g,0,none⟩),.int .i64 (f:Int),.slice b (meetL (f:Int) ((f:Int)+rs.length) l).length cb,.int .i64 d] W fun e w'=>∃ g' t',e=.returned (.pointer (some ⟨g',0,none⟩))∧At w' t' g'∧Bout (.leaf rs h st) f l d t'∧Below W.heap.size W w'):=fun W b cb hW hb=>by
  refine (bumpedParts_any (hA.below hW) hi.fine h32 hb (by omega) f (by omega) d hd hlim hms hmm (fun x hx=>hi.bd x (meetL_mem hx).1)).mono ?_;rintro e w' ⟨g',t',rfl,hA',hC,hP,hr,hB⟩;have hrow:rowOf t'.lv=bmp l d f (Tr.leaf rs h st).row:=by
   rw [hr,rowB_bmp rs h f d _ 0 hms hmm (fun _ _=>Nat.zero_le _) (Nat.zero_le _)];simp only [List.drop_zero,Int.natCast_zero,Int.add_zero];exact bmp_congr _ _ fun q q1 q2=>inL_meet l q1 (by simpa using q2)
  refine ⟨g',t',rfl,hA',⟨hC.resolve_left ?_,hP,by rw [Tr.row_lv];exact hrow⟩,hB⟩;rintro rfl;have:=congrArg List.length hrow;rw [bmp_len] at this;simp [Tr.lv,rowOf,Tr.row] at this;omega
 rw [hn] at HM HP;simp only [List.length_cons] at HM HP;obtain ⟨K,hK⟩:∃ K,k.length=K:=⟨_,rfl⟩;rw [hK] at HM HP;clear hms hmm hlim hml hll hi hl h32 hrl hn;rw [← hcs] at HM hw;generalize Tr.leaf rs h st=lf at *;have HC:(decide (x.1≤(f:Int))=true∧decide ((f:Int)+lf.sm.cells≤x.2)=false)∨decide (x.1≤(f:Int))=false:=by simp only [decide_eq_true_eq,decide_eq_false_iff_not];omega
 clear hw;rcases HC with ⟨hx1,hx3⟩|hx1
 all_goals
  go_enter Tryz.func60,Tryz.ntmps60;have HX:Hid (lf.sm.cells=(rs.length:Int)):=hcs;clear hcs;go_wp2_with fail;refine HM.mono ?_;rintro e w1 ⟨a1,cap1,rfl,hr1,hb1⟩;clear HM;have HR1:Hid (Rw pieceV 2 w1 a1 (K+1) cap1 (x::k)):=hr1;obtain ⟨g1,o1,y,rfl,hg1,hy,hc1⟩:=hr1.at 0 (by omega);obtain rfl:x=y:=by simpa using hy
  have k0:=hc1 0 _ rfl;have k1:=hc1 1 _ rfl;simp only [Nat.zero_mul,Nat.add_zero] at k0 k1;have e0:=(hb1.cell (p:=⟨g,0,none⟩) hgl).trans c0;clear hc1 hr1 hy;go_wp2_with fail;go_quiet (fail);have hbr:=below_drewN (bE w1.heap.size w1) nq;have hbq:=hb1.trans (hbr.mono hb1.size);generalize w1.drewN nq=wq at *;have z0:=(hbq.cell (p:=⟨g,0,none⟩) hgl).trans c0;have z1:=(hbq.cell (p:=⟨g,1,none⟩) hgl).trans c1;have z2:=(hbq.cell (p:=⟨g,2,none⟩) hgl).trans c2;have z3:=(hbq.cell (p:=⟨g,3,none⟩) hgl).trans c3;have z4:=(hbq.cell (p:=⟨g,4,none⟩) hgl).trans c4;have z5:=(hbq.cell (p:=⟨g,5,none⟩) hgl).trans c5;have z6:=(hbq.cell (p:=⟨g,6,none⟩) hgl).trans c6;have z7:=(hbq.cell (p:=⟨g,7,none⟩) hgl).trans c7;have z8:=(hbq.cell (p:=⟨g,8,none⟩) hgl).trans c8;have z9:=(hbq.cell (p:=⟨g,9,none⟩) hgl).trans c9;clear k0 k1 e0 c0 c1 c2 c3 c4 c5 c6 c7 c8 c9;go_wp2_with fail;refine (HIP _).mono ?_;rintro e w2 ⟨rfl,hb2⟩;have hB2:=hbq.trans (hb2.mono hbq.size);have hR2:=HR1.out.below (hbr.trans (hb2.mono hbr.size));clear z0 z1 z2 z3 z4 z5 z6 z7 z8 z9 HIP;go_wp2_with fail;refine (HP.out _ _ _ hB2 hR2).mono ?_;rintro e w3 ⟨g3,t3,rfl,hA3,hB3,hb3⟩;go_wp2_with fail;go_ret;exact ⟨g3,t3,rfl,hA3,hB3,hB2.trans (hb3.mono hB2.size)⟩
theorem run_eqE (n:Nat) (w:World) (a b c d:Int):(Op.equalIn (n+1+1) 92 (.agg #[.int .i64 a,.int .i64 b]) (.agg #[.int .i64 c,.int .i64 d])).run Tryz.prog w=.ok (a==c&&b==d) w:=by
 rw [Op.equalIn];simp only [Sem.run_bind,run_underlying Tryz.underlying92,Result.andThen_ok];simp [Go.part,Tryz.isAgg3,Tryz.sizeOf3,run_equalIn_int w _ _ _ _ _ _ Tryz.underlying3,Sem.run_bind,Result.andThen_ok,Sem.run_ite];by_cases h1:a=c<;>by_cases h2:b=d<;>simp [h1,h2]
theorem run_eqS (w:World) (a0 a1 a2 a3 a4 a5 a6 a7 a8 a9 b0 b1 b2 b3 b4 b5 b6 b7 b8 b9:Int):(Op.equalIn 10000 94 (.agg #[.int .i64 a0,.int .i64 a1,.int .i64 a2,.int .i64 a3,.int .i64 a4,.int .i64 a5,.int .i64 a6,.int .i64 a7,.int .i64 a8,.int .i64 a9]) (.agg #[.int .i64 b0,.int .i64 b1,.int .i64 b2,.int .i64 b3,.int .i64 b4,.int .i64 b5,.int .i64 b6,.int .i64 b7,.int .i64 b8,.int .i64 b9])).run Tryz.prog w=.ok (a0==b0&&(a1==b1&&(a2==b2&&(a3==b3&&(a4==b4&&(a5==b5&&((a6==b6&&a7==b7)&&(a8==b8&&a9==b9)))))))) w:=by
 show (Op.equalIn (9997+1+1+1) _ _ _).run _ _=_;rw [Op.equalIn];simp only [Sem.run_bind,run_underlying Tryz.underlying94,Result.andThen_ok];simp [Go.part,Tryz.isAgg3,Tryz.sizeOf3,Tryz.isAgg92,Tryz.sizeOf92,run_eqE 9997,run_equalIn_int w _ _ _ _ _ _ Tryz.underlying3,Sem.run_bind,Result.andThen_ok,Sem.run_ite]
 repeat' split
 all_goals simp_all
theorem run_eqSm (s t:Sm):∃ b:Bool,(b=true↔s=t)∧∀ w:World,(Op.equalIn 10000 94 (.agg #[.int .i64 s.cells,.int .i64 s.pieces,.int .i64 s.high,.int .i64 s.least,.int .i64 s.most,.int .i64 s.lowest,.int .i64 s.fc,.int .i64 s.fh,.int .i64 s.lc,.int .i64 s.lh]) (.agg #[.int .i64 t.cells,.int .i64 t.pieces,.int .i64 t.high,.int .i64 t.least,.int .i64 t.most,.int .i64 t.lowest,.int .i64 t.fc,.int .i64 t.fh,.int .i64 t.lc,.int .i64 t.lh])).run Tryz.prog w=.ok b w:=by
 refine ⟨_,?_,fun w=>run_eqS w _ _ _ _ _ _ _ _ _ _ _ _ _ _ _ _ _ _ _ _⟩;cases s;cases t;simp only [Sm.mk.injEq,Bool.and_eq_true,beq_iff_eq,and_assoc]
theorem sides_q {w:World} {n:Tr} {g:Nat} (h:At w n g) (hf:n.Fine) (h2:2≤n.sm.high) (hn:n.row.length≤2097152) :
  Calls Tryz.prog 92 #[.pointer (some ⟨g,0,none⟩)] w fun e w'=>∃ gl gr l r,e=.returned (.tuple #[.pointer (some ⟨gl,0,none⟩),.pointer (some ⟨gr,0,none⟩)])∧At w' l gl∧At w' r gr∧(SidesOf n l r∧n.sm=l.sm.both r.sm)∧Below w.heap.size w w':=by
 obtain ⟨l,r,st,rfl⟩:=hf.node_of h2;refine (sides_any h hf.wf hf.bd hn).mono ?_;rintro e w' ⟨gl,gr,rfl,hl,hr,hb⟩;exact ⟨gl,gr,_,_,rfl,hl,hr,⟨hf.sides,Tr.sm_node hf.wf.1 hf.wf.2 st⟩,hb⟩
theorem raised_zero (s:Sm):s.raised 0=s:=by simp [Sm.raised]
theorem again {n l r l' r':Tr} (hs:SidesOf n l r) (hsm:n.sm=l.sm.both r.sm) (hP:Pcs n.lv) (fl:l'.Fine) (fr:r'.Fine) (el:l'.sm=l.sm) (er:r'.sm=r.sm) (pl:Pcs l'.lv) (pr:Pcs r'.lv) :
  (Tr.node l' r' 0).Fine∧(Tr.node l' r' 0).sm=n.sm∧Pcs (Tr.node l' r' 0).lv∧(Tr.node l' r' 0).row=l'.row++r'.row:=by
 refine ⟨fl.pair fr (by rw [el,er];exact hs.h1) (by rw [el,er];exact hs.h2),?_,?_,Tr.row_pair l' r'⟩
 ·show (l'.sm.both r'.sm).raised 0=_;rw [raised_zero,el,er,hsm]
 ·rw [Tr.lv_pair];refine pl.append pr fun p q hp hq hf=>?_
  rw [hs.lv] at hP;obtain ⟨_,⟨p0,k0,e1,e2,e3⟩⟩:=hs.fl.wf.ends;obtain ⟨⟨q0,m0,f1,f2,f3⟩,_⟩:=hs.fr.wf.ends;obtain ⟨_,⟨p1,k1,g1,g2,g3⟩⟩:=fl.wf.ends;obtain ⟨⟨q1,m1,i1,i2,i3⟩,_⟩:=fr.wf.ends;rw [g1,List.getLast?_append] at hp;rw [i1] at hq;simp only [List.getLast?_singleton,Option.some_or,Option.some.injEq,List.head?_cons] at hp hq;subst hp hq;refine hP.meet p0 q0 (by rw [e1,List.getLast?_append];simp) (by rw [f1];rfl) ?_;rw [el] at g2 g3;rw [er] at i2 i3;unfold Fit at hf ⊢;omega
theorem bout_row {t l0 r0 l1 r1:Tr} {f:Nat} {l L:List (Int×Int)} {d:Int} (hr:t.row=l0.row++r0.row) (hin:∀ q,(f:Int)≤q→q<(f:Int)+t.sm.cells→inL L q=inL l q) (bl:Bout l0 f L d l1) (br:Bout r0 (f+l0.row.length) L d r1):l1.row++r1.row=bmp l d f t.row:=by
 have hsc:=t.sm_cells;rw [bl.row,br.row,Int.natCast_add,← bmp_append,← hr];exact bmp_congr _ _ fun q q1 q2=>hin q q1 (by omega)
theorem bout_concat {t l0 r0 l1 r1 t':Tr} {f:Nat} {l L:List (Int×Int)} {d:Int} (hr:t.row=l0.row++r0.row) (hin:∀ q,(f:Int)≤q→q<(f:Int)+t.sm.cells→inL L q=inL l q) (bl:Bout l0 f L d l1) (br:Bout r0 (f+l0.row.length) L d r1) (hlv:t'.lv=glue l1.lv r1.lv) (hc:t'.Can):Bout t f l d t':=by
 have e:=bout_row hr hin bl br;have er:t'.row=l1.row++r1.row:=by rw [Tr.row_lv,hlv,rowOf_glue,Tr.row_lv l1,Tr.row_lv r1]
 refine ⟨hc.resolve_left ?_,hlv▸bl.pcs.glue br.pcs,er.trans e⟩;rintro rfl;have:=bl.fine.wf.pos;have h2:=congrArg List.length er;rw [List.length_append] at h2;simp only [Tr.row,List.length_nil] at h2;omega
theorem Bout.len {t t':Tr} {f:Nat} {l:List (Int×Int)} {d:Int} (h:Bout t f l d t'):t'.row.length=t.row.length:=by rw [h.row,bmp_len]
theorem bumped_fine (d:Int) (hd:-1≤d∧d≤1):∀ (N:Nat) {w:World} {t:Tr} {g f:Nat} {a:Option Addr} {m cap:Nat} {l:List (Int×Int)},t.sm.high≤(N:Int)→At w t g→Bin t f l→Rw pieceV 2 w a m cap l→m≤4294967296→∀ fi:Int,fi=(f:Int) →
  Calls Tryz.prog 60 #[.pointer (some ⟨g,0,none⟩),.int .i64 fi,.slice a m cap,.int .i64 d] w fun e w'=>∃ g' t',e=.returned (.pointer (some ⟨g',0,none⟩))∧At w' t' g'∧Bout t f l d t'∧Below w.heap.size w w':=by
 intro N
 induction N with
 | zero =>
  intro w t g f a m cap l hN hA hi;have:=hi.fine.pos;omega
 | succ N ih =>
  intro w t g f a m cap l hN hA hi hl hm fi hfi;subst hfi;have IH:Hid (∀ {w:World} {t:Tr} {g f:Nat} {a:Option Addr} {m cap:Nat} {l:List (Int×Int)},t.sm.high≤(N:Int)→At w t g→Bin t f l→Rw pieceV 2 w a m cap l→m≤4294967296→∀ fi:Int,fi=(f:Int)→Calls Tryz.prog 60 #[.pointer (some ⟨g,0,none⟩),.int .i64 fi,.slice a m cap,.int .i64 d] w fun e w'=>∃ g' t',e=.returned (.pointer (some ⟨g',0,none⟩))∧At w' t' g'∧Bout t f l d t'∧Below w.heap.size w w'):=ih;clear ih;cases hn:meetL f ((f:Int)+t.sm.cells) l with
  | nil=>exact bumped_none hA hi hl hm d hn
  | cons x k =>
  by_cases hw:x.1≤f∧(f:Int)+t.sm.cells≤x.2
  ·exact bumped_whole hA hi hl hm d hd hn hw.1 hw.2
  by_cases hh:t.sm.high≤1
  ·cases t with
   | nil=>exact hi.fine.wf.elim
   | leaf rs h st=>exact bumped_leaf hA hi hl hm d hd hn hw
   | node l r st=>have:=hi.fine.wf.high_node;omega
  have hsc:=t.sm_cells;have hlen:=hi.len;obtain ⟨c0,c1,c2,c3,c4,c5,c6,c7,c8,c9⟩:=hA.ten;have hgl:=hA.lt;have HIP:=smIsPiece_any t.sm;rw [show decide (t.sm.high≤1)=false by simp;omega] at HIP;have u0:IntKind.i64.wrap ((f:Int)+t.sm.cells)=(f:Int)+t.sm.cells:=IntWalk.i64_in _ (by omega);have HM:=meeting_list hl hm hi.srt (f:Int) ((f:Int)+t.sm.cells) (by omega);have hll:=hl.len;have hml:=meetL_len (f:Int) ((f:Int)+t.sm.cells) l;have hms:=hi.srt.meet (f:Int) ((f:Int)+t.sm.cells);have hmb:∀ y∈meetL (f:Int) ((f:Int)+t.sm.cells) l,0≤y.1∧y.2≤1048576:=fun y hy=>hi.bd y (meetL_mem hy).1
  have HIN:Hid (∀ q,(f:Int)≤q→q<(f:Int)+t.sm.cells→inL (x::k) q=inL l q):=fun q q1 q2=>by rw [← hn];exact inL_meet l q1 q2
  rw [hn] at HM hms hmb hml;simp only [List.length_cons] at HM hml;obtain ⟨K,hK⟩:∃ K,k.length=K:=⟨_,rfl⟩;rw [hK] at HM hml;have HC:(decide (x.1≤(f:Int))=true∧decide ((f:Int)+t.sm.cells≤x.2)=false)∨decide (x.1≤(f:Int))=false:=by simp only [decide_eq_true_eq,decide_eq_false_iff_not];omega
  have HIB:Hid (Bin t f l):=hi;have HMS:Hid (Srt (x::k)):=hms;have HMB:Hid (∀ y∈x::k,0≤y.1∧y.2≤1048576):=hmb;have HA:Hid (At w t g):=hA;have HSC:Hid (t.sm.cells=(t.row.length:Int)):=hsc;have hKm:K+1≤4294967296:=by omega
  clear hw hi hl hn hms hmb hA hml hll hsc;rcases HC with ⟨hx1,hx3⟩|hx1
  all_goals
   go_enter Tryz.func60,Tryz.ntmps60;go_wp2_with fail;refine HM.mono ?_;rintro e w1 ⟨a1,cap1,rfl,hr1,hb1⟩;clear HM;have HR1:Hid (Rw pieceV 2 w1 a1 (K+1) cap1 (x::k)):=hr1;obtain ⟨g1,o1,y,rfl,hg1,hy,hc1⟩:=hr1.at 0 (by omega);obtain rfl:x=y:=by simpa using hy
   have k0:=hc1 0 _ rfl;have k1:=hc1 1 _ rfl;simp only [Nat.zero_mul,Nat.add_zero] at k0 k1;have e0:=(hb1.cell (p:=⟨g,0,none⟩) hgl).trans c0;clear hc1 hr1 hy;go_wp2_with fail;go_quiet (fail);have hbr:=below_drewN (bE w1.heap.size w1) nq;have hbq:=hb1.trans (hbr.mono hb1.size);generalize w1.drewN nq=wq at *;have z0:=(hbq.cell (p:=⟨g,0,none⟩) hgl).trans c0;have z1:=(hbq.cell (p:=⟨g,1,none⟩) hgl).trans c1;have z2:=(hbq.cell (p:=⟨g,2,none⟩) hgl).trans c2;have z3:=(hbq.cell (p:=⟨g,3,none⟩) hgl).trans c3;have z4:=(hbq.cell (p:=⟨g,4,none⟩) hgl).trans c4;have z5:=(hbq.cell (p:=⟨g,5,none⟩) hgl).trans c5;have z6:=(hbq.cell (p:=⟨g,6,none⟩) hgl).trans c6;have z7:=(hbq.cell (p:=⟨g,7,none⟩) hgl).trans c7;have z8:=(hbq.cell (p:=⟨g,8,none⟩) hgl).trans c8;have z9:=(hbq.cell (p:=⟨g,9,none⟩) hgl).trans c9;clear k0 k1 e0 c0 c1 c2 c3 c4 c5 c6 c7 c8 c9;go_wp2_with fail;refine (HIP _).mono ?_;rintro e w2 ⟨rfl,hb2⟩;have hB2:=hbq.trans (hb2.mono hbq.size);have hR2:=HR1.out.below (hbr.trans (hb2.mono hbr.size));clear z0 z1 z2 z3 z4 z5 z6 z7 z8 z9 HIP;go_wp2_with fail;refine (sides_q (HA.out.below hB2) HIB.out.fine (by omega) (by omega)).mono ?_;rintro e w3 ⟨gl,gr,l0,r0,rfl,hL,hR,⟨hS,hsm⟩,hb3⟩;have HSM:Hid (t.sm=l0.sm.both r0.sm):=hsm;clear hsm;have hB3:=hB2.trans (hb3.mono hB2.size);have hsc:=HSC.out;have hlen2:=hS.len;have hrow:t.row=l0.row++r0.row:=by rw [Tr.row_lv,Tr.row_lv,Tr.row_lv,hS.lv,rowOf_append]
   have q0:=hS.high;have hlc:=l0.sm_cells;have hPl:Pcs l0.lv∧Pcs r0.lv:=by have:=HIB.out.pcs;rw [hS.lv] at this;exact ⟨this.left,this.right⟩
   have hcl:∀ c∈l0.row,0≤c.2∧c.2≤1048576:=fun c hc=>HIB.out.cnt c (by rw [hrow];exact List.mem_append_left _ hc)
   have hcr:∀ c∈r0.row,0≤c.2∧c.2≤1048576:=fun c hc=>HIB.out.cnt c (by rw [hrow];exact List.mem_append_right _ hc)
   have BL:Bin l0 f (x::k):=⟨hS.fl,hPl.1,hcl,by omega,HMS.out,HMB.out⟩;have BR:Bin r0 (f+l0.row.length) (x::k):=⟨hS.fr,hPl.2,hcr,by omega,HMS.out,HMB.out⟩;have hR3:=hR2.below hb3;go_wp2_with fail;refine (IH.out (by omega) hL BL hR3 hKm _ rfl).mono ?_;rintro e w4 ⟨gl',l1,rfl,hL4,hBL,hb4⟩;have hB4:=hB3.trans (hb4.mono hB3.size);have d0:=(hL.below hb4).cells;have u1:IntKind.i64.wrap ((f:Int)+l0.sm.cells)=(f:Int)+l0.sm.cells:=IntWalk.i64_in _ (by omega);have HSC:Hid (t.sm.cells=(t.row.length:Int)):=hsc;have HLC:Hid (l0.sm.cells=(l0.row.length:Int)):=hlc;have CR:=IH.out (fi:=(f:Int)+l0.sm.cells) (by omega) (hR.below hb4) BR (hR3.below hb4) hKm (by omega);clear hsc hlc hlen2;go_wp2_with fail;refine CR.mono ?_;rintro e w5 ⟨gr',r1,rfl,hR5,hBR,hb5⟩;clear CR;have hB5:=hB4.trans (hb5.mono hB4.size);have hL5:=hL4.below hb5;have hl5:=hL.below (hb4.trans (hb5.mono hb4.size));have hr5:=hR.below (hb4.trans (hb5.mono hb4.size));clear d0;obtain ⟨bL,eL,rL⟩:=run_eqSm l1.sm l0.sm;obtain ⟨bR,eR,rR⟩:=run_eqSm r1.sm r0.sm;obtain ⟨p0,p1,p2,p3,p4,p5,p6,p7,p8,p9⟩:=hL5.ten;obtain ⟨j0,j1,j2,j3,j4,j5,j6,j7,j8,j9⟩:=hl5.ten;obtain ⟨y0,y1,y2,y3,y4,y5,y6,y7,y8,y9⟩:=hR5.ten;obtain ⟨v0,v1,v2,v3,v4,v5,v6,v7,v8,v9⟩:=hr5.ten;have HF:Hid (t.row=l0.row++r0.row∧SidesOf t l0 r0∧Bout l0 f (x::k) d l1∧Bout r0 (f+l0.row.length) (x::k) d r1∧(bL=true↔l1.sm=l0.sm)∧(bR=true↔r1.sm=r0.sm)):=⟨hrow,hS,hBL,hBR,eL,eR⟩;clear hrow hS hBL hBR eL eR q0 hPl hcl hcr BL BR;cases bL with
   | false =>
    go_wp2_with fail;go_quiet (fail);have hbw:=below_drewN (bE w5.heap.size w5) nq;generalize w5.drewN nq=w6 at *;have hB6:=hB5.trans (hbw.mono hB5.size);have hL6:=hL5.below hbw;have hR6:=hR5.below hbw;obtain ⟨hrow,hS,hBL,hBR,_,_⟩:=HF.out;have n1:=hBL.len;have n2:=hBR.len;have n3:=congrArg List.length hrow;rw [List.length_append] at n3;have HF2:=HF;clear HF rL rR;go_wp2_with fail;refine (concat_any hL6 hR6 (.inr hBL.fine) (.inr hBR.fine) hBL.pcs hBR.pcs (by omega)).mono ?_;rintro e w7 ⟨g7,t7,rfl,hA7,hl7,hc7,hb7⟩;go_wp2_with fail;go_ret;exact ⟨g7,t7,rfl,hA7,bout_concat hrow HIN.out hBL hBR hl7 hc7,hB6.trans (hb7.mono hB6.size)⟩
   | true =>
    cases bR with
    | false =>
     go_wp2_with fail;go_quiet (fail);have hbw:=below_drewN (bE w5.heap.size w5) nq;generalize w5.drewN nq=w6 at *;have hB6:=hB5.trans (hbw.mono hB5.size);have hL6:=hL5.below hbw;have hR6:=hR5.below hbw;obtain ⟨hrow,hS,hBL,hBR,_,_⟩:=HF.out;have n1:=hBL.len;have n2:=hBR.len;have n3:=congrArg List.length hrow;rw [List.length_append] at n3;have HF2:=HF;clear HF rL rR;go_wp2_with fail;refine (concat_any hL6 hR6 (.inr hBL.fine) (.inr hBR.fine) hBL.pcs hBR.pcs (by omega)).mono ?_;rintro e w7 ⟨g7,t7,rfl,hA7,hl7,hc7,hb7⟩;go_wp2_with fail;go_ret;exact ⟨g7,t7,rfl,hA7,bout_concat hrow HIN.out hBL hBR hl7 hc7,hB6.trans (hb7.mono hB6.size)⟩
    | true =>
     go_wp2_with fail;go_quiet (fail);have hbw:=below_drewN (bE w5.heap.size w5) nq;generalize w5.drewN nq=w6 at *;have hB6:=hB5.trans (hbw.mono hB5.size);have hL6:=hL5.below hbw;have hR6:=hR5.below hbw;obtain ⟨hrow,hS,hBL,hBR,eL,eR⟩:=HF.out;obtain ⟨z0,z1,z2,z3,z4,z5,z6,z7,z8,z9⟩:=(HA.out.below hB6).ten;obtain ⟨a1,a2,a3,a4⟩:=again hS HSM.out HIB.out.pcs hBL.fine hBR.fine (eL.1 trivial) (eR.1 trivial) hBL.pcs hBR.pcs;have HB:Hid (Bout t f l d (.node l1 r1 0)):=⟨a1,a3,a4.trans (bout_row hrow HIN.out hBL hBR)⟩;have HS2:Hid ((Tr.node l1 r1 0).sm=t.sm):=a2;clear rL rR HF hrow hS hBL hBR eL eR a1 a2 a3 a4;go_wp2_with fail;go_ret;have hB7:Below w6.heap.size w6 (w6.alloc (.cells (nodeCells t.sm (.slice none 0 0) (.pointer (some ⟨gl',0,none⟩)) (.pointer (some ⟨gr',0,none⟩)) 0) 96)):=(bE _ _).alloc (lR _) _;refine ⟨w6.heap.size,.node l1 r1 0,rfl,⟨gl',gr',?_,hL6.below hB7,hR6.below hB7⟩,HB.out,hB6.trans (hB7.mono hB6.size)⟩;rw [HS2.out];exact heap_alloc_new _ _
theorem take_right (X Y:List (Int×Int)) (m:Nat) (h:X.length≤m):X++Y.take (m-X.length)=(X++Y).take m:=by rw [List.take_append,List.take_of_length_le h]
theorem drop_right (X Y:List (Int×Int)) (m:Nat) (h:X.length≤m):Y.drop (m-X.length)=(X++Y).drop m:=by rw [List.drop_append,List.drop_eq_nil_of_le h];rfl
structure Sp (R1 R2:List (Int×Int)) (a b:Tr):Prop where
 ra:rowOf a.lv=R1
 rb:rowOf b.lv=R2
 ca:a.Can
 cb:b.Can
 pa:Pcs a.lv
 pb:Pcs b.lv
theorem pcs_part {rs:List Int} {h:Int} (lo hi:Nat) (h2:hi≤rs.length) (h32:rs.length≤32):Pcs (partL rs h lo hi):=by
 unfold partL;split
 ·exact pcs_nil
 ·rename_i hlt
  refine ⟨fun p hp=>?_,fun p hp=>?_,trivial⟩
  ·simp at hp;subst hp;intro e;have:=congrArg List.length e;simp at this;omega
  ·simp at hp;subst hp;simp;omega
theorem rowOf_part (rs:List Int) (h:Int) (lo hi:Nat):rowOf (partL rs h lo hi)=((rs.take hi).drop lo).map fun c=>(c,h):=by
 unfold partL;split
 ·rename_i e
  have:(rs.take hi).drop lo=[]:=by rw [List.drop_eq_nil_iff,List.length_take];omega
  rw [this];rfl
 ·simp [rowOf]
theorem split_fine:∀ (N:Nat) {w:World} {t:Tr} {g:Nat},t.sm.high≤(N:Int)→At w t g→t.Fine→Pcs t.lv→t.row.length≤1048576→∀ m:Nat,∀ n:Int,n=(m:Int)→m≤t.row.length →
  Calls Tryz.prog 57 #[.pointer (some ⟨g,0,none⟩),.int .i64 n] w fun e w'=>∃ g1 g2 a b,e=.returned (.tuple #[.pointer (some ⟨g1,0,none⟩),.pointer (some ⟨g2,0,none⟩)])∧At w' a g1∧At w' b g2∧Sp (t.row.take m) (t.row.drop m) a b∧Below w.heap.size w w':=by
 intro N
 induction N with
 | zero =>
  intro w t g hN hA hf;have:=hf.pos;omega
 | succ N ih =>
  intro w t g hN hA hf hP hn m n hnm hm;have IH:Hid (∀ {w:World} {t:Tr} {g:Nat},t.sm.high≤(N:Int)→At w t g→t.Fine→Pcs t.lv→t.row.length≤1048576→∀ m:Nat,∀ n:Int,n=(m:Int)→m≤t.row.length→Calls Tryz.prog 57 #[.pointer (some ⟨g,0,none⟩),.int .i64 n] w fun e w'=>∃ g1 g2 a b,e=.returned (.tuple #[.pointer (some ⟨g1,0,none⟩),.pointer (some ⟨g2,0,none⟩)])∧At w' a g1∧At w' b g2∧Sp (t.row.take m) (t.row.drop m) a b∧Below w.heap.size w w'):=ih;clear ih;have hsc:=t.sm_cells;by_cases hm0:m=0
  ·subst hm0;subst hnm;have hsb:Sp (t.row.take 0) (t.row.drop 0) .nil t:=⟨rfl,by simp [Tr.row_lv],.inl rfl,.inr hf,pcs_nil,hP⟩;clear hsc;go_enter Tryz.func57,Tryz.ntmps57;go_wp2_with fail;go_ret2;exact ⟨w.heap.size,g,.nil,t,rfl,at_nil w,hA.below ((bE _ _).alloc (lR _) _),hsb,(bE _ _).alloc (lR _) _⟩
  ·by_cases hml:m=t.row.length
   ·subst hml;have hsb:Sp (t.row.take t.row.length) (t.row.drop t.row.length) t .nil:=⟨by simp [Tr.row_lv],by simp [Tr.lv,rowOf],.inr hf,.inl rfl,hP,pcs_nil⟩;have hpos:0<t.sm.cells:=by omega
    have hne:n=t.sm.cells:=by omega
    subst hne;have c0:=hA.cells;clear hsc hnm;go_enter Tryz.func57,Tryz.ntmps57;go_wp2_with fail;go_ret2;exact ⟨g,w.heap.size,t,.nil,rfl,hA.below ((bE _ _).alloc (lR _) _),at_nil w,hsb,(bE _ _).alloc (lR _) _⟩
   ·have hlt:n<t.sm.cells:=by omega
    have hgt:0<n:=by omega
    cases t with
    | nil=>exact hf.wf.elim
    | leaf rs hid st =>
     have HIP:=smIsPiece_any (Tr.leaf rs hid st).sm;rw [Tr.sm_high_leaf] at HIP;have h32:rs.length≤32:=hP.few (rs,hid) (by simp [Tr.lv]);have hrl:(Tr.leaf rs hid st).row.length=rs.length:=by simp [Tr.row]
     have hcs:(Tr.leaf rs hid st).sm.cells=((rs.length:Nat):Int):=rfl;have hmr:m≤rs.length:=by omega
     have hgl:=hA.lt;have HP1:Hid (∀ W,Below w.heap.size w W→Calls Tryz.prog 91 #[.pointer (some ⟨g,0,none⟩),.int .i64 0,.int .i64 n] W fun e w'=>∃ g' t,e=.returned (.pointer (some ⟨g',0,none⟩))∧At w' t g'∧PartOf rs hid 0 m t∧Below W.heap.size W w'):=fun W hW=>by
      rw [hnm];exact part_any (hA.below hW) hf 0 m (by omega) (by omega) (by omega)
     have HP2:Hid (∀ W,Below w.heap.size w W→Calls Tryz.prog 91 #[.pointer (some ⟨g,0,none⟩),.int .i64 n,.int .i64 (Tr.leaf rs hid st).sm.cells] W fun e w'=>∃ g' t,e=.returned (.pointer (some ⟨g',0,none⟩))∧At w' t g'∧PartOf rs hid m rs.length t∧Below W.heap.size W w'):=fun W hW=>by
      rw [hnm,hcs];exact part_any (hA.below hW) hf m rs.length (by omega) (by omega) (by omega)
     have HE:Hid (∀ x y,PartOf rs hid 0 m x→PartOf rs hid m rs.length y→Sp ((Tr.leaf rs hid st).row.take m) ((Tr.leaf rs hid st).row.drop m) x y):=fun x y hx hy=>by
      refine ⟨?_,?_,hx.can,hy.can,by rw [hx.lv];exact pcs_part 0 m hmr h32,by rw [hy.lv];exact pcs_part m _ (lR _) h32⟩
      ·rw [hx.lv,rowOf_part];simp [Tr.row,List.map_take]
      ·rw [hy.lv,rowOf_part];simp [Tr.row,List.map_drop]
     obtain ⟨c0,c1,c2,c3,c4,c5,c6,c7,c8,c9⟩:=hA.ten;clear hcs hrl hsc hnm hf hP hA hn hm hml;generalize Tr.leaf rs hid st=lf at *;have hcur:Below w.heap.size w w:=bE _ _;go_enter Tryz.func57,Tryz.ntmps57;go_wp2_with fail;refine (HIP _).mono ?_;rintro e w1 ⟨rfl,hb1⟩;have k0:=(hb1.cell (p:=⟨g,0,none⟩) hgl).trans c0;have hcur:=hb1;go_wp2_with fail
     go_region_held3 (fun W=>W.cell? ⟨g,0,none⟩=some (.int .i64 lf.sm.cells)) (first|exact k0|exact e0)
      (first
       | (go_at_call_of 91 (Value.int IntKind.i64 0);refine (HP1.out _ ?_).mono ?_;(first|exact hcur|exact hcur.drew);rintro e w2 ⟨g2,x,rfl,hx,hpx,hb2⟩;have hcur:Below w.heap.size w w2:=(by first|exact hcur.trans (hb2.mono hcur.size)|exact hcur.drew.trans (hb2.mono hcur.size));have e0:=(hcur.cell (p:=⟨g,0,none⟩) hgl).trans c0)
       | (go_at_call 91;refine (HP2.out _ ?_).mono ?_;(first|exact hcur|exact hcur.drew);rintro e w3 ⟨g3,y,rfl,hy,hpy,hb3⟩;have hx3:=hx.below (by first|exact hb3|exact (bE _ _).drew.trans hb3);have hcur:Below w.heap.size w w3:=(by first|exact hcur.trans (hb3.mono hcur.size)|exact hcur.drew.trans (hb3.mono hcur.size));have e0:=(hcur.cell (p:=⟨g,0,none⟩) hgl).trans c0))
     all_goals
      go_wp2_with fail;go_ret2;exact ⟨g2,g3,x,y,rfl,hx3,hy,HE.out x y hpx hpy,hcur⟩
    | node l0 r0 st =>
     have HIP:=smIsPiece_any (Tr.node l0 r0 st).sm;have hh2:=hf.wf.high_node;rw [show decide ((Tr.node l0 r0 st).sm.high≤1)=false by simp;omega] at HIP;obtain ⟨c0,c1,c2,c3,c4,c5,c6,c7,c8,c9⟩:=hA.ten;have hgl:=hA.lt;have HNM:Hid (n=(m:Int)):=hnm;have HSC:Hid ((Tr.node l0 r0 st).sm.cells=((Tr.node l0 r0 st).row.length:Int)):=hsc;clear hnm hsc;generalize Tr.node l0 r0 st=t at *;go_enter Tryz.func57,Tryz.ntmps57;go_wp2_with fail;refine (HIP _).mono ?_;rintro e w1 ⟨rfl,hb1⟩;clear c1 c2 c3 c4 c5 c6 c7 c8 c9;go_wp2_with fail;refine (sides_p (hA.below hb1) hf hh2 (by omega)).mono ?_;rintro e w2 ⟨gl,gr,l,r,rfl,hl,hr,hs,hb2⟩;have hB2:=hb1.trans (hb2.mono hb1.size);have hlv:=hs.lv;have hlen:=hs.len;have q0:=hs.high;have hrow:t.row=l.row++r.row:=by rw [Tr.row_lv,Tr.row_lv,Tr.row_lv,hlv,rowOf_append]
     have hPl:Pcs l.lv:=by rw [hlv] at hP;exact hP.left
     have hPr:Pcs r.lv:=by rw [hlv] at hP;exact hP.right
     have d0:=hl.cells;have hlc:=l.sm_cells;have hlb:0≤l.sm.cells∧l.sm.cells≤2097152:=by omega
     have pl:=hs.fl.pos;have pr:=hs.fr.pos;have HR:Hid (t.row=l.row++r.row):=hrow;have hnm:=HNM.out;by_cases hle:m≤l.row.length
     ·have hcmp:n≤l.sm.cells:=by omega
      have hl1:l.row.length≤1048576:=by omega
      have hlr:l.row.length+r.row.length≤1048576:=by omega
      clear hlv hrow hlc hnm;go_wp2_with fail;refine (IH.out (by omega) hl hs.fl hPl hl1 m n HNM.out hle).mono ?_;rintro e w3 ⟨g1,g2,a,b,rfl,ha,hb,hsb,hb3⟩;have hB3:=hB2.trans (hb3.mono hB2.size);have hbl:b.row.length≤l.row.length:=by rw [Tr.row_len b,hsb.rb,List.length_drop];omega
      go_wp2_with fail;refine (concat_any hb (hr.below hb3) hsb.cb (.inr hs.fr) hsb.pb hPr (by omega)).mono ?_;rintro e w4 ⟨g4,t4,rfl,hA4,hl4,hc4,hb4⟩;go_wp2_with fail;go_ret2;refine ⟨g1,g4,a,t4,rfl,ha.below hb4,hA4,⟨?_,?_,hsb.ca,hc4,hsb.pa,by rw [hl4];exact hsb.pb.glue hPr⟩,hB3.trans (hb4.mono hB3.size)⟩
      ·rw [hsb.ra,HR.out,List.take_append,show m-l.row.length=0 by omega];simp
      ·rw [hl4,rowOf_glue,hsb.rb,HR.out,List.drop_append,show m-l.row.length=0 by omega,← Tr.row_lv];simp
     ·have hcmp:¬ n≤l.sm.cells:=by omega
      have hd:n-l.sm.cells=((m-l.row.length:Nat):Int):=by omega
      have HD:Hid (n-l.sm.cells=((m-l.row.length:Nat):Int)):=hd;have hrn:r.row.length≤1048576:=by omega
      have hlr:l.row.length+r.row.length≤1048576:=by omega
      have hmr:m-l.row.length≤r.row.length:=by omega
      have hnb:n≤2097152:=by omega
      clear hlv hrow hlc hnm hd;go_wp2_with fail;refine (IH.out (by omega) hr hs.fr hPr hrn (m-l.row.length) _ HD.out hmr).mono ?_;rintro e w3 ⟨g1,g2,a,b,rfl,ha,hb,hsb,hb3⟩;have hB3:=hB2.trans (hb3.mono hB2.size);have hal:a.row.length≤r.row.length:=by rw [Tr.row_len a,hsb.ra,List.length_take];omega
      go_wp2_with fail;refine (concat_any (hl.below hb3) ha (.inr hs.fl) hsb.ca hPl hsb.pa (by omega)).mono ?_;rintro e w4 ⟨g4,t4,rfl,hA4,hl4,hc4,hb4⟩;go_wp2_with fail;go_ret2;refine ⟨g4,g2,t4,b,rfl,hA4,hb.below hb4,⟨?_,?_,hc4,hsb.cb,by rw [hl4];exact hPl.glue hsb.pa,hsb.pb⟩,hB3.trans (hb4.mono hB3.size)⟩
      ·rw [hl4,rowOf_glue,hsb.ra,HR.out,← Tr.row_lv];exact take_right l.row r.row m (by omega)
      ·rw [hsb.rb,HR.out];exact drop_right l.row r.row m (by omega)
theorem cellsOf_nonneg {L:List GRun} (h:∀ x∈L,0≤x.h):Nonneg (cellsOf L):=by
 intro c hc;obtain ⟨x,hx,hc⟩:=List.mem_flatMap.1 hc;obtain ⟨r,_,rfl⟩:=List.mem_map.1 hc;exact h x hx
theorem from_good {L:List GRun} {ts:List Tr} {t:Tr} (hL:FromOk L) (hb:Built ts t) (hp:Parts L ts):t.row=cellsOf L∧t.Good:=by
 have hr:t.row=cellsOf L:=by rw [hb.row,hp.row]
 exact ⟨hr,⟨hb.ok_,hb.bd,by rw [hr];exact cellsOf_nonneg hL.lo,by rw [hr];exact hL.few⟩⟩
theorem split_nil {w:World} {g:Nat} (hA:At w .nil g) :
  Calls Tryz.prog 57 #[.pointer (some ⟨g,0,none⟩),.int .i64 0] w fun e w'=>∃ g1 g2 a b,e=.returned (.tuple #[.pointer (some ⟨g1,0,none⟩),.pointer (some ⟨g2,0,none⟩)])∧At w' a g1∧At w' b g2∧Sp (Tr.nil.row.take 0) (Tr.nil.row.drop 0) a b∧Below w.heap.size w w':=by
 have hsb:Sp (Tr.nil.row.take 0) (Tr.nil.row.drop 0) .nil .nil:=⟨rfl,rfl,.inl rfl,.inl rfl,pcs_nil,pcs_nil⟩;go_enter Tryz.func57,Tryz.ntmps57;go_wp2_with fail;go_ret2;exact ⟨w.heap.size,g,.nil,.nil,rfl,at_nil w,hA.below ((bE _ _).alloc (lR _) _),hsb,(bE _ _).alloc (lR _) _⟩
theorem split_any {w:World} {t:Tr} {g:Nat} (hA:At w t g) (hf:t.Can) (hP:Pcs t.lv) (hn:t.row.length≤1048576) (m:Nat) (hm:m≤t.row.length) :
  Calls Tryz.prog 57 #[.pointer (some ⟨g,0,none⟩),.int .i64 (m:Int)] w fun e w'=>∃ g1 g2 a b,e=.returned (.tuple #[.pointer (some ⟨g1,0,none⟩),.pointer (some ⟨g2,0,none⟩)])∧At w' a g1∧At w' b g2∧Sp (t.row.take m) (t.row.drop m) a b∧Below w.heap.size w w':=by
 rcases hf with rfl|hf
 ·obtain rfl:m=0:=by simp [Tr.row] at hm;exact hm
  exact split_nil hA
 ·exact split_fine t.sm.high.toNat (by have:=hf.pos;omega) hA hf hP hn m _ rfl hm
theorem noFit_full (h:Int):∀ (F:List (List Int)) (cur:List Int),(∀ x∈F,x.length=32)→cur≠[]→NoFit ((F++[cur]).map fun x=>(x,h))
 | [],_,_,_=>trivial
 | [x],cur,hF,hne=>by
  refine ⟨fun hf=>?_,trivial⟩;have h1:=hF x (by simp);have h2:=hf.2;have h3:=List.length_pos_iff.2 hne;simp only at h2;omega
 | x::y::t,cur,hF,hne=>by
  have ih:=noFit_full h (y::t) cur (fun z hz=>hF z (by simp at hz ⊢;exact .inr hz)) hne;refine ⟨fun hf=>?_,ih⟩;have h1:=hF x (by simp);have h2:=hF y (by simp);have h3:=hf.2;simp only at h3;omega
theorem Chunks.pcs {rs:List Int} {h:Int} {ts:List Tr} (hc:Chunks rs h ts):Pcs (lvs ts)∧(∀ p∈lvs ts,p.2=h):=by
 obtain ⟨F,cur,hF,hne,hfew,hfl,rfl⟩:=hc.cut;rw [lvs_leaves];refine ⟨⟨fun p hp=>?_,fun p hp=>?_,noFit_full h F cur hF hne⟩,fun p hp=>?_⟩
 ·obtain ⟨x,hx,rfl⟩:=List.mem_map.1 hp;rcases List.mem_append.1 hx with hx|hx
  ·intro e;have:=hF x hx;simp only at e;rw [e] at this;simp at this
  ·simp at hx;subst hx;exact hne
 ·obtain ⟨x,hx,rfl⟩:=List.mem_map.1 hp;rcases List.mem_append.1 hx with hx|hx
  ·have:=hF x hx;simp only;omega
  ·simp at hx;subst hx;exact hfew
 ·obtain ⟨x,hx,rfl⟩:=List.mem_map.1 hp;rfl
theorem lvs_append (ts us:List Tr):lvs (ts++us)=lvs ts++lvs us:=by simp [lvs]
theorem Parts.pcs {L:List GRun} {ts:List Tr} (hp:Parts L ts):(∀ (j:Nat) x y,L[j]?=some x→L[j+1]?=some y→x.h≠y.h)→Pcs (lvs ts)∧∀ p,(lvs ts).getLast?=some p→∃ x,L.getLast?=some x∧p.2=x.h:=by
 induction hp with
 | nil=>intro _;exact ⟨pcs_nil,fun p hp=>by simp [lvs] at hp⟩
 | @snoc L ts us x h hc ih =>
  intro hap;obtain ⟨i1,i2⟩:=ih (fun j y z hy hz=>hap j y z (by rw [List.getElem?_append_left (by have:=(List.getElem?_eq_some_iff.1 hy).1;omega)];exact hy) (by rw [List.getElem?_append_left (by have:=(List.getElem?_eq_some_iff.1 hz).1;omega)];exact hz));obtain ⟨c1,c2⟩:=hc.pcs;rw [lvs_append];refine ⟨i1.append c1 fun p q hp hq hf=>?_,fun p hp=>?_⟩
  ·obtain ⟨y,hy,e⟩:=i2 p hp;have e2:=c2 q (List.mem_of_mem_head? hq);rw [List.getLast?_eq_getElem?] at hy;have hL:0<L.length:=by
    have:=(List.getElem?_eq_some_iff.1 hy).1;omega
   refine hap (L.length-1) y x ?_ ?_ (by have:=hf.1;omega)
   ·rw [List.getElem?_append_left (by omega)];exact hy
   ·rw [List.getElem?_append_right (by omega),show L.length-1+1-L.length=0 by omega];rfl
  ·have hne:lvs us≠[]:=by
    obtain ⟨F,cur,_,_,_,_,rfl⟩:=hc.cut;rw [lvs_leaves];simp
   rcases List.eq_nil_or_concat (lvs us) with e|⟨k,z,e⟩
   ·exact absurd e hne
   ·rw [List.concat_eq_append] at e;rw [e,← List.append_assoc] at hp;simp at hp;subst hp;exact ⟨x,by simp,c2 z (by rw [e];simp)⟩
structure Tr.Rp (t:Tr):Prop where
 can:t.Can
 pcs:Pcs t.lv
 lo:∀ c∈t.row,0≤c.2
 hi:∀ c∈t.row,c.2≤1048576
 len:t.row.length≤1048576
theorem Built.can {ts:List Tr} {t:Tr} (h:Built ts t):t.Can:=by
 rcases h.ok with ⟨_,h1⟩|⟨_,h1⟩
 ·exact .inl h1
 ·exact .inr ⟨h1,h.bd,h.avl⟩
theorem from_rp {L:List GRun} {ts:List Tr} {t:Tr} (hL:FromOk L) (hb:Built ts t) (hp:Parts L ts):t.row=cellsOf L∧t.Rp:=by
 obtain ⟨hr,hg⟩:=from_good hL hb hp;refine ⟨hr,hb.can,by rw [hb.lv];exact (hp.pcs hL.apart).1,hg.nonneg,fun c hc=>?_,hg.len⟩;rw [hr] at hc;obtain ⟨x,hx,hc⟩:=List.mem_flatMap.1 hc;obtain ⟨r,_,rfl⟩:=List.mem_map.1 hc;exact hL.hi x hx
structure Upd (q:Nat) (w w':World):Prop where
 os:w'.os=w.os
 tape:w'.tape=w.tape
 output:w'.output=w.output
 size:w.heap.size≤w'.heap.size
 block:∀ k,k<w.heap.size→k≠q→w'.heap[k]?=w.heap[k]?
theorem Upd.trans {q:Nat} {a b c:World} (h:Upd q a b) (k:Upd q b c):Upd q a c:=⟨k.os.trans h.os,k.tape.trans h.tape,k.output.trans h.output,Nat.le_trans h.size k.size,fun i hi hne=>(k.block i (by have:=h.size;omega) hne).trans (h.block i hi hne)⟩
theorem Upd.ofBelow {q:Nat} {a b:World} (h:Below a.heap.size a b):Upd q a b:=⟨h.os,h.tape,h.output,h.size,fun i hi _=>h.block i hi⟩
theorem Upd.below {q B:Nat} {a b c:World} (h:Below B a b) (k:Upd q b c) (hq:B≤q) (hB:B≤b.heap.size):Below B a c:=⟨k.os.trans h.os,k.tape.trans h.tape,k.output.trans h.output,Nat.le_trans h.size k.size,fun i hi=>(k.block i (by omega) (by omega)).trans (h.block i hi)⟩
theorem upd_set {w:World} (q:Nat) (u:Value):Upd q w (w.setCell ⟨q,0,none⟩ u):=⟨rfl,rfl,rfl,by simp [World.setCell],fun i _ hne=>Below.heap_setCell _ _ _ _ hne⟩
theorem At.notBox {w:World} {q:Nat} {p:Option Addr} (hq:w.heap[q]?=some (.cells #[.pointer p] 73)):∀ {t:Tr} {g:Nat},At w t g→AtD w (fun b=>b≠q) t g
 | .nil,g,h=>⟨fun e=>by subst e;unfold At NodeAt at h;rw [hq] at h;simp at h,h⟩
 | .leaf rs _ _,g,⟨a,cap,h1,h2⟩=>⟨fun e=>by subst e;unfold NodeAt at h1;rw [hq] at h1;simp at h1,a,cap,h1,h2,fun h0 gr off e e2=>by
   subst e2
   obtain ⟨g',off',e',hg,hc⟩:=h2.rw_.cells h0
   rw [e] at e'
   cases e'
   have hx:rs[0]?=some rs[0]:=List.getElem?_eq_getElem h0
   have:=hc 0 _ hx 0 _ rfl
   simp only [World.cell?,hq] at this
   match off,this with
   | 0,this=>simp at this
   | k+1,this=>simp at this⟩
 | .node _ _ _,g,⟨gl,gr,h1,h2,h3⟩=>⟨fun e=>by subst e;unfold NodeAt at h1;rw [hq] at h1;simp at h1,gl,gr,h1,At.notBox hq h2,At.notBox hq h3⟩
theorem ropeAt_set {w:World} {q g:Nat} {p:Option Addr} {t:Tr} (hq:w.heap[q]?=some (.cells #[.pointer p] 73)) (hA:At w t g):RopeAt (w.setCell ⟨q,0,none⟩ (.pointer (some ⟨g,0,none⟩))) q t:=by
 refine ⟨g,?_,?_⟩
 ·exact (heap_setCell_same w q 0 _ _ _ hq).trans (by simp)
 ·exact ((hA.notBox hq).keep (fun b hb=>Below.heap_setCell _ _ _ _ hb) (by simp [World.setCell])).at
theorem insert_any {w:World} {q:Nat} {t:Tr} (h:RopeAt w q t) (hR:t.Rp) (m:Nat) (hm:m≤t.row.length) {s:ByteArray} {rs:List Int} (ht:IsText s rs) (hne:rs≠[]) (hid:Int) (h0:0≤hid) (h1:hid≤1048576) (hn:t.row.length+rs.length≤1048576) (hBar:Bar w) :
  Calls Tryz.prog 25 #[.pointer (some ⟨q,0,none⟩),.int .i64 (m:Int),.string s,.int .i64 hid] w fun e w'=>e=.returned (.int .i64 0)∧(∃ t',RopeAt w' q t'∧t'.Rp∧t'.row=t.row.take m++(rs.map fun c=>(c,hid))++t.row.drop m)∧Upd q w w':=by
 have hlen:=hR.len;have hpos:=List.length_pos_iff.2 hne;have HT:Hid (∀ W,Below w.heap.size w W→Calls Tryz.prog 24 #[.pointer (some ⟨q,0,none⟩)] W fun e w'=>e=.returned (.int .i64 (t.row.length:Int))∧w'=W):=fun W hW=>ropeTotal_any (h.below hW)
 have HC:=checkCells_any ht (by omega) hid h0 h1 w hBar;obtain ⟨g,hq,hA⟩:=h;have hql:=(gA hq);have c0:w.cell? ⟨q,0,none⟩=some (.pointer (some ⟨g,0,none⟩)):=by simp [World.cell?,hq]
 have HQ:Hid (w.heap[q]?=some (.cells #[.pointer (some ⟨g,0,none⟩)] 73)):=hq;clear hq;have z0:((rs.length:Int)==0)=false:=by rw [beq_eq_false_iff_ne];omega
 have HE:Hid (t.row.length=t.row.length):=rfl;generalize hL:t.row.length=L at *;have HL:Hid (t.row.length=L):=hL;clear hL HE;go_enter Tryz.func25,Tryz.ntmps25;go_wp2_with fail;refine (HT.out _ (bE _ _)).mono ?_;rintro e w1 ⟨rfl,rfl⟩;go_wp2_with fail;refine HC.mono ?_;rintro e w2 ⟨rfl,hb2⟩;go_wp2_with fail;refine (HT.out _ hb2).mono ?_;rintro e w3 ⟨rfl,rfl⟩;have c2:=(hb2.cell (p:=⟨q,0,none⟩) hql).trans c0;go_wp2_with fail;refine (split_any (hA.below hb2) hR.can hR.pcs (by rw [HL.out];omega) m (by rw [HL.out];omega)).mono ?_;rintro e w4 ⟨g1,g2,a,b,rfl,ha,hb,hs,hb4⟩;have hB4:=hb2.trans (hb4.mono hb2.size);clear c0 c2 HC;go_wp2_with fail;refine (cut_any ht hne hid (by omega) _).mono ?_;rintro e w5 ⟨v,gs,ts,rfl,hO,hT,hCh,hb5⟩;have hB5:=hB4.trans (hb5.mono hB4.size);obtain ⟨av,cv,rfl⟩:=hO.shape;have hul:=hCh.len;have hgl:=hT.1;go_wp2_with fail;refine (grown_len gs.length gs.length (lR _) (hO.rw_ layG) hT.ats (hCh.each ⟨h0,h1⟩) (by omega) (by rw [hCh.row,List.length_map];omega)).mono ?_;rintro e w6 ⟨g6,t6,rfl,hA6,hBt,hb6⟩;have hB6:=hB5.trans (hb6.mono hB5.size);have h46:=hb5.trans (hb6.mono hb5.size);have r6:rowOf t6.lv=rs.map fun c=>(c,hid):=by rw [hBt.lv,hCh.row]
 have l6:t6.row.length=rs.length:=by rw [Tr.row_len,r6,List.length_map]
 have la:a.row.length=m:=by rw [Tr.row_len,hs.ra,List.length_take];have:=HL.out;omega
 have lb:b.row.length=L-m:=by rw [Tr.row_len,hs.rb,List.length_drop];have:=HL.out;omega
 have p6:Pcs t6.lv:=by rw [hBt.lv];exact hCh.pcs.1
 unfold ptr;go_wp2_with fail;refine (concat_any (ha.below h46) hA6 hs.ca hBt.can hs.pa p6 (by omega)).mono ?_;rintro e w7 ⟨g7,t7,rfl,hA7,hl7,hc7,hb7⟩;have hB7:=hB6.trans (hb7.mono hB6.size);have p7:Pcs t7.lv:=by rw [hl7];exact hs.pa.glue p6
 have r7:rowOf t7.lv=t.row.take m++rs.map fun c=>(c,hid):=by rw [hl7,rowOf_glue,hs.ra,r6]
 have l7:t7.row.length=m+rs.length:=by rw [Tr.row_len,r7,List.length_append,List.length_take,List.length_map];have:=HL.out;omega
 have hb7':=hb.below (h46.trans (hb7.mono h46.size));clear la l6 h46 ha hA6 hb hT hO;go_wp2_with fail;refine (concat_any hA7 hb7' hc7 hs.cb p7 hs.pb (by omega)).mono ?_;rintro e w8 ⟨g8,t8,rfl,hA8,hl8,hc8,hb8⟩;have hB8:=hB7.trans (hb8.mono hB7.size);have r8:t8.row=t.row.take m++(rs.map fun c=>(c,hid))++t.row.drop m:=by rw [Tr.row_lv,hl8,rowOf_glue,r7,hs.rb]
 have hrp:t8.Rp:=by
  refine ⟨hc8,by rw [hl8];exact p7.glue hs.pb,fun c hc=>?_,fun c hc=>?_,?_⟩
  ·rw [r8] at hc;rcases List.mem_append.1 hc with hc|hc
   ·rcases List.mem_append.1 hc with hc|hc
    ·exact hR.lo c (List.mem_of_mem_take hc)
    ·obtain ⟨x,_,rfl⟩:=List.mem_map.1 hc;exact h0
   ·exact hR.lo c (List.mem_of_mem_drop hc)
  ·rw [r8] at hc;rcases List.mem_append.1 hc with hc|hc
   ·rcases List.mem_append.1 hc with hc|hc
    ·exact hR.hi c (List.mem_of_mem_take hc)
    ·obtain ⟨x,_,rfl⟩:=List.mem_map.1 hc;exact h1
   ·exact hR.hi c (List.mem_of_mem_drop hc)
  ·rw [r8];simp only [List.length_append,List.length_take,List.length_drop,List.length_map];have:=HL.out;omega
 have hq8:w8.heap[q]?=some (.cells #[.pointer (some ⟨g,0,none⟩)] 73):=(hB8.block q hql).trans HQ.out;have c8:w8.cell? ⟨q,0,none⟩=some (.pointer (some ⟨g,0,none⟩)):=by simp [World.cell?,hq8]
 have f8:w8.frozen? ⟨q,0,none⟩=false:=frozen_of_row w8 q 0 _ _ hq8;have HF:Hid (RopeAt (w8.setCell ⟨q,0,none⟩ (.pointer (some ⟨g8,0,none⟩))) q t8):=ropeAt_set hq8 hA8;have HR8:Hid (t8.row=t.row.take m++(rs.map fun c=>(c,hid))++t.row.drop m):=r8;clear r8 hq8 r7 r6 l7 lb hl8 hl7;go_wp2_with fail;go_ret;exact ⟨rfl,⟨t8,HF.out,hrp,HR8.out⟩,(Upd.ofBelow hB8).trans (upd_set q _)⟩
end Go.Proofs.YtijpfbcippijoaaGreatDoor
