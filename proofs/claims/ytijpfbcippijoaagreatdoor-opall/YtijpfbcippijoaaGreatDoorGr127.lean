import Derived.Test.YtijpfbcippijoaaGreatDoorAl
import Derived.Test.YtijpfbcippijoaaGreatDoorGr124
import Derived.Test.YtijpfbcippijoaaGreatDoorGr134
set_option maxHeartbeats 8000000
set_option maxRecDepth 100000
namespace Go.Proofs.YtijpfbcippijoaaGreatDoor
open Go.RowKit Go.Lib
theorem rowOf_pos {l:List (List Int×Int)} (h:∀ p∈l,p.1≠[]) (hl:l≠[]):0<(rowOf l).length:=by
 obtain ⟨p,t,rfl⟩:=List.exists_cons_of_ne_nil hl;rw [rowOf_cons,List.length_append,List.length_map];have:=List.length_pos_iff.2 (h p (by simp));omega
theorem cut_left {X Y A B:List (List Int×Int)} (hne:∀ p∈A,p.1≠[]) (h:X++Y=A++B) (hl:(rowOf A).length≤(rowOf X).length):∃ C,X=A++C∧B=C++Y:=by
 rcases List.append_eq_append_iff.1 h with ⟨c,rfl,rfl⟩|⟨c,rfl,rfl⟩
 ·rw [rowOf_append,List.length_append] at hl;by_cases hc:c=[]
  ·subst hc;exact ⟨[],by simp,by simp⟩
  ·have:=rowOf_pos (fun p hp=>hne p (List.mem_append_right _ hp)) hc;omega
 ·exact ⟨c,rfl,rfl⟩
theorem cut_right {X Y A B:List (List Int×Int)} (h:X++Y=A++B) (hl:(rowOf X).length<(rowOf A).length):∃ C,A=X++C∧Y=C++B:=by
 rcases List.append_eq_append_iff.1 h with ⟨c,rfl,rfl⟩|⟨c,rfl,rfl⟩
 ·exact ⟨c,rfl,rfl⟩
 ·rw [rowOf_append,List.length_append] at hl;omega
structure SB (A B:List (List Int×Int)) (a b:Tr):Prop where
 la:a.lv=A
 lb:b.lv=B
 ca:a.Can
 cb:b.Can
theorem at_nil (w:World):At (w.alloc (.cells (nodeCells Tr.nil.sm (.slice none 0 0) (.pointer none) (.pointer none) 0) 96)) .nil w.heap.size:=heap_alloc_new _ _
theorem split_bdry:∀ (N:Nat) {w:World} {t:Tr} {g:Nat},t.sm.high≤(N:Int)→At w t g→t.Fine→Pcs t.lv→t.row.length≤1048576→∀ {A B:List (List Int×Int)},t.lv=A++B→∀ n:Int,n=((rowOf A).length:Int) →
  Calls Tryz.prog 57 #[.pointer (some ⟨g,0,none⟩),.int .i64 n] w fun e w'=>∃ g1 g2 a b,e=.returned (.tuple #[.pointer (some ⟨g1,0,none⟩),.pointer (some ⟨g2,0,none⟩)])∧At w' a g1∧At w' b g2∧SB A B a b∧Below w.heap.size w w':=by
 intro N
 induction N with
 | zero =>
  intro w t g hN hA hf;have:=hf.pos;omega
 | succ N ih =>
  intro w t g hN hA hf hP hn A B hAB n hat;have IH:Hid (∀ {w:World} {t:Tr} {g:Nat},t.sm.high≤(N:Int)→At w t g→t.Fine→Pcs t.lv→t.row.length≤1048576→∀ {A B:List (List Int×Int)},t.lv=A++B→∀ n:Int,n=((rowOf A).length:Int)→Calls Tryz.prog 57 #[.pointer (some ⟨g,0,none⟩),.int .i64 n] w fun e w'=>∃ g1 g2 a b,e=.returned (.tuple #[.pointer (some ⟨g1,0,none⟩),.pointer (some ⟨g2,0,none⟩)])∧At w' a g1∧At w' b g2∧SB A B a b∧Below w.heap.size w w'):=ih;clear ih;have hneA:∀ p∈A,p.1≠[]:=fun p hp=>hP.some_ p (by rw [hAB];exact List.mem_append_left _ hp)
  have hneB:∀ p∈B,p.1≠[]:=fun p hp=>hP.some_ p (by rw [hAB];exact List.mem_append_right _ hp)
  have hrl:t.row.length=(rowOf A).length+(rowOf B).length:=by rw [Tr.row_len,hAB,rowOf_append,List.length_append]
  have hsc:=t.sm_cells;by_cases hA0:A=[]
  ·subst hA0;have h0:n=0:=hat;subst h0;have hsb:SB [] B .nil t:=⟨rfl,by simpa using hAB,.inl rfl,.inr hf⟩;clear hat hneA hneB hrl;go_enter Tryz.func57,Tryz.ntmps57;go_wp2_with fail;go_ret2;exact ⟨w.heap.size,g,.nil,t,rfl,at_nil w,hA.below ((bE _ _).alloc (lR _) _),hsb,(bE _ _).alloc (lR _) _⟩
  ·have pA:=rowOf_pos hneA hA0;by_cases hB0:B=[]
   ·subst hB0;have h0:n=t.sm.cells:=by rw [hat,hsc,hrl];simp [rowOf]
    have hpos:0<t.sm.cells:=by omega
    subst h0;have hsb:SB A [] t .nil:=⟨by simpa using hAB,rfl,.inr hf,.inl rfl⟩;have c0:=hA.cells;clear hat hneA hneB hrl hsc;go_enter Tryz.func57,Tryz.ntmps57;go_wp2_with fail;go_ret2;exact ⟨g,w.heap.size,t,.nil,rfl,hA.below ((bE _ _).alloc (lR _) _),at_nil w,hsb,(bE _ _).alloc (lR _) _⟩
   ·have pB:=rowOf_pos hneB hB0;have hlt:n<t.sm.cells:=by omega
    have hgt:0<n:=by omega
    have hnode:∃ l r st,t=.node l r st:=by
     cases t with
     | nil=>exact hf.wf.elim
     | leaf rs hid st =>
      exfalso;have h1:(Tr.leaf rs hid st).lv.length=A.length+B.length:=by rw [hAB,List.length_append]
      have h2:=List.length_pos_iff.2 hA0;have h3:=List.length_pos_iff.2 hB0;simp [Tr.lv] at h1;omega
     | node l r st=>exact ⟨l,r,st,rfl⟩
    have hh2:2≤t.sm.high:=by
     obtain ⟨l,r,st,rfl⟩:=hnode;exact hf.wf.high_node
    have HIP:=smIsPiece_any t.sm;rw [show decide (t.sm.high≤1)=false by simp;omega] at HIP;obtain ⟨c0,c1,c2,c3,c4,c5,c6,c7,c8,c9⟩:=hA.ten;have hgl:=hA.lt;have HAT0:Hid (n=((rowOf A).length:Int)):=hat;have HSC0:Hid (t.sm.cells=(t.row.length:Int)):=hsc;have HRL0:Hid (t.row.length=(rowOf A).length+(rowOf B).length):=hrl;have HAB0:Hid (t.lv=A++B):=hAB;clear hnode hneB hat hsc hrl hAB;go_enter Tryz.func57,Tryz.ntmps57;go_wp2_with fail;refine (HIP _).mono ?_;rintro e w1 ⟨rfl,hb1⟩;clear c1 c2 c3 c4 c5 c6 c7 c8 c9;go_wp2_with fail;refine (sides_p (hA.below hb1) hf hh2 (by omega)).mono ?_;rintro e w2 ⟨gl,gr,l,r,rfl,hl,hr,hs,hb2⟩;have hB2:=hb1.trans (hb2.mono hb1.size);have hat:=HAT0.out;have hsc:=HSC0.out;have hrl:=HRL0.out;have hAB:=HAB0.out;have hlv:=hs.lv;have hlen:=hs.len;have q0:=hs.high;have hLr:=l.row_len;have hRr:=r.row_len;have hPl:Pcs l.lv:=by rw [hlv] at hP;exact hP.left
    have hPr:Pcs r.lv:=by rw [hlv] at hP;exact hP.right
    have d0:=hl.cells;have hlc:=l.sm_cells;have hlb:0≤l.sm.cells∧l.sm.cells≤2097152:=by omega
    have hXY:l.lv++r.lv=A++B:=by rw [← hlv,hAB]
    have pl:=hs.fl.pos;have pr:=hs.fr.pos;by_cases hle:(rowOf A).length≤(rowOf l.lv).length
    ·obtain ⟨C,eX,eB⟩:=cut_left hneA hXY hle;have hcmp:n≤l.sm.cells:=by omega
     have hm:Meet C r.lv:=by
      have:Pcs (C++r.lv):=by rw [← eB];rw [hAB] at hP;exact hP.right
      exact this.meet
     have hat':n=((rowOf A).length:Int):=hat;have HX:Hid (l.lv=A++C):=eX;have HB:Hid (B=C++r.lv):=eB;have HAT:Hid (n=((rowOf A).length:Int)):=hat';have hCl:(rowOf C).length+r.row.length≤2097152:=by
      have:=congrArg (fun x=>(rowOf x).length) eX;simp only [rowOf_append,List.length_append] at this;omega
     clear eX eB hat hat' hXY hAB hlv hrl hsc hlc hLr hRr;go_wp2_with fail;refine (IH.out (by omega) hl hs.fl hPl (by omega) HX.out n HAT.out).mono ?_;rintro e w3 ⟨g1,g2,a,b,rfl,ha,hb,hsb,hb3⟩;have hB3:=hB2.trans (hb3.mono hB2.size);go_wp2_with fail;refine (concat_meet hb (hr.below hb3) hsb.cb (.inr hs.fr) (by rw [hsb.lb];exact hm) (by rw [Tr.row_len b,hsb.lb];omega)).mono ?_;rintro e w4 ⟨g4,t4,rfl,hA4,hj4,hb4⟩;go_wp2_with fail;go_ret2;exact ⟨g1,g4,a,t4,rfl,ha.below hb4,hA4,⟨hsb.la,by rw [hj4.lv,hsb.lb,HB.out],hsb.ca,hj4.can⟩,hB3.trans (hb4.mono hB3.size)⟩
    ·obtain ⟨C,eA,eY⟩:=cut_right hXY (by omega);have hcmp:¬ n≤l.sm.cells:=by omega
     have hm:Meet l.lv C:=by
      have:Pcs (l.lv++C):=by rw [← eA];rw [hAB] at hP;exact hP.left
      exact this.meet
     have hrA:(rowOf A).length=(rowOf l.lv).length+(rowOf C).length:=by rw [eA,rowOf_append,List.length_append]
     have hd:n-l.sm.cells=((rowOf C).length:Int):=by omega
     have HD:Hid (n-l.sm.cells=((rowOf C).length:Int)):=hd;have HY:Hid (r.lv=C++B):=eY;have HA:Hid (A=l.lv++C):=eA;have hCl:l.row.length+(rowOf C).length≤2097152:=by omega
     have hnb:n≤2097152:=by omega
     have hrn:r.row.length≤1048576:=by omega
     clear eA eY hat hXY hAB hlv hrl hsc hlc hd hrA hLr hRr;go_wp2_with fail;refine (IH.out (by omega) hr hs.fr hPr hrn HY.out _ HD.out).mono ?_;rintro e w3 ⟨g1,g2,a,b,rfl,ha,hb,hsb,hb3⟩;have hB3:=hB2.trans (hb3.mono hB2.size);go_wp2_with fail;refine (concat_meet (hl.below hb3) ha (.inr hs.fl) hsb.ca (by rw [hsb.la];exact hm) (by rw [Tr.row_len a,hsb.la];omega)).mono ?_;rintro e w4 ⟨g4,t4,rfl,hA4,hj4,hb4⟩;go_wp2_with fail;go_ret2;exact ⟨g4,g2,t4,b,rfl,hA4,hb.below hb4,⟨by rw [hj4.lv,hsb.la,HA.out],hsb.lb,hj4.can,hsb.cb⟩,hB3.trans (hb4.mono hB3.size)⟩
theorem Tr.Fine.lv_two {l r:Tr} {st:Int} (h:(Tr.node l r st).Fine):2≤(Tr.node l r st).lv.length:=by
 have hs:=h.sides;obtain ⟨⟨p,k,e1,_⟩,_⟩:=hs.fl.wf.ends;obtain ⟨⟨q,m,f1,_⟩,_⟩:=hs.fr.wf.ends;rw [hs.lv,List.length_append,e1,f1];simp only [List.length_cons];omega
theorem Tr.Can.one {t:Tr} (h:t.Can) {p:List Int×Int} (e:t.lv=[p]):∃ st,t=.leaf p.1 p.2 st:=by
 cases t with
 | nil=>simp [Tr.lv] at e
 | leaf rs hid st=>simp [Tr.lv] at e;subst e;exact ⟨st,rfl⟩
 | node l r st =>
  have:=(h.resolve_left (by simp)).lv_two;rw [e] at this;simp at this
theorem concat_fit {w:World} {a b:Tr} {ga gb:Nat} (ha:At w a ga) (hb:At w b gb) (fa:a.Fine) (fb:b.Fine) (pa:Pcs a.lv) (pb:Pcs b.lv) {A0 B0:List (List Int×Int)} {p q:List Int×Int} (ea:a.lv=A0++[p]) (eb:b.lv=q::B0) (hfit:Fit p q) (hn:a.row.length+b.row.length≤1048576) :
  Calls Tryz.prog 58 #[.pointer (some ⟨ga,0,none⟩),.pointer (some ⟨gb,0,none⟩)] w fun e w'=>∃ g t,e=.returned (.pointer (some ⟨g,0,none⟩))∧At w' t g∧t.lv=A0++(p.1++q.1,p.2)::B0∧t.Can∧Below w.heap.size w w':=by
 have lta:=ha.lt;have ltb:=hb.lt;obtain ⟨elc,elh,efc,efh⟩:=fit_sm fa fb ea eb;have c0:=ha.cells;have d0:=hb.cells;have za:=fa.cells_ne;have zb:=fb.cells_ne;obtain ⟨_,_,c8,c9⟩:=ha.cell8;obtain ⟨d6,d7,_,_⟩:=hb.cell8;have ba:=fa.smBd (by omega);have bb:=fb.smBd (by omega);have HF:∀ W,Calls Tryz.prog 93 #[.agg #[.int .i64 a.sm.lc,.int .i64 a.sm.lh],.agg #[.int .i64 b.sm.fc,.int .i64 b.sm.fh]] W fun e w'=>e=.returned (.bool true)∧Below W.heap.size W w':=fun W=>fits_yes _ _ _ _ (by rw [elh,efh];exact hfit.1) (by rw [elc,efc];have:=hfit.2;omega) ba.lc bb.fc W
 have hra:a.row.length=(rowOf A0).length+p.1.length:=by rw [Tr.row_len,ea,rowOf_append,List.length_append];simp [rowOf]
 have hrb:b.row.length=q.1.length+(rowOf B0).length:=by rw [Tr.row_len,eb,rowOf_cons,List.length_append,List.length_map]
 have hsa:=a.sm_cells;have hd:a.sm.cells-a.sm.lc=((rowOf A0).length:Int):=by omega
 have hfc:b.sm.fc=((rowOf [q]).length:Int):=by rw [efc];simp [rowOf]
 have hp0:p.1≠[]:=pa.some_ p (by rw [ea];simp);have hq0:q.1≠[]:=pb.some_ q (by rw [eb];simp);have hf2:=hfit.2;have u0:IntKind.i64.wrap (a.sm.cells-a.sm.lc)=a.sm.cells-a.sm.lc:=IntWalk.i64_in _ (by have:=ba.cells;have:=ba.lc;omega);have HS1:Hid (∀ W,Below w.heap.size w W→Calls Tryz.prog 57 #[.pointer (some ⟨ga,0,none⟩),.int .i64 (a.sm.cells-a.sm.lc)] W fun e w'=>∃ g1 g2 x y,e=.returned (.tuple #[.pointer (some ⟨g1,0,none⟩),.pointer (some ⟨g2,0,none⟩)])∧At w' x g1∧At w' y g2∧SB A0 [p] x y∧Below W.heap.size W w'):=fun W hW=>split_bdry a.sm.high.toNat (by have:=fa.pos;omega) (ha.below hW) fa pa (by omega) ea _ hd
 have HS2:Hid (∀ W,Below w.heap.size w W→Calls Tryz.prog 57 #[.pointer (some ⟨gb,0,none⟩),.int .i64 b.sm.fc] W fun e w'=>∃ g1 g2 x y,e=.returned (.tuple #[.pointer (some ⟨g1,0,none⟩),.pointer (some ⟨g2,0,none⟩)])∧At w' x g1∧At w' y g2∧SB [q] B0 x y∧Below W.heap.size W w'):=fun W hW=>split_bdry b.sm.high.toNat (by have:=fb.pos;omega) (hb.below hW) fb pb (by omega) (by rw [eb];rfl) _ hfc
 have hlim:Lim p.2:=fa.bd.row ((p.1.head hp0),p.2) (by
  rw [Tr.row_lv,ea,rowOf_append]
  refine List.mem_append_right _ ?_
  simp only [rowOf,List.flatMap_cons,List.flatMap_nil,List.append_nil,List.mem_map]
  exact ⟨_,List.head_mem hp0,rfl⟩)
 have hr1:(rowOf A0).length≤1048576:=by omega
 have hr2:(rowOf A0).length+(rowOf B0).length≤1048576:=by omega
 have hcb:=ba.cells;have hlcb:=ba.lc;clear ba bb elc elh efc efh hsa hd hfc hra hrb hb fa fb pa pb ha ea eb;generalize a.sm=sa at *;generalize b.sm=sb at *;have hcur:Below w.heap.size w w:=bE _ _;go_enter Tryz.func58,Tryz.ntmps58;go_wp2_with fail
 go_region_held3 (fun W=>W.cell? ⟨ga,0,none⟩=some (.int .i64 sa.cells)∧W.cell? ⟨ga,8,none⟩=some (.int .i64 sa.lc)∧W.cell? ⟨ga,9,none⟩=some (.int .i64 sa.lh)∧W.cell? ⟨gb,0,none⟩=some (.int .i64 sb.cells)∧W.cell? ⟨gb,6,none⟩=some (.int .i64 sb.fc)∧W.cell? ⟨gb,7,none⟩=some (.int .i64 sb.fh)) (first|exact ⟨c0,c8,c9,d0,d6,d7⟩|exact ⟨e0,e8,e9,f0,f6,f7⟩)
  (first
   | (go_at_call 93;refine (HF _).mono ?_;rintro e w1 ⟨rfl,hb1⟩;have hcur:Below w.heap.size w w1:=(by first|exact hcur.trans (hb1.mono hcur.size)|exact hcur.drew.trans (hb1.mono hcur.size));have e0:=(hcur.cell (p:=⟨ga,0,none⟩) lta).trans c0;have e8:=(hcur.cell (p:=⟨ga,8,none⟩) lta).trans c8;have e9:=(hcur.cell (p:=⟨ga,9,none⟩) lta).trans c9;have f0:=(hcur.cell (p:=⟨gb,0,none⟩) ltb).trans d0;have f6:=(hcur.cell (p:=⟨gb,6,none⟩) ltb).trans d6;have f7:=(hcur.cell (p:=⟨gb,7,none⟩) ltb).trans d7))
 all_goals
  clear c0 c8 c9 d0 d6 d7 HF;go_wp2_with fail
  go_region_held3 (fun W=>W.cell? ⟨ga,0,none⟩=some (.int .i64 sa.cells)∧W.cell? ⟨ga,8,none⟩=some (.int .i64 sa.lc)) (first|exact ⟨e0,e8⟩|exact ⟨k0,k8⟩)
   (first
    | (go_at_call 57;refine (HS1.out _ ?_).mono ?_;(first|exact hcur|exact hcur.drew);rintro e w2 ⟨g1,g2,x,y,rfl,hx,hy,hsb,hb2⟩;have hcur:Below w.heap.size w w2:=(by first|exact hcur.trans (hb2.mono hcur.size)|exact hcur.drew.trans (hb2.mono hcur.size));have hcurw:Below w.heap.size w w1:=(by assumption);have k0:=(hb2.cell (p:=⟨ga,0,none⟩) (by have:=hcurw.size;show ga<w1.heap.size;omega)).trans e0;have k8:=(hb2.cell (p:=⟨ga,8,none⟩) (by have:=hcurw.size;show ga<w1.heap.size;omega)).trans e8))
  all_goals
   have m6:w2.cell? ⟨gb,6,none⟩=some (.int .i64 sb.fc):=(hb2.cell (p:=⟨gb,6,none⟩) (by have:=hcurw.size;show gb<w1.heap.size;omega)).trans f6;clear e0 e8 e9 f0 f6 f7 k0 k8;go_wp2_with fail;refine (HS2.out _ hcur).mono ?_;rintro e w3 ⟨g3,g4,x',y',rfl,hx',hy',hsb',hb3⟩;have hB3:=hcur.trans (hb3.mono hcur.size);obtain ⟨s1,rfl⟩:=hsb.cb.one hsb.lb;obtain ⟨s2,rfl⟩:=hsb'.ca.one hsb'.la;have hx3:=hx.below hb3;have hy3:=hy.below hb3;have hq2:q.2=p.2:=hfit.1.symm;rw [hq2] at hx';go_wp2_with fail;refine (merged_any hy3 hx' hp0 hq0 (by omega) (by omega)).mono ?_;rintro e w4 ⟨g5,rfl,hM,hb4⟩;have hB4:=hB3.trans (hb4.mono hB3.size);have fM:(Tr.leaf (p.1++q.1) p.2 0).Fine:=⟨by show p.1++q.1≠[];simp [hp0],⟨hlim,by rw [Int.sub_zero];exact hlim⟩,trivial⟩;have hxl:x.row.length=(rowOf A0).length:=by rw [Tr.row_len,hsb.la]
   have hyl:y'.row.length=(rowOf B0).length:=by rw [Tr.row_len,hsb'.lb]
   have hml:(Tr.leaf (p.1++q.1) p.2 0).row.length=p.1.length+q.1.length:=by simp [Tr.row]
   go_wp2_with fail;refine (join_any (hx3.below hb4) hM hsb.ca (.inr fM) (by omega)).mono ?_;rintro e w5 ⟨g6,t6,rfl,hA6,hj6,hb5⟩;have hB5:=hB4.trans (hb5.mono hB4.size);have h6l:t6.row.length=x.row.length+(Tr.leaf (p.1++q.1) p.2 0).row.length:=by rw [Tr.row_len,Tr.row_len x,Tr.row_len (Tr.leaf _ _ _),hj6.lv,rowOf_append,List.length_append]
   go_wp2_with fail;refine (join_any hA6 (hy'.below (hb4.trans (hb5.mono hb4.size))) hj6.can hsb'.cb (by omega)).mono ?_;rintro e w6 ⟨g7,t7,rfl,hA7,hj7,hb6⟩;go_wp2_with fail;go_ret;refine ⟨g7,t7,rfl,hA7,?_,hj7.can,hB5.trans (hb6.mono hB5.size)⟩;rw [hj7.lv,hj6.lv,hsb.la,hsb'.lb];simp [Tr.lv]
theorem concat_any {w:World} {a b:Tr} {ga gb:Nat} (ha:At w a ga) (hb:At w b gb) (fa:a.Can) (fb:b.Can) (pa:Pcs a.lv) (pb:Pcs b.lv) (hn:a.row.length+b.row.length≤1048576) :
  Calls Tryz.prog 58 #[.pointer (some ⟨ga,0,none⟩),.pointer (some ⟨gb,0,none⟩)] w fun e w'=>∃ g t,e=.returned (.pointer (some ⟨g,0,none⟩))∧At w' t g∧t.lv=glue a.lv b.lv∧t.Can∧Below w.heap.size w w':=by
 by_cases hm:Meet a.lv b.lv
 ·refine (concat_meet ha hb fa fb hm (by omega)).mono ?_;rintro e w' ⟨g,t,rfl,hA,hj,hB⟩;exact ⟨g,t,rfl,hA,by rw [glue_meet hm];exact hj.lv,hj.can,hB⟩
 ·have hx:∃ p q,a.lv.getLast?=some p∧b.lv.head?=some q∧Fit p q:=by
   refine Classical.byContradiction fun h=>hm fun p q hp hq hf=>h ⟨p,q,hp,hq,hf⟩
  obtain ⟨p,q,hp,hq,hf⟩:=hx;obtain ⟨A0,ea⟩:=List.getLast?_eq_some_iff.1 hp;obtain ⟨B0,eb⟩:∃ B0,b.lv=q::B0:=by
   cases hbl:b.lv with
   | nil=>rw [hbl] at hq;cases hq
   | cons x t=>rw [hbl] at hq;simp at hq;subst hq;exact ⟨t,rfl⟩
  have fa':a.Fine:=fa.resolve_left (by rintro rfl;simp [Tr.lv] at ea);have fb':b.Fine:=fb.resolve_left (by rintro rfl;simp [Tr.lv] at eb);refine (concat_fit ha hb fa' fb' pa pb ea eb hf hn).mono ?_;rintro e w' ⟨g,t,rfl,hA,hl,hc,hB⟩;exact ⟨g,t,rfl,hA,by rw [ea,eb,glue_fit A0 p q B0 hf];exact hl,hc,hB⟩
section
variable (rs : List Int) (h : Int) (f : Nat) (d : Int)
def loB (x:Int×Int):Nat:=(max (x.1-(f:Int)) 0).toNat
def hiB (x:Int×Int):Nat:=(min (x.2-(f:Int)) (rs.length:Int)).toNat
def rowB:Nat→List (Int×Int)→List (Int×Int)
 | k,[]=>(rs.drop k).map fun c=>(c,h)
 | k,x::l=>(((rs.take (loB f x)).drop k).map fun c=>(c,h))++((((rs.take (hiB rs f x)).drop (loB f x)).map fun c=>(c,h+d))++rowB (hiB rs f x) l)
end
theorem partL_row (rs:List Int) (h:Int) (lo hi:Nat):rowOf (partL rs h lo hi)=((rs.take hi).drop lo).map fun c=>(c,h):=by
 unfold partL;by_cases e:hi≤lo
 ·rw [if_pos e];have:(rs.take hi).drop lo=[]:=List.eq_nil_of_length_eq_zero (by rw [List.length_drop,List.length_take];omega);rw [this];rfl
 ·rw [if_neg e,rowOf_cons];simp [rowOf]
theorem partL_pcs {rs:List Int} {h:Int} {lo hi:Nat} (h32:rs.length≤32) (h2:hi≤rs.length):Pcs (partL rs h lo hi):=by
 unfold partL;by_cases e:hi≤lo
 ·rw [if_pos e];exact pcs_nil
 ·rw [if_neg e];have hl:((rs.take hi).drop lo).length=hi-lo:=by rw [List.length_drop,List.length_take];omega
  refine ⟨fun p hp=>?_,fun p hp=>?_,trivial⟩
  ·simp at hp;subst hp;intro e2;simp only at e2;rw [e2] at hl;simp at hl;omega
  ·simp at hp;subst hp;simp only;omega
theorem PartOf.raise {rs:List Int} {h:Int} {lo hi:Nat} {t:Tr} (hp:PartOf rs h lo hi t) (d:Int) (hl:Lim (h+d)):PartOf rs (h+d) lo hi (t.raise d):=by
 have hlv:(t.raise d).lv=partL rs (h+d) lo hi:=by
  rw [Tr.lv_raise,hp.lv];unfold partL;by_cases e:hi≤lo
  ·rw [if_pos e,if_pos e];rfl
  ·rw [if_neg e,if_neg e];rfl
 refine ⟨hlv,?_⟩;by_cases e:hi≤lo
 ·rcases hp.can with rfl|hf
  ·exact .inl rfl
  ·have h1:=hf.wf.pos;rw [Tr.row_len,hp.lv,partL,if_pos e] at h1;simp [rowOf] at h1
 ·have hl1:t.lv=[((rs.take hi).drop lo,h)]:=by rw [hp.lv,partL,if_neg e]
  obtain ⟨st,rfl⟩:=hp.can.one hl1;rcases hp.can with hn|hf
  ·cases hn
  ·exact .inr ⟨hf.wf,⟨hl,by have:=hf.bd.2;rw [show h+d-(st+d)=h-st by omega];exact this⟩,trivial⟩
theorem drop_get {α:Type} (l:List α) (i:Nat) (x:α) (h:l[i]?=some x):l.drop i=x::l.drop (i+1):=by
 obtain ⟨hl,rfl⟩:=List.getElem?_eq_some_iff.1 h;exact List.drop_eq_getElem_cons hl
theorem bumpedParts_any {w:World} {rs:List Int} {h st:Int} {g:Nat} (hA:At w (.leaf rs h st) g) (hf:(Tr.leaf rs h st).Fine) (h32:rs.length≤32) {a:Option Addr} {m cap:Nat} {l:List (Int×Int)} (hl:Rw pieceV 2 w a m cap l) (hm:m≤4294967296) (f:Nat) (hf2:f≤1048576) (d:Int) (hd:-1≤d∧d≤1) (hlim:Lim (h+d)) (hs:Srt l) (hmt:∀ x∈l,(f:Int)<x.2∧x.1<(f:Int)+rs.length) (hbd:∀ x∈l,0≤x.1∧x.2≤1048576) :
  Calls Tryz.prog 99 #[.pointer (some ⟨g,0,none⟩),.int .i64 (f:Int),.slice a m cap,.int .i64 d] w fun e w'=>∃ g' t,e=.returned (.pointer (some ⟨g',0,none⟩))∧At w' t g'∧t.Can∧Pcs t.lv∧rowOf t.lv=rowB rs h f d 0 l∧Below w.heap.size w w':=by
 have hlen:=hl.len;have hgl:=hA.lt;have HL:Hid (Rw pieceV 2 w a m cap l):=hl;have HS:Hid (Srt l):=hs;have HM:Hid (∀ x∈l,(f:Int)<x.2∧x.1<(f:Int)+rs.length):=hmt;have HB:Hid (∀ x∈l,0≤x.1∧x.2≤1048576):=hbd;have HA:Hid (At w (.leaf rs h st) g):=hA;have c0:w.cell? ⟨g,0,none⟩=some (.int .i64 (rs.length:Int)):=hA.cells;clear hl hs hmt hbd hA;go_enter Tryz.func99,Tryz.ntmps99;go_wp2_with fail;go_loopw [9,10,12,13,14,19] (fun v9 v10 _ _ _ v19 W=>∃ (i go done:Nat) (t:Tr),i≤m∧v9=.pointer (some ⟨go,0,none⟩)∧v10=.int .i64 (done:Int)∧v19=.int .i64 (i:Int)∧At W t go∧t.Can∧Pcs t.lv∧t.row.length=done∧done≤rs.length∧(∀ x∈l.drop i,done≤loB f x)∧rowOf t.lv++rowB rs h f d done (l.drop i)=rowB rs h f d 0 l∧Below w.heap.size w W) (fun _ _ _ _ _ i _=>m-(RowKit.intOf i).toNat)
 case atStart=>exact ⟨0,_,0,.nil,Nat.zero_le _,rfl,rfl,rfl,at_nil _,.inl rfl,pcs_nil,rfl,Nat.zero_le _,fun _ _=>Nat.zero_le _,by simp [Tr.lv,rowOf],(bE _ _).alloc (lR _) _⟩
 case round =>
  obtain ⟨i,go,done,t,hi,rfl,rfl,rfl,hT,hC,hP,hln,hd2,hnx,hrow,hb⟩:=hrel;have hsz:=hb.size;by_cases hlt:i<m
  ·obtain ⟨ga,off,x,rfl,hg,hx,hc⟩:=HL.out.at i hlt;have c1:wr.cell? ⟨ga,off+i*2,none⟩=some (.int .i64 x.1):=(hb.cell (p:=⟨ga,off+i*2+0,none⟩) hg).trans (hc 0 _ rfl);have c2:wr.cell? ⟨ga,off+i*2+1,none⟩=some (.int .i64 x.2):=(hb.cell (p:=⟨ga,off+i*2+1,none⟩) hg).trans (hc 1 _ rfl);have c3:=(hb.cell (p:=⟨g,0,none⟩) hgl).trans c0;obtain ⟨m1,m2⟩:=HM.out x (List.mem_of_getElem? hx);obtain ⟨b1,b2⟩:=HB.out x (List.mem_of_getElem? hx);have x12:=HS.out.some_ x (List.mem_of_getElem? hx);have u1:IntKind.i64.wrap (x.1-(f:Int))=x.1-(f:Int):=IntWalk.i64_in _ (by omega);have u2:IntKind.i64.wrap (x.2-(f:Int))=x.2-(f:Int):=IntWalk.i64_in _ (by omega);clear hc c0;have hrl:l.drop i=x::l.drop (i+1):=drop_get l i x hx;go_wp2_with fail;obtain ⟨wa,ewa⟩:∃ W,wr.alloc (.cells #[.int .i64 x.1,.int .i64 x.2] 76)=W:=⟨_,rfl⟩;have hba:Below wr.heap.size wr wa:=ewa▸(bE _ _).alloc (lR _) _;have k0:wa.cell? ⟨wr.heap.size,0,none⟩=some (.int .i64 x.1):=ewa▸cM _ _ _ _ _;have k1:wa.cell? ⟨wr.heap.size,1,none⟩=some (.int .i64 x.2):=ewa▸cM _ _ _ _ _
   replace c3:=(hba.cell (p:=⟨g,0,none⟩) (by show g<wr.heap.size;omega)).trans c3
   rw [ewa];have hmx:=max_run;have hmn:=min_run;clear c1 c2 ewa;go_quiet (fail);have hbq:=below_drewN hba nq;generalize wa.drewN nq=wq at *;obtain ⟨lo,hlo⟩:∃ lo:Nat,max (x.1-(f:Int)) 0=(lo:Int):=⟨loB f x,by unfold loB;omega⟩;obtain ⟨hh,hhi⟩:∃ hh:Nat,min (x.2-(f:Int)) (rs.length:Int)=(hh:Int):=⟨hiB rs f x,by unfold hiB;omega⟩;rw [hlo,hhi];clear hmx hmn k0 k1 c3;have elo:loB f x=lo:=by unfold loB;omega
   have ehi:hiB rs f x=hh:=by unfold hiB;omega
   have hpos:0<rs.length:=List.length_pos_iff.2 hf.wf;have hdl:done≤lo:=elo▸hnx x (by rw [hrl];simp);have hlh:lo<hh:=by omega
   have hhr:hh≤rs.length:=by omega
   have hBq:Below w.heap.size w wq:=hb.trans (hbq.mono hsz);rw [hrl] at hrow hnx;simp only [rowB,elo,ehi] at hrow;have hnx2:∀ y∈l.drop (i+1),hh≤loB f y:=fun y hy=>by
    obtain ⟨j,hj⟩:=List.getElem?_of_mem hy;rw [List.getElem?_drop] at hj;have:=HS.out.apart i (i+1+j) x y (by omega) hx hj;unfold loB;omega
   clear hnx elo ehi hlo hhi;go_wp2_with fail;refine (part_any (HA.out.below hBq) hf done lo hdl (by omega) (by omega)).mono ?_;rintro e w1 ⟨g1,t1,rfl,hA1,hp1,hb1⟩;have hB1:=hBq.trans (hb1.mono hBq.size);have hl1:t1.row.length=lo-done:=by rw [Tr.row_len,hp1.lv,partL_row,List.length_map,List.length_drop,List.length_take];omega
   have hT1:At w1 t go:=hT.below (hbq.trans (hb1.mono hbq.size));go_wp2_with fail;refine (concat_any hT1 hA1 hC hp1.can hP (hp1.lv▸partL_pcs h32 (by omega)) (by omega)).mono ?_;rintro e w2 ⟨g2,t2,rfl,hA2,hl2,hc2,hb2⟩;have hB2:=hB1.trans (hb2.mono hB1.size);have hP2:Pcs t2.lv:=hl2▸hP.glue (hp1.lv▸partL_pcs h32 (by omega));have hr2:rowOf t2.lv=rowOf t.lv++((rs.take lo).drop done).map fun c=>(c,h):=by rw [hl2,rowOf_glue,hp1.lv,partL_row]
   have hn2:t2.row.length=lo:=by
    rw [Tr.row_len] at hl1 hln ⊢;rw [hl2,rowOf_glue,List.length_append,hl1,hln];omega
   go_wp2_with fail;refine (part_any (HA.out.below hB2) hf lo hh (by omega) hhr (by omega)).mono ?_;rintro e w3 ⟨g3,t3,rfl,hA3,hp3,hb3⟩;have hB3:=hB2.trans (hb3.mono hB2.size);have hl3:t3.row.length=hh-lo:=by rw [Tr.row_len,hp3.lv,partL_row,List.length_map,List.length_drop,List.length_take];omega
   have hf3:t3.Fine:=hp3.can.resolve_left (by rintro rfl;simp [Tr.row] at hl3;omega);have hR3:=raised_any hA3 hf3.wf hf3.bd (by omega) d (by omega);unfold ptr at hR3;go_wp2_with fail;refine hR3.mono ?_;rintro e w4 ⟨g4,rfl,hA4,hb4⟩;clear hR3;have hB4:=hB3.trans (hb4.mono hB3.size);have hp4:=hp3.raise d hlim;have hl4:(t3.raise d).row.length=hh-lo:=by rw [Tr.row_raise,upL_length];exact hl3
   generalize t3.raise d=t4 at *;have hT2:At w4 t2 g2:=hA2.below (hb3.trans (hb4.mono hb3.size));go_wp2_with fail;refine (concat_any hT2 hA4 hc2 hp4.can hP2 (hp4.lv▸partL_pcs h32 hhr) (by omega)).mono ?_;rintro e w5 ⟨g5,t5,rfl,hA5,hl5,hc5,hb5⟩;have hB5:=hB4.trans (hb5.mono hB4.size);have hP5:Pcs t5.lv:=hl5▸hP2.glue (hp4.lv▸partL_pcs h32 hhr);have hr5:rowOf t5.lv=rowOf t2.lv++((rs.take hh).drop lo).map fun c=>(c,h+d):=by rw [hl5,rowOf_glue,hp4.lv,partL_row]
   have hn5:t5.row.length=hh:=by
    rw [Tr.row_len] at hl4 hn2 ⊢;rw [hl5,rowOf_glue,List.length_append,hl4,hn2];omega
   have hrow5:rowOf t5.lv++rowB rs h f d hh (l.drop (i+1))=rowB rs h f d 0 l:=by rw [hr5,hr2,← hrow];simp only [List.append_assoc]
   go_wp2_with fail;exact ⟨⟨i+1,g5,hh,t5,hlt,rfl,rfl,by simp,hA5,hc5,hP5,hn5,hhr,hnx2,hrow5,hB5⟩,by simp [RowKit.intOf];omega⟩
  ·obtain rfl:i=m:=by omega
   have c3:=(hb.cell (p:=⟨g,0,none⟩) hgl).trans c0;have hrow':rowOf t.lv++(rs.drop done).map (fun c=>(c,h))=rowB rs h f d 0 l:=by
    have e0:l.drop i=[]:=List.drop_eq_nil_of_le (by omega);rw [e0] at hrow;exact hrow
   clear hrow c0;go_wp2_with fail;refine (part_any (HA.out.below hb) hf done rs.length hd2 (lR _) (by omega)).mono ?_;rintro e w1 ⟨g1,t1,rfl,hA1,hp1,hb1⟩;have hB1:=hb.trans (hb1.mono hb.size);have hl1:t1.row.length=rs.length-done:=by rw [Tr.row_len,hp1.lv,partL_row,List.length_map,List.length_drop,List.length_take];omega
   have hT1:At w1 t go:=hT.below hb1;go_wp2_with fail;refine (concat_any hT1 hA1 hC hp1.can hP (hp1.lv▸partL_pcs h32 (lR _)) (by omega)).mono ?_;rintro e w2 ⟨g2,t2,rfl,hA2,hl2,hc2,hb2⟩;go_wp2_with fail;go_ret;refine ⟨g2,t2,rfl,hA2,hc2,hl2▸hP.glue (hp1.lv▸partL_pcs h32 (lR _)),?_,hB1.trans (hb2.mono hB1.size)⟩;rw [hl2,rowOf_glue,hp1.lv,partL_row,List.take_length];exact hrow'
def inL (l:List (Int×Int)) (q:Int):Bool:=l.any fun x=>decide (x.1≤q∧q<x.2)
def bmp (l:List (Int×Int)) (d:Int):Int→List (Int×Int)→List (Int×Int)
 | _,[]=>[]
 | f,c::R=>(if inL l f=true then (c.1,c.2+d) else c)::bmp l d (f+1) R
section
variable {l k : List (Int × Int)} {d : Int}
theorem bmp_len:∀ (R:List (Int×Int)) (f:Int),(bmp l d f R).length=R.length
 | [],_=>rfl
 | _::R,f=>by simp only [bmp,List.length_cons,bmp_len R]
theorem bmp_append:∀ (A B:List (Int×Int)) (f:Int),bmp l d f (A++B)=bmp l d f A++bmp l d (f+A.length) B
 | [],B,f=>by simp [bmp]
 | c::A,B,f=>by
  simp only [List.cons_append,bmp,bmp_append A B,List.length_cons,Int.natCast_add,List.cons.injEq,true_and];rw [show f+1+(A.length:Int)=f+((A.length:Int)+((1:Nat):Int)) by omega]
theorem bmp_congr:∀ (R:List (Int×Int)) (f:Int),(∀ q,f≤q→q<f+R.length→inL l q=inL k q)→bmp l d f R=bmp k d f R
 | [],_,_=>rfl
 | c::R,f,h=>by
  simp only [List.length_cons,Int.natCast_add] at h;simp only [bmp];rw [h f (by omega) (by omega),bmp_congr R (f+1) fun q h1 h2=>h q (by omega) (by omega)]
theorem bmp_none:∀ (R:List (Int×Int)) (f:Int),(∀ q,f≤q→q<f+R.length→inL l q=false)→bmp l d f R=R
 | [],_,_=>rfl
 | c::R,f,h=>by
  simp only [List.length_cons,Int.natCast_add] at h;simp only [bmp];rw [h f (by omega) (by omega),bmp_none R (f+1) fun q h1 h2=>h q (by omega) (by omega)];simp
theorem bmp_all:∀ (R:List (Int×Int)) (f:Int),(∀ q,f≤q→q<f+R.length→inL l q=true)→bmp l d f R=upL d R
 | [],_,_=>rfl
 | c::R,f,h=>by
  simp only [List.length_cons,Int.natCast_add] at h;simp only [bmp];rw [h f (by omega) (by omega),bmp_all R (f+1) fun q h1 h2=>h q (by omega) (by omega)];simp [upL]
theorem bmp_get:∀ (R:List (Int×Int)) (f:Int) (j:Nat),(bmp l d f R)[j]?=R[j]?.map fun c=>if inL l (f+j)=true then (c.1,c.2+d) else c
 | [],_,j=>by simp [bmp]
 | c::R,f,0=>by simp [bmp]
 | c::R,f,j+1=>by
  simp only [bmp,List.getElem?_cons_succ,bmp_get R];rw [show f+1+(j:Int)=f+((j+1:Nat):Int) by omega]
theorem bmp_mem {R:List (Int×Int)} {f:Int} {c:Int×Int} (h:c∈bmp l d f R):∃ x∈R,c=x∨c=(x.1,x.2+d):=by
 obtain ⟨j,hj⟩:=List.getElem?_of_mem h;rw [bmp_get] at hj;obtain ⟨x,hx,rfl⟩:=Option.map_eq_some_iff.1 hj;refine ⟨x,List.mem_of_getElem? hx,?_⟩;split
 ·exact .inr rfl
 ·exact .inl rfl
end
theorem inL_cons (x:Int×Int) (l:List (Int×Int)) (q:Int):inL (x::l) q=(decide (x.1≤q∧q<x.2)||inL l q):=rfl
theorem inL_false {l:List (Int×Int)} {q:Int} (h:∀ x∈l,¬(x.1≤q∧q<x.2)):inL l q=false:=by
 unfold inL;rw [List.any_eq_false];intro x hx;simp only [decide_eq_true_eq];exact h x hx
theorem inL_true {l:List (Int×Int)} {q:Int} {x:Int×Int} (hx:x∈l) (h:x.1≤q∧q<x.2):inL l q=true:=by
 unfold inL;rw [List.any_eq_true];exact ⟨x,hx,by simpa using h⟩
theorem inL_meet (l:List (Int×Int)) {lo hi q:Int} (h1:lo≤q) (h2:q<hi):inL (meetL lo hi l) q=inL l q:=by
 unfold inL meetL;rw [List.any_filter]
 congr 1
 funext x
 by_cases h:x.1≤q∧q<x.2
 ·simp [h];omega
 ·simp [h]
theorem Srt.tail {x:Int×Int} {l:List (Int×Int)} (h:Srt (x::l)):Srt l:=⟨fun y hy=>h.some_ y (List.mem_cons_of_mem _ hy),fun i j y z hij hy hz=>h.apart (i+1) (j+1) y z (by omega) (by simpa using hy) (by simpa using hz)⟩
theorem Srt.first {x:Int×Int} {l:List (Int×Int)} (h:Srt (x::l)):∀ y∈l,x.2<y.1:=fun y hy=>by
 obtain ⟨j,hj⟩:=List.getElem?_of_mem hy;exact h.apart 0 (j+1) x y (by omega) (by simp) (by simpa using hj)
theorem Srt.sub {l k:List (Int×Int)} (h:Srt l) (hk:k.Sublist l):Srt k:=by
 induction hk with
 | slnil=>exact h
 | cons x _ ih=>exact ih h.tail
 | cons_cons x hs ih =>
  have h0:=h.first;have ht:=ih h.tail;refine ⟨fun y hy=>?_,fun i j y z hij hy hz=>?_⟩
  ·rcases List.mem_cons.1 hy with rfl|hy
   ·exact h.some_ _ (by simp)
   ·exact ht.some_ y hy
  ·obtain ⟨j,rfl⟩:∃ m,j=m+1:=⟨j-1,by omega⟩;rw [List.getElem?_cons_succ] at hz;cases i with
   | zero =>
    simp only [List.getElem?_cons_zero,Option.some.injEq] at hy;subst hy;exact h0 z (hs.subset (List.mem_of_getElem? hz))
   | succ i=>exact ht.apart i j y z (by omega) (by simpa using hy) hz
theorem Srt.meet {l:List (Int×Int)} (h:Srt l) (lo hi:Int):Srt (meetL lo hi l):=h.sub List.filter_sublist
theorem meetL_mem {lo hi:Int} {l:List (Int×Int)} {x:Int×Int} (h:x∈meetL lo hi l):x∈l∧lo<x.2∧x.1<hi:=by
 unfold meetL at h;rw [List.mem_filter] at h;exact ⟨h.1,by simpa using h.2⟩
theorem rowB_bmp (rs:List Int) (h:Int) (f:Nat) (d:Int):∀ (l:List (Int×Int)) (k:Nat),Srt l→(∀ x∈l,(f:Int)<x.2∧x.1<(f:Int)+rs.length)→(∀ x∈l,k≤loB f x)→k≤rs.length→rowB rs h f d k l=bmp l d ((f:Int)+k) ((rs.drop k).map fun c=>(c,h)):=by
 intro l
 induction l with
 | nil=>intro k _ _ _ _;rw [bmp_none _ _ fun q _ _=>rfl];rfl
 | cons x l ih =>
  intro k hs hm hk hkl;obtain ⟨m1,m2⟩:=hm x (by simp);have hx:=hs.some_ x (by simp);have hf:=hs.first;have hkx:=hk x (by simp);obtain ⟨lo,hlo⟩:∃ lo,loB f x=lo:=⟨_,rfl⟩;obtain ⟨hh,hhi⟩:∃ hh,hiB rs f x=hh:=⟨_,rfl⟩;have e1:(lo:Int)=max (x.1-(f:Int)) 0:=by rw [← hlo];unfold loB;omega
  have e2:(hh:Int)=min (x.2-(f:Int)) (rs.length:Int):=by rw [← hhi];unfold hiB;omega
  rw [hlo] at hkx;have hlh:lo≤hh:=by omega
  have hhr:hh≤rs.length:=by omega
  simp only [rowB,hlo,hhi];rw [ih hh hs.tail (fun y hy=>hm y (List.mem_cons_of_mem _ hy)) (fun y hy=>by have:=hf y hy;unfold loB;omega) hhr];have es:rs.drop k=(rs.take lo).drop k++((rs.take hh).drop lo++rs.drop hh):=by
   have a1:rs.drop lo=(rs.take hh).drop lo++rs.drop hh:=by
    conv=>lhs;rw [← List.take_append_drop hh rs]
    rw [List.drop_append,List.length_take,Nat.min_eq_left hhr,show lo-hh=0 by omega,List.drop_zero]
   rw [← a1]
   conv=>lhs;rw [← List.take_append_drop lo rs]
   rw [List.drop_append,List.length_take,Nat.min_eq_left (by omega),show k-lo=0 by omega,List.drop_zero]
  have n1:((rs.take lo).drop k).length=lo-k:=by rw [List.length_drop,List.length_take];omega
  have n2:((rs.take hh).drop lo).length=hh-lo:=by rw [List.length_drop,List.length_take];omega
  rw [es,List.map_append,List.map_append,bmp_append,bmp_append,List.length_map,List.length_map,n1,n2]
  congr 1
  ·refine (bmp_none _ _ fun q h1 h2=>inL_false fun y hy=>?_).symm;rw [List.length_map,n1] at h2;rcases List.mem_cons.1 hy with rfl|hy
   ·omega
   ·have:=hf y hy;omega
  ·congr 1
   ·rw [bmp_all _ _ fun q h1 h2=>inL_true (x:=x) (by simp) (by rw [List.length_map,n2] at h2;omega),upL,List.map_map];rfl
   ·rw [show (f:Int)+(k:Int)+((lo-k:Nat):Int)+((hh-lo:Nat):Int)=(f:Int)+(hh:Int) by omega];refine bmp_congr _ _ fun q h1 h2=>?_
    rw [List.length_map,List.length_drop] at h2;rw [inL_cons,show decide (x.1≤q∧q<x.2)=false by rw [decide_eq_false_iff_not];omega,Bool.false_or]
end Go.Proofs.YtijpfbcippijoaaGreatDoor
