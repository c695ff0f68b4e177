import Derived.Test.YtijpfbcippijoaaGreatDoorGr39
namespace Go.Proofs.YtijpfbcippijoaaGreatDoor
open Go.RowKit Go.Lib
set_option maxRecDepth 100000
theorem fit_sm {a b : Tr} (fa : a.Fine) (fb : b.Fine) {A0 B0 : List (List Int × Int)} {p q : List Int × Int} (ea : a.lv = A0 ++ [p]) (eb : b.lv = q :: B0) : a.sm.lc = p.1.length∧a.sm.lh = p.2∧b.sm.fc = q.1.length∧b.sm.fh = q.2:=by
  obtain ⟨_,⟨p',k,e1,e2,e3⟩⟩:=fa.wf.ends
  obtain ⟨⟨q',m,f1,f2,f3⟩,_⟩:=fb.wf.ends
  rw [ea] at e1
  rw [eb] at f1
  have h1:=List.append_inj' e1 rfl
  simp at h1
  obtain ⟨_,rfl⟩:=h1
  simp at f1
  obtain ⟨rfl,_⟩:=f1
  exact ⟨e2,e3,f2,f3⟩
theorem At.cell8 {w : World} {t : Tr} {g : Nat} (h : At w t g) : w.cell? ⟨g,6,none⟩ = some (.int .i64 t.sm.fc)∧w.cell? ⟨g,7,none⟩ = some (.int .i64 t.sm.fh)∧w.cell? ⟨g,8,none⟩ = some (.int .i64 t.sm.lc)∧w.cell? ⟨g,9,none⟩ = some (.int .i64 t.sm.lh):=by
  obtain ⟨_,_,_,_,_,_,h6,h7,h8,h9⟩:=h.ten
  exact ⟨h6,h7,h8,h9⟩
set_option maxHeartbeats 2000000 in
theorem concat_meet {w : World} {a b : Tr} {ga gb : Nat} (ha : At w a ga) (hb : At w b gb) (fa : a.Can) (fb : b.Can) (hm : Meet a.lv b.lv) (hn : a.row.length + b.row.length≤2097152) :
    Calls Tryz.prog 58 #[.pointer (some ⟨ga,0,none⟩),.pointer (some ⟨gb,0,none⟩)] w fun e w'=>∃ g t,e = .returned (.pointer (some ⟨g,0,none⟩))∧At w' t g∧JC a b t∧Below w.heap.size w w':=by
  have lta:=ha.lt
  have ltb:=hb.lt
  have HJ : Hid (∀ W,Below w.heap.size w W→Calls Tryz.prog 94 #[.pointer (some ⟨ga,0,none⟩),.pointer (some ⟨gb,0,none⟩)] W fun e w'=>∃ g t,e = .returned (.pointer (some ⟨g,0,none⟩))∧At w' t g∧JC a b t∧Below W.heap.size W w'):=fun W hW=>join_any (ha.below hW) (hb.below hW) fa fb hn
  have c0:=ha.cells
  have d0:=hb.cells
  have hb0 : Below w.heap.size w w:=Below.refl _ _
  rcases fa with rfl | fa
  · have e0 : Tr.nil.sm.cells = 0:=rfl
    rw [e0] at c0
    clear d0 hm
    go_enter Tryz.func58,Tryz.ntmps58
    go_wp2_with fail
    go_quiet (fail)
    have hb1:=below_drewN hb0 nq
    generalize w.drewN nq = w1 at *
    go_wp2_with fail
    refine (HJ.out _ hb1).mono ?_
    rintro e w2 ⟨g2,t2,rfl,hA2,hj2,hb2⟩
    go_wp2_with fail
    go_ret
    exact ⟨g2,t2,rfl,hA2,hj2,hb1.trans (hb2.mono hb1.size)⟩
  · have za:=fa.cells_ne
    rcases fb with rfl | fb
    · have e0 : Tr.nil.sm.cells = 0:=rfl
      rw [e0] at d0
      clear hm
      go_enter Tryz.func58,Tryz.ntmps58
      go_wp2_with fail
      go_quiet (fail)
      have hb1:=below_drewN hb0 nq
      generalize w.drewN nq = w1 at *
      go_wp2_with fail
      refine (HJ.out _ hb1).mono ?_
      rintro e w2 ⟨g2,t2,rfl,hA2,hj2,hb2⟩
      go_wp2_with fail
      go_ret
      exact ⟨g2,t2,rfl,hA2,hj2,hb1.trans (hb2.mono hb1.size)⟩
    · have zb:=fb.cells_ne
      obtain ⟨_,_,c8,c9⟩:=ha.cell8
      obtain ⟨d6,d7,_,_⟩:=hb.cell8
      have ba:=fa.smBd (by omega)
      have bb:=fb.smBd (by omega)
      have HF : ∀ W,Calls Tryz.prog 93 #[.agg #[.int .i64 a.sm.lc,.int .i64 a.sm.lh],.agg #[.int .i64 b.sm.fc,.int .i64 b.sm.fh]] W fun e w'=>e = .returned (.bool false)∧Below W.heap.size W w':=fun W=>by
        obtain ⟨_,⟨p,A0,ea,e2,e3⟩⟩:=fa.wf.ends
        obtain ⟨⟨q,B0,eb,f2,f3⟩,_⟩:=fb.wf.ends
        refine fits_no _ _ _ _ ?_ ba.lc bb.fc W
        rw [ea,eb] at hm
        have:=hm p q (by simp) rfl
        rw [e2,e3,f2,f3]
        intro h
        exact this ⟨h.1,by omega⟩
      clear ba bb hm
      generalize a.sm = sa at *
      generalize b.sm = sb at *
      have hcur:=hb0
      go_enter Tryz.func58,Tryz.ntmps58
      go_wp2_with fail
      go_region_held3 (fun W=>W.cell? ⟨ga,0,none⟩ = some (.int .i64 sa.cells)∧W.cell? ⟨ga,8,none⟩ = some (.int .i64 sa.lc)∧W.cell? ⟨ga,9,none⟩ = some (.int .i64 sa.lh)∧W.cell? ⟨gb,0,none⟩ = some (.int .i64 sb.cells)∧W.cell? ⟨gb,6,none⟩ = some (.int .i64 sb.fc)∧W.cell? ⟨gb,7,none⟩ = some (.int .i64 sb.fh)) (first | exact ⟨c0,c8,c9,d0,d6,d7⟩ | exact ⟨e0,e8,e9,f0,f6,f7⟩)
        (first
          | (go_at_call 93; refine (HF _).mono ?_; rintro e w1 ⟨rfl,hb1⟩; have hcur : Below w.heap.size w w1:=(by first | exact hcur.trans (hb1.mono hcur.size) | exact hcur.drew.trans (hb1.mono hcur.size)); have e0:=(hcur.cell (p:=⟨ga,0,none⟩) lta).trans c0; have e8:=(hcur.cell (p:=⟨ga,8,none⟩) lta).trans c8; have e9:=(hcur.cell (p:=⟨ga,9,none⟩) lta).trans c9; have f0:=(hcur.cell (p:=⟨gb,0,none⟩) ltb).trans d0; have f6:=(hcur.cell (p:=⟨gb,6,none⟩) ltb).trans d6; have f7:=(hcur.cell (p:=⟨gb,7,none⟩) ltb).trans d7))
      all_goals
        go_wp2_with fail
        refine (HJ.out _ hcur).mono ?_
        rintro e w2 ⟨g2,t2,rfl,hA2,hj2,hb2⟩
        go_wp2_with fail
        go_ret
        exact ⟨g2,t2,rfl,hA2,hj2,hcur.trans (hb2.mono hcur.size)⟩
end Go.Proofs.YtijpfbcippijoaaGreatDoor

namespace Go.Proofs.YtijpfbcippijoaaGreatDoor
open Go.RowKit Go.Lib
set_option maxRecDepth 100000
theorem rowOf_pos {l : List (List Int × Int)} (h : ∀ p ∈ l,p.1 ≠ []) (hl : l ≠ []) : 0 < (rowOf l).length:=by
  obtain ⟨p,t,rfl⟩:=List.exists_cons_of_ne_nil hl
  rw [rowOf_cons,List.length_append,List.length_map]
  have:=List.length_pos_iff.2 (h p (by simp))
  omega
theorem cut_left {X Y A B : List (List Int × Int)} (hne : ∀ p ∈ A,p.1 ≠ []) (h : X ++ Y = A ++ B) (hl : (rowOf A).length≤(rowOf X).length) : ∃ C,X = A ++ C∧B = C ++ Y:=by
  rcases List.append_eq_append_iff.1 h with ⟨c,rfl,rfl⟩ | ⟨c,rfl,rfl⟩
  · rw [rowOf_append,List.length_append] at hl
    by_cases hc : c = []
    · subst hc; exact ⟨[],by simp,by simp⟩
    · have:=rowOf_pos (fun p hp=>hne p (List.mem_append_right _ hp)) hc
      omega
  · exact ⟨c,rfl,rfl⟩
theorem cut_right {X Y A B : List (List Int × Int)} (h : X ++ Y = A ++ B) (hl : (rowOf X).length < (rowOf A).length) : ∃ C,A = X ++ C∧Y = C ++ B:=by
  rcases List.append_eq_append_iff.1 h with ⟨c,rfl,rfl⟩ | ⟨c,rfl,rfl⟩
  · exact ⟨c,rfl,rfl⟩
  · rw [rowOf_append,List.length_append] at hl
    omega
structure SB (A B : List (List Int × Int)) (a b : Tr) : Prop where
  la : a.lv = A
  lb : b.lv = B
  ca : a.Can
  cb : b.Can
theorem at_nil (w : World) : At (w.alloc (.cells (nodeCells Tr.nil.sm (.slice none 0 0) (.pointer none) (.pointer none) 0) 96)) .nil w.heap.size:=heap_alloc_new _ _
set_option maxHeartbeats 4000000 in
theorem split_bdry : ∀ (N : Nat) {w : World} {t : Tr} {g : Nat},t.sm.high≤(N : Int)→At w t g→t.Fine→Pcs t.lv→t.row.length≤1048576→∀ {A B : List (List Int × Int)},t.lv = A ++ B→∀ n : Int,n = ((rowOf A).length : Int) →
    Calls Tryz.prog 57 #[.pointer (some ⟨g,0,none⟩),.int .i64 n] w fun e w'=>∃ g1 g2 a b,e = .returned (.tuple #[.pointer (some ⟨g1,0,none⟩),.pointer (some ⟨g2,0,none⟩)])∧At w' a g1∧At w' b g2∧SB A B a b∧Below w.heap.size w w':=by
  intro N
  induction N with
  | zero =>
    intro w t g hN hA hf
    have:=hf.pos
    omega
  | succ N ih =>
    intro w t g hN hA hf hP hn A B hAB n hat
    have IH : Hid (∀ {w : World} {t : Tr} {g : Nat},t.sm.high≤(N : Int)→At w t g→t.Fine→Pcs t.lv→t.row.length≤1048576→∀ {A B : List (List Int × Int)},t.lv = A ++ B→∀ n : Int,n = ((rowOf A).length : Int)→Calls Tryz.prog 57 #[.pointer (some ⟨g,0,none⟩),.int .i64 n] w fun e w'=>∃ g1 g2 a b,e = .returned (.tuple #[.pointer (some ⟨g1,0,none⟩),.pointer (some ⟨g2,0,none⟩)])∧At w' a g1∧At w' b g2∧SB A B a b∧Below w.heap.size w w'):=ih
    clear ih
    have hneA : ∀ p ∈ A,p.1 ≠ []:=fun p hp=>hP.some_ p (by rw [hAB]; exact List.mem_append_left _ hp)
    have hneB : ∀ p ∈ B,p.1 ≠ []:=fun p hp=>hP.some_ p (by rw [hAB]; exact List.mem_append_right _ hp)
    have hrl : t.row.length = (rowOf A).length + (rowOf B).length:=by rw [Tr.row_len,hAB,rowOf_append,List.length_append]
    have hsc:=t.sm_cells
    by_cases hA0 : A = []
    · subst hA0
      have h0 : n = 0:=hat
      subst h0
      have hsb : SB [] B .nil t:=⟨rfl,by simpa using hAB,.inl rfl,.inr hf⟩
      clear hat hneA hneB hrl
      go_enter Tryz.func57,Tryz.ntmps57
      go_wp2_with fail
      go_ret2
      exact ⟨w.heap.size,g,.nil,t,rfl,at_nil w,hA.below ((Below.refl _ _).alloc (Nat.le_refl _) _),hsb,(Below.refl _ _).alloc (Nat.le_refl _) _⟩
    · have pA:=rowOf_pos hneA hA0
      by_cases hB0 : B = []
      · subst hB0
        have h0 : n = t.sm.cells:=by rw [hat,hsc,hrl]; simp [rowOf]
        have hpos : 0 < t.sm.cells:=by omega
        subst h0
        have hsb : SB A [] t .nil:=⟨by simpa using hAB,rfl,.inr hf,.inl rfl⟩
        have c0:=hA.cells
        clear hat hneA hneB hrl hsc
        go_enter Tryz.func57,Tryz.ntmps57
        go_wp2_with fail
        go_ret2
        exact ⟨g,w.heap.size,t,.nil,rfl,hA.below ((Below.refl _ _).alloc (Nat.le_refl _) _),at_nil w,hsb,(Below.refl _ _).alloc (Nat.le_refl _) _⟩
      · have pB:=rowOf_pos hneB hB0
        have hlt : n < t.sm.cells:=by omega
        have hgt : 0 < n:=by omega
        have hnode : ∃ l r st,t = .node l r st:=by
          cases t with
          | nil=>exact hf.wf.elim
          | leaf rs hid st =>
            exfalso
            have h1 : (Tr.leaf rs hid st).lv.length = A.length + B.length:=by rw [hAB,List.length_append]
            have h2:=List.length_pos_iff.2 hA0
            have h3:=List.length_pos_iff.2 hB0
            simp [Tr.lv] at h1
            omega
          | node l r st=>exact ⟨l,r,st,rfl⟩
        have hh2 : 2≤t.sm.high:=by
          obtain ⟨l,r,st,rfl⟩:=hnode
          exact hf.wf.high_node
        have HIP:=smIsPiece_any t.sm
        rw [show decide (t.sm.high≤1) = false by simp; omega] at HIP
        obtain ⟨c0,c1,c2,c3,c4,c5,c6,c7,c8,c9⟩:=hA.ten
        have hgl:=hA.lt
        have HAT0 : Hid (n = ((rowOf A).length : Int)):=hat
        have HSC0 : Hid (t.sm.cells = (t.row.length : Int)):=hsc
        have HRL0 : Hid (t.row.length = (rowOf A).length + (rowOf B).length):=hrl
        have HAB0 : Hid (t.lv = A ++ B):=hAB
        clear hnode hneB hat hsc hrl hAB
        go_enter Tryz.func57,Tryz.ntmps57
        go_wp2_with fail
        refine (HIP _).mono ?_
        rintro e w1 ⟨rfl,hb1⟩
        clear c1 c2 c3 c4 c5 c6 c7 c8 c9
        go_wp2_with fail
        refine (sides_p (hA.below hb1) hf hh2 (by omega)).mono ?_
        rintro e w2 ⟨gl,gr,l,r,rfl,hl,hr,hs,hb2⟩
        have hB2:=hb1.trans (hb2.mono hb1.size)
        have hat:=HAT0.out
        have hsc:=HSC0.out
        have hrl:=HRL0.out
        have hAB:=HAB0.out
        have hlv:=hs.lv
        have hlen:=hs.len
        have q0:=hs.high
        have hLr:=l.row_len
        have hRr:=r.row_len
        have hPl : Pcs l.lv:=by rw [hlv] at hP; exact hP.left
        have hPr : Pcs r.lv:=by rw [hlv] at hP; exact hP.right
        have d0:=hl.cells
        have hlc:=l.sm_cells
        have hlb : 0≤l.sm.cells∧l.sm.cells≤2097152:=by omega
        have hXY : l.lv ++ r.lv = A ++ B:=by rw [← hlv,hAB]
        have pl:=hs.fl.pos
        have pr:=hs.fr.pos
        by_cases hle : (rowOf A).length≤(rowOf l.lv).length
        · obtain ⟨C,eX,eB⟩:=cut_left hneA hXY hle
          have hcmp : n≤l.sm.cells:=by omega
          have hm : Meet C r.lv:=by
            have : Pcs (C ++ r.lv):=by rw [← eB]; rw [hAB] at hP; exact hP.right
            exact this.meet
          have hat' : n = ((rowOf A).length : Int):=hat
          have HX : Hid (l.lv = A ++ C):=eX
          have HB : Hid (B = C ++ r.lv):=eB
          have HAT : Hid (n = ((rowOf A).length : Int)):=hat'
          have hCl : (rowOf C).length + r.row.length≤2097152:=by
            have:=congrArg (fun x=>(rowOf x).length) eX
            simp only [rowOf_append,List.length_append] at this
            omega
          clear eX eB hat hat' hXY hAB hlv hrl hsc hlc hLr hRr
          go_wp2_with fail
          refine (IH.out (by omega) hl hs.fl hPl (by omega) HX.out n HAT.out).mono ?_
          rintro e w3 ⟨g1,g2,a,b,rfl,ha,hb,hsb,hb3⟩
          have hB3:=hB2.trans (hb3.mono hB2.size)
          go_wp2_with fail
          refine (concat_meet hb (hr.below hb3) hsb.cb (.inr hs.fr) (by rw [hsb.lb]; exact hm) (by rw [Tr.row_len b,hsb.lb]; omega)).mono ?_
          rintro e w4 ⟨g4,t4,rfl,hA4,hj4,hb4⟩
          go_wp2_with fail
          go_ret2
          exact ⟨g1,g4,a,t4,rfl,ha.below hb4,hA4,⟨hsb.la,by rw [hj4.lv,hsb.lb,HB.out],hsb.ca,hj4.can⟩,hB3.trans (hb4.mono hB3.size)⟩
        · obtain ⟨C,eA,eY⟩:=cut_right hXY (by omega)
          have hcmp : ¬ n≤l.sm.cells:=by omega
          have hm : Meet l.lv C:=by
            have : Pcs (l.lv ++ C):=by rw [← eA]; rw [hAB] at hP; exact hP.left
            exact this.meet
          have hrA : (rowOf A).length = (rowOf l.lv).length + (rowOf C).length:=by rw [eA,rowOf_append,List.length_append]
          have hd : n - l.sm.cells = ((rowOf C).length : Int):=by omega
          have HD : Hid (n - l.sm.cells = ((rowOf C).length : Int)):=hd
          have HY : Hid (r.lv = C ++ B):=eY
          have HA : Hid (A = l.lv ++ C):=eA
          have hCl : l.row.length + (rowOf C).length≤2097152:=by omega
          have hnb : n≤2097152:=by omega
          have hrn : r.row.length≤1048576:=by omega
          clear eA eY hat hXY hAB hlv hrl hsc hlc hd hrA hLr hRr
          go_wp2_with fail
          refine (IH.out (by omega) hr hs.fr hPr hrn HY.out _ HD.out).mono ?_
          rintro e w3 ⟨g1,g2,a,b,rfl,ha,hb,hsb,hb3⟩
          have hB3:=hB2.trans (hb3.mono hB2.size)
          go_wp2_with fail
          refine (concat_meet (hl.below hb3) ha (.inr hs.fl) hsb.ca (by rw [hsb.la]; exact hm) (by rw [Tr.row_len a,hsb.la]; omega)).mono ?_
          rintro e w4 ⟨g4,t4,rfl,hA4,hj4,hb4⟩
          go_wp2_with fail
          go_ret2
          exact ⟨g4,g2,t4,b,rfl,hA4,hb.below hb4,⟨by rw [hj4.lv,hsb.la,HA.out],hsb.lb,hj4.can,hsb.cb⟩,hB3.trans (hb4.mono hB3.size)⟩
end Go.Proofs.YtijpfbcippijoaaGreatDoor

namespace Go.Proofs.YtijpfbcippijoaaGreatDoor
open Go.RowKit Go.Lib
set_option maxRecDepth 100000
theorem Tr.Fine.lv_two {l r : Tr} {st : Int} (h : (Tr.node l r st).Fine) : 2≤(Tr.node l r st).lv.length:=by
  have hs:=h.sides
  obtain ⟨⟨p,k,e1,_⟩,_⟩:=hs.fl.wf.ends
  obtain ⟨⟨q,m,f1,_⟩,_⟩:=hs.fr.wf.ends
  rw [hs.lv,List.length_append,e1,f1]
  simp only [List.length_cons]
  omega
theorem Tr.Can.one {t : Tr} (h : t.Can) {p : List Int × Int} (e : t.lv = [p]) : ∃ st,t = .leaf p.1 p.2 st:=by
  cases t with
  | nil=>simp [Tr.lv] at e
  | leaf rs hid st=>simp [Tr.lv] at e; subst e; exact ⟨st,rfl⟩
  | node l r st =>
    have:=(h.resolve_left (by simp)).lv_two
    rw [e] at this
    simp at this
set_option maxHeartbeats 2000000 in
theorem concat_fit {w : World} {a b : Tr} {ga gb : Nat} (ha : At w a ga) (hb : At w b gb) (fa : a.Fine) (fb : b.Fine) (pa : Pcs a.lv) (pb : Pcs b.lv) {A0 B0 : List (List Int × Int)} {p q : List Int × Int} (ea : a.lv = A0 ++ [p]) (eb : b.lv = q :: B0) (hfit : Fit p q) (hn : a.row.length + b.row.length≤1048576) :
    Calls Tryz.prog 58 #[.pointer (some ⟨ga,0,none⟩),.pointer (some ⟨gb,0,none⟩)] w fun e w'=>∃ g t,e = .returned (.pointer (some ⟨g,0,none⟩))∧At w' t g∧t.lv = A0 ++ (p.1 ++ q.1,p.2) :: B0∧t.Can∧Below w.heap.size w w':=by
  have lta:=ha.lt
  have ltb:=hb.lt
  obtain ⟨elc,elh,efc,efh⟩:=fit_sm fa fb ea eb
  have c0:=ha.cells
  have d0:=hb.cells
  have za:=fa.cells_ne
  have zb:=fb.cells_ne
  obtain ⟨_,_,c8,c9⟩:=ha.cell8
  obtain ⟨d6,d7,_,_⟩:=hb.cell8
  have ba:=fa.smBd (by omega)
  have bb:=fb.smBd (by omega)
  have HF : ∀ W,Calls Tryz.prog 93 #[.agg #[.int .i64 a.sm.lc,.int .i64 a.sm.lh],.agg #[.int .i64 b.sm.fc,.int .i64 b.sm.fh]] W fun e w'=>e = .returned (.bool true)∧Below W.heap.size W w':=fun W=>fits_yes _ _ _ _ (by rw [elh,efh]; exact hfit.1) (by rw [elc,efc]; have:=hfit.2; omega) ba.lc bb.fc W
  have hra : a.row.length = (rowOf A0).length + p.1.length:=by rw [Tr.row_len,ea,rowOf_append,List.length_append]; simp [rowOf]
  have hrb : b.row.length = q.1.length + (rowOf B0).length:=by rw [Tr.row_len,eb,rowOf_cons,List.length_append,List.length_map]
  have hsa:=a.sm_cells
  have hd : a.sm.cells - a.sm.lc = ((rowOf A0).length : Int):=by omega
  have hfc : b.sm.fc = ((rowOf [q]).length : Int):=by rw [efc]; simp [rowOf]
  have hp0 : p.1 ≠ []:=pa.some_ p (by rw [ea]; simp)
  have hq0 : q.1 ≠ []:=pb.some_ q (by rw [eb]; simp)
  have hf2:=hfit.2
  have u0 : IntKind.i64.wrap (a.sm.cells - a.sm.lc) = a.sm.cells - a.sm.lc:=IntWalk.i64_in _ (by have:=ba.cells; have:=ba.lc; omega)
  have HS1 : Hid (∀ W,Below w.heap.size w W→Calls Tryz.prog 57 #[.pointer (some ⟨ga,0,none⟩),.int .i64 (a.sm.cells - a.sm.lc)] W fun e w'=>∃ g1 g2 x y,e = .returned (.tuple #[.pointer (some ⟨g1,0,none⟩),.pointer (some ⟨g2,0,none⟩)])∧At w' x g1∧At w' y g2∧SB A0 [p] x y∧Below W.heap.size W w'):=fun W hW=>split_bdry a.sm.high.toNat (by have:=fa.pos; omega) (ha.below hW) fa pa (by omega) ea _ hd
  have HS2 : Hid (∀ W,Below w.heap.size w W→Calls Tryz.prog 57 #[.pointer (some ⟨gb,0,none⟩),.int .i64 b.sm.fc] W fun e w'=>∃ g1 g2 x y,e = .returned (.tuple #[.pointer (some ⟨g1,0,none⟩),.pointer (some ⟨g2,0,none⟩)])∧At w' x g1∧At w' y g2∧SB [q] B0 x y∧Below W.heap.size W w'):=fun W hW=>split_bdry b.sm.high.toNat (by have:=fb.pos; omega) (hb.below hW) fb pb (by omega) (by rw [eb]; rfl) _ hfc
  have hlim : Lim p.2:=fa.bd.row ((p.1.head hp0),p.2) (by
    rw [Tr.row_lv,ea,rowOf_append]
    refine List.mem_append_right _ ?_
    simp only [rowOf,List.flatMap_cons,List.flatMap_nil,List.append_nil,List.mem_map]
    exact ⟨_,List.head_mem hp0,rfl⟩)
  have hr1 : (rowOf A0).length≤1048576:=by omega
  have hr2 : (rowOf A0).length + (rowOf B0).length≤1048576:=by omega
  have hcb:=ba.cells
  have hlcb:=ba.lc
  clear ba bb elc elh efc efh hsa hd hfc hra hrb hb fa fb pa pb ha ea eb
  generalize a.sm = sa at *
  generalize b.sm = sb at *
  have hcur : Below w.heap.size w w:=Below.refl _ _
  go_enter Tryz.func58,Tryz.ntmps58
  go_wp2_with fail
  go_region_held3 (fun W=>W.cell? ⟨ga,0,none⟩ = some (.int .i64 sa.cells)∧W.cell? ⟨ga,8,none⟩ = some (.int .i64 sa.lc)∧W.cell? ⟨ga,9,none⟩ = some (.int .i64 sa.lh)∧W.cell? ⟨gb,0,none⟩ = some (.int .i64 sb.cells)∧W.cell? ⟨gb,6,none⟩ = some (.int .i64 sb.fc)∧W.cell? ⟨gb,7,none⟩ = some (.int .i64 sb.fh)) (first | exact ⟨c0,c8,c9,d0,d6,d7⟩ | exact ⟨e0,e8,e9,f0,f6,f7⟩)
    (first
      | (go_at_call 93; refine (HF _).mono ?_; rintro e w1 ⟨rfl,hb1⟩; have hcur : Below w.heap.size w w1:=(by first | exact hcur.trans (hb1.mono hcur.size) | exact hcur.drew.trans (hb1.mono hcur.size)); have e0:=(hcur.cell (p:=⟨ga,0,none⟩) lta).trans c0; have e8:=(hcur.cell (p:=⟨ga,8,none⟩) lta).trans c8; have e9:=(hcur.cell (p:=⟨ga,9,none⟩) lta).trans c9; have f0:=(hcur.cell (p:=⟨gb,0,none⟩) ltb).trans d0; have f6:=(hcur.cell (p:=⟨gb,6,none⟩) ltb).trans d6; have f7:=(hcur.cell (p:=⟨gb,7,none⟩) ltb).trans d7))
  all_goals
    clear c0 c8 c9 d0 d6 d7 HF
    go_wp2_with fail
    go_region_held3 (fun W=>W.cell? ⟨ga,0,none⟩ = some (.int .i64 sa.cells)∧W.cell? ⟨ga,8,none⟩ = some (.int .i64 sa.lc)) (first | exact ⟨e0,e8⟩ | exact ⟨k0,k8⟩)
      (first
        | (go_at_call 57; refine (HS1.out _ ?_).mono ?_; (first | exact hcur | exact hcur.drew); rintro e w2 ⟨g1,g2,x,y,rfl,hx,hy,hsb,hb2⟩; have hcur : Below w.heap.size w w2:=(by first | exact hcur.trans (hb2.mono hcur.size) | exact hcur.drew.trans (hb2.mono hcur.size)); have hcurw : Below w.heap.size w w1:=(by assumption); have k0:=(hb2.cell (p:=⟨ga,0,none⟩) (by have:=hcurw.size; show ga < w1.heap.size; omega)).trans e0; have k8:=(hb2.cell (p:=⟨ga,8,none⟩) (by have:=hcurw.size; show ga < w1.heap.size; omega)).trans e8))
    all_goals
      have m6 : w2.cell? ⟨gb,6,none⟩ = some (.int .i64 sb.fc):=(hb2.cell (p:=⟨gb,6,none⟩) (by have:=hcurw.size; show gb < w1.heap.size; omega)).trans f6
      clear e0 e8 e9 f0 f6 f7 k0 k8
      go_wp2_with fail
      refine (HS2.out _ hcur).mono ?_
      rintro e w3 ⟨g3,g4,x',y',rfl,hx',hy',hsb',hb3⟩
      have hB3:=hcur.trans (hb3.mono hcur.size)
      obtain ⟨s1,rfl⟩:=hsb.cb.one hsb.lb
      obtain ⟨s2,rfl⟩:=hsb'.ca.one hsb'.la
      have hx3:=hx.below hb3
      have hy3:=hy.below hb3
      have hq2 : q.2 = p.2:=hfit.1.symm
      rw [hq2] at hx'
      go_wp2_with fail
      refine (merged_any hy3 hx' hp0 hq0 (by omega) (by omega)).mono ?_
      rintro e w4 ⟨g5,rfl,hM,hb4⟩
      have hB4:=hB3.trans (hb4.mono hB3.size)
      have fM : (Tr.leaf (p.1 ++ q.1) p.2 0).Fine:=⟨by show p.1 ++ q.1 ≠ []; simp [hp0],⟨hlim,by rw [Int.sub_zero]; exact hlim⟩,trivial⟩
      have hxl : x.row.length = (rowOf A0).length:=by rw [Tr.row_len,hsb.la]
      have hyl : y'.row.length = (rowOf B0).length:=by rw [Tr.row_len,hsb'.lb]
      have hml : (Tr.leaf (p.1 ++ q.1) p.2 0).row.length = p.1.length + q.1.length:=by simp [Tr.row]
      go_wp2_with fail
      refine (join_any (hx3.below hb4) hM hsb.ca (.inr fM) (by omega)).mono ?_
      rintro e w5 ⟨g6,t6,rfl,hA6,hj6,hb5⟩
      have hB5:=hB4.trans (hb5.mono hB4.size)
      have h6l : t6.row.length = x.row.length + (Tr.leaf (p.1 ++ q.1) p.2 0).row.length:=by rw [Tr.row_len,Tr.row_len x,Tr.row_len (Tr.leaf _ _ _),hj6.lv,rowOf_append,List.length_append]
      go_wp2_with fail
      refine (join_any hA6 (hy'.below (hb4.trans (hb5.mono hb4.size))) hj6.can hsb'.cb (by omega)).mono ?_
      rintro e w6 ⟨g7,t7,rfl,hA7,hj7,hb6⟩
      go_wp2_with fail
      go_ret
      refine ⟨g7,t7,rfl,hA7,?_,hj7.can,hB5.trans (hb6.mono hB5.size)⟩
      rw [hj7.lv,hj6.lv,hsb.la,hsb'.lb]
      simp [Tr.lv]
theorem concat_any {w : World} {a b : Tr} {ga gb : Nat} (ha : At w a ga) (hb : At w b gb) (fa : a.Can) (fb : b.Can) (pa : Pcs a.lv) (pb : Pcs b.lv) (hn : a.row.length + b.row.length≤1048576) :
    Calls Tryz.prog 58 #[.pointer (some ⟨ga,0,none⟩),.pointer (some ⟨gb,0,none⟩)] w fun e w'=>∃ g t,e = .returned (.pointer (some ⟨g,0,none⟩))∧At w' t g∧t.lv = glue a.lv b.lv∧t.Can∧Below w.heap.size w w':=by
  by_cases hm : Meet a.lv b.lv
  · refine (concat_meet ha hb fa fb hm (by omega)).mono ?_
    rintro e w' ⟨g,t,rfl,hA,hj,hB⟩
    exact ⟨g,t,rfl,hA,by rw [glue_meet hm]; exact hj.lv,hj.can,hB⟩
  · have hx : ∃ p q,a.lv.getLast? = some p∧b.lv.head? = some q∧Fit p q:=by
      refine Classical.byContradiction fun h=>hm fun p q hp hq hf=>h ⟨p,q,hp,hq,hf⟩
    obtain ⟨p,q,hp,hq,hf⟩:=hx
    obtain ⟨A0,ea⟩:=List.getLast?_eq_some_iff.1 hp
    obtain ⟨B0,eb⟩ : ∃ B0,b.lv = q :: B0:=by
      cases hbl : b.lv with
      | nil=>rw [hbl] at hq; cases hq
      | cons x t=>rw [hbl] at hq; simp at hq; subst hq; exact ⟨t,rfl⟩
    have fa' : a.Fine:=fa.resolve_left (by rintro rfl; simp [Tr.lv] at ea)
    have fb' : b.Fine:=fb.resolve_left (by rintro rfl; simp [Tr.lv] at eb)
    refine (concat_fit ha hb fa' fb' pa pb ea eb hf hn).mono ?_
    rintro e w' ⟨g,t,rfl,hA,hl,hc,hB⟩
    exact ⟨g,t,rfl,hA,by rw [ea,eb,glue_fit A0 p q B0 hf]; exact hl,hc,hB⟩
end Go.Proofs.YtijpfbcippijoaaGreatDoor
