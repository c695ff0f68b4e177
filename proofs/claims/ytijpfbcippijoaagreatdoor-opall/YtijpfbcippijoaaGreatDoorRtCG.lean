import Derived.Test.YtijpfbcippijoaaGreatDoorGr40
import Derived.Test.YtijpfbcippijoaaGreatDoorRqGI
namespace Go.Proofs.YtijpfbcippijoaaGreatDoor
open Go.RowKit Go.Lib
set_option maxRecDepth 100000
section
variable (rs : List Int) (h : Int) (f : Nat) (d : Int)
def loB (x : Int × Int) : Nat:=(max (x.1 - (f : Int)) 0).toNat
def hiB (x : Int × Int) : Nat:=(min (x.2 - (f : Int)) (rs.length : Int)).toNat
def rowB : Nat→List (Int × Int)→List (Int × Int)
  | k,[]=>(rs.drop k).map fun c=>(c,h)
  | k,x :: l=>(((rs.take (loB f x)).drop k).map fun c=>(c,h)) ++ ((((rs.take (hiB rs f x)).drop (loB f x)).map fun c=>(c,h + d)) ++ rowB (hiB rs f x) l)
end
theorem partL_row (rs : List Int) (h : Int) (lo hi : Nat) : rowOf (partL rs h lo hi) = ((rs.take hi).drop lo).map fun c=>(c,h):=by
  unfold partL
  by_cases e : hi≤lo
  · rw [if_pos e]
    have : (rs.take hi).drop lo = []:=List.eq_nil_of_length_eq_zero (by rw [List.length_drop,List.length_take]; omega)
    rw [this]
    rfl
  · rw [if_neg e,rowOf_cons]
    simp [rowOf]
theorem partL_pcs {rs : List Int} {h : Int} {lo hi : Nat} (h32 : rs.length≤32) (h2 : hi≤rs.length) : Pcs (partL rs h lo hi):=by
  unfold partL
  by_cases e : hi≤lo
  · rw [if_pos e]; exact pcs_nil
  · rw [if_neg e]
    have hl : ((rs.take hi).drop lo).length = hi - lo:=by rw [List.length_drop,List.length_take]; omega
    refine ⟨fun p hp=>?_,fun p hp=>?_,trivial⟩
    · simp at hp; subst hp; intro e2; simp only at e2; rw [e2] at hl; simp at hl; omega
    · simp at hp; subst hp; simp only; omega
theorem PartOf.raise {rs : List Int} {h : Int} {lo hi : Nat} {t : Tr} (hp : PartOf rs h lo hi t) (d : Int) (hl : Lim (h + d)) : PartOf rs (h + d) lo hi (t.raise d):=by
  have hlv : (t.raise d).lv = partL rs (h + d) lo hi:=by
    rw [Tr.lv_raise,hp.lv]
    unfold partL
    by_cases e : hi≤lo
    · rw [if_pos e,if_pos e]; rfl
    · rw [if_neg e,if_neg e]; rfl
  refine ⟨hlv,?_⟩
  by_cases e : hi≤lo
  · rcases hp.can with rfl | hf
    · exact .inl rfl
    · have h1:=hf.wf.pos
      rw [Tr.row_len,hp.lv,partL,if_pos e] at h1
      simp [rowOf] at h1
  · have hl1 : t.lv = [((rs.take hi).drop lo,h)]:=by rw [hp.lv,partL,if_neg e]
    obtain ⟨st,rfl⟩:=hp.can.one hl1
    rcases hp.can with hn | hf
    · cases hn
    · exact .inr ⟨hf.wf,⟨hl,by have:=hf.bd.2; rw [show h + d - (st + d) = h - st by omega]; exact this⟩,trivial⟩
theorem drop_get {α : Type} (l : List α) (i : Nat) (x : α) (h : l[i]? = some x) : l.drop i = x :: l.drop (i + 1):=by
  obtain ⟨hl,rfl⟩:=List.getElem?_eq_some_iff.1 h
  exact List.drop_eq_getElem_cons hl
set_option maxHeartbeats 8000000 in
theorem bumpedParts_any {w : World} {rs : List Int} {h st : Int} {g : Nat} (hA : At w (.leaf rs h st) g) (hf : (Tr.leaf rs h st).Fine) (h32 : rs.length≤32) {a : Option Addr} {m cap : Nat} {l : List (Int × Int)} (hl : Rw pieceV 2 w a m cap l) (hm : m≤4294967296) (f : Nat) (hf2 : f≤1048576) (d : Int) (hd : -1≤d∧d≤1) (hlim : Lim (h + d)) (hs : Srt l) (hmt : ∀ x ∈ l,(f : Int) < x.2∧x.1 < (f : Int) + rs.length) (hbd : ∀ x ∈ l,0≤x.1∧x.2≤1048576) :
    Calls Tryz.prog 99 #[.pointer (some ⟨g,0,none⟩),.int .i64 (f : Int),.slice a m cap,.int .i64 d] w fun e w'=>∃ g' t,e = .returned (.pointer (some ⟨g',0,none⟩))∧At w' t g'∧t.Can∧Pcs t.lv∧rowOf t.lv = rowB rs h f d 0 l∧Below w.heap.size w w':=by
  have hlen:=hl.len
  have hgl:=hA.lt
  have HL : Hid (Rw pieceV 2 w a m cap l):=hl
  have HS : Hid (Srt l):=hs
  have HM : Hid (∀ x ∈ l,(f : Int) < x.2∧x.1 < (f : Int) + rs.length):=hmt
  have HB : Hid (∀ x ∈ l,0≤x.1∧x.2≤1048576):=hbd
  have HA : Hid (At w (.leaf rs h st) g):=hA
  have c0 : w.cell? ⟨g,0,none⟩ = some (.int .i64 (rs.length : Int)):=hA.cells
  clear hl hs hmt hbd hA
  go_enter Tryz.func99,Tryz.ntmps99
  go_wp2_with fail
  go_loopw [9,10,12,13,14,19] (fun v9 v10 _ _ _ v19 W=>∃ (i go done : Nat) (t : Tr),i≤m∧v9 = .pointer (some ⟨go,0,none⟩)∧v10 = .int .i64 (done : Int)∧v19 = .int .i64 (i : Int)∧At W t go∧t.Can∧Pcs t.lv∧t.row.length = done∧done≤rs.length∧(∀ x ∈ l.drop i,done≤loB f x)∧rowOf t.lv ++ rowB rs h f d done (l.drop i) = rowB rs h f d 0 l∧Below w.heap.size w W) (fun _ _ _ _ _ i _=>m - (RowKit.intOf i).toNat)
  case atStart=>exact ⟨0,_,0,.nil,Nat.zero_le _,rfl,rfl,rfl,at_nil _,.inl rfl,pcs_nil,rfl,Nat.zero_le _,fun _ _=>Nat.zero_le _,by simp [Tr.lv,rowOf],(Below.refl _ _).alloc (Nat.le_refl _) _⟩
  case round =>
    obtain ⟨i,go,done,t,hi,rfl,rfl,rfl,hT,hC,hP,hln,hd2,hnx,hrow,hb⟩:=hrel
    have hsz:=hb.size
    by_cases hlt : i < m
    · obtain ⟨ga,off,x,rfl,hg,hx,hc⟩:=HL.out.at i hlt
      have c1 : wr.cell? ⟨ga,off + i * 2,none⟩ = some (.int .i64 x.1):=(hb.cell (p:=⟨ga,off + i * 2 + 0,none⟩) hg).trans (hc 0 _ rfl)
      have c2 : wr.cell? ⟨ga,off + i * 2 + 1,none⟩ = some (.int .i64 x.2):=(hb.cell (p:=⟨ga,off + i * 2 + 1,none⟩) hg).trans (hc 1 _ rfl)
      have c3:=(hb.cell (p:=⟨g,0,none⟩) hgl).trans c0
      obtain ⟨m1,m2⟩:=HM.out x (List.mem_of_getElem? hx)
      obtain ⟨b1,b2⟩:=HB.out x (List.mem_of_getElem? hx)
      have x12:=HS.out.some_ x (List.mem_of_getElem? hx)
      have u1 : IntKind.i64.wrap (x.1 - (f : Int)) = x.1 - (f : Int):=IntWalk.i64_in _ (by omega)
      have u2 : IntKind.i64.wrap (x.2 - (f : Int)) = x.2 - (f : Int):=IntWalk.i64_in _ (by omega)
      clear hc c0
      have hrl : l.drop i = x :: l.drop (i + 1):=drop_get l i x hx
      go_wp2_with fail
      obtain ⟨wa,ewa⟩ : ∃ W,wr.alloc (.cells #[.int .i64 x.1,.int .i64 x.2] 76) = W:=⟨_,rfl⟩
      have hba : Below wr.heap.size wr wa:=ewa ▸ (Below.refl _ _).alloc (Nat.le_refl _) _
      have k0 : wa.cell? ⟨wr.heap.size,0,none⟩ = some (.int .i64 x.1):=ewa ▸ World.cell?_alloc_mark _ _ _ _ _
      have k1 : wa.cell? ⟨wr.heap.size,1,none⟩ = some (.int .i64 x.2):=ewa ▸ World.cell?_alloc_mark _ _ _ _ _
      replace c3:=(hba.cell (p:=⟨g,0,none⟩) (by show g < wr.heap.size; omega)).trans c3
      rw [ewa]
      have hmx:=max_run
      have hmn:=min_run
      clear c1 c2 ewa
      go_quiet (fail)
      have hbq:=below_drewN hba nq
      generalize wa.drewN nq = wq at *
      obtain ⟨lo,hlo⟩ : ∃ lo : Nat,max (x.1 - (f : Int)) 0 = (lo : Int):=⟨loB f x,by unfold loB; omega⟩
      obtain ⟨hh,hhi⟩ : ∃ hh : Nat,min (x.2 - (f : Int)) (rs.length : Int) = (hh : Int):=⟨hiB rs f x,by unfold hiB; omega⟩
      rw [hlo,hhi]
      clear hmx hmn k0 k1 c3
      have elo : loB f x = lo:=by unfold loB; omega
      have ehi : hiB rs f x = hh:=by unfold hiB; omega
      have hpos : 0 < rs.length:=List.length_pos_iff.2 hf.wf
      have hdl : done≤lo:=elo ▸ hnx x (by rw [hrl]; simp)
      have hlh : lo < hh:=by omega
      have hhr : hh≤rs.length:=by omega
      have hBq : Below w.heap.size w wq:=hb.trans (hbq.mono hsz)
      rw [hrl] at hrow hnx
      simp only [rowB,elo,ehi] at hrow
      have hnx2 : ∀ y ∈ l.drop (i + 1),hh≤loB f y:=fun y hy=>by
        obtain ⟨j,hj⟩:=List.getElem?_of_mem hy
        rw [List.getElem?_drop] at hj
        have:=HS.out.apart i (i + 1 + j) x y (by omega) hx hj
        unfold loB
        omega
      clear hnx elo ehi hlo hhi
      go_wp2_with fail
      refine (part_any (HA.out.below hBq) hf done lo hdl (by omega) (by omega)).mono ?_
      rintro e w1 ⟨g1,t1,rfl,hA1,hp1,hb1⟩
      have hB1:=hBq.trans (hb1.mono hBq.size)
      have hl1 : t1.row.length = lo - done:=by rw [Tr.row_len,hp1.lv,partL_row,List.length_map,List.length_drop,List.length_take]; omega
      have hT1 : At w1 t go:=hT.below (hbq.trans (hb1.mono hbq.size))
      go_wp2_with fail
      refine (concat_any hT1 hA1 hC hp1.can hP (hp1.lv ▸ partL_pcs h32 (by omega)) (by omega)).mono ?_
      rintro e w2 ⟨g2,t2,rfl,hA2,hl2,hc2,hb2⟩
      have hB2:=hB1.trans (hb2.mono hB1.size)
      have hP2 : Pcs t2.lv:=hl2 ▸ hP.glue (hp1.lv ▸ partL_pcs h32 (by omega))
      have hr2 : rowOf t2.lv = rowOf t.lv ++ ((rs.take lo).drop done).map fun c=>(c,h):=by rw [hl2,rowOf_glue,hp1.lv,partL_row]
      have hn2 : t2.row.length = lo:=by
        rw [Tr.row_len] at hl1 hln ⊢
        rw [hl2,rowOf_glue,List.length_append,hl1,hln]
        omega
      go_wp2_with fail
      refine (part_any (HA.out.below hB2) hf lo hh (by omega) hhr (by omega)).mono ?_
      rintro e w3 ⟨g3,t3,rfl,hA3,hp3,hb3⟩
      have hB3:=hB2.trans (hb3.mono hB2.size)
      have hl3 : t3.row.length = hh - lo:=by rw [Tr.row_len,hp3.lv,partL_row,List.length_map,List.length_drop,List.length_take]; omega
      have hf3 : t3.Fine:=hp3.can.resolve_left (by rintro rfl; simp [Tr.row] at hl3; omega)
      have hR3:=raised_any hA3 hf3.wf hf3.bd (by omega) d (by omega)
      unfold ptr at hR3
      go_wp2_with fail
      refine hR3.mono ?_
      rintro e w4 ⟨g4,rfl,hA4,hb4⟩
      clear hR3
      have hB4:=hB3.trans (hb4.mono hB3.size)
      have hp4:=hp3.raise d hlim
      have hl4 : (t3.raise d).row.length = hh - lo:=by rw [Tr.row_raise,upL_length]; exact hl3
      generalize t3.raise d = t4 at *
      have hT2 : At w4 t2 g2:=hA2.below (hb3.trans (hb4.mono hb3.size))
      go_wp2_with fail
      refine (concat_any hT2 hA4 hc2 hp4.can hP2 (hp4.lv ▸ partL_pcs h32 hhr) (by omega)).mono ?_
      rintro e w5 ⟨g5,t5,rfl,hA5,hl5,hc5,hb5⟩
      have hB5:=hB4.trans (hb5.mono hB4.size)
      have hP5 : Pcs t5.lv:=hl5 ▸ hP2.glue (hp4.lv ▸ partL_pcs h32 hhr)
      have hr5 : rowOf t5.lv = rowOf t2.lv ++ ((rs.take hh).drop lo).map fun c=>(c,h + d):=by rw [hl5,rowOf_glue,hp4.lv,partL_row]
      have hn5 : t5.row.length = hh:=by
        rw [Tr.row_len] at hl4 hn2 ⊢
        rw [hl5,rowOf_glue,List.length_append,hl4,hn2]
        omega
      have hrow5 : rowOf t5.lv ++ rowB rs h f d hh (l.drop (i + 1)) = rowB rs h f d 0 l:=by rw [hr5,hr2,← hrow]; simp only [List.append_assoc]
      go_wp2_with fail
      exact ⟨⟨i + 1,g5,hh,t5,hlt,rfl,rfl,by simp,hA5,hc5,hP5,hn5,hhr,hnx2,hrow5,hB5⟩,by simp [RowKit.intOf]; omega⟩
    · obtain rfl : i = m:=by omega
      have c3:=(hb.cell (p:=⟨g,0,none⟩) hgl).trans c0
      have hrow' : rowOf t.lv ++ (rs.drop done).map (fun c=>(c,h)) = rowB rs h f d 0 l:=by
        have e0 : l.drop i = []:=List.drop_eq_nil_of_le (by omega)
        rw [e0] at hrow
        exact hrow
      clear hrow c0
      go_wp2_with fail
      refine (part_any (HA.out.below hb) hf done rs.length hd2 (Nat.le_refl _) (by omega)).mono ?_
      rintro e w1 ⟨g1,t1,rfl,hA1,hp1,hb1⟩
      have hB1:=hb.trans (hb1.mono hb.size)
      have hl1 : t1.row.length = rs.length - done:=by rw [Tr.row_len,hp1.lv,partL_row,List.length_map,List.length_drop,List.length_take]; omega
      have hT1 : At w1 t go:=hT.below hb1
      go_wp2_with fail
      refine (concat_any hT1 hA1 hC hp1.can hP (hp1.lv ▸ partL_pcs h32 (Nat.le_refl _)) (by omega)).mono ?_
      rintro e w2 ⟨g2,t2,rfl,hA2,hl2,hc2,hb2⟩
      go_wp2_with fail
      go_ret
      refine ⟨g2,t2,rfl,hA2,hc2,hl2 ▸ hP.glue (hp1.lv ▸ partL_pcs h32 (Nat.le_refl _)),?_,hB1.trans (hb2.mono hB1.size)⟩
      rw [hl2,rowOf_glue,hp1.lv,partL_row,List.take_length]
      exact hrow'
end Go.Proofs.YtijpfbcippijoaaGreatDoor

namespace Go.Proofs.YtijpfbcippijoaaGreatDoor
open Go.RowKit Go.Lib
set_option maxRecDepth 100000
def inL (l : List (Int × Int)) (q : Int) : Bool:=l.any fun x=>decide (x.1≤q∧q < x.2)
def bmp (l : List (Int × Int)) (d : Int) : Int→List (Int × Int)→List (Int × Int)
  | _,[]=>[]
  | f,c :: R=>(if inL l f = true then (c.1,c.2 + d) else c) :: bmp l d (f + 1) R
section
variable {l k : List (Int × Int)} {d : Int}
theorem bmp_len : ∀ (R : List (Int × Int)) (f : Int),(bmp l d f R).length = R.length
  | [],_=>rfl
  | _ :: R,f=>by simp only [bmp,List.length_cons,bmp_len R]
theorem bmp_append : ∀ (A B : List (Int × Int)) (f : Int),bmp l d f (A ++ B) = bmp l d f A ++ bmp l d (f + A.length) B
  | [],B,f=>by simp [bmp]
  | c :: A,B,f=>by
    simp only [List.cons_append,bmp,bmp_append A B,List.length_cons,Int.natCast_add,List.cons.injEq,true_and]
    rw [show f + 1 + (A.length : Int) = f + ((A.length : Int) + ((1 : Nat) : Int)) by omega]
theorem bmp_congr : ∀ (R : List (Int × Int)) (f : Int),(∀ q,f≤q→q < f + R.length→inL l q = inL k q)→bmp l d f R = bmp k d f R
  | [],_,_=>rfl
  | c :: R,f,h=>by
    simp only [List.length_cons,Int.natCast_add] at h
    simp only [bmp]
    rw [h f (by omega) (by omega),bmp_congr R (f + 1) fun q h1 h2=>h q (by omega) (by omega)]
theorem bmp_none : ∀ (R : List (Int × Int)) (f : Int),(∀ q,f≤q→q < f + R.length→inL l q = false)→bmp l d f R = R
  | [],_,_=>rfl
  | c :: R,f,h=>by
    simp only [List.length_cons,Int.natCast_add] at h
    simp only [bmp]
    rw [h f (by omega) (by omega),bmp_none R (f + 1) fun q h1 h2=>h q (by omega) (by omega)]
    simp
theorem bmp_all : ∀ (R : List (Int × Int)) (f : Int),(∀ q,f≤q→q < f + R.length→inL l q = true)→bmp l d f R = upL d R
  | [],_,_=>rfl
  | c :: R,f,h=>by
    simp only [List.length_cons,Int.natCast_add] at h
    simp only [bmp]
    rw [h f (by omega) (by omega),bmp_all R (f + 1) fun q h1 h2=>h q (by omega) (by omega)]
    simp [upL]
theorem bmp_get : ∀ (R : List (Int × Int)) (f : Int) (j : Nat),(bmp l d f R)[j]? = R[j]?.map fun c=>if inL l (f + j) = true then (c.1,c.2 + d) else c
  | [],_,j=>by simp [bmp]
  | c :: R,f,0=>by simp [bmp]
  | c :: R,f,j + 1=>by
    simp only [bmp,List.getElem?_cons_succ,bmp_get R]
    rw [show f + 1 + (j : Int) = f + ((j + 1 : Nat) : Int) by omega]
theorem bmp_mem {R : List (Int × Int)} {f : Int} {c : Int × Int} (h : c ∈ bmp l d f R) : ∃ x ∈ R,c = x ∨ c = (x.1,x.2 + d):=by
  obtain ⟨j,hj⟩:=List.getElem?_of_mem h
  rw [bmp_get] at hj
  obtain ⟨x,hx,rfl⟩:=Option.map_eq_some_iff.1 hj
  refine ⟨x,List.mem_of_getElem? hx,?_⟩
  split
  · exact .inr rfl
  · exact .inl rfl
end
theorem inL_cons (x : Int × Int) (l : List (Int × Int)) (q : Int) : inL (x :: l) q = (decide (x.1≤q∧q < x.2) || inL l q):=rfl
theorem inL_false {l : List (Int × Int)} {q : Int} (h : ∀ x ∈ l,¬(x.1≤q∧q < x.2)) : inL l q = false:=by
  unfold inL
  rw [List.any_eq_false]
  intro x hx
  simp only [decide_eq_true_eq]
  exact h x hx
theorem inL_true {l : List (Int × Int)} {q : Int} {x : Int × Int} (hx : x ∈ l) (h : x.1≤q∧q < x.2) : inL l q = true:=by
  unfold inL
  rw [List.any_eq_true]
  exact ⟨x,hx,by simpa using h⟩
theorem inL_meet (l : List (Int × Int)) {lo hi q : Int} (h1 : lo≤q) (h2 : q < hi) : inL (meetL lo hi l) q = inL l q:=by
  unfold inL meetL
  rw [List.any_filter]
  congr 1
  funext x
  by_cases h : x.1≤q∧q < x.2
  · simp [h]; omega
  · simp [h]
theorem Srt.tail {x : Int × Int} {l : List (Int × Int)} (h : Srt (x :: l)) : Srt l:=⟨fun y hy=>h.some_ y (List.mem_cons_of_mem _ hy),fun i j y z hij hy hz=>h.apart (i + 1) (j + 1) y z (by omega) (by simpa using hy) (by simpa using hz)⟩
theorem Srt.first {x : Int × Int} {l : List (Int × Int)} (h : Srt (x :: l)) : ∀ y ∈ l,x.2 < y.1:=fun y hy=>by
  obtain ⟨j,hj⟩:=List.getElem?_of_mem hy
  exact h.apart 0 (j + 1) x y (by omega) (by simp) (by simpa using hj)
theorem Srt.sub {l k : List (Int × Int)} (h : Srt l) (hk : k.Sublist l) : Srt k:=by
  induction hk with
  | slnil=>exact h
  | cons x _ ih=>exact ih h.tail
  | cons_cons x hs ih =>
    have h0:=h.first
    have ht:=ih h.tail
    refine ⟨fun y hy=>?_,fun i j y z hij hy hz=>?_⟩
    · rcases List.mem_cons.1 hy with rfl | hy
      · exact h.some_ _ (by simp)
      · exact ht.some_ y hy
    · obtain ⟨j,rfl⟩ : ∃ m,j = m + 1:=⟨j - 1,by omega⟩
      rw [List.getElem?_cons_succ] at hz
      cases i with
      | zero =>
        simp only [List.getElem?_cons_zero,Option.some.injEq] at hy
        subst hy
        exact h0 z (hs.subset (List.mem_of_getElem? hz))
      | succ i=>exact ht.apart i j y z (by omega) (by simpa using hy) hz
theorem Srt.meet {l : List (Int × Int)} (h : Srt l) (lo hi : Int) : Srt (meetL lo hi l):=h.sub List.filter_sublist
theorem meetL_mem {lo hi : Int} {l : List (Int × Int)} {x : Int × Int} (h : x ∈ meetL lo hi l) : x ∈ l∧lo < x.2∧x.1 < hi:=by
  unfold meetL at h
  rw [List.mem_filter] at h
  exact ⟨h.1,by simpa using h.2⟩
theorem rowB_bmp (rs : List Int) (h : Int) (f : Nat) (d : Int) : ∀ (l : List (Int × Int)) (k : Nat),Srt l→(∀ x ∈ l,(f : Int) < x.2∧x.1 < (f : Int) + rs.length)→(∀ x ∈ l,k≤loB f x)→k≤rs.length→rowB rs h f d k l = bmp l d ((f : Int) + k) ((rs.drop k).map fun c=>(c,h)):=by
  intro l
  induction l with
  | nil=>intro k _ _ _ _; rw [bmp_none _ _ fun q _ _=>rfl]; rfl
  | cons x l ih =>
    intro k hs hm hk hkl
    obtain ⟨m1,m2⟩:=hm x (by simp)
    have hx:=hs.some_ x (by simp)
    have hf:=hs.first
    have hkx:=hk x (by simp)
    obtain ⟨lo,hlo⟩ : ∃ lo,loB f x = lo:=⟨_,rfl⟩
    obtain ⟨hh,hhi⟩ : ∃ hh,hiB rs f x = hh:=⟨_,rfl⟩
    have e1 : (lo : Int) = max (x.1 - (f : Int)) 0:=by rw [← hlo]; unfold loB; omega
    have e2 : (hh : Int) = min (x.2 - (f : Int)) (rs.length : Int):=by rw [← hhi]; unfold hiB; omega
    rw [hlo] at hkx
    have hlh : lo≤hh:=by omega
    have hhr : hh≤rs.length:=by omega
    simp only [rowB,hlo,hhi]
    rw [ih hh hs.tail (fun y hy=>hm y (List.mem_cons_of_mem _ hy)) (fun y hy=>by have:=hf y hy; unfold loB; omega) hhr]
    have es : rs.drop k = (rs.take lo).drop k ++ ((rs.take hh).drop lo ++ rs.drop hh):=by
      have a1 : rs.drop lo = (rs.take hh).drop lo ++ rs.drop hh:=by
        conv=>lhs; rw [← List.take_append_drop hh rs]
        rw [List.drop_append,List.length_take,Nat.min_eq_left hhr,show lo - hh = 0 by omega,List.drop_zero]
      rw [← a1]
      conv=>lhs; rw [← List.take_append_drop lo rs]
      rw [List.drop_append,List.length_take,Nat.min_eq_left (by omega),show k - lo = 0 by omega,List.drop_zero]
    have n1 : ((rs.take lo).drop k).length = lo - k:=by rw [List.length_drop,List.length_take]; omega
    have n2 : ((rs.take hh).drop lo).length = hh - lo:=by rw [List.length_drop,List.length_take]; omega
    rw [es,List.map_append,List.map_append,bmp_append,bmp_append,List.length_map,List.length_map,n1,n2]
    congr 1
    · refine (bmp_none _ _ fun q h1 h2=>inL_false fun y hy=>?_).symm
      rw [List.length_map,n1] at h2
      rcases List.mem_cons.1 hy with rfl | hy
      · omega
      · have:=hf y hy; omega
    · congr 1
      · rw [bmp_all _ _ fun q h1 h2=>inL_true (x:=x) (by simp) (by rw [List.length_map,n2] at h2; omega),upL,List.map_map]
        rfl
      · rw [show (f : Int) + (k : Int) + ((lo - k : Nat) : Int) + ((hh - lo : Nat) : Int) = (f : Int) + (hh : Int) by omega]
        refine bmp_congr _ _ fun q h1 h2=>?_
        rw [List.length_map,List.length_drop] at h2
        rw [inL_cons,show decide (x.1≤q∧q < x.2) = false by rw [decide_eq_false_iff_not]; omega,Bool.false_or]
end Go.Proofs.YtijpfbcippijoaaGreatDoor

namespace Go.Proofs.YtijpfbcippijoaaGreatDoor
open Go.RowKit Go.Lib
set_option maxRecDepth 100000
structure Bin (t : Tr) (f : Nat) (l : List (Int × Int)) : Prop where
  fine : t.Fine
  pcs : Pcs t.lv
  cnt : ∀ c ∈ t.row,0≤c.2∧c.2≤1048576
  len : f + t.row.length≤1048576
  srt : Srt l
  bd : ∀ x ∈ l,0≤x.1∧x.2≤1048576
structure Bout (t : Tr) (f : Nat) (l : List (Int × Int)) (d : Int) (t' : Tr) : Prop where
  fine : t'.Fine
  pcs : Pcs t'.lv
  row : t'.row = bmp l d f t.row
set_option maxHeartbeats 4000000 in
theorem bumped_none {w : World} {t : Tr} {g f : Nat} {a : Option Addr} {m cap : Nat} {l : List (Int × Int)} (hA : At w t g) (hi : Bin t f l) (hl : Rw pieceV 2 w a m cap l) (hm : m≤4294967296) (d : Int) (hn : meetL f ((f : Int) + t.sm.cells) l = []) :
    Calls Tryz.prog 60 #[.pointer (some ⟨g,0,none⟩),.int .i64 (f : Int),.slice a m cap,.int .i64 d] w fun e w'=>∃ g' t',e = .returned (.pointer (some ⟨g',0,none⟩))∧At w' t' g'∧Bout t f l d t'∧Below w.heap.size w w':=by
  have hsc:=t.sm_cells
  have hlen:=hi.len
  have c0:=hA.cells
  have u0 : IntKind.i64.wrap ((f : Int) + t.sm.cells) = (f : Int) + t.sm.cells:=IntWalk.i64_in _ (by omega)
  have HM:=meeting_list hl hm hi.srt (f : Int) ((f : Int) + t.sm.cells) (by omega)
  rw [hn] at HM
  have HB : Hid (Bout t f l d t):=⟨hi.fine,hi.pcs,(bmp_none _ _ fun q h1 h2=>by rw [← inL_meet l (lo:=(f : Int)) (hi:=(f : Int) + t.sm.cells) h1 (by omega),hn]; rfl).symm⟩
  clear hl hi hsc hn
  go_enter Tryz.func60,Tryz.ntmps60
  go_wp2_with fail
  refine HM.mono ?_
  rintro e w1 ⟨a1,cap1,rfl,_,hb1⟩
  clear HM
  go_wp2_with fail
  go_ret
  exact ⟨g,t,rfl,hA.below hb1,HB.out,hb1⟩
set_option maxHeartbeats 4000000 in
theorem bumped_whole {w : World} {t : Tr} {g f : Nat} {a : Option Addr} {m cap : Nat} {l : List (Int × Int)} (hA : At w t g) (hi : Bin t f l) (hl : Rw pieceV 2 w a m cap l) (hm : m≤4294967296) (d : Int) (hd : -1≤d∧d≤1) {x : Int × Int} {k : List (Int × Int)} (hn : meetL f ((f : Int) + t.sm.cells) l = x :: k) (h1 : x.1≤f) (h2 : (f : Int) + t.sm.cells≤x.2) :
    Calls Tryz.prog 60 #[.pointer (some ⟨g,0,none⟩),.int .i64 (f : Int),.slice a m cap,.int .i64 d] w fun e w'=>∃ g' t',e = .returned (.pointer (some ⟨g',0,none⟩))∧At w' t' g'∧Bout t f l d t'∧Below w.heap.size w w':=by
  have hsc:=t.sm_cells
  have hlen:=hi.len
  have c0:=hA.cells
  have hgl:=hA.lt
  have u0 : IntKind.i64.wrap ((f : Int) + t.sm.cells) = (f : Int) + t.sm.cells:=IntWalk.i64_in _ (by omega)
  have HM:=meeting_list hl hm hi.srt (f : Int) ((f : Int) + t.sm.cells) (by omega)
  rw [hn] at HM
  have hlr : LimR (t.raise d).row:=fun c hc=>by
    rw [Tr.row_raise,mem_upL] at hc
    have:=hi.cnt _ hc
    unfold Lim
    simp only at this
    omega
  have HB : Hid (Bout t f l d (t.raise d)):=⟨⟨Tr.wf_raise t hi.fine.wf d,hi.fine.bd.raise hi.fine.wf d hlr,Tr.avl_raise t d hi.fine.avl⟩,by rw [Tr.lv_raise]; exact hi.pcs.up d,by
    rw [Tr.row_raise]
    refine (bmp_all _ _ fun q q1 q2=>?_).symm
    rw [← inL_meet l (lo:=(f : Int)) (hi:=(f : Int) + t.sm.cells) q1 (by omega),hn]
    exact inL_true (x:=x) (by simp) (by omega)⟩
  have HR : Hid (∀ W,Below w.heap.size w W→Calls Tryz.prog 98 #[.pointer (some ⟨g,0,none⟩),.int .i64 d] W fun e w'=>∃ g',e = .returned (.pointer (some ⟨g',0,none⟩))∧At w' (t.raise d) g'∧Below W.heap.size W w'):=fun W hW=>raised_any (hA.below hW) hi.fine.wf hi.fine.bd (by omega) d (by omega)
  clear hl hi hsc hn hlr hA
  go_enter Tryz.func60,Tryz.ntmps60
  go_wp2_with fail
  refine HM.mono ?_
  rintro e w1 ⟨a1,cap1,rfl,hr1,hb1⟩
  clear HM
  obtain ⟨g1,o1,y,rfl,hg1,hy,hc1⟩:=hr1.at 0 (by simp)
  obtain rfl : x = y:=by simpa using hy
  have k0:=hc1 0 _ rfl
  have k1:=hc1 1 _ rfl
  simp only [Nat.zero_mul,Nat.add_zero] at k0 k1
  have e0:=(hb1.cell (p:=⟨g,0,none⟩) hgl).trans c0
  simp only [List.length_cons] at hr1 ⊢
  obtain ⟨K,hK⟩ : ∃ K,k.length = K:=⟨_,rfl⟩
  rw [hK]
  clear hc1 hr1 hy c0
  go_wp2_with fail
  go_quiet (fail)
  have hbq:=below_drewN hb1 nq
  generalize w1.drewN nq = wq at *
  go_wp2_with fail
  refine (HR.out _ hbq).mono ?_
  rintro e w2 ⟨g2,rfl,hA2,hb2⟩
  go_wp2_with fail
  go_ret
  exact ⟨g2,_,rfl,hA2,HB.out,hbq.trans (hb2.mono hbq.size)⟩
theorem meetL_len (lo hi : Int) (l : List (Int × Int)) : (meetL lo hi l).length≤l.length:=List.length_filter_le _ _
set_option maxHeartbeats 4000000 in
theorem bumped_leaf {w : World} {rs : List Int} {h st : Int} {g f : Nat} {a : Option Addr} {m cap : Nat} {l : List (Int × Int)} (hA : At w (.leaf rs h st) g) (hi : Bin (.leaf rs h st) f l) (hl : Rw pieceV 2 w a m cap l) (hm : m≤4294967296) (d : Int) (hd : -1≤d∧d≤1) {x : Int × Int} {k : List (Int × Int)} (hn : meetL f ((f : Int) + rs.length) l = x :: k) (hw : ¬ (x.1≤f∧(f : Int) + rs.length≤x.2)) :
    Calls Tryz.prog 60 #[.pointer (some ⟨g,0,none⟩),.int .i64 (f : Int),.slice a m cap,.int .i64 d] w fun e w'=>∃ g' t',e = .returned (.pointer (some ⟨g',0,none⟩))∧At w' t' g'∧Bout (.leaf rs h st) f l d t'∧Below w.heap.size w w':=by
  have hrl : (Tr.leaf rs h st).row.length = rs.length:=by simp [Tr.row]
  have hlen:=hi.len
  rw [hrl] at hlen
  obtain ⟨c0,c1,c2,c3,c4,c5,c6,c7,c8,c9⟩:=hA.ten
  have hgl:=hA.lt
  have hcs : (Tr.leaf rs h st).sm.cells = ((rs.length : Nat) : Int):=rfl
  have h32 : rs.length≤32:=hi.pcs.few (rs,h) (by simp [Tr.lv])
  have HIP:=smIsPiece_any (Tr.leaf rs h st).sm
  rw [Tr.sm_high_leaf] at HIP
  have u0 : IntKind.i64.wrap ((f : Int) + (Tr.leaf rs h st).sm.cells) = (f : Int) + (Tr.leaf rs h st).sm.cells:=IntWalk.i64_in _ (by rw [hcs]; omega)
  have HM:=meeting_list hl hm hi.srt (f : Int) ((f : Int) + rs.length) (by omega)
  have hll:=hl.len
  have hml:=meetL_len (f : Int) ((f : Int) + rs.length) l
  have hlim : Lim (h + d):=by
    obtain ⟨y,t,e⟩:=List.exists_cons_of_ne_nil hi.fine.wf
    have:=hi.cnt (y,h) (by simp [Tr.row,e])
    simp only at this
    unfold Lim
    omega
  have hpos : 0 < rs.length:=List.length_pos_iff.2 hi.fine.wf
  have hms:=hi.srt.meet (f : Int) ((f : Int) + rs.length)
  have hmm : ∀ x ∈ meetL (f : Int) ((f : Int) + rs.length) l,(f : Int) < x.2∧x.1 < (f : Int) + rs.length:=fun x hx=>(meetL_mem hx).2
  have HP : Hid (∀ (W : World) (b : Option Addr) (cb : Nat),Below w.heap.size w W→Rw pieceV 2 W b (meetL (f : Int) ((f : Int) + rs.length) l).length cb (meetL (f : Int) ((f : Int) + rs.length) l)→Calls Tryz.prog 99 #[.pointer (some ⟨g,0,none⟩),.int .i64 (f : Int),.slice b (meetL (f : Int) ((f : Int) + rs.length) l).length cb,.int .i64 d] W fun e w'=>∃ g' t',e = .returned (.pointer (some ⟨g',0,none⟩))∧At w' t' g'∧Bout (.leaf rs h st) f l d t'∧Below W.heap.size W w'):=fun W b cb hW hb=>by
    refine (bumpedParts_any (hA.below hW) hi.fine h32 hb (by omega) f (by omega) d hd hlim hms hmm (fun x hx=>hi.bd x (meetL_mem hx).1)).mono ?_
    rintro e w' ⟨g',t',rfl,hA',hC,hP,hr,hB⟩
    have hrow : rowOf t'.lv = bmp l d f (Tr.leaf rs h st).row:=by
      rw [hr,rowB_bmp rs h f d _ 0 hms hmm (fun _ _=>Nat.zero_le _) (Nat.zero_le _)]
      simp only [List.drop_zero,Int.natCast_zero,Int.add_zero]
      exact bmp_congr _ _ fun q q1 q2=>inL_meet l q1 (by simpa using q2)
    refine ⟨g',t',rfl,hA',⟨hC.resolve_left ?_,hP,by rw [Tr.row_lv]; exact hrow⟩,hB⟩
    rintro rfl
    have:=congrArg List.length hrow
    rw [bmp_len] at this
    simp [Tr.lv,rowOf,Tr.row] at this
    omega
  rw [hn] at HM HP
  simp only [List.length_cons] at HM HP
  obtain ⟨K,hK⟩ : ∃ K,k.length = K:=⟨_,rfl⟩
  rw [hK] at HM HP
  clear hms hmm hlim hml hll hi hl h32 hrl hn
  rw [← hcs] at HM hw
  generalize Tr.leaf rs h st = lf at *
  have HC : (decide (x.1≤(f : Int)) = true∧decide ((f : Int) + lf.sm.cells≤x.2) = false) ∨ decide (x.1≤(f : Int)) = false:=by simp only [decide_eq_true_eq,decide_eq_false_iff_not]; omega
  clear hw
  rcases HC with ⟨hx1,hx3⟩ | hx1
  all_goals
    go_enter Tryz.func60,Tryz.ntmps60
    have HX : Hid (lf.sm.cells = (rs.length : Int)):=hcs
    clear hcs
    go_wp2_with fail
    refine HM.mono ?_
    rintro e w1 ⟨a1,cap1,rfl,hr1,hb1⟩
    clear HM
    have HR1 : Hid (Rw pieceV 2 w1 a1 (K + 1) cap1 (x :: k)):=hr1
    obtain ⟨g1,o1,y,rfl,hg1,hy,hc1⟩:=hr1.at 0 (by omega)
    obtain rfl : x = y:=by simpa using hy
    have k0:=hc1 0 _ rfl
    have k1:=hc1 1 _ rfl
    simp only [Nat.zero_mul,Nat.add_zero] at k0 k1
    have e0:=(hb1.cell (p:=⟨g,0,none⟩) hgl).trans c0
    clear hc1 hr1 hy
    go_wp2_with fail
    go_quiet (fail)
    have hbr:=below_drewN (Below.refl w1.heap.size w1) nq
    have hbq:=hb1.trans (hbr.mono hb1.size)
    generalize w1.drewN nq = wq at *
    have z0:=(hbq.cell (p:=⟨g,0,none⟩) hgl).trans c0
    have z1:=(hbq.cell (p:=⟨g,1,none⟩) hgl).trans c1
    have z2:=(hbq.cell (p:=⟨g,2,none⟩) hgl).trans c2
    have z3:=(hbq.cell (p:=⟨g,3,none⟩) hgl).trans c3
    have z4:=(hbq.cell (p:=⟨g,4,none⟩) hgl).trans c4
    have z5:=(hbq.cell (p:=⟨g,5,none⟩) hgl).trans c5
    have z6:=(hbq.cell (p:=⟨g,6,none⟩) hgl).trans c6
    have z7:=(hbq.cell (p:=⟨g,7,none⟩) hgl).trans c7
    have z8:=(hbq.cell (p:=⟨g,8,none⟩) hgl).trans c8
    have z9:=(hbq.cell (p:=⟨g,9,none⟩) hgl).trans c9
    clear k0 k1 e0 c0 c1 c2 c3 c4 c5 c6 c7 c8 c9
    go_wp2_with fail
    refine (HIP _).mono ?_
    rintro e w2 ⟨rfl,hb2⟩
    have hB2:=hbq.trans (hb2.mono hbq.size)
    have hR2:=HR1.out.below (hbr.trans (hb2.mono hbr.size))
    clear z0 z1 z2 z3 z4 z5 z6 z7 z8 z9 HIP
    go_wp2_with fail
    refine (HP.out _ _ _ hB2 hR2).mono ?_
    rintro e w3 ⟨g3,t3,rfl,hA3,hB3,hb3⟩
    go_wp2_with fail
    go_ret
    exact ⟨g3,t3,rfl,hA3,hB3,hB2.trans (hb3.mono hB2.size)⟩
end Go.Proofs.YtijpfbcippijoaaGreatDoor

namespace Go.Proofs.YtijpfbcippijoaaGreatDoor
open Go.RowKit Go.Lib
set_option maxRecDepth 100000
theorem run_eqE (n : Nat) (w : World) (a b c d : Int) : (Op.equalIn (n + 1 + 1) 92 (.agg #[.int .i64 a,.int .i64 b]) (.agg #[.int .i64 c,.int .i64 d])).run Tryz.prog w = .ok (a == c && b == d) w:=by
  rw [Op.equalIn]
  simp only [Sem.run_bind,run_underlying Tryz.underlying92,Result.andThen_ok]
  simp [Go.part,Tryz.isAgg3,Tryz.sizeOf3,run_equalIn_int w _ _ _ _ _ _ Tryz.underlying3,Sem.run_bind,Result.andThen_ok,Sem.run_ite]
  by_cases h1 : a = c <;> by_cases h2 : b = d <;> simp [h1,h2]
set_option maxHeartbeats 2000000 in
theorem run_eqS (w : World) (a0 a1 a2 a3 a4 a5 a6 a7 a8 a9 b0 b1 b2 b3 b4 b5 b6 b7 b8 b9 : Int) : (Op.equalIn 10000 94 (.agg #[.int .i64 a0,.int .i64 a1,.int .i64 a2,.int .i64 a3,.int .i64 a4,.int .i64 a5,.int .i64 a6,.int .i64 a7,.int .i64 a8,.int .i64 a9]) (.agg #[.int .i64 b0,.int .i64 b1,.int .i64 b2,.int .i64 b3,.int .i64 b4,.int .i64 b5,.int .i64 b6,.int .i64 b7,.int .i64 b8,.int .i64 b9])).run Tryz.prog w = .ok (a0 == b0 && (a1 == b1 && (a2 == b2 && (a3 == b3 && (a4 == b4 && (a5 == b5 && ((a6 == b6 && a7 == b7) && (a8 == b8 && a9 == b9)))))))) w:=by
  show (Op.equalIn (9997 + 1 + 1 + 1) _ _ _).run _ _ = _
  rw [Op.equalIn]
  simp only [Sem.run_bind,run_underlying Tryz.underlying94,Result.andThen_ok]
  simp [Go.part,Tryz.isAgg3,Tryz.sizeOf3,Tryz.isAgg92,Tryz.sizeOf92,run_eqE 9997,run_equalIn_int w _ _ _ _ _ _ Tryz.underlying3,Sem.run_bind,Result.andThen_ok,Sem.run_ite]
  repeat' split
  all_goals simp_all
theorem run_eqSm (s t : Sm) : ∃ b : Bool,(b = true ↔ s = t)∧∀ w : World,(Op.equalIn 10000 94 (.agg #[.int .i64 s.cells,.int .i64 s.pieces,.int .i64 s.high,.int .i64 s.least,.int .i64 s.most,.int .i64 s.lowest,.int .i64 s.fc,.int .i64 s.fh,.int .i64 s.lc,.int .i64 s.lh]) (.agg #[.int .i64 t.cells,.int .i64 t.pieces,.int .i64 t.high,.int .i64 t.least,.int .i64 t.most,.int .i64 t.lowest,.int .i64 t.fc,.int .i64 t.fh,.int .i64 t.lc,.int .i64 t.lh])).run Tryz.prog w = .ok b w:=by
  refine ⟨_,?_,fun w=>run_eqS w _ _ _ _ _ _ _ _ _ _ _ _ _ _ _ _ _ _ _ _⟩
  cases s; cases t
  simp only [Sm.mk.injEq,Bool.and_eq_true,beq_iff_eq,and_assoc]
end Go.Proofs.YtijpfbcippijoaaGreatDoor
