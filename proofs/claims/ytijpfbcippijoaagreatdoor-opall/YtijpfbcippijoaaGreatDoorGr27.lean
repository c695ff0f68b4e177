import Derived.Test.YtijpfbcippijoaaGreatDoorGr11
import Derived.Test.YtijpfbcippijoaaGreatDoorGr36
import Derived.Test.YtijpfbcippijoaaGreatDoorRsC
import Derived.Test.YtijpfbcippijoaaGreatDoorGr21
import Derived.Test.YtijpfbcippijoaaGreatDoorGr33
import Derived.Test.YtijpfbcippijoaaGreatDoorGr37
namespace Go.Proofs.YtijpfbcippijoaaGreatDoor
set_option maxRecDepth 100000
end Go.Proofs.YtijpfbcippijoaaGreatDoor

namespace Go.Proofs.YtijpfbcippijoaaGreatDoor
set_option maxRecDepth 100000
def Alt : List (List Int × Int)→Prop
  | []=>True
  | [_]=>True
  | p :: q :: t=>p.2 ≠ q.2∧Alt (q :: t)
theorem alt_snoc : ∀ (l : List (List Int × Int)) (q : List Int × Int),Alt (l ++ [q]) ↔ Alt l∧∀ p,l.getLast? = some p→p.2 ≠ q.2
  | [],q=>by simp [Alt]
  | [p],q=>by simp [Alt]
  | p :: r :: t,q=>by
    have ih:=alt_snoc (r :: t) q
    show (p.2 ≠ r.2∧Alt ((r :: t) ++ [q])) ↔ _
    rw [ih]
    simp only [Alt,List.getLast?_cons_cons]
    constructor
    · rintro ⟨a,b,c⟩; exact ⟨⟨a,b⟩,c⟩
    · rintro ⟨⟨a,b⟩,c⟩; exact ⟨a,b,c⟩
theorem alt_of : ∀ {l : List (List Int × Int)},(∀ (j : Nat) x y,l[j]? = some x→l[j + 1]? = some y→x.2 ≠ y.2)→Alt l
  | [],_=>trivial
  | [_],_=>trivial
  | p :: q :: t,h=>⟨h 0 p q rfl rfl,alt_of fun j x y hx hy=>h (j + 1) x y (by simpa using hx) (by simpa using hy)⟩
def fin (s : RunSt) : List (List Int × Int):=if s.2.1 = [] then s.1 else s.1 ++ [(s.2.1,s.2.2)]
theorem runs_fin (R : List (Int × Int)) : runsOfRow R = fin (cstR R):=rfl
structure FinOk (s : RunSt) : Prop where
  none_ : s.2.1 = []→s.1 = []
  some_ : ∀ p ∈ fin s,p.1 ≠ []
  alt : Alt (fin s)
theorem fin_cst {s : RunSt} (h : FinOk s) (c : Int × Int) : FinOk (cst s c)∧rowOf (fin (cst s c)) = rowOf (fin s) ++ [c]:=by
  obtain ⟨D,cur,k⟩:=s
  have r1 : ∀ (l : List Int) (k : Int),rowOf [(l,k)] = l.map fun c=>(c,k):=fun l k=>by simp [rowOf]
  by_cases h0 : cur = []
  · subst h0
    have hD:=h.none_ rfl
    simp only at hD
    subst hD
    have e : cst ([],[],k) c = ([],[c.1],c.2):=by unfold cst; rw [if_neg (by simp)]; rfl
    rw [e]
    refine ⟨⟨fun e=>by simp at e,fun p hp=>?_,?_⟩,?_⟩
    · simp [fin] at hp; subst hp; simp
    · simp [fin,Alt]
    · simp [fin,rowOf]
  · have hf : fin (D,cur,k) = D ++ [(cur,k)]:=by unfold fin; rw [if_neg h0]
    have hs:=h.some_
    have ha:=h.alt
    rw [hf] at hs ha ⊢
    by_cases h1 : c.2 = k
    · have e : cst (D,cur,k) c = (D,cur ++ [c.1],c.2):=by unfold cst; rw [if_neg (by simp [h1])]
      have hf2 : fin (D,cur ++ [c.1],c.2) = D ++ [(cur ++ [c.1],c.2)]:=by unfold fin; rw [if_neg (by simp)]
      rw [e]
      refine ⟨⟨fun e=>by simp at e,fun p hp=>?_,?_⟩,?_⟩
      · rw [hf2] at hp
        rcases List.mem_append.1 hp with hp | hp
        · exact hs p (List.mem_append_left _ hp)
        · simp at hp; subst hp; simp
      · rw [hf2,alt_snoc]
        rw [alt_snoc] at ha
        exact ⟨ha.1,fun p hp=>by rw [h1]; exact ha.2 p hp⟩
      · rw [hf2,rowOf_append,rowOf_append,r1,r1,List.map_append,h1]
        simp [← h1]
    · have e : cst (D,cur,k) c = (D ++ [(cur,k)],[c.1],c.2):=by unfold cst; rw [if_pos ⟨h0,h1⟩]
      have hf2 : fin (D ++ [(cur,k)],[c.1],c.2) = D ++ [(cur,k)] ++ [([c.1],c.2)]:=by unfold fin; rw [if_neg (by simp)]
      rw [e]
      refine ⟨⟨fun e=>by simp at e,fun p hp=>?_,?_⟩,?_⟩
      · rw [hf2] at hp
        rcases List.mem_append.1 hp with hp | hp
        · exact hs p hp
        · simp at hp; subst hp; simp
      · rw [hf2,alt_snoc]
        refine ⟨ha,fun p hp=>?_⟩
        rw [List.getLast?_append] at hp
        simp at hp
        subst hp
        exact fun e=>h1 e.symm
      · rw [hf2,rowOf_append,r1]
        simp
theorem fin_all : ∀ (R : List (Int × Int)) {s : RunSt},FinOk s→FinOk (R.foldl cst s)∧rowOf (fin (R.foldl cst s)) = rowOf (fin s) ++ R
  | [],s,h=>⟨h,by simp⟩
  | c :: R,s,h=>by
    obtain ⟨h1,h2⟩:=fin_cst h c
    obtain ⟨h3,h4⟩:=fin_all R h1
    exact ⟨h3,by rw [List.foldl_cons,h4,h2]; simp⟩
theorem fin_nil : FinOk ([],[],0):=⟨fun _=>rfl,fun p hp=>by simp [fin] at hp,trivial⟩
theorem runs_row (R : List (Int × Int)) : rowOf (runsOfRow R) = R:=by
  rw [runs_fin]
  exact (fin_all R fin_nil).2
theorem runs_some (R : List (Int × Int)) : ∀ p ∈ runsOfRow R,p.1 ≠ []:=by
  rw [runs_fin]
  exact (fin_all R fin_nil).1.some_
theorem stp_fin : ∀ (l : List (List Int × Int)) (f : Int) (s : RunSt),(∀ p ∈ l,p.1 ≠ [])→0 < f→s.2.1 ≠ []→Alt ((s.2.1,s.2.2) :: l)→fin ((pls l f).foldl stp s) = fin s ++ l
  | [],_,_,_,_,_,_=>by simp [pls]
  | p :: t,f,s,hp,h0,hs,ha=>by
    have hne:=hp p (by simp)
    have e : stp s (f,p.1,p.2) = (s.1 ++ [(s.2.1,s.2.2)],p.1,p.2):=by unfold stp; rw [if_pos ⟨h0,fun e=>ha.1 e.symm⟩]
    rw [pls,List.foldl_cons,e,stp_fin t _ _ (fun q hq=>hp q (by simp [hq])) (by omega) hne ha.2]
    unfold fin
    rw [if_neg hne,if_neg hs]
    simp
theorem runs_of {l : List (List Int × Int)} (hp : ∀ p ∈ l,p.1 ≠ []) (ha : Alt l) : runsOfRow (rowOf l) = l:=by
  cases l with
  | nil=>simp [runsOfRow,cstR,rowOf]
  | cons p t =>
    have hne:=hp p (by simp)
    have hpos:=List.length_pos_iff.2 hne
    have e0 : cstR (rowOf (p :: t)) = (pls (p :: t) 0).foldl stp ([],[],0):=(stp_cells (p :: t) 0 ([],[],0) hp (Int.le_refl _) (by simp)).symm
    have e1 : stp ([],[],0) (0,p.1,p.2) = ([],p.1,p.2):=by unfold stp; rw [if_neg (by simp)]; rfl
    rw [pls,List.foldl_cons,e1] at e0
    rw [runs_fin,e0,stp_fin t _ _ (fun q hq=>hp q (by simp [hq])) (by omega) hne ha]
    unfold fin
    rw [if_neg hne]
    rfl
end Go.Proofs.YtijpfbcippijoaaGreatDoor

namespace Go.Proofs.YtijpfbcippijoaaGreatDoor
open Go.RowKit Go.Lib
set_option maxRecDepth 100000
end Go.Proofs.YtijpfbcippijoaaGreatDoor

namespace Go.Proofs.YtijpfbcippijoaaGreatDoor
open Go.RowKit Go.Lib
set_option maxRecDepth 100000
end Go.Proofs.YtijpfbcippijoaaGreatDoor

namespace Go.Proofs.YtijpfbcippijoaaGreatDoor
open Go.RowKit Go.Lib
set_option maxRecDepth 100000
def rowRuns (R : List (Int × Int)) : List GRun:=(runsOfRow R).map gr
theorem rowRuns_same {L : List GRun} (hF : FromOk L) : rowRuns (cellsOf L) = L:=by
  have e : cellsOf L = rowOf (L.map fun x=>(x.rs,x.h)):=by simp [cellsOf,rowOf,List.flatMap_map]
  unfold rowRuns
  rw [e,runs_of (fun p hp=>by obtain ⟨x,hx,rfl⟩:=List.mem_map.1 hp; exact hF.some_ x hx) (alt_of fun j x y hx hy=>by
    rw [List.getElem?_map,Option.map_eq_some_iff] at hx hy
    obtain ⟨p,hp,rfl⟩:=hx
    obtain ⟨p2,hp2,rfl⟩:=hy
    exact hF.apart j p p2 hp hp2),List.map_map]
  conv=>rhs; rw [← List.map_id L]
  refine List.map_congr_left fun x hx=>?_
  have:=tx_eq (hF.text x hx).bytes
  obtain ⟨s,rs,k⟩:=x
  simp only at this
  simp [gr,this]
theorem rowRuns_len (R : List (Int × Int)) : (rowRuns R).length≤R.length:=by
  have h1:=runs_some R
  have h2 : ∀ l : List (List Int × Int),(∀ p ∈ l,p.1 ≠ [])→l.length≤(rowOf l).length:=fun l=>by
    induction l with
    | nil=>intro _; exact Nat.le_refl _
    | cons p t ih =>
      intro h
      have h3:=ih fun q hq=>h q (by simp [hq])
      have h4:=List.length_pos_iff.2 (h p (by simp))
      rw [rowOf_cons,List.length_append,List.length_map,List.length_cons]
      omega
  have h3:=h2 _ h1
  rw [runs_row] at h3
  unfold rowRuns
  rw [List.length_map]
  exact h3
theorem Holds.runsR {w2 : World} {q : Nat} {R : List (Int × Int)} {W : World} (h : Holds w2 q R W) (ho : ∀ c ∈ R,okR c.1) : Calls Tryz.prog 13 #[.pointer (some ⟨q,0,none⟩)] W fun e W'=>∃ a cap,e = .returned (.slice a (rowRuns R).length cap)∧Rw runV 2 W' a (rowRuns R).length cap (rowRuns R)∧Holds w2 q R W'∧Below W.heap.size W W':=by
  have h':=h
  obtain ⟨t,k1,k2,rfl,k3⟩:=h
  refine (ropeRuns_any k1 k2 (okl_row ho)).mono fun e W' ⟨v,he,hw,hb⟩=>?_
  obtain ⟨a,cap,rfl⟩:=hw.shape
  exact ⟨a,cap,he,hw.rw_ layR,h'.still hb,hb⟩
end Go.Proofs.YtijpfbcippijoaaGreatDoor

namespace Go.Proofs.YtijpfbcippijoaaGreatDoor
open Go.RowKit Go.Lib
set_option maxRecDepth 100000
theorem norm_low : ∀ {l : List (Int × Int)} {b : Int},Sp.Norm b l→∀ x ∈ l,b < x.1
  | [],_,_,x,hx=>(by cases hx)
  | y :: l,b,h,x,hx=>by
    rcases List.mem_cons.1 hx with rfl | hx
    · exact h.1
    · have:=norm_low h.2.2 x hx
      have h2:=h.2.1
      have h1:=h.1
      omega
theorem srt_norm : ∀ {l : List (Int × Int)} {b : Int},Sp.Norm b l→Srt l
  | [],_,_=>⟨fun x hx=>(by cases hx),fun i j x y _ hx=>(by simp at hx)⟩
  | y :: l,b,h=>by
    have ih:=srt_norm h.2.2
    refine ⟨fun x hx=>?_,fun i j x z hij hx hz=>?_⟩
    · rcases List.mem_cons.1 hx with rfl | hx
      · exact h.2.1
      · exact ih.some_ x hx
    · cases i with
      | zero =>
        simp at hx
        subst hx
        cases j with
        | zero=>omega
        | succ j =>
          simp at hz
          exact norm_low h.2.2 z (List.mem_of_getElem? hz)
      | succ i =>
        cases j with
        | zero=>omega
        | succ j=>exact ih.apart i j x z (by omega) (by simpa using hx) (by simpa using hz)
theorem srt_last {l : List (Int × Int)} (hs : Srt l) {x : Int × Int} (hx : x ∈ l) : x.2≤lastHi l:=by
  have hpos : 0 < l.length:=List.length_pos_of_mem hx
  obtain ⟨j,hj⟩:=List.getElem?_of_mem hx
  have hjl:=(List.getElem?_eq_some_iff.1 hj).1
  have hl : l[l.length - 1]? = some l[l.length - 1]:=List.getElem?_eq_getElem (by omega)
  have e : lastHi l = l[l.length - 1].2:=by
    unfold lastHi
    rw [List.getD_eq_getElem?_getD,hl]
    rfl
  rw [e]
  by_cases h : j = l.length - 1
  · subst h
    rw [hl] at hj
    injection hj with hj
    rw [hj]
    exact Int.le_refl _
  · have h1:=hs.apart j (l.length - 1) x _ (by omega) hj hl
    have h2:=hs.some_ _ (List.getElem_mem (show l.length - 1 < l.length by omega))
    omega
theorem ck_ins_of {o : OpV} {N : Nat} (h : opCheck o (N : Int) = 0) (hk : o.k = 1) : ∃ (m : Nat) (rs : List Int),o.p = (m : Int)∧m≤N∧IsText o.s rs∧rs ≠ []∧rs.length≤256∧N + rs.length≤1048576:=by
  obtain ⟨_,_,_,_,_,h1,_⟩:=opCheck_zero h
  obtain ⟨p0,p1,e0,e1,e2,e3⟩:=insP_code _ _ (h1 hk)
  rcases check_split o.s with ⟨rs,hb,hr,hc⟩ | hbad
  · rw [hc] at e1 e2 e3
    simp only at e1 e2 e3
    exact ⟨o.p.toNat,rs,by omega,by omega,⟨hb,hr⟩,fun e=>by rw [e] at e1; simp at e1,by omega,by omega⟩
  · exfalso
    obtain ⟨rs,rest,hb,hr,hx,hc⟩:=hbad
    rw [hc] at e1
    exact e1 rfl
theorem ck_rng_of {o : OpV} {N : Nat} (h : opCheck o (N : Int) = 0) (hk : o.k = 2 ∨ o.k = 3) : o.l ≠ []∧Srt o.l∧(∀ x ∈ o.l,0≤x.1∧x.2≤(N : Int))∧o.l.length≤32768:=by
  obtain ⟨_,_,_,_,_,_,h1,_⟩:=opCheck_zero h
  have h2:=h1 hk
  unfold rngP at h2
  split at h2
  · cases h2
  rename_i hn
  split at h2
  · rename_i hc; exact absurd h2 hc
  rename_i hc
  split at h2
  · cases h2
  rename_i hl
  have hL:=Sp.checkL_ok (by simpa using hc)
  have hs:=srt_norm hL.norm
  refine ⟨hn,hs,fun x hx=>?_,hL.few⟩
  have h3:=hL.nonneg x hx
  have h4:=srt_last hs hx
  omega
theorem apply_above {w2 : World} {q : Nat} {R : List (Int × Int)} {W : World} (h : Holds w2 q R W) (hBar : Bar w2) {c n p : Int} {s : ByteArray} {l : List (Int × Int)} {tc tn : Int} {on : Bool} {a : Option Addr} {m cap : Nat} (hl : Sp.Rng W a m cap l) (hs : s.size≤9223372036854775807) (hok : opCheck ⟨c,n,2,p,s,l,tc,tn,on⟩ (R.length : Int) = 0) (hout : ∃ c ∈ bmp l (1) 0 R,1048576 < c.2) :
    Calls Tryz.prog 11 #[.pointer (some ⟨q,0,none⟩),opVal ⟨c,n,2,p,s,l,tc,tn,on⟩ (.slice a m cap)] W fun e W'=>e = .returned (.int .i64 31)∧Below W.heap.size W W':=by
  obtain ⟨_,hsr,hbd,hfew⟩:=ck_rng_of hok (by simp)
  have hml:=hl.len
  refine (apply_hide_to h hl hs hBar hok (Q:=fun x W'=>x = 31∧Below W.heap.size W W') fun W1 hb=>?_).mono ?_
  · obtain ⟨t,k1,k2,rfl,k3⟩:=h
    exact (bump_above (k1.below hb) k2 ((rw_piece hl).below hb) (by simp only at hfew; omega) hsr hbd hout).mono fun e W' ⟨he,hb2⟩=>⟨31,he,rfl,hb.trans (hb2.mono hb.size)⟩
  · rintro e W' ⟨x,rfl,rfl,h1⟩
    exact ⟨rfl,h1⟩
theorem apply_aboveOk {w2 : World} {q : Nat} {R : List (Int × Int)} {W : World} (h : Holds w2 q R W) (hq : w2.heap.size≤q) (hBar : Bar w2) {c n p : Int} {s : ByteArray} {l : List (Int × Int)} {tc tn : Int} {on : Bool} {a : Option Addr} {m cap : Nat} (hl : Sp.Rng W a m cap l) (hs : s.size≤9223372036854775807) (hok : opCheck ⟨c,n,2,p,s,l,tc,tn,on⟩ (R.length : Int) = 0) (hin : ∀ c ∈ bmp l (1) 0 R,0≤c.2∧c.2≤1048576) :
    Calls Tryz.prog 11 #[.pointer (some ⟨q,0,none⟩),opVal ⟨c,n,2,p,s,l,tc,tn,on⟩ (.slice a m cap)] W fun e W'=>e = .returned (.int .i64 0)∧Holds w2 q (bmp l (1) 0 R) W'∧Upd q W W':=by
  obtain ⟨_,hsr,hbd,hfew⟩:=ck_rng_of hok (by simp)
  have hml:=hl.len
  refine (apply_hide_to h hl hs hBar hok (Q:=fun x W'=>x = 0∧Holds w2 q (bmp l (1) 0 R) W'∧Upd q W W') fun W1 hb1=>?_).mono ?_
  · exact ((h.still hb1).bumpU hq ((rw_piece hl).below hb1) (by simp only at hfew; omega) hsr hbd (1) (by simp) hin).mono fun e W' ⟨he,h1,h2⟩=>⟨0,he,rfl,h1,(Upd.ofBelow hb1).trans h2⟩
  · rintro e W' ⟨x,rfl,rfl,h1,h2⟩
    exact ⟨rfl,h1,h2⟩
theorem apply_below {w2 : World} {q : Nat} {R : List (Int × Int)} {W : World} (h : Holds w2 q R W) (hBar : Bar w2) {c n p : Int} {s : ByteArray} {l : List (Int × Int)} {tc tn : Int} {on : Bool} {a : Option Addr} {m cap : Nat} (hl : Sp.Rng W a m cap l) (hs : s.size≤9223372036854775807) (hok : opCheck ⟨c,n,3,p,s,l,tc,tn,on⟩ (R.length : Int) = 0) (hout : ∃ c ∈ bmp l (-1) 0 R,c.2 < 0) :
    Calls Tryz.prog 11 #[.pointer (some ⟨q,0,none⟩),opVal ⟨c,n,3,p,s,l,tc,tn,on⟩ (.slice a m cap)] W fun e W'=>e = .returned (.int .i64 30)∧Below W.heap.size W W':=by
  obtain ⟨_,hsr,hbd,hfew⟩:=ck_rng_of hok (by simp)
  have hml:=hl.len
  refine (apply_show_to h hl hs hBar hok (Q:=fun x W'=>x = 30∧Below W.heap.size W W') fun W1 hb=>?_).mono ?_
  · obtain ⟨t,k1,k2,rfl,k3⟩:=h
    exact (bump_below (k1.below hb) k2 ((rw_piece hl).below hb) (by simp only at hfew; omega) hsr hbd hout).mono fun e W' ⟨he,hb2⟩=>⟨30,he,rfl,hb.trans (hb2.mono hb.size)⟩
  · rintro e W' ⟨x,rfl,rfl,h1⟩
    exact ⟨rfl,h1⟩
theorem apply_belowOk {w2 : World} {q : Nat} {R : List (Int × Int)} {W : World} (h : Holds w2 q R W) (hq : w2.heap.size≤q) (hBar : Bar w2) {c n p : Int} {s : ByteArray} {l : List (Int × Int)} {tc tn : Int} {on : Bool} {a : Option Addr} {m cap : Nat} (hl : Sp.Rng W a m cap l) (hs : s.size≤9223372036854775807) (hok : opCheck ⟨c,n,3,p,s,l,tc,tn,on⟩ (R.length : Int) = 0) (hin : ∀ c ∈ bmp l (-1) 0 R,0≤c.2∧c.2≤1048576) :
    Calls Tryz.prog 11 #[.pointer (some ⟨q,0,none⟩),opVal ⟨c,n,3,p,s,l,tc,tn,on⟩ (.slice a m cap)] W fun e W'=>e = .returned (.int .i64 0)∧Holds w2 q (bmp l (-1) 0 R) W'∧Upd q W W':=by
  obtain ⟨_,hsr,hbd,hfew⟩:=ck_rng_of hok (by simp)
  have hml:=hl.len
  refine (apply_show_to h hl hs hBar hok (Q:=fun x W'=>x = 0∧Holds w2 q (bmp l (-1) 0 R) W'∧Upd q W W') fun W1 hb1=>?_).mono ?_
  · exact ((h.still hb1).bumpU hq ((rw_piece hl).below hb1) (by simp only at hfew; omega) hsr hbd (-1) (by simp) hin).mono fun e W' ⟨he,h1,h2⟩=>⟨0,he,rfl,h1,(Upd.ofBelow hb1).trans h2⟩
  · rintro e W' ⟨x,rfl,rfl,h1,h2⟩
    exact ⟨rfl,h1,h2⟩
theorem apply_insAny {w2 : World} {q : Nat} {R : List (Int × Int)} {W : World} (h : Holds w2 q R W) (hq : w2.heap.size≤q) (hBar : Bar w2) {c n : Int} {k : Nat} {s : ByteArray} {rs : List Int} {l : List (Int × Int)} {tc tn : Int} {on : Bool} {a : Option Addr} {m cap : Nat} (hl : Sp.Rng W a m cap l) (hok : opCheck ⟨c,n,1,(k : Int),s,l,tc,tn,on⟩ (R.length : Int) = 0) (hk : k≤R.length) (ht : IsText s rs) (hne : rs ≠ []) (hle : rs.length≤256) (hN : R.length + rs.length≤1048576) :
    Calls Tryz.prog 11 #[.pointer (some ⟨q,0,none⟩),opVal ⟨c,n,1,(k : Int),s,l,tc,tn,on⟩ (.slice a m cap)] W fun e W'=>e = .returned (.int .i64 0)∧Holds w2 q (putL R k rs 0) W'∧Upd q W W':=by
  have hsz:=ht.small
  refine (apply_ins_to h hl (by omega) hBar hok (Q:=fun x W'=>x = 0∧Holds w2 q (putL R k rs 0) W'∧Upd q W W') fun W1 hb=>?_).mono ?_
  · exact ((h.still hb).insertU hq k hk ht hne 0 (Int.le_refl _) (by decide) hN hBar).mono fun e W' ⟨he,h1,h2⟩=>⟨0,he,rfl,h1,(Upd.ofBelow hb).trans h2⟩
  · rintro e W' ⟨x,rfl,rfl,h1,h2⟩
    exact ⟨rfl,h1,h2⟩
end Go.Proofs.YtijpfbcippijoaaGreatDoor
