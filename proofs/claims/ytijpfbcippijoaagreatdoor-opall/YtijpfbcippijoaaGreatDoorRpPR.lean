namespace Go.Proofs.YtijpfbcippijoaaGreatDoor
set_option maxRecDepth 100000
structure Sm where
  cells : Int
  pieces : Int
  high : Int
  least : Int
  most : Int
  lowest : Int
  fc : Int
  fh : Int
  lc : Int
  lh : Int
def Sm.raised (s : Sm) (d : Int) : Sm:=⟨s.cells,s.pieces,s.high,s.least + d,s.most + d,s.lowest,s.fc,s.fh + d,s.lc,s.lh + d⟩
def lowOf (least lowest b : Int) : Int:=if least = b then lowest else 0
def Sm.both (s t : Sm) : Sm:=⟨s.cells + t.cells,s.pieces + t.pieces,max s.high t.high + 1,min s.least t.least,max s.most t.most,lowOf s.least s.lowest (min s.least t.least) + lowOf t.least t.lowest (min s.least t.least),s.fc,s.fh,t.lc,t.lh⟩
inductive Tr where
  | nil
  | leaf (rs : List Int) (hid st : Int)
  | node (l r : Tr) (st : Int)
def pieceSm (n h : Int) : Sm:=⟨n,1,1,h,h,n,n,h,n,h⟩
def Tr.sm : Tr→Sm
  | .nil=>⟨0,0,0,0,0,0,0,0,0,0⟩
  | .leaf rs h _=>pieceSm rs.length h
  | .node l r st=>(l.sm.both r.sm).raised st
def upL (d : Int) (l : List (Int × Int)) : List (Int × Int):=l.map fun c=>(c.1,c.2 + d)
def Tr.row : Tr→List (Int × Int)
  | .nil=>[]
  | .leaf rs h _=>rs.map fun c=>(c,h)
  | .node l r st=>upL st (l.row ++ r.row)
def Tr.raise (t : Tr) (d : Int) : Tr:=match t with
  | .nil=>.nil
  | .leaf rs h st=>.leaf rs (h + d) (st + d)
  | .node l r st=>.node l r (st + d)
def Tr.Wf : Tr→Prop
  | .nil=>False
  | .leaf rs _ _=>rs ≠ []
  | .node l r _=>l.Wf∧r.Wf
theorem upL_zero (l : List (Int × Int)) : upL 0 l = l:=by
  unfold upL
  rw [List.map_congr_left (g:=id) (fun c _=>by simp)]
  simp
theorem upL_upL (a b : Int) (l : List (Int × Int)) : upL a (upL b l) = upL (b + a) l:=by
  unfold upL
  rw [List.map_map]
  exact List.map_congr_left fun c _=>by simp [Int.add_assoc]
theorem upL_length (a : Int) (l : List (Int × Int)) : (upL a l).length = l.length:=by simp [upL]
theorem upL_append (a : Int) (l k : List (Int × Int)) : upL a (l ++ k) = upL a l ++ upL a k:=by simp [upL]
theorem Tr.row_raise (t : Tr) (d : Int) : (t.raise d).row = upL d t.row:=by
  cases t with
  | nil=>rfl
  | leaf rs h st=>simp [Tr.raise,Tr.row,upL]
  | node l r st=>simp only [Tr.raise,Tr.row]; rw [upL_upL]
theorem Tr.sm_raise (t : Tr) (h : t.Wf) (d : Int) : (t.raise d).sm = t.sm.raised d:=by
  cases t with
  | nil=>exact h.elim
  | leaf rs h st=>rfl
  | node l r st=>simp [Tr.raise,Tr.sm,Sm.raised,Int.add_assoc]
theorem Tr.wf_raise (t : Tr) (h : t.Wf) (d : Int) : (t.raise d).Wf:=by cases t <;> exact h
theorem Tr.raise_zero (t : Tr) : t.raise 0 = t:=by cases t <;> simp [Tr.raise]
theorem Tr.sm_cells : ∀ t : Tr,t.sm.cells = t.row.length
  | .nil=>rfl
  | .leaf rs h st=>by simp [Tr.sm,Tr.row,pieceSm]
  | .node l r st=>by
    have h1:=Tr.sm_cells l
    have h2:=Tr.sm_cells r
    simp only [Tr.sm,Tr.row,Sm.raised,Sm.both,upL_length,List.length_append]
    omega
theorem Tr.Wf.pos {t : Tr} (h : t.Wf) : 0 < t.row.length:=by
  induction t with
  | nil=>exact h.elim
  | leaf rs hid st=>simp only [Tr.row,List.length_map]; exact List.length_pos_iff.2 h
  | node l r st ihl ihr=>simp only [Tr.row,upL_length,List.length_append]; have:=ihl h.1; omega
theorem Tr.sm_high_leaf (rs : List Int) (h st : Int) : (Tr.leaf rs h st).sm.high = 1:=rfl
theorem Tr.Wf.high_pos {t : Tr} (h : t.Wf) : 1≤t.sm.high:=by
  induction t with
  | nil=>exact h.elim
  | leaf rs hid st=>exact Int.le_refl _
  | node l r st ihl ihr=>have:=ihl h.1; simp only [Tr.sm,Sm.raised,Sm.both]; omega
theorem Tr.Wf.high_node {l r : Tr} {st : Int} (h : (Tr.node l r st).Wf) : 2≤(Tr.node l r st).sm.high:=by
  have:=Tr.Wf.high_pos h.1
  simp only [Tr.sm,Sm.raised,Sm.both]; omega
def cnt (b : Int) (l : List (Int × Int)) : Nat:=l.countP fun c=>c.2 = b
theorem mem_upL {d : Int} {l : List (Int × Int)} {c : Int × Int} : c ∈ upL d l ↔ (c.1,c.2 - d) ∈ l:=by
  unfold upL
  rw [List.mem_map]
  constructor
  · rintro ⟨x,hx,rfl⟩
    have e : ((x.1,x.2 + d).1,(x.1,x.2 + d).2 - d) = x:=by cases x; simp
    rw [e]; exact hx
  · intro h
    exact ⟨_,h,by cases c; simp⟩
def Nonneg (l : List (Int × Int)) : Prop:=∀ c ∈ l,0≤c.2
def Tr.Ok (t : Tr) : Prop:=t = .nil ∨ t.Wf
theorem Tr.row_node (l r : Tr) (st : Int) : (Tr.node l r st).row = (l.raise st).row ++ (r.raise st).row:=by
  simp only [Tr.row_raise,Tr.row,upL_append]
theorem Tr.sm_node {l r : Tr} (hl : l.Wf) (hr : r.Wf) (st : Int) : (Tr.node l r st).sm = (l.raise st).sm.both (r.raise st).sm:=by
  rw [Tr.sm_raise l hl,Tr.sm_raise r hr]
  simp only [Tr.sm,Sm.raised,Sm.both,Sm.mk.injEq,true_and,and_true]
  unfold lowOf
  refine ⟨by omega,by omega,?_⟩
  congr 1 <;> (split <;> split <;> first | rfl | omega)
end Go.Proofs.YtijpfbcippijoaaGreatDoor

namespace Go.Proofs.YtijpfbcippijoaaGreatDoor
set_option maxRecDepth 100000
def Lim (x : Int) : Prop:=-2≤x∧x≤1048578
def LimR (l : List (Int × Int)) : Prop:=∀ c ∈ l,Lim c.2
theorem LimR.left {l k : List (Int × Int)} (h : LimR (l ++ k)) : LimR l:=fun c hc=>h c (List.mem_append_left _ hc)
theorem LimR.right {l k : List (Int × Int)} (h : LimR (l ++ k)) : LimR k:=fun c hc=>h c (List.mem_append_right _ hc)
theorem LimR.append {l k : List (Int × Int)} (h : LimR l) (g : LimR k) : LimR (l ++ k):=fun c hc=>(List.mem_append.1 hc).elim (h c) (g c)
def Tr.Bd : Tr→Prop
  | .nil=>True
  | .leaf _ h st=>Lim h∧Lim (h - st)
  | .node l r st=>l.Bd∧r.Bd∧LimR (Tr.node l r st).row
theorem Tr.Bd.row {t : Tr} (h : t.Bd) : LimR t.row:=by
  cases t with
  | nil=>intro c hc; cases hc
  | leaf rs hid st =>
    intro c hc
    obtain ⟨x,_,rfl⟩:=List.mem_map.1 hc
    exact h.1
  | node l r st=>exact h.2.2
theorem Tr.Bd.raise {t : Tr} (hw : t.Wf) (h : t.Bd) (d : Int) (hl : LimR (t.raise d).row) : (t.raise d).Bd:=by
  cases t with
  | nil=>exact hw.elim
  | leaf rs hid st =>
    refine ⟨?_,?_⟩
    · obtain ⟨x,tl,rfl⟩:=List.exists_cons_of_ne_nil hw
      exact hl (x,hid + d) (by simp [Tr.raise,Tr.row])
    · show Lim (hid + d - (st + d))
      rw [show hid + d - (st + d) = hid - st by omega]
      exact h.2
  | node l r st=>exact ⟨h.1,h.2.1,hl⟩
theorem Tr.Bd.sides {l r : Tr} {st : Int} (hw : (Tr.node l r st).Wf) (h : (Tr.node l r st).Bd) : (l.raise st).Bd∧(r.raise st).Bd:=by
  have hr:=h.2.2
  rw [Tr.row_node] at hr
  exact ⟨h.1.raise hw.1 st hr.left,h.2.1.raise hw.2 st hr.right⟩
theorem Tr.Bd.still {l r : Tr} {st : Int} (hw : (Tr.node l r st).Wf) (h : (Tr.node l r st).Bd) : -1048600≤st∧st≤1048600:=by
  have hp:=hw.1.pos
  obtain ⟨c,hc⟩:=List.exists_mem_of_length_pos hp
  have h1:=h.1.row c hc
  have h2:=h.2.2 (c.1,c.2 + st) (by simp only [Tr.row]; rw [mem_upL]; simp; exact .inl hc)
  unfold Lim at h1 h2
  simp only at h2
  omega
theorem Tr.Bd.leafStill {rs : List Int} {hid st : Int} (h : (Tr.leaf rs hid st).Bd) : -1048600≤st∧st≤1048600:=by
  have h1:=h.1
  have h2:=h.2
  unfold Lim at h1 h2
  omega
structure SmIn (s : Sm) (l : List (Int × Int)) : Prop where
  least : ∃ c ∈ l,c.2 = s.least
  most : ∃ c ∈ l,c.2 = s.most
  fh : ∃ c ∈ l,c.2 = s.fh
  lh : ∃ c ∈ l,c.2 = s.lh
  pieces : 1≤s.pieces∧s.pieces≤l.length
  high : 1≤s.high∧s.high≤s.pieces
  lowest : 1≤s.lowest∧s.lowest≤l.length
  fc : 1≤s.fc∧s.fc≤l.length
  lc : 1≤s.lc∧s.lc≤l.length
theorem SmIn.up {s : Sm} {l : List (Int × Int)} (h : SmIn s l) (d : Int) : SmIn (s.raised d) (upL d l):=by
  have key : ∀ x,(∃ c ∈ l,c.2 = x)→∃ c ∈ upL d l,c.2 = x + d:=fun x ⟨c,hc,e⟩=>⟨(c.1,c.2 + d),by rw [mem_upL]; simpa using hc,by simp only; omega⟩
  refine ⟨key _ h.least,key _ h.most,key _ h.fh,key _ h.lh,?_,h.high,?_,?_,?_⟩ <;> rw [upL_length]
  · exact h.pieces
  · exact h.lowest
  · exact h.fc
  · exact h.lc
theorem SmIn.both {s t : Sm} {l k : List (Int × Int)} (h : SmIn s l) (g : SmIn t k) : SmIn (s.both t) (l ++ k):=by
  have lft : ∀ x,(∃ c ∈ l,c.2 = x)→∃ c ∈ l ++ k,c.2 = x:=fun x ⟨c,hc,e⟩=>⟨c,List.mem_append_left _ hc,e⟩
  have rgt : ∀ x,(∃ c ∈ k,c.2 = x)→∃ c ∈ l ++ k,c.2 = x:=fun x ⟨c,hc,e⟩=>⟨c,List.mem_append_right _ hc,e⟩
  have h1:=h.pieces
  have h2:=g.pieces
  have h3:=h.high
  have h4:=g.high
  have h5:=h.lowest
  have h6:=g.lowest
  have h7:=h.fc
  have h8:=g.lc
  have hlen : ((l ++ k).length : Int) = l.length + k.length:=by simp
  refine ⟨?_,?_,lft _ h.fh,rgt _ g.lh,?_,?_,?_,?_,?_⟩
  · by_cases e : s.least≤t.least
    · have:=lft _ h.least; simp only [Sm.both]; rw [show min s.least t.least = s.least by omega]; exact this
    · have:=rgt _ g.least; simp only [Sm.both]; rw [show min s.least t.least = t.least by omega]; exact this
  · by_cases e : t.most≤s.most
    · have:=lft _ h.most; simp only [Sm.both]; rw [show max s.most t.most = s.most by omega]; exact this
    · have:=rgt _ g.most; simp only [Sm.both]; rw [show max s.most t.most = t.most by omega]; exact this
  · simp only [Sm.both]; omega
  · simp only [Sm.both]; omega
  · simp only [Sm.both,lowOf]
    split <;> split <;> omega
  · simp only [Sm.both]; omega
  · simp only [Sm.both]; omega
theorem Tr.Wf.smIn {t : Tr} (h : t.Wf) : SmIn t.sm t.row:=by
  induction t with
  | nil=>exact h.elim
  | leaf rs hid st =>
    have hp : 0 < rs.length:=List.length_pos_iff.2 h
    obtain ⟨x,tl,rfl⟩:=List.exists_cons_of_ne_nil h
    have hin : ∃ c ∈ (Tr.leaf (x :: tl) hid st).row,c.2 = hid:=⟨(x,hid),by simp [Tr.row],rfl⟩
    refine ⟨hin,hin,hin,hin,?_,?_,?_,?_,?_⟩ <;> simp [Tr.sm,Tr.row,pieceSm] <;> omega
  | node l r st ihl ihr=>exact ((ihl h.1).both (ihr h.2)).up st
structure SmBd (s : Sm) : Prop where
  cells : 0≤s.cells∧s.cells≤2097152
  pieces : 0≤s.pieces∧s.pieces≤2097152
  high : 0≤s.high∧s.high≤2097152
  least : -2≤s.least∧s.least≤1048578
  most : -2≤s.most∧s.most≤1048578
  lowest : 0≤s.lowest∧s.lowest≤2097152
  fc : 0≤s.fc∧s.fc≤2097152
  fh : -2≤s.fh∧s.fh≤1048578
  lc : 0≤s.lc∧s.lc≤2097152
  lh : -2≤s.lh∧s.lh≤1048578
theorem Tr.smBd {t : Tr} (h : t.Ok) (hb : t.Bd) (hn : t.row.length≤2097152) : SmBd t.sm:=by
  rcases h with rfl | h
  · constructor <;> decide
  · have hs:=h.smIn
    have hc:=t.sm_cells
    have key : ∀ x,(∃ c ∈ t.row,c.2 = x)→-2≤x∧x≤1048578:=fun x ⟨c,hc,e⟩=>by
      have:=hb.row c hc
      unfold Lim at this
      omega
    have h1:=hs.pieces
    have h2:=hs.high
    have h3:=hs.lowest
    have h4:=hs.fc
    have h5:=hs.lc
    exact ⟨by omega,by omega,by omega,key _ hs.least,key _ hs.most,by omega,by omega,key _ hs.fh,by omega,key _ hs.lh⟩
end Go.Proofs.YtijpfbcippijoaaGreatDoor

namespace Go.Proofs.YtijpfbcippijoaaGreatDoor
set_option maxRecDepth 100000
def upP (d : Int) (l : List (List Int × Int)) : List (List Int × Int):=l.map fun p=>(p.1,p.2 + d)
def Tr.lv : Tr→List (List Int × Int)
  | .nil=>[]
  | .leaf rs h _=>[(rs,h)]
  | .node l r st=>upP st (l.lv ++ r.lv)
def rowOf (l : List (List Int × Int)) : List (Int × Int):=l.flatMap fun p=>p.1.map fun c=>(c,p.2)
theorem rowOf_append (l k : List (List Int × Int)) : rowOf (l ++ k) = rowOf l ++ rowOf k:=by simp [rowOf]
theorem rowOf_up (d : Int) (l : List (List Int × Int)) : rowOf (upP d l) = upL d (rowOf l):=by
  induction l with
  | nil=>rfl
  | cons p t ih =>
    have e1 : rowOf (upP d (p :: t)) = (p.1.map fun c=>(c,p.2 + d)) ++ rowOf (upP d t):=by simp [rowOf,upP]
    have e2 : rowOf (p :: t) = (p.1.map fun c=>(c,p.2)) ++ rowOf t:=by simp [rowOf]
    rw [e1,e2,ih,upL_append]
    congr 1
    simp [upL]
theorem Tr.row_lv : ∀ t : Tr,t.row = rowOf t.lv
  | .nil=>rfl
  | .leaf rs h st=>by simp [Tr.row,Tr.lv,rowOf]
  | .node l r st=>by
    have h1:=Tr.row_lv l
    have h2:=Tr.row_lv r
    simp only [Tr.row,Tr.lv]
    rw [rowOf_up,rowOf_append,h1,h2]
theorem upP_zero (l : List (List Int × Int)) : upP 0 l = l:=by
  unfold upP
  rw [List.map_congr_left (g:=id) (fun c _=>by simp)]
  simp
theorem Tr.lv_raise (t : Tr) (d : Int) : (t.raise d).lv = upP d t.lv:=by
  cases t with
  | nil=>rfl
  | leaf rs h st=>rfl
  | node l r st =>
    simp only [Tr.raise,Tr.lv,upP,List.map_map]
    exact List.map_congr_left fun c _=>by simp [Int.add_assoc]
theorem Tr.lv_node (l r : Tr) (st : Int) : (Tr.node l r st).lv = (l.raise st).lv ++ (r.raise st).lv:=by
  rw [Tr.lv_raise,Tr.lv_raise]
  simp [Tr.lv,upP]
def Tr.Avl : Tr→Prop
  | .nil=>True
  | .leaf _ _ _=>True
  | .node l r _=>l.Avl∧r.Avl∧l.sm.high≤r.sm.high + 1∧r.sm.high≤l.sm.high + 1
theorem Tr.avl_raise (t : Tr) (d : Int) (h : t.Avl) : (t.raise d).Avl:=by cases t <;> exact h
theorem Tr.high_raise (t : Tr) (d : Int) : (t.raise d).sm.high = t.sm.high:=by cases t <;> rfl
def Tr.isLeaf : Tr→Prop
  | .leaf rs _ _=>rs ≠ []
  | _=>False
theorem Tr.isLeaf.wf {t : Tr} (h : t.isLeaf) : t.Wf:=by cases t <;> first | exact h | exact h.elim
theorem Tr.isLeaf.avl {t : Tr} (h : t.isLeaf) : t.Avl:=by cases t <;> first | trivial | exact h.elim
theorem Tr.isLeaf.high {t : Tr} (h : t.isLeaf) : t.sm.high = 1:=by cases t <;> first | rfl | exact h.elim
def hgt (n : Nat) : Nat:=if h : n≤1 then n else max (hgt (n / 2)) (hgt (n - n / 2)) + 1
termination_by n
decreasing_by all_goals omega
theorem hgt_big (n : Nat) (h : 2≤n) : hgt n = max (hgt (n / 2)) (hgt (n - n / 2)) + 1:=by
  conv=>lhs; unfold hgt
  rw [dif_neg (by omega)]
theorem hgt_zero : hgt 0 = 0:=by unfold hgt; rfl
theorem hgt_one : hgt 1 = 1:=by unfold hgt; rfl
theorem hgt_succ : ∀ (b n : Nat),n≤b→hgt n≤hgt (n + 1)∧hgt (n + 1)≤hgt n + 1:=by
  intro b
  induction b with
  | zero=>intro n h; obtain rfl : n = 0:=by omega
            rw [hgt_zero,hgt_one]; omega
  | succ b ih =>
    intro n h
    by_cases h0 : n = 0
    · subst h0; rw [hgt_zero,hgt_one]; omega
    by_cases h1 : n = 1
    · subst h1; rw [hgt_big 2 (by omega)]; simp [hgt_one]
    rw [hgt_big n (by omega),hgt_big (n + 1) (by omega)]
    rcases Nat.mod_two_eq_zero_or_one n with e | e
    · have e1 : (n + 1) / 2 = n / 2:=by omega
      have e2 : n + 1 - n / 2 = n / 2 + 1:=by omega
      have e3 : n - n / 2 = n / 2:=by omega
      rw [e1,e2,e3]
      have:=ih (n / 2) (by omega)
      omega
    · have e1 : (n + 1) / 2 = n / 2 + 1:=by omega
      have e2 : n + 1 - (n / 2 + 1) = n / 2 + 1:=by omega
      have e3 : n - n / 2 = n / 2 + 1:=by omega
      rw [e1,e2,e3]
      have:=ih (n / 2) (by omega)
      omega
theorem hgt_halves (n : Nat) (h : 2≤n) : hgt (n / 2)≤hgt (n - n / 2)∧hgt (n - n / 2)≤hgt (n / 2) + 1:=by
  rcases Nat.mod_two_eq_zero_or_one n with e | e
  · rw [show n - n / 2 = n / 2 by omega]; omega
  · rw [show n - n / 2 = n / 2 + 1 by omega]
    exact hgt_succ _ _ (Nat.le_refl _)
def lvs (ts : List Tr) : List (List Int × Int):=ts.flatMap Tr.lv
structure Built (ts : List Tr) (t : Tr) : Prop where
  lv : t.lv = lvs ts
  ok : (ts = []∧t = .nil) ∨ (ts ≠ []∧t.Wf)
  bd : t.Bd
  avl : t.Avl
  high : t.sm.high = (hgt ts.length : Int)
theorem Built.row {ts : List Tr} {t : Tr} (h : Built ts t) : t.row = rowOf (lvs ts):=by rw [Tr.row_lv,h.lv]
theorem Built.ok_ {ts : List Tr} {t : Tr} (h : Built ts t) : t.Ok:=by
  rcases h.ok with ⟨_,h⟩ | ⟨_,h⟩
  · exact .inl h
  · exact .inr h
theorem built_nil : Built [] .nil:=⟨rfl,.inl ⟨rfl,rfl⟩,trivial,trivial,by simp [Tr.sm,hgt_zero]⟩
theorem built_one {t : Tr} (h : t.isLeaf) (hb : t.Bd) : Built [t] t:=⟨by simp [lvs],.inr ⟨by simp,h.wf⟩,hb,h.avl,by simp [h.high,hgt_one]⟩
theorem Built.two {ts us : List Tr} {a b : Tr} (ha : Built ts a) (hb : Built us b) (n : Nat) (hn : 2≤n) (h1 : ts.length = n / 2) (h2 : us.length = n - n / 2) : Built (ts ++ us) (.node a b 0):=by
  have wa : a.Wf:=by
    rcases ha.ok with ⟨e,_⟩ | ⟨_,h⟩
    · rw [e] at h1; simp at h1; omega
    · exact h
  have wb : b.Wf:=by
    rcases hb.ok with ⟨e,_⟩ | ⟨_,h⟩
    · rw [e] at h2; simp at h2; omega
    · exact h
  have hh:=hgt_halves n hn
  have e1:=ha.high
  have e2:=hb.high
  rw [h1] at e1
  rw [h2] at e2
  refine ⟨?_,.inr ⟨?_,wa,wb⟩,⟨ha.bd,hb.bd,?_⟩,⟨ha.avl,hb.avl,by omega,by omega⟩,?_⟩
  · simp only [Tr.lv]
    rw [upP_zero,ha.lv,hb.lv]
    simp [lvs]
  · intro e
    have:=congrArg List.length e
    simp at this
    rw [this.1] at h1
    simp at h1
    omega
  · simp only [Tr.row]
    rw [upL_zero]
    exact ha.bd.row.append hb.bd.row
  · rw [List.length_append,h1,h2,show n / 2 + (n - n / 2) = n by omega,hgt_big n hn]
    simp only [Tr.sm,Sm.raised,Sm.both]
    omega
end Go.Proofs.YtijpfbcippijoaaGreatDoor

namespace Go.Proofs.YtijpfbcippijoaaGreatDoor
set_option maxRecDepth 100000
def Fit (p q : List Int × Int) : Prop:=p.2 = q.2∧p.1.length + q.1.length≤32
instance (p q : List Int × Int) : Decidable (Fit p q):=inferInstanceAs (Decidable (_∧_))
def NoFit : List (List Int × Int)→Prop
  | []=>True
  | [_]=>True
  | p :: q :: t=>¬ Fit p q∧NoFit (q :: t)
structure Pcs (l : List (List Int × Int)) : Prop where
  some_ : ∀ p ∈ l,p.1 ≠ []
  few : ∀ p ∈ l,p.1.length≤32
  apart : NoFit l
theorem pcs_nil : Pcs []:=⟨fun p hp=>(by cases hp),fun p hp=>(by cases hp),trivial⟩
def Meet (l k : List (List Int × Int)) : Prop:=∀ p q,l.getLast? = some p→k.head? = some q→¬ Fit p q
theorem noFit_append : ∀ {l k : List (List Int × Int)},NoFit (l ++ k) ↔ NoFit l∧NoFit k∧Meet l k
  | [],k=>by simp [NoFit,Meet]
  | [p],k=>by
    cases k with
    | nil=>simp [NoFit,Meet]
    | cons q t =>
      simp only [List.cons_append,List.nil_append,NoFit,true_and,Meet]
      constructor
      · rintro ⟨h1,h2⟩
        refine ⟨h2,fun a b ha hb=>?_⟩
        simp at ha hb
        subst ha; subst hb
        exact h1
      · rintro ⟨h2,h3⟩
        exact ⟨h3 p q rfl rfl,h2⟩
  | p :: q :: t,k=>by
    have ih:=noFit_append (l:=q :: t) (k:=k)
    have e : Meet (p :: q :: t) k ↔ Meet (q :: t) k:=by unfold Meet; simp [List.getLast?_cons_cons]
    simp only [List.cons_append,NoFit] at ih ⊢
    rw [ih,e]
    constructor
    · rintro ⟨a,b,c,d⟩; exact ⟨⟨a,b⟩,c,d⟩
    · rintro ⟨⟨a,b⟩,c,d⟩; exact ⟨a,b,c,d⟩
theorem Pcs.append {l k : List (List Int × Int)} (hl : Pcs l) (hk : Pcs k) (hm : Meet l k) : Pcs (l ++ k) :=
  ⟨fun p hp=>(List.mem_append.1 hp).elim (hl.some_ p) (hk.some_ p),fun p hp=>(List.mem_append.1 hp).elim (hl.few p) (hk.few p),noFit_append.2 ⟨hl.apart,hk.apart,hm⟩⟩
theorem Pcs.left {l k : List (List Int × Int)} (h : Pcs (l ++ k)) : Pcs l:=⟨fun p hp=>h.some_ p (List.mem_append_left _ hp),fun p hp=>h.few p (List.mem_append_left _ hp),(noFit_append.1 h.apart).1⟩
theorem Pcs.right {l k : List (List Int × Int)} (h : Pcs (l ++ k)) : Pcs k:=⟨fun p hp=>h.some_ p (List.mem_append_right _ hp),fun p hp=>h.few p (List.mem_append_right _ hp),(noFit_append.1 h.apart).2.1⟩
theorem Pcs.meet {l k : List (List Int × Int)} (h : Pcs (l ++ k)) : Meet l k:=(noFit_append.1 h.apart).2.2
theorem fit_up (d : Int) (p q : List Int × Int) : Fit (p.1,p.2 + d) (q.1,q.2 + d) ↔ Fit p q:=by unfold Fit; simp only; constructor <;> (rintro ⟨a,b⟩; exact ⟨by omega,b⟩)
theorem noFit_up (d : Int) : ∀ l : List (List Int × Int),NoFit (upP d l) ↔ NoFit l
  | []=>Iff.rfl
  | [_]=>Iff.rfl
  | p :: q :: t=>by
    have ih:=noFit_up d (q :: t)
    simp only [upP,List.map_cons,NoFit] at ih ⊢
    rw [ih,fit_up]
theorem Pcs.up {l : List (List Int × Int)} (h : Pcs l) (d : Int) : Pcs (upP d l):=by
  refine ⟨fun p hp=>?_,fun p hp=>?_,(noFit_up d l).2 h.apart⟩
  · obtain ⟨x,hx,rfl⟩:=List.mem_map.1 hp
    exact h.some_ x hx
  · obtain ⟨x,hx,rfl⟩:=List.mem_map.1 hp
    exact h.few x hx
def glue (l k : List (List Int × Int)) : List (List Int × Int) :=
  match l.getLast?,k with
  | some p,q :: t=>if Fit p q then l.dropLast ++ (p.1 ++ q.1,p.2) :: t else l ++ q :: t
  | _,_=>l ++ k
theorem glue_nil_left (k : List (List Int × Int)) : glue [] k = k:=by simp [glue]
theorem glue_nil_right (l : List (List Int × Int)) : glue l [] = l:=by unfold glue; split <;> simp_all
theorem glue_meet {l k : List (List Int × Int)} (h : Meet l k) : glue l k = l ++ k:=by
  unfold glue
  split
  · rename_i p q t hp
    rw [if_neg (h p q hp rfl)]
  · rfl
theorem glue_fit (l : List (List Int × Int)) (p q : List Int × Int) (t : List (List Int × Int)) (h : Fit p q) : glue (l ++ [p]) (q :: t) = l ++ (p.1 ++ q.1,p.2) :: t:=by
  unfold glue
  simp [h]
theorem rowOf_cons (p : List Int × Int) (t : List (List Int × Int)) : rowOf (p :: t) = (p.1.map fun c=>(c,p.2)) ++ rowOf t:=by simp [rowOf]
theorem rowOf_glue (l k : List (List Int × Int)) : rowOf (glue l k) = rowOf l ++ rowOf k:=by
  rcases List.eq_nil_or_concat l with rfl | ⟨l0,p,rfl⟩
  · rw [glue_nil_left]; rfl
  · rw [List.concat_eq_append]
    cases k with
    | nil=>rw [glue_nil_right]; simp [rowOf]
    | cons q t =>
      by_cases h : Fit p q
      · rw [glue_fit l0 p q t h,rowOf_append,rowOf_append,rowOf_cons,rowOf_cons,rowOf_cons]
        simp only [List.map_append,List.append_assoc]
        rw [h.1]
        simp [rowOf]
      · rw [glue_meet,rowOf_append]
        intro a b ha hb
        simp at ha hb
        subst ha; subst hb
        exact h
theorem Pcs.glue {l k : List (List Int × Int)} (hl : Pcs l) (hk : Pcs k) : Pcs (glue l k):=by
  rcases List.eq_nil_or_concat l with rfl | ⟨l0,p,rfl⟩
  · rw [glue_nil_left]; exact hk
  · rw [List.concat_eq_append] at hl ⊢
    cases k with
    | nil=>rw [glue_nil_right]; exact hl
    | cons q t =>
      by_cases h : Fit p q
      · rw [glue_fit l0 p q t h]
        have h1 : Pcs (l0 ++ [(p.1 ++ q.1,p.2)]):=by
          refine Pcs.append hl.left ⟨fun x hx=>?_,fun x hx=>?_,trivial⟩ fun a b ha hb=>?_
          · simp at hx; subst hx; have:=hl.some_ p (by simp); simp [this]
          · simp at hx; subst hx; have:=h.2; simp only [List.length_append]; omega
          · simp at hb; subst hb
            have:=hl.meet a p ha rfl
            intro hf
            refine this ⟨hf.1,?_⟩
            have h2:=hf.2
            simp only [List.length_append] at h2
            omega
        have h2 : Pcs ([q] ++ t):=hk
        have h3 : Pcs (l0 ++ [(p.1 ++ q.1,p.2)] ++ t):=by
          refine Pcs.append h1 h2.right fun a b ha hb=>?_
          simp at ha; subst ha
          have:=h2.meet q b rfl hb
          intro hf
          refine this ⟨by have:=hf.1; have:=h.1; simp only at *; omega,?_⟩
          have h4:=hf.2
          simp only [List.length_append] at h4
          omega
        simpa using h3
      · rw [glue_meet]
        · refine Pcs.append hl hk ?_
          intro a b ha hb
          simp at ha hb
          subst ha; subst hb
          exact h
        · intro a b ha hb
          simp at ha hb
          subst ha; subst hb
          exact h
theorem Tr.Wf.ends {t : Tr} (h : t.Wf) : (∃ p k,t.lv = p :: k∧t.sm.fc = p.1.length∧t.sm.fh = p.2)∧(∃ p k,t.lv = k ++ [p]∧t.sm.lc = p.1.length∧t.sm.lh = p.2):=by
  induction t with
  | nil=>exact h.elim
  | leaf rs hid st=>exact ⟨⟨(rs,hid),[],rfl,rfl,rfl⟩,⟨(rs,hid),[],rfl,rfl,rfl⟩⟩
  | node l r st ihl ihr =>
    obtain ⟨⟨p,k,e1,e2,e3⟩,_⟩:=ihl h.1
    obtain ⟨_,⟨q,m,f1,f2,f3⟩⟩:=ihr h.2
    refine ⟨⟨(p.1,p.2 + st),upP st (k ++ r.lv),?_,?_,?_⟩,⟨(q.1,q.2 + st),upP st (l.lv ++ m),?_,?_,?_⟩⟩
    · simp [Tr.lv,e1,upP]
    · simp only [Tr.sm,Sm.raised,Sm.both]; exact e2
    · simp only [Tr.sm,Sm.raised,Sm.both]; omega
    · simp [Tr.lv,f1,upP]
    · simp only [Tr.sm,Sm.raised,Sm.both]; exact f2
    · simp only [Tr.sm,Sm.raised,Sm.both]; omega
end Go.Proofs.YtijpfbcippijoaaGreatDoor
