import Derived.Test.YtdmhajlhpieedaaLbA
/-! What each call does to a link as plain data; a link whose blocks are known by a predicate. -/
namespace Go.Proofs.Ytdmhajlhpieedaa
open Go.RowKit Go.Lib Go.Shelf
set_option maxRecDepth 100000

def hitF (S : Lk) (k : Int) : Option Fg := S.fl.find? (fun f => decide ((f.num : Int) = k))
def delS (S : Lk) (k : Int) : Lk := { S with fl := S.fl.filter (fun f => decide ((f.num : Int) ≠ k)) }
def dropE (S : Lk) (k : Int) : Int := if (hitF S k).isSome then 0 else 160
def copyE (S : Lk) (k : Int) : Int := match hitF S k with
  | none => 160
  | some _ => if S.fl.length < S.most then 0 else 161
def copyS (S : Lk) (k : Int) : Lk := match hitF S k with
  | none => S
  | some f => if S.fl.length < S.most then begS S ⟨S.next, f.fr, f.tt, f.bs, f.sp⟩ else S
def copyV (S : Lk) (k : Int) : Value := .tuple #[.int .i64 (if copyE S k = 0 then (S.next : Int) else 0), .int .i64 (copyE S k)]
def spE (f : Fg) (at_ : Int) (m : UInt8) : Int := if at_ < 0 ∨ (f.bs.length : Int) ≤ at_ ∨ m = 0 then 12 else if f.sp then 162 else 0
def spF (f : Fg) (j : Nat) (m : UInt8) : Fg := { f with bs := f.bs.set j ((f.bs.getD j 0) ^^^ m), sp := true }
def turnE (S : Lk) (k at_ : Int) (m : UInt8) : Int := match hitF S k with
  | none => 160
  | some f => spE f at_ m
def turnS (S : Lk) (k at_ : Int) (m : UInt8) : Lk := if turnE S k at_ m = 0 then { S with fl := S.fl.map (fun f => if (f.num : Int) = k then spF f at_.toNat m else f) } else S
def sendR (S : Lk) (ps : List Pk) : Lk := if sendE S ps = 0 then sendS S ps else S

theorem split_k (xs : List X) (k : Int) : (∀ x ∈ xs, (x.num : Int) ≠ k) ∨ ∃ l x r, xs = l ++ x :: r ∧ (x.num : Int) = k := by
  by_cases h : ∃ x ∈ xs, (x.num : Int) = k
  · obtain ⟨x, hx, hk⟩ := h
    obtain ⟨l, r, e⟩ := List.append_of_mem hx
    exact .inr ⟨l, x, r, e, hk⟩
  · exact .inl (fun x hx e => h ⟨x, hx, e⟩)
section
variable {W : World} {q : Nat} {S : Lk} {rv : Value} {xs l r : List X} {x : X} {k : Int}
theorem hit_none (h : LinkAt W q S rv xs) (hk : ∀ x ∈ xs, (x.num : Int) ≠ k) : hitF S k = none := by
  unfold hitF
  rw [h.fl, List.find?_eq_none]
  intro f hf
  obtain ⟨x, hx, rfl⟩ := List.mem_map.1 hf
  first | (exact decide_eq_true (hk x hx)) | (exact fun e => hk x hx (of_decide_eq_true e))
theorem apart_num (h : LinkAt W q S rv (l ++ x :: r)) (hO : S.Ok) (hk : (x.num : Int) = k) : (∀ y ∈ l, (y.num : Int) ≠ k) ∧ ∀ y ∈ r, (y.num : Int) ≠ k := by
  have hr := rise_xs h hO
  rw [List.pairwise_append, List.pairwise_cons] at hr
  exact ⟨fun y hy => by have := hr.2.2 y hy x (List.mem_cons_self ..); omega, fun y hy => by have := hr.2.1.1 y hy; omega⟩
theorem hit_some (h : LinkAt W q S rv (l ++ x :: r)) (hO : S.Ok) (hk : (x.num : Int) = k) : hitF S k = some x.fg := by
  have ⟨h1, _⟩ := apart_num h hO hk
  unfold hitF
  rw [h.fl, List.map_append, List.find?_append, List.find?_eq_none.2, List.map_cons, List.find?_cons]
  · simp [X.fg, hk]
  · intro f hf
    obtain ⟨y, hy, rfl⟩ := List.mem_map.1 hf
    first | (exact decide_eq_true (h1 y hy)) | (exact fun e => h1 y hy (of_decide_eq_true e))
theorem del_none (h : LinkAt W q S rv xs) (hk : ∀ x ∈ xs, (x.num : Int) ≠ k) : delS S k = S := by
  unfold delS
  have : S.fl.filter (fun f => decide ((f.num : Int) ≠ k)) = S.fl := by
    rw [List.filter_eq_self]
    intro f hf
    rw [h.fl] at hf
    obtain ⟨x, hx, rfl⟩ := List.mem_map.1 hf
    first | (exact decide_eq_true (hk x hx)) | (exact fun e => hk x hx (of_decide_eq_true e))
  rw [this]
theorem del_some (h : LinkAt W q S rv (l ++ x :: r)) (hO : S.Ok) (hk : (x.num : Int) = k) : delS S k = cutS S l r := by
  have ⟨h1, h2⟩ := apart_num h hO hk
  unfold delS cutS
  have a1 : ∀ (m : List X), (∀ y ∈ m, (y.num : Int) ≠ k) → (m.map X.fg).filter (fun f => decide ((f.num : Int) ≠ k)) = m.map X.fg := fun m hm => by
    rw [List.filter_eq_self]
    intro f hf
    obtain ⟨x, hx, rfl⟩ := List.mem_map.1 hf
    first | (exact decide_eq_true (hm x hx)) | (exact fun e => hm x hx (of_decide_eq_true e))
  rw [h.fl, List.map_append, List.filter_append, a1 l h1, List.map_cons, List.filter_cons_of_neg (by simp [X.fg, hk]), a1 r h2, List.map_append]
theorem turn_some (h : LinkAt W q S rv (l ++ x :: r)) (hO : S.Ok) (hk : (x.num : Int) = k) (at_ : Int) (m : UInt8) : turnE S k at_ m = spoilE x at_ m ∧ (spoilE x at_ m = 0 → turnS S k at_ m = spoilS S l r (spoilX x at_.toNat m)) := by
  have e1 : turnE S k at_ m = spoilE x at_ m := by
    unfold turnE; rw [hit_some h hO hk]; rfl
  refine ⟨e1, fun h0 => ?_⟩
  have ⟨h1, h2⟩ := apart_num h hO hk
  unfold turnS spoilS
  rw [e1, if_pos h0]
  have a1 : ∀ (z : List X), (∀ y ∈ z, (y.num : Int) ≠ k) → (z.map X.fg).map (fun f => if (f.num : Int) = k then spF f at_.toNat m else f) = z.map X.fg := fun z hz => by
    rw [List.map_map]
    refine List.map_congr_left fun y hy => ?_
    have := hz y hy
    simp [X.fg, this]
  rw [h.fl, List.map_append, List.map_append, a1 l h1, List.map_cons, List.map_cons, a1 r h2, List.map_append, List.map_cons]
  simp [X.fg, hk, spF, spoilX]
end
theorem delS_ok {S : Lk} (h : S.Ok) (k : Int) : (delS S k).Ok := by
  refine ⟨h.nd, h.most, ?_, h.next, h.rise.sublist List.filter_sublist, fun f hf => h.lt f (List.mem_filter.1 hf).1⟩
  have := List.length_filter_le (fun f : Fg => decide ((f.num : Int) ≠ k)) S.fl
  exact Nat.le_trans this h.len
theorem turnS_ok {S : Lk} (h : S.Ok) (k at_ : Int) (m : UInt8) : (turnS S k at_ m).Ok := by
  unfold turnS
  split
  · have hnum : ∀ f : Fg, (if (f.num : Int) = k then spF f at_.toNat m else f).num = f.num := fun f => by split <;> rfl
    refine ⟨h.nd, h.most, by simpa using h.len, h.next, ?_, ?_⟩
    · simp only
      rw [List.pairwise_map]
      refine h.rise.imp (fun {a b} hab => ?_)
      rw [hnum, hnum]; exact hab
    · intro f hf
      simp only [List.mem_map] at hf
      obtain ⟨f', hf', rfl⟩ := hf
      rw [hnum]; exact h.lt f' hf'
  · exact h
theorem copyS_ok {S : Lk} (h : S.Ok) (k : Int) (hn : S.next + 1 ≤ 1152921504606846976) : (copyS S k).Ok := by
  unfold copyS
  split
  · exact h
  · split
    · exact begS_ok h _ _ _ _ (by assumption) hn
    · exact h
theorem sendR_ok {S : Lk} (h : S.Ok) (ps : List Pk) (hn : S.next + ps.length ≤ 1152921504606846976) : (sendR S ps).Ok := by
  unfold sendR
  split
  · rename_i h0
    refine sendS_ok ps S h ?_ hn
    unfold sendE at h0
    split at h0
    · split at h0
      · assumption
      · simp at h0
    · simp at h0
  · exact h
/-- A link whose blocks all satisfy K. -/
def LnkK (K : Nat → Prop) (W : World) (q : Nat) (S : Lk) : Prop := S.Ok ∧ ∃ rv xs, LinkAt W q S rv xs ∧ ∀ g, Blk q rv xs g → K g
def grow (K : Nat → Prop) (W W' : World) (g : Nat) : Prop := K g ∨ (W.heap.size ≤ g ∧ g < W'.heap.size)
theorem LnkK.chg {K D : Nat → Prop} {W W' : World} {q : Nat} {S : Lk} (h : LnkK K W q S) (hC : Chg D W W') (hd : ∀ g, K g → ¬ D g) : LnkK K W' q S := by
  obtain ⟨hO, rv, xs, hL, hK⟩ := h
  exact ⟨hO, rv, xs, hL.chg hC (fun g hg => hd g (hK g hg)), hK⟩
theorem LnkK.below {K : Nat → Prop} {W W' : World} {q : Nat} {S : Lk} (h : LnkK K W q S) (hB : Below W.heap.size W W') : LnkK K W' q S := by
  obtain ⟨hO, rv, xs, hL, hK⟩ := h
  exact ⟨hO, rv, xs, hL.below hB, hK⟩
theorem LnkK.mono {K J : Nat → Prop} {W : World} {q : Nat} {S : Lk} (h : LnkK K W q S) (hj : ∀ g, K g → J g) : LnkK J W q S := by
  obtain ⟨hO, rv, xs, hL, hK⟩ := h
  exact ⟨hO, rv, xs, hL, fun g hg => hj g (hK g hg)⟩
/-- What a call leaves, at the level of the predicate. -/
def Lft (K : Nat → Prop) (W : World) (q : Nat) (S' : Lk) (W' : World) : Prop := LnkK (grow K W W') W' q S' ∧ Chg K W W'
theorem lft_nx {K : Nat → Prop} {W W' : World} {q : Nat} {S' : Lk} {rv : Value} {xs : List X} (hK : ∀ g, Blk q rv xs g → K g) (hO : S'.Ok) (h : Nx W W' q rv xs S') : Lft K W q S' W' := by
  obtain ⟨rv', xs', hL, hC, hb⟩ := h
  refine ⟨⟨hO, rv', xs', hL, fun g hg => ?_⟩, hC.mono (fun g _ e => hK g e)⟩
  rcases hb g hg with h1 | h1
  · exact .inl (hK g h1)
  · exact .inr ⟨h1, hL.lt hg⟩
theorem lft_below {K : Nat → Prop} {W W' : World} {q : Nat} {S : Lk} (h : LnkK K W q S) (hB : Below W.heap.size W W') : Lft K W q S W' := ⟨(h.below hB).mono (fun _ hg => .inl hg), Chg.of_below hB⟩
section
variable {K : Nat → Prop} {W : World} {q : Nat} {S : Lk}
theorem lenK (h : LnkK K W q S) : Calls Try.prog 11 #[.pointer (some ⟨q, 0, none⟩)] W fun e w' => e = .returned (.int .i64 (S.fl.length : Int)) ∧ w' = W := by
  obtain ⟨hO, rv, xs, hL, hK⟩ := h
  rw [← hL.len]
  exact len_any hL
theorem nextK (h : LnkK K W q S) : Calls Try.prog 12 #[.pointer (some ⟨q, 0, none⟩)] W fun e w' => e = .returned (.int .i64 (S.next : Int)) ∧ w' = W := by
  obtain ⟨hO, rv, xs, hL, hK⟩ := h
  exact next_any hL
theorem dropK (h : LnkK K W q S) (k : Int) : Calls Try.prog 17 #[.pointer (some ⟨q, 0, none⟩), .int .i64 k] W fun e w' => e = .returned (.int .i64 (dropE S k)) ∧ Lft K W q (delS S k) w' := by
  have h0 := h
  obtain ⟨hO, rv, xs, hL, hK⟩ := h
  rcases split_k xs k with hm | ⟨l, x, r, rfl, hk⟩
  · refine (drop_miss hL hO k hm).mono ?_
    rintro e w' ⟨h1, h2⟩
    rw [dropE, hit_none hL hm, del_none hL hm]
    exact ⟨h1, lft_below h0 h2⟩
  · refine (drop_hit hL hO k hk).mono ?_
    rintro e w' ⟨h1, h2⟩
    rw [dropE, hit_some hL hO hk]
    refine ⟨h1, lft_nx hK (delS_ok hO k) ?_⟩
    rw [del_some hL hO hk]
    exact h2.nx
theorem copyK (h : LnkK K W q S) (k : Int) (hb : ∀ f ∈ S.fl, f.bs.length ≤ 281474976710656) (hn : S.next + 1 ≤ 1152921504606846976) : Calls Try.prog 16 #[.pointer (some ⟨q, 0, none⟩), .int .i64 k] W fun e w' => e = .returned (copyV S k) ∧ Lft K W q (copyS S k) w' := by
  have h0 := h
  obtain ⟨hO, rv, xs, hL, hK⟩ := h
  rcases split_k xs k with hm | ⟨l, x, r, rfl, hk⟩
  · refine (copy_miss hL hO k hm).mono ?_
    rintro e w' ⟨h1, h2⟩
    rw [copyV, copyE, copyS, hit_none hL hm]
    exact ⟨h1, lft_below h0 h2⟩
  · have hh := hit_some hL hO hk
    by_cases hr : S.fl.length < S.most
    · have hx : x.bs.length ≤ 281474976710656 := hb x.fg (by rw [hL.fl]; exact List.mem_map.2 ⟨x, by simp, rfl⟩)
      have hok := copyS_ok hO k hn
      refine (copy_hit hL hO k hk hr hx).mono ?_
      rintro e w' ⟨h1, h2⟩
      rw [copyV, copyE, hh]
      rw [copyS, hh] at hok ⊢
      simp only [if_pos hr] at hok ⊢
      exact ⟨h1, lft_nx hK hok h2.nx⟩
    · have hf : S.fl.length = S.most := by have := hO.len; omega
      refine (copy_full hL hO k hk hf).mono ?_
      rintro e w' ⟨h1, h2⟩
      rw [copyV, copyE, copyS, hh]
      simp only [if_neg hr]
      exact ⟨h1, lft_below h0 h2⟩
theorem spoilK (h : LnkK K W q S) (k at_ : Int) (m : UInt8) : Calls Try.prog 14 #[.pointer (some ⟨q, 0, none⟩), .int .i64 k, .int .i64 at_, .int .u8 (m.toNat : Int)] W fun e w' => e = .returned (.int .i64 (turnE S k at_ m)) ∧ Lft K W q (turnS S k at_ m) w' := by
  have h0 := h
  obtain ⟨hO, rv, xs, hL, hK⟩ := h
  have hok := turnS_ok hO k at_ m
  rcases split_k xs k with hm | ⟨l, x, r, rfl, hk⟩
  · refine (spoil_miss hL hO k at_ m hm).mono ?_
    rintro e w' ⟨h1, h2⟩
    have e1 : turnE S k at_ m = 160 := by rw [turnE, hit_none hL hm]
    rw [turnS, e1]
    exact ⟨h1, lft_below h0 h2⟩
  · obtain ⟨e1, e2⟩ := turn_some hL hO hk at_ m
    refine (spoil_hit hL hO k at_ m hk).mono ?_
    rintro e w' ⟨h1, h2, h3⟩
    rw [e1]
    refine ⟨h1, ?_⟩
    by_cases h4 : spoilE x at_ m = 0
    · rw [e2 h4] at hok ⊢
      exact lft_nx hK hok (h3 h4).nx
    · rw [turnS, e1, if_neg h4]
      exact lft_below h0 (h2 h4)
theorem sendK (h : LnkK K W q S) {a : Option Addr} {n c : Nat} {ps : List Pk} (hP : PsAt W a n c ps) (ha : Away W K a) (hp : ∀ p ∈ ps, Away W K p.a) (hn : n ≤ 140737488355328) (hN : S.next + n ≤ 1152921504606846976) :
    Calls Try.prog 13 #[.pointer (some ⟨q, 0, none⟩), .slice a n c] W fun e w' => e = .returned (sendV S ps) ∧ Lft K W q (sendR S ps) w' := by
  have h0 := h
  obtain ⟨hO, rv, xs, hL, hK⟩ := h
  have hl := hP.row.len
  have hok := sendR_ok hO ps (by omega)
  refine (send_any hL hO hP (fun g hg => ⟨(ha g hg).1, fun e => (ha g hg).2 (hK _ e)⟩) (fun p hpp g hg => ⟨(hp p hpp g hg).1, fun e => (hp p hpp g hg).2 (hK _ e)⟩) hn hN).mono ?_
  rintro e w' ⟨h1, h2, h3⟩
  refine ⟨h1, ?_⟩
  unfold sendR at hok ⊢
  by_cases h4 : sendE S ps = 0
  · rw [if_pos h4] at hok ⊢
    exact lft_nx hK hok (h3 h4)
  · rw [if_neg h4]
    exact lft_below h0 (h2 h4)
/-- What Deliver hands out: the flight's bytes are nobody else's. -/
def HandK (W : World) (q : Nat) (S : Lk) (k : Int) (v : Value) (K : Nat → Prop) (W' : World) : Prop :=
  (hitF S k = none ∧ v = zv ∧ LnkK (grow K W W') W' q S ∧ Chg K W W') ∨
  ∃ x : X, hitF S k = some x.fg ∧ v = x.val ∧ OwnF byU 1 5 W' 0 x.v x.bs ∧ (∀ g, x.v.ownBlock = some g → K g) ∧ LnkK (fun g => grow K W W' g ∧ x.v.ownBlock ≠ some g) W' q (delS S k) ∧ Chg K W W'
theorem deliverK (h : LnkK K W q S) (k : Int) : Calls Try.prog 33 #[.pointer (some ⟨q, 0, none⟩), .int .i64 k] W fun e w' => ∃ v, e = .returned (.tuple #[v, .int .i64 (dropE S k)]) ∧ HandK W q S k v K w' := by
  have h0 := h
  obtain ⟨hO, rv, xs, hL, hK⟩ := h
  rcases split_k xs k with hm | ⟨l, x, r, rfl, hk⟩
  · refine (deliver_miss hL hO k hm).mono ?_
    rintro e w' ⟨h1, h2⟩
    have hh := hit_none hL hm
    rw [dropE, hh]
    obtain ⟨h3, h4⟩ := lft_below h0 h2
    exact ⟨_, h1, .inl ⟨hh, rfl, h3, h4⟩⟩
  · have hh := hit_some hL hO hk
    refine (deliver_hit hL hO k hk).mono ?_
    rintro e w' ⟨h1, h2⟩
    rw [dropE, hh]
    have hx : x ∈ l ++ x :: r := by simp
    refine ⟨_, h1, .inr ⟨x, hh, rfl, CutP.own hL h2, fun g hg => hK g (.inr (.inr ⟨x, hx, hg⟩)), ?_⟩⟩
    obtain ⟨rv', h3, h4, h5⟩ := h2
    rw [del_some hL hO hk]
    refine ⟨⟨by rw [← del_some hL hO hk]; exact delS_ok hO k, rv', l ++ r, h3, fun g hg => ?_⟩, h4.mono (fun g _ e => hK g (by rcases e with e | e; exact .inl e; exact .inr (.inl e)))⟩
    rcases hg with rfl | e | ⟨y, hy, e⟩
    · exact ⟨.inl (hK _ (.inl rfl)), fun e => hL.q_ne_g hx e rfl⟩
    · rw [h5] at e
      exact ⟨.inl (hK _ (.inr (.inl e))), fun e2 => hL.r_ne_g e hx e2 rfl⟩
    · exact ⟨.inl (hK _ (.inr (.inr ⟨y, mem_mid hy, e⟩))), fun e2 => gs_apart hL.gs (List.mem_append.1 hy) e2 e⟩
end
end Go.Proofs.Ytdmhajlhpieedaa
