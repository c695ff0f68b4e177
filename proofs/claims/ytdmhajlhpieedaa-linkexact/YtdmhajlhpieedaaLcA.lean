import Derived.Test.YtdmhajlhpieedaaLbD
/-! LinkIsBag: the statement's own list as plain data, and the link that it tells of. -/
namespace Go.Proofs.Ytdmhajlhpieedaa
open Go.RowKit Go.Lib Go.Shelf
set_option maxRecDepth 100000

/-- What the statement keeps of a packet. -/
structure Sn where
  fr : Int
  tt : Int
  a : Option Addr
  n : Nat
  cap : Nat
  bs : List UInt8
  sp : Bool
  here : Bool
def snv (s : Sn) : List Value := [.int .i64 s.fr, .int .i64 s.tt, .slice s.a s.n s.cap, .string ⟨s.bs.toArray⟩, .bool s.sp, .bool s.here]
theorem layN : Lay snv 6 := ⟨fun _ => rfl, by decide, fun x u hu => by
  simp only [snv, List.mem_cons, List.not_mem_nil, or_false] at hu
  rcases hu with rfl | rfl | rfl | rfl | rfl | rfl <;> rfl⟩
theorem kindN : Kind Try.prog 47 46 6 64 := kind_of Try.underlying47 (z := .agg #[.int .i64 0, .int .i64 0, .slice none 0 0, .string ⟨#[]⟩, .bool false, .bool false]) (by kernel_rfl) rfl
def Sn.fg (s : Sn) (i : Nat) : Fg := ⟨i, s.fr, s.tt, s.bs, s.sp⟩
def hide (s : Sn) : Sn := { s with here := false }
def turnN (j : Nat) (m : UInt8) (s : Sn) : Sn := { s with bs := s.bs.set j ((s.bs.getD j 0) ^^^ m), sp := true }
/-- The flights that the list tells of. -/
def fgs : Nat → List Sn → List Fg
  | _, [] => []
  | i, s :: t => if s.here then s.fg i :: fgs (i + 1) t else fgs (i + 1) t
theorem fgs_append : ∀ (A B : List Sn) (i : Nat), fgs i (A ++ B) = fgs i A ++ fgs (i + A.length) B
  | [], B, i => by simp [fgs]
  | s :: A, B, i => by
    simp only [List.cons_append, fgs, fgs_append A B (i + 1), List.length_cons]
    rw [show i + 1 + A.length = i + (A.length + 1) by omega]
    split <;> simp
theorem fgs_ge : ∀ (A : List Sn) (i : Nat) (f : Fg), f ∈ fgs i A → i ≤ f.num ∧ f.num < i + A.length
  | [], _, _, h => by simp [fgs] at h
  | s :: A, i, f, h => by
    simp only [fgs] at h
    split at h
    · rcases List.mem_cons.1 h with rfl | h
      · simp [Sn.fg]
      · have := fgs_ge A (i + 1) f h; simp; omega
    · have := fgs_ge A (i + 1) f h; simp; omega
/-- The list around one place. -/
theorem mid_of {L : List Sn} {k : Nat} {s : Sn} (h : L[k]? = some s) : ∃ A B, L = A ++ s :: B ∧ A.length = k := by
  have hk : k < L.length := by
    rcases Nat.lt_or_ge k L.length with h' | h'
    · exact h'
    · rw [List.getElem?_eq_none h'] at h; cases h
  refine ⟨L.take k, L.drop (k + 1), ?_, by rw [List.length_take]; omega⟩
  rw [List.getElem?_eq_getElem hk] at h
  cases h
  rw [← List.drop_eq_getElem_cons hk, List.take_append_drop]
theorem fgs_mid (A B : List Sn) (s : Sn) : fgs 0 (A ++ s :: B) = fgs 0 A ++ (if s.here then [s.fg A.length] else []) ++ fgs (A.length + 1) B := by
  rw [fgs_append, fgs, Nat.zero_add]
  split <;> simp
theorem find_fgs (L : List Sn) (k : Nat) : (fgs 0 L).find? (fun f => decide ((f.num : Int) = (k : Int))) = match L[k]? with
    | none => none
    | some s => if s.here then some (s.fg k) else none := by
  cases h : L[k]? with
  | none =>
    have hk : L.length ≤ k := by
      rcases Nat.lt_or_ge k L.length with h' | h'
      · rw [List.getElem?_eq_getElem h'] at h; cases h
      · exact h'
    rw [List.find?_eq_none]
    intro f hf e
    have := (fgs_ge L 0 f hf).2
    have := of_decide_eq_true e
    omega
  | some s =>
    obtain ⟨A, B, rfl, hA⟩ := mid_of h
    have h1 : (fgs 0 A).find? (fun f => decide ((f.num : Int) = (k : Int))) = none := by
      rw [List.find?_eq_none]; intro f hf e
      have := (fgs_ge A 0 f hf).2
      have := of_decide_eq_true e
      omega
    have h2 : (fgs (A.length + 1) B).find? (fun f => decide ((f.num : Int) = (k : Int))) = none := by
      rw [List.find?_eq_none]; intro f hf e
      have := (fgs_ge B _ f hf).1
      have := of_decide_eq_true e
      omega
    rw [fgs_mid, List.find?_append, List.find?_append, h1, h2]
    by_cases hh : s.here
    · simp [hh, Sn.fg, hA]
    · simp [hh]
theorem modify_mid {α : Type} (f : α → α) : ∀ (A B : List α) (s : α), (A ++ s :: B).modify A.length f = A ++ f s :: B
  | [], _, _ => rfl
  | a :: A, B, s => by
    have := modify_mid f A B s
    simp only [List.cons_append, List.length_cons, List.modify_succ_cons, this]
theorem filter_far {A : List Fg} {k : Int} (h : ∀ f ∈ A, (f.num : Int) ≠ k) : A.filter (fun f => decide ((f.num : Int) ≠ k)) = A := by
  rw [List.filter_eq_self]; intro f hf; exact decide_eq_true (h f hf)
theorem filter_fgs (L : List Sn) (k : Nat) : (fgs 0 L).filter (fun f => decide ((f.num : Int) ≠ (k : Int))) = fgs 0 (L.modify k hide) := by
  cases h : L[k]? with
  | none =>
    have hk : L.length ≤ k := by
      rcases Nat.lt_or_ge k L.length with h' | h'
      · rw [List.getElem?_eq_getElem h'] at h; cases h
      · exact h'
    rw [List.modify_eq_self hk, filter_far]
    intro f hf e
    have := (fgs_ge L 0 f hf).2
    omega
  | some s =>
    obtain ⟨A, B, rfl, hA⟩ := mid_of h
    have e1 : (A ++ s :: B).modify k hide = A ++ hide s :: B := by
      subst hA; exact modify_mid _ A B s
    rw [e1, fgs_mid, fgs_mid, List.filter_append, List.filter_append, filter_far (A := fgs 0 A) (fun f hf e => by have := (fgs_ge A 0 f hf).2; omega), filter_far (A := fgs (A.length + 1) B) (fun f hf e => by have := (fgs_ge B _ f hf).1; omega)]
    congr 2
    by_cases hh : s.here
    · simp [hh, hide, Sn.fg, hA]
    · simp [hh, hide]
theorem map_far {A : List Fg} {k : Int} {g : Fg → Fg} (h : ∀ f ∈ A, (f.num : Int) ≠ k) : A.map (fun f => if (f.num : Int) = k then g f else f) = A := by
  conv => rhs; rw [← List.map_id A]
  refine List.map_congr_left fun f hf => ?_
  rw [if_neg (h f hf)]; rfl
theorem map_fgs (L : List Sn) (k j : Nat) (m : UInt8) : (fgs 0 L).map (fun f => if (f.num : Int) = (k : Int) then spF f j m else f) = fgs 0 (L.modify k (turnN j m)) := by
  cases h : L[k]? with
  | none =>
    have hk : L.length ≤ k := by
      rcases Nat.lt_or_ge k L.length with h' | h'
      · rw [List.getElem?_eq_getElem h'] at h; cases h
      · exact h'
    rw [List.modify_eq_self hk, map_far]
    intro f hf e
    have := (fgs_ge L 0 f hf).2
    omega
  | some s =>
    obtain ⟨A, B, rfl, hA⟩ := mid_of h
    have e1 : (A ++ s :: B).modify k (turnN j m) = A ++ turnN j m s :: B := by
      subst hA; exact modify_mid _ A B s
    rw [e1, fgs_mid, fgs_mid, List.map_append, List.map_append, map_far (A := fgs 0 A) (fun f hf e => by have := (fgs_ge A 0 f hf).2; omega), map_far (A := fgs (A.length + 1) B) (fun f hf e => by have := (fgs_ge B _ f hf).1; omega)]
    congr 2
    by_cases hh : s.here
    · simp [hh, turnN, Sn.fg, hA, spF]
    · simp [hh, turnN]
/-- The link that the list tells of. -/
def bagS (L : List Sn) : Lk := ⟨3, 4096, L.length, fgs 0 L⟩
def hereN (L : List Sn) : Nat := (L.filter (·.here)).length
theorem fgs_len : ∀ (L : List Sn) (i : Nat), (fgs i L).length = hereN L
  | [], _ => rfl
  | s :: L, i => by
    have ih := fgs_len L (i + 1)
    unfold hereN at ih ⊢
    simp only [fgs]
    split
    · rename_i h; rw [List.filter_cons_of_pos h, List.length_cons, List.length_cons, ih]
    · rename_i h; rw [List.filter_cons_of_neg h, ih]
theorem hereN_le (L : List Sn) : hereN L ≤ L.length := List.length_filter_le _ _
theorem bag_hit (L : List Sn) (k : Nat) : hitF (bagS L) (k : Int) = match L[k]? with
    | none => none
    | some s => if s.here then some (s.fg k) else none := find_fgs L k
theorem bag_del (L : List Sn) (k : Nat) : delS (bagS L) (k : Int) = bagS (L.modify k hide) := by
  unfold delS bagS
  simp only [List.length_modify]
  congr 1
  exact filter_fgs L k
theorem fgs_bs : ∀ (L : List Sn) (i N : Nat), (∀ s ∈ L, s.bs.length ≤ N) → ∀ f ∈ fgs i L, f.bs.length ≤ N
  | [], _, _, _, f, h => by simp [fgs] at h
  | s :: L, i, N, hN, f, h => by
    simp only [fgs] at h
    split at h
    · rcases List.mem_cons.1 h with rfl | h
      · exact hN s (List.mem_cons_self ..)
      · exact fgs_bs L _ N (fun x hx => hN x (List.mem_cons_of_mem _ hx)) f h
    · exact fgs_bs L _ N (fun x hx => hN x (List.mem_cons_of_mem _ hx)) f h
/-- A packet that is sent, as the statement keeps it. -/
def Pk.sn (p : Pk) : Sn := ⟨p.fr, p.tt, p.a, p.bs.length, p.cap, p.bs, false, true⟩
theorem bag_send : ∀ (ps : List Pk) (L : List Sn), sendS (bagS L) ps = bagS (L ++ ps.map Pk.sn)
  | [], L => by simp [sendS]
  | p :: ps, L => by
    have e : begS (bagS L) ⟨(bagS L).next, p.fr, p.tt, p.bs, false⟩ = bagS (L ++ [p.sn]) := by
      unfold begS bagS
      simp only [List.length_append, List.length_singleton, fgs_append, Nat.zero_add]
      congr 1
    rw [sendS, e, bag_send ps]
    simp [List.append_assoc]
theorem bag_copy (L : List Sn) (k : Nat) (s : Sn) (hs : L[k]? = some s) (hh : s.here = true) (hl : L.length < 4096) : copyS (bagS L) (k : Int) = bagS (L ++ [s]) ∧ copyE (bagS L) (k : Int) = 0 := by
  have h1 := bag_hit L k
  rw [hs] at h1
  simp only [hh, if_true] at h1
  have h2 : (bagS L).fl.length < (bagS L).most := by
    show (fgs 0 L).length < 4096
    rw [fgs_len]; have := hereN_le L; omega
  refine ⟨?_, by rw [copyE, h1]; simp only [if_pos h2]⟩
  rw [copyS, h1]
  simp only [if_pos h2]
  unfold begS bagS
  simp only [List.length_append, List.length_singleton, fgs_append, Nat.zero_add]
  congr 1
  simp [fgs, hh, Sn.fg]
end Go.Proofs.Ytdmhajlhpieedaa
