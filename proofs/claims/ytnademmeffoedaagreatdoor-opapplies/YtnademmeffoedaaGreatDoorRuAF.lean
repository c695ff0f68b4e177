import Derived.Test.YtnademmeffoedaaGreatDoorRsBO
import Derived.Test.YtnademmeffoedaaGreatDoorRqJK
import Derived.Test.YtnademmeffoedaaGreatDoorRsC
import Derived.Test.YtnademmeffoedaaGreatDoorRvAK
import Derived.Test.YtnademmeffoedaaGreatDoorRrKN
namespace Go.Proofs.YtnademmeffoedaaGreatDoor
set_option maxRecDepth 100000
def sameN : List (List Int × Int) → Nat
  | [] => 0
  | [_] => 0
  | p :: q :: t => (if p.2 = q.2 then 1 else 0) + sameN (q :: t)
def sameF (h : Int) : List (List Int × Int) → Nat
  | [] => 0
  | p :: t => (if p.2 = h then 1 else 0) + sameF p.2 t
theorem sameN_cons : ∀ (p : List Int × Int) (t : List (List Int × Int)), sameN (p :: t) = sameF p.2 t
  | _, [] => rfl
  | p, q :: t => by
    simp only [sameN, sameF]
    rw [sameN_cons q t]
    by_cases e : p.2 = q.2
    · rw [if_pos e, if_pos e.symm]
    · rw [if_neg e, if_neg fun h => e h.symm]
theorem sameF_le (h : Int) : ∀ t, sameF h t ≤ t.length
  | [] => Nat.le_refl _
  | p :: t => by have := sameF_le p.2 t; simp only [sameF, List.length_cons]; split <;> omega
theorem stp_count : ∀ (l : List (List Int × Int)) (f : Int) (s : RunSt), (∀ p ∈ l, p.1 ≠ []) → 0 < f → ((pls l f).foldl stp s).1.length + sameF s.2.2 l = s.1.length + l.length
  | [], _, _, _, _ => by simp [pls, sameF]
  | p :: t, f, s, hp, h0 => by
    have hne := hp p (by simp)
    rw [pls, List.foldl_cons]
    have ih := stp_count t (f + p.1.length) (stp s (f, p.1, p.2)) (fun q hq => hp q (by simp [hq])) (by omega)
    by_cases e : p.2 = s.2.2
    · have e1 : stp s (f, p.1, p.2) = (s.1, s.2.1 ++ p.1, p.2) := by unfold stp; rw [if_neg (by simp [e])]
      rw [e1] at ih ⊢
      simp only [sameF, List.length_cons, if_pos e] at ih ⊢
      omega
    · have e1 : stp s (f, p.1, p.2) = (s.1 ++ [(s.2.1, s.2.2)], p.1, p.2) := by unfold stp; rw [if_pos ⟨h0, e⟩]
      rw [e1] at ih ⊢
      simp only [sameF, List.length_cons, List.length_append, List.length_nil, if_neg e] at ih ⊢
      omega
theorem stp_open : ∀ (l : List (List Int × Int)) (f : Int) (s : RunSt), (∀ p ∈ l, p.1 ≠ []) → s.2.1 ≠ [] → ((pls l f).foldl stp s).2.1 ≠ []
  | [], _, _, _, h => by simpa [pls] using h
  | p :: t, f, s, hp, h => by
    rw [pls, List.foldl_cons]
    refine stp_open t _ _ (fun q hq => hp q (by simp [hq])) ?_
    unfold stp
    split
    · exact hp p (by simp)
    · simp only
      intro e
      exact h (List.append_eq_nil_iff.1 e).1
theorem runs_count {l : List (List Int × Int)} (hp : ∀ p ∈ l, p.1 ≠ []) : (runsOfRow (rowOf l)).length + sameN l = l.length := by
  cases l with
  | nil => simp [runsOfRow, cstR, rowOf, sameN]
  | cons p t =>
    have hne := hp p (by simp)
    have hpos := List.length_pos_iff.2 hne
    have e0 : cstR (rowOf (p :: t)) = (pls (p :: t) 0).foldl stp ([], [], 0) := (stp_cells (p :: t) 0 ([], [], 0) hp (Int.le_refl _) (by simp)).symm
    have e1 : stp ([], [], 0) (0, p.1, p.2) = ([], p.1, p.2) := by unfold stp; rw [if_neg (by simp)]; rfl
    rw [pls, List.foldl_cons, e1] at e0
    have hc := stp_count t (0 + p.1.length) ([], p.1, p.2) (fun q hq => hp q (by simp [hq])) (by omega)
    have ho := stp_open t (0 + p.1.length) ([], p.1, p.2) (fun q hq => hp q (by simp [hq])) hne
    rw [← e0] at hc ho
    unfold runsOfRow
    rw [if_neg ho, sameN_cons]
    simp only [List.length_append, List.length_cons, List.length_nil] at hc ⊢
    omega
theorem same_cells : ∀ {l : List (List Int × Int)}, NoFit l → ∀ p, l.head? = some p → 33 * sameN l + p.1.length ≤ 2 * (rowOf l).length
  | [], _, p, h => by cases h
  | [q], _, p, h => by
    cases h
    simp [sameN, rowOf]
    omega
  | q :: r :: t, hn, p, h => by
    cases h
    have ih := same_cells hn.2 r rfl
    have e : (rowOf (q :: r :: t)).length = q.1.length + (rowOf (r :: t)).length := by rw [rowOf_cons, List.length_append, List.length_map]
    rw [e]
    simp only [sameN]
    by_cases c : q.2 = r.2
    · have := hn.1
      unfold Fit at this
      rw [if_pos c]
      have h2 : ¬ q.1.length + r.1.length ≤ 32 := fun h => this ⟨c, h⟩
      omega
    · rw [if_neg c]
      omega
theorem rowOf_some {l : List (List Int × Int)} (hp : ∀ p ∈ l, p.1 ≠ []) (h : l ≠ []) : 0 < (rowOf l).length := by
  cases l with
  | nil => exact absurd rfl h
  | cons p t =>
    have := List.length_pos_iff.2 (hp p (by simp))
    rw [rowOf_cons, List.length_append, List.length_map]
    omega
theorem pcs_kept {l : List (List Int × Int)} (h : Pcs l) : (runsOfRow (rowOf l)).length ≤ l.length ∧ l.length ≤ (runsOfRow (rowOf l)).length + (rowOf l).length / 16 ∧ ((runsOfRow (rowOf l)).length = 0 ↔ (rowOf l).length = 0) := by
  have h1 := runs_count h.some_
  by_cases hl : l = []
  · subst hl; simp [rowOf, runsOfRow, cstR]
  · have h3 := rowOf_some h.some_ hl
    cases l with
    | nil => exact absurd rfl hl
    | cons p t =>
      have h2 := same_cells h.apart p rfl
      have h4 : sameN (p :: t) ≤ t.length := by rw [sameN_cons]; exact sameF_le _ _
      simp only [List.length_cons] at h1 ⊢
      omega
theorem Tr.pieces_lv : ∀ t : Tr, t.sm.pieces = t.lv.length
  | .nil => rfl
  | .leaf rs h st => rfl
  | .node l r st => by
    have h1 := Tr.pieces_lv l
    have h2 := Tr.pieces_lv r
    simp only [Tr.sm, Tr.lv, Sm.raised, Sm.both, upP, List.length_map, List.length_append]
    omega
def Tr.ht : Tr → Nat
  | .nil => 0
  | .leaf _ _ _ => 1
  | .node l r _ => max l.ht r.ht + 1
theorem Tr.high_ht : ∀ t : Tr, t.sm.high = t.ht
  | .nil => rfl
  | .leaf rs h st => rfl
  | .node l r st => by
    have h1 := Tr.high_ht l
    have h2 := Tr.high_ht r
    simp only [Tr.sm, Tr.ht, Sm.raised, Sm.both]
    omega
theorem Tr.ht_up : ∀ t : Tr, t.Wf → t.lv.length ≤ 2 ^ (t.ht - 1) ∧ 1 ≤ t.ht
  | .nil, h => h.elim
  | .leaf rs h st, _ => by simp [Tr.lv, Tr.ht]
  | .node l r st, h => by
    have h1 := Tr.ht_up l h.1
    have h2 := Tr.ht_up r h.2
    simp only [Tr.lv, Tr.ht, upP, List.length_map, List.length_append]
    have k1 : 2 ^ (l.ht - 1) ≤ 2 ^ (max l.ht r.ht - 1) := Nat.pow_le_pow_right (by omega) (by omega)
    have k2 : 2 ^ (r.ht - 1) ≤ 2 ^ (max l.ht r.ht - 1) := Nat.pow_le_pow_right (by omega) (by omega)
    have e : max l.ht r.ht + 1 - 1 = (max l.ht r.ht - 1) + 1 := by omega
    rw [e, Nat.pow_succ]
    omega
theorem Tr.ht_low : ∀ t : Tr, t.Wf → t.Avl → 2 ^ (t.ht / 2) ≤ t.lv.length ∧ (1 ≤ t.ht → 2 ^ ((t.ht - 1) / 2) ≤ t.lv.length)
  | .nil, h, _ => h.elim
  | .leaf rs h st, _, _ => by simp [Tr.lv, Tr.ht]
  | .node l r st, h, a => by
    obtain ⟨a1, a2, a3, a4⟩ := a
    have h1 := Tr.ht_low l h.1 a1
    have h2 := Tr.ht_low r h.2 a2
    have p1 := (Tr.ht_up l h.1).2
    have p2 := (Tr.ht_up r h.2).2
    rw [Tr.high_ht, Tr.high_ht] at a3 a4
    have hmin : (max l.ht r.ht - 1) ≤ l.ht ∧ (max l.ht r.ht - 1) ≤ r.ht := by omega
    have k1 : 2 ^ ((max l.ht r.ht - 1) / 2) ≤ 2 ^ (l.ht / 2) := Nat.pow_le_pow_right (by omega) (by omega)
    have k2 : 2 ^ ((max l.ht r.ht - 1) / 2) ≤ 2 ^ (r.ht / 2) := Nat.pow_le_pow_right (by omega) (by omega)
    simp only [Tr.lv, Tr.ht, upP, List.length_map, List.length_append]
    have e : (max l.ht r.ht + 1) / 2 = (max l.ht r.ht - 1) / 2 + 1 := by omega
    have hm : 2 ^ ((max l.ht r.ht + 1) / 2) ≤ l.lv.length + r.lv.length := by
      rw [e, Nat.pow_succ]
      omega
    refine ⟨hm, fun _ => Nat.le_trans (Nat.pow_le_pow_right (by omega) (by omega)) hm⟩
def dgt (n : Nat) : Nat := if h : n = 0 then 0 else dgt (n / 2) + 1
termination_by n
decreasing_by omega
theorem dgt_zero : dgt 0 = 0 := by unfold dgt; rfl
theorem dgt_step (n : Nat) (h : n ≠ 0) : dgt n = dgt (n / 2) + 1 := by
  conv => lhs; unfold dgt
  rw [dif_neg h]
theorem dgt_le : ∀ (j n : Nat), n < 2 ^ j → dgt n ≤ j
  | 0, n, h => by
    obtain rfl : n = 0 := by omega
    rw [dgt_zero]; omega
  | j + 1, n, h => by
    by_cases e : n = 0
    · subst e; rw [dgt_zero]; omega
    · rw [dgt_step n e]
      have := dgt_le j (n / 2) (by rw [Nat.pow_succ] at h; omega)
      omega
theorem dgt_ge : ∀ (j n : Nat), 2 ^ j ≤ n → j + 1 ≤ dgt n
  | 0, n, h => by
    rw [dgt_step n (by omega)]; omega
  | j + 1, n, h => by
    have hp : 0 < 2 ^ j := Nat.pow_pos (by omega)
    rw [Nat.pow_succ] at h
    rw [dgt_step n (by omega)]
    have := dgt_ge j (n / 2) (by omega)
    omega
theorem Tr.Rp.levels {t : Tr} (h : t.Rp) : (dgt t.lv.length : Int) ≤ t.sm.high ∧ t.sm.high ≤ 2 * (dgt t.lv.length : Int) := by
  rw [Tr.high_ht]
  rcases h.can with rfl | hf
  · simp [Tr.lv, Tr.ht, dgt_zero]
  · obtain ⟨u1, u2⟩ := Tr.ht_up t hf.wf
    have hl := (Tr.ht_low t hf.wf hf.avl).1
    have hp : 0 < 2 ^ (t.ht - 1) := Nat.pow_pos (by omega)
    have d1 := dgt_le t.ht t.lv.length (by
      have : 2 ^ t.ht = 2 ^ (t.ht - 1) * 2 := by rw [← Nat.pow_succ]; congr 1; omega
      omega)
    have d2 := dgt_ge _ _ hl
    omega
theorem Tr.Rp.kept {t : Tr} (h : t.Rp) : (runsOfRow t.row).length ≤ t.lv.length ∧ t.lv.length ≤ (runsOfRow t.row).length + t.row.length / 16 ∧ ((runsOfRow t.row).length = 0 ↔ t.row.length = 0) := by
  have := pcs_kept h.pcs
  rwa [← Tr.row_lv] at this
end Go.Proofs.YtnademmeffoedaaGreatDoor

namespace Go.Proofs.YtnademmeffoedaaGreatDoor
set_option maxRecDepth 100000
def Alt : List (List Int × Int) → Prop
  | [] => True
  | [_] => True
  | p :: q :: t => p.2 ≠ q.2 ∧ Alt (q :: t)
theorem alt_snoc : ∀ (l : List (List Int × Int)) (q : List Int × Int), Alt (l ++ [q]) ↔ Alt l ∧ ∀ p, l.getLast? = some p → p.2 ≠ q.2
  | [], q => by simp [Alt]
  | [p], q => by simp [Alt]
  | p :: r :: t, q => by
    have ih := alt_snoc (r :: t) q
    show (p.2 ≠ r.2 ∧ Alt ((r :: t) ++ [q])) ↔ _
    rw [ih]
    simp only [Alt, List.getLast?_cons_cons]
    constructor
    · rintro ⟨a, b, c⟩; exact ⟨⟨a, b⟩, c⟩
    · rintro ⟨⟨a, b⟩, c⟩; exact ⟨a, b, c⟩
theorem alt_get : ∀ {l : List (List Int × Int)}, Alt l → ∀ (j : Nat) x y, l[j]? = some x → l[j + 1]? = some y → x.2 ≠ y.2
  | [], _, j, x, y, hx, _ => by simp at hx
  | [p], _, j, x, y, _, hy => by simp at hy
  | p :: q :: t, h, 0, x, y, hx, hy => by simp at hx hy; subst hx hy; exact h.1
  | p :: q :: t, h, j + 1, x, y, hx, hy => alt_get h.2 j x y (by simpa using hx) (by simpa using hy)
theorem alt_of : ∀ {l : List (List Int × Int)}, (∀ (j : Nat) x y, l[j]? = some x → l[j + 1]? = some y → x.2 ≠ y.2) → Alt l
  | [], _ => trivial
  | [_], _ => trivial
  | p :: q :: t, h => ⟨h 0 p q rfl rfl, alt_of fun j x y hx hy => h (j + 1) x y (by simpa using hx) (by simpa using hy)⟩
def fin (s : RunSt) : List (List Int × Int) := if s.2.1 = [] then s.1 else s.1 ++ [(s.2.1, s.2.2)]
theorem runs_fin (R : List (Int × Int)) : runsOfRow R = fin (cstR R) := rfl
structure FinOk (s : RunSt) : Prop where
  none_ : s.2.1 = [] → s.1 = []
  some_ : ∀ p ∈ fin s, p.1 ≠ []
  alt : Alt (fin s)
theorem fin_cst {s : RunSt} (h : FinOk s) (c : Int × Int) : FinOk (cst s c) ∧ rowOf (fin (cst s c)) = rowOf (fin s) ++ [c] := by
  obtain ⟨D, cur, k⟩ := s
  have r1 : ∀ (l : List Int) (k : Int), rowOf [(l, k)] = l.map fun c => (c, k) := fun l k => by simp [rowOf]
  by_cases h0 : cur = []
  · subst h0
    have hD := h.none_ rfl
    simp only at hD
    subst hD
    have e : cst ([], [], k) c = ([], [c.1], c.2) := by unfold cst; rw [if_neg (by simp)]; rfl
    rw [e]
    refine ⟨⟨fun e => by simp at e, fun p hp => ?_, ?_⟩, ?_⟩
    · simp [fin] at hp; subst hp; simp
    · simp [fin, Alt]
    · simp [fin, rowOf]
  · have hf : fin (D, cur, k) = D ++ [(cur, k)] := by unfold fin; rw [if_neg h0]
    have hs := h.some_
    have ha := h.alt
    rw [hf] at hs ha ⊢
    by_cases h1 : c.2 = k
    · have e : cst (D, cur, k) c = (D, cur ++ [c.1], c.2) := by unfold cst; rw [if_neg (by simp [h1])]
      have hf2 : fin (D, cur ++ [c.1], c.2) = D ++ [(cur ++ [c.1], c.2)] := by unfold fin; rw [if_neg (by simp)]
      rw [e]
      refine ⟨⟨fun e => by simp at e, fun p hp => ?_, ?_⟩, ?_⟩
      · rw [hf2] at hp
        rcases List.mem_append.1 hp with hp | hp
        · exact hs p (List.mem_append_left _ hp)
        · simp at hp; subst hp; simp
      · rw [hf2, alt_snoc]
        rw [alt_snoc] at ha
        exact ⟨ha.1, fun p hp => by rw [h1]; exact ha.2 p hp⟩
      · rw [hf2, rowOf_append, rowOf_append, r1, r1, List.map_append, h1]
        simp [← h1]
    · have e : cst (D, cur, k) c = (D ++ [(cur, k)], [c.1], c.2) := by unfold cst; rw [if_pos ⟨h0, h1⟩]
      have hf2 : fin (D ++ [(cur, k)], [c.1], c.2) = D ++ [(cur, k)] ++ [([c.1], c.2)] := by unfold fin; rw [if_neg (by simp)]
      rw [e]
      refine ⟨⟨fun e => by simp at e, fun p hp => ?_, ?_⟩, ?_⟩
      · rw [hf2] at hp
        rcases List.mem_append.1 hp with hp | hp
        · exact hs p hp
        · simp at hp; subst hp; simp
      · rw [hf2, alt_snoc]
        refine ⟨ha, fun p hp => ?_⟩
        rw [List.getLast?_append] at hp
        simp at hp
        subst hp
        exact fun e => h1 e.symm
      · rw [hf2, rowOf_append, r1]
        simp
theorem fin_all : ∀ (R : List (Int × Int)) {s : RunSt}, FinOk s → FinOk (R.foldl cst s) ∧ rowOf (fin (R.foldl cst s)) = rowOf (fin s) ++ R
  | [], s, h => ⟨h, by simp⟩
  | c :: R, s, h => by
    obtain ⟨h1, h2⟩ := fin_cst h c
    obtain ⟨h3, h4⟩ := fin_all R h1
    exact ⟨h3, by rw [List.foldl_cons, h4, h2]; simp⟩
theorem fin_nil : FinOk ([], [], 0) := ⟨fun _ => rfl, fun p hp => by simp [fin] at hp, trivial⟩
theorem runs_row (R : List (Int × Int)) : rowOf (runsOfRow R) = R := by
  rw [runs_fin]
  exact (fin_all R fin_nil).2
theorem runs_some (R : List (Int × Int)) : ∀ p ∈ runsOfRow R, p.1 ≠ [] := by
  rw [runs_fin]
  exact (fin_all R fin_nil).1.some_
theorem runs_alt (R : List (Int × Int)) : Alt (runsOfRow R) := by
  rw [runs_fin]
  exact (fin_all R fin_nil).1.alt
theorem stp_fin : ∀ (l : List (List Int × Int)) (f : Int) (s : RunSt), (∀ p ∈ l, p.1 ≠ []) → 0 < f → s.2.1 ≠ [] → Alt ((s.2.1, s.2.2) :: l) → fin ((pls l f).foldl stp s) = fin s ++ l
  | [], _, _, _, _, _, _ => by simp [pls]
  | p :: t, f, s, hp, h0, hs, ha => by
    have hne := hp p (by simp)
    have e : stp s (f, p.1, p.2) = (s.1 ++ [(s.2.1, s.2.2)], p.1, p.2) := by unfold stp; rw [if_pos ⟨h0, fun e => ha.1 e.symm⟩]
    rw [pls, List.foldl_cons, e, stp_fin t _ _ (fun q hq => hp q (by simp [hq])) (by omega) hne ha.2]
    unfold fin
    rw [if_neg hne, if_neg hs]
    simp
theorem runs_of {l : List (List Int × Int)} (hp : ∀ p ∈ l, p.1 ≠ []) (ha : Alt l) : runsOfRow (rowOf l) = l := by
  cases l with
  | nil => simp [runsOfRow, cstR, rowOf]
  | cons p t =>
    have hne := hp p (by simp)
    have hpos := List.length_pos_iff.2 hne
    have e0 : cstR (rowOf (p :: t)) = (pls (p :: t) 0).foldl stp ([], [], 0) := (stp_cells (p :: t) 0 ([], [], 0) hp (Int.le_refl _) (by simp)).symm
    have e1 : stp ([], [], 0) (0, p.1, p.2) = ([], p.1, p.2) := by unfold stp; rw [if_neg (by simp)]; rfl
    rw [pls, List.foldl_cons, e1] at e0
    rw [runs_fin, e0, stp_fin t _ _ (fun q hq => hp q (by simp [hq])) (by omega) hne ha]
    unfold fin
    rw [if_neg hne]
    rfl
end Go.Proofs.YtnademmeffoedaaGreatDoor

namespace Go.Proofs.YtnademmeffoedaaGreatDoor
open Go.RowKit Go.Lib
set_option maxRecDepth 100000
end Go.Proofs.YtnademmeffoedaaGreatDoor

namespace Go.Proofs.YtnademmeffoedaaGreatDoor
open Go.RowKit Go.Lib
set_option maxRecDepth 100000
def actV (x : Int × Int × Int × Int) : List Value := [.int .i64 x.1, .int .i64 x.2.1, .int .i64 x.2.2.1, .int .i64 x.2.2.2]
theorem layA : Lay actV 4 := ⟨fun _ => rfl, by decide, fun x u hu => by simp [actV] at hu; rcases hu with rfl | rfl | rfl | rfl <;> rfl⟩
theorem Both.still {w2 : World} {q : Nat} {M : Int} {R : List (Int × Int)} {a : Option Addr} {cap : Nat} {W W' : World} (h : Both w2 q M R a cap W) (hb : Below W.heap.size W W') : Both w2 q M R a cap W' := ⟨h.rope.still hb, h.row.below hb, h.ok, h.cnt⟩
end Go.Proofs.YtnademmeffoedaaGreatDoor

namespace Go.Proofs.YtnademmeffoedaaGreatDoor
open Go.RowKit Go.Lib
set_option maxRecDepth 100000
def rowRuns (R : List (Int × Int)) : List GRun := (runsOfRow R).map gr
theorem cellsOf_gr (l : List (List Int × Int)) : cellsOf (l.map gr) = rowOf l := by
  simp [cellsOf, rowOf, List.flatMap_map, gr]
theorem rowRuns_cells (R : List (Int × Int)) : cellsOf (rowRuns R) = R := by
  unfold rowRuns
  rw [cellsOf_gr, runs_row]
theorem rowRuns_mem {R : List (Int × Int)} {x : GRun} (hx : x ∈ rowRuns R) : x.rs ≠ [] ∧ x.s = strOf x.rs ∧ ∀ r ∈ x.rs, (r, x.h) ∈ R := by
  unfold rowRuns at hx
  obtain ⟨p, hp, rfl⟩ := List.mem_map.1 hx
  refine ⟨runs_some R p hp, rfl, fun r hr => ?_⟩
  have h : (r, p.2) ∈ rowOf (runsOfRow R) := by
    unfold rowOf
    exact List.mem_flatMap.2 ⟨p, hp, List.mem_map.2 ⟨r, hr, rfl⟩⟩
  rwa [runs_row] at h
theorem rowRuns_text {R : List (Int × Int)} (ho : ∀ c ∈ R, okR c.1) : ∀ x ∈ rowRuns R, IsText x.s x.rs := fun x hx => by
  obtain ⟨_, e, h⟩ := rowRuns_mem hx
  exact ⟨by rw [e]; simp [strOf], fun r hr => ho _ (h r hr)⟩
theorem rowRuns_apart (R : List (Int × Int)) : ∀ (j : Nat) x y, (rowRuns R)[j]? = some x → (rowRuns R)[j + 1]? = some y → x.h ≠ y.h := fun j x y hx hy => by
  unfold rowRuns at hx hy
  rw [List.getElem?_map, Option.map_eq_some_iff] at hx hy
  obtain ⟨p, hp, rfl⟩ := hx
  obtain ⟨p2, hp2, rfl⟩ := hy
  exact alt_get (runs_alt R) j p p2 hp hp2
theorem rowRuns_from {R : List (Int × Int)} {M : Int} (ho : ∀ c ∈ R, okR c.1) (hc : Cnt M R) (hM : M ≤ 1048576) (hl : R.length ≤ 1048576) : FromOk (rowRuns R) := by
  have key : ∀ x ∈ rowRuns R, 0 ≤ x.h ∧ x.h ≤ M := fun x hx => by
    obtain ⟨h1, _, h2⟩ := rowRuns_mem hx
    obtain ⟨r, hr⟩ := List.exists_mem_of_ne_nil _ h1
    exact hc _ (h2 r hr)
  exact ⟨rowRuns_text ho, fun x hx => (rowRuns_mem hx).1, fun x hx => (key x hx).1, fun x hx => Int.le_trans (key x hx).2 hM, rowRuns_apart R, by rw [rowRuns_cells]; exact hl⟩
theorem rowRuns_same {L : List GRun} (hF : FromOk L) : rowRuns (cellsOf L) = L := by
  have e : cellsOf L = rowOf (L.map fun x => (x.rs, x.h)) := by simp [cellsOf, rowOf, List.flatMap_map]
  unfold rowRuns
  rw [e, runs_of (fun p hp => by obtain ⟨x, hx, rfl⟩ := List.mem_map.1 hp; exact hF.some_ x hx) (alt_of fun j x y hx hy => by
    rw [List.getElem?_map, Option.map_eq_some_iff] at hx hy
    obtain ⟨p, hp, rfl⟩ := hx
    obtain ⟨p2, hp2, rfl⟩ := hy
    exact hF.apart j p p2 hp hp2), List.map_map]
  conv => rhs; rw [← List.map_id L]
  refine List.map_congr_left fun x hx => ?_
  have := tx_eq (hF.text x hx).bytes
  obtain ⟨s, rs, k⟩ := x
  simp only at this
  simp [gr, this]
theorem rowRuns_len (R : List (Int × Int)) : (rowRuns R).length ≤ R.length := by
  have h1 := runs_some R
  have h2 : ∀ l : List (List Int × Int), (∀ p ∈ l, p.1 ≠ []) → l.length ≤ (rowOf l).length := fun l => by
    induction l with
    | nil => intro _; exact Nat.le_refl _
    | cons p t ih =>
      intro h
      have h3 := ih fun q hq => h q (by simp [hq])
      have h4 := List.length_pos_iff.2 (h p (by simp))
      rw [rowOf_cons, List.length_append, List.length_map, List.length_cons]
      omega
  have h3 := h2 _ h1
  rw [runs_row] at h3
  unfold rowRuns
  rw [List.length_map]
  exact h3
theorem Holds.runsR {w2 : World} {q : Nat} {R : List (Int × Int)} {W : World} (h : Holds w2 q R W) (ho : ∀ c ∈ R, okR c.1) : Calls Tryz.prog 13 #[.pointer (some ⟨q, 0, none⟩)] W fun e W' => ∃ a cap, e = .returned (.slice a (rowRuns R).length cap) ∧ Rw runV 2 W' a (rowRuns R).length cap (rowRuns R) ∧ Holds w2 q R W' ∧ Below W.heap.size W W' := by
  have h' := h
  obtain ⟨t, k1, k2, rfl, k3⟩ := h
  refine (ropeRuns_any k1 k2 (okl_row ho)).mono fun e W' ⟨v, he, hw, hb⟩ => ?_
  obtain ⟨a, cap, rfl⟩ := hw.shape
  exact ⟨a, cap, he, hw.rw_ layR, h'.still hb, hb⟩
end Go.Proofs.YtnademmeffoedaaGreatDoor
