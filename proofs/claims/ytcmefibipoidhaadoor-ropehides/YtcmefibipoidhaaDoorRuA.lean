import Derived.Test.YtcmefibipoidhaaDoorRrOB
import Derived.Test.YtcmefibipoidhaaDoorRqK
/-! How many pieces and levels: RopeKept's bounds. -/
namespace Go.Proofs.YtcmefibipoidhaaDoor
set_option maxRecDepth 100000

/-- How many pieces have the counter of the one ahead of them. -/
def sameN : List (List Int × Int) → Nat
  | [] => 0
  | [_] => 0
  | p :: q :: t => (if p.2 = q.2 then 1 else 0) + sameN (q :: t)
def sameF (h : Int) : List (List Int × Int) → Nat
  | [] => 0
  | p :: t => (if p.2 = h then 1 else 0) + sameF p.2 t
theorem sameN_cons : ∀ (p : List Int × Int) (t : List (List Int × Int)), sameN (p :: t) = sameF p.2 t
  | _, [] => rfl
  | p, q :: t => by
    simp only [sameN, sameF]
    rw [sameN_cons q t]
    by_cases e : p.2 = q.2
    · rw [if_pos e, if_pos e.symm]
    · rw [if_neg e, if_neg fun h => e h.symm]
theorem sameF_le (h : Int) : ∀ t, sameF h t ≤ t.length
  | [] => Nat.le_refl _
  | p :: t => by have := sameF_le p.2 t; simp only [sameF, List.length_cons]; split <;> omega
theorem stp_count : ∀ (l : List (List Int × Int)) (f : Int) (s : RunSt), (∀ p ∈ l, p.1 ≠ []) → 0 < f → ((pls l f).foldl stp s).1.length + sameF s.2.2 l = s.1.length + l.length
  | [], _, _, _, _ => by simp [pls, sameF]
  | p :: t, f, s, hp, h0 => by
    have hne := hp p (by simp)
    rw [pls, List.foldl_cons]
    have ih := stp_count t (f + p.1.length) (stp s (f, p.1, p.2)) (fun q hq => hp q (by simp [hq])) (by omega)
    by_cases e : p.2 = s.2.2
    · have e1 : stp s (f, p.1, p.2) = (s.1, s.2.1 ++ p.1, p.2) := by unfold stp; rw [if_neg (by simp [e])]
      rw [e1] at ih ⊢
      simp only [sameF, List.length_cons, if_pos e] at ih ⊢
      omega
    · have e1 : stp s (f, p.1, p.2) = (s.1 ++ [(s.2.1, s.2.2)], p.1, p.2) := by unfold stp; rw [if_pos ⟨h0, e⟩]
      rw [e1] at ih ⊢
      simp only [sameF, List.length_cons, List.length_append, List.length_nil, if_neg e] at ih ⊢
      omega
theorem stp_open : ∀ (l : List (List Int × Int)) (f : Int) (s : RunSt), (∀ p ∈ l, p.1 ≠ []) → s.2.1 ≠ [] → ((pls l f).foldl stp s).2.1 ≠ []
  | [], _, _, _, h => by simpa [pls] using h
  | p :: t, f, s, hp, h => by
    rw [pls, List.foldl_cons]
    refine stp_open t _ _ (fun q hq => hp q (by simp [hq])) ?_
    unfold stp
    split
    · exact hp p (by simp)
    · simp only
      intro e
      exact h (List.append_eq_nil_iff.1 e).1
/-- Runs and pieces of one counter side by side are all the pieces. -/
theorem runs_count {l : List (List Int × Int)} (hp : ∀ p ∈ l, p.1 ≠ []) : (runsOfRow (rowOf l)).length + sameN l = l.length := by
  cases l with
  | nil => simp [runsOfRow, cstR, rowOf, sameN]
  | cons p t =>
    have hne := hp p (by simp)
    have hpos := List.length_pos_iff.2 hne
    have e0 : cstR (rowOf (p :: t)) = (pls (p :: t) 0).foldl stp ([], [], 0) := (stp_cells (p :: t) 0 ([], [], 0) hp (Int.le_refl _) (by simp)).symm
    have e1 : stp ([], [], 0) (0, p.1, p.2) = ([], p.1, p.2) := by unfold stp; rw [if_neg (by simp)]; rfl
    rw [pls, List.foldl_cons, e1] at e0
    have hc := stp_count t (0 + p.1.length) ([], p.1, p.2) (fun q hq => hp q (by simp [hq])) (by omega)
    have ho := stp_open t (0 + p.1.length) ([], p.1, p.2) (fun q hq => hp q (by simp [hq])) hne
    rw [← e0] at hc ho
    unfold runsOfRow
    rw [if_neg ho, sameN_cons]
    simp only [List.length_append, List.length_cons, List.length_nil] at hc ⊢
    omega
theorem same_cells : ∀ {l : List (List Int × Int)}, NoFit l → ∀ p, l.head? = some p → 33 * sameN l + p.1.length ≤ 2 * (rowOf l).length
  | [], _, p, h => by cases h
  | [q], _, p, h => by
    cases h
    simp [sameN, rowOf]
    omega
  | q :: r :: t, hn, p, h => by
    cases h
    have ih := same_cells hn.2 r rfl
    have e : (rowOf (q :: r :: t)).length = q.1.length + (rowOf (r :: t)).length := by rw [rowOf_cons, List.length_append, List.length_map]
    rw [e]
    simp only [sameN]
    by_cases c : q.2 = r.2
    · have := hn.1
      unfold Fit at this
      rw [if_pos c]
      have h2 : ¬ q.1.length + r.1.length ≤ 32 := fun h => this ⟨c, h⟩
      omega
    · rw [if_neg c]
      omega
theorem rowOf_some {l : List (List Int × Int)} (hp : ∀ p ∈ l, p.1 ≠ []) (h : l ≠ []) : 0 < (rowOf l).length := by
  cases l with
  | nil => exact absurd rfl h
  | cons p t =>
    have := List.length_pos_iff.2 (hp p (by simp))
    rw [rowOf_cons, List.length_append, List.length_map]
    omega
/-- What RopeKept asks of runs and pieces. -/
theorem pcs_kept {l : List (List Int × Int)} (h : Pcs l) : (runsOfRow (rowOf l)).length ≤ l.length ∧ l.length ≤ (runsOfRow (rowOf l)).length + (rowOf l).length / 16 ∧ ((runsOfRow (rowOf l)).length = 0 ↔ (rowOf l).length = 0) := by
  have h1 := runs_count h.some_
  by_cases hl : l = []
  · subst hl; simp [rowOf, runsOfRow, cstR]
  · have h3 := rowOf_some h.some_ hl
    cases l with
    | nil => exact absurd rfl hl
    | cons p t =>
      have h2 := same_cells h.apart p rfl
      have h4 : sameN (p :: t) ≤ t.length := by rw [sameN_cons]; exact sameF_le _ _
      simp only [List.length_cons] at h1 ⊢
      omega
theorem Tr.pieces_lv : ∀ t : Tr, t.sm.pieces = t.lv.length
  | .nil => rfl
  | .leaf rs h st => rfl
  | .node l r st => by
    have h1 := Tr.pieces_lv l
    have h2 := Tr.pieces_lv r
    simp only [Tr.sm, Tr.lv, Sm.raised, Sm.both, upP, List.length_map, List.length_append]
    omega
/-- The height as a number. -/
def Tr.ht : Tr → Nat
  | .nil => 0
  | .leaf _ _ _ => 1
  | .node l r _ => max l.ht r.ht + 1
theorem Tr.high_ht : ∀ t : Tr, t.sm.high = t.ht
  | .nil => rfl
  | .leaf rs h st => rfl
  | .node l r st => by
    have h1 := Tr.high_ht l
    have h2 := Tr.high_ht r
    simp only [Tr.sm, Tr.ht, Sm.raised, Sm.both]
    omega
theorem Tr.ht_up : ∀ t : Tr, t.Wf → t.lv.length ≤ 2 ^ (t.ht - 1) ∧ 1 ≤ t.ht
  | .nil, h => h.elim
  | .leaf rs h st, _ => by simp [Tr.lv, Tr.ht]
  | .node l r st, h => by
    have h1 := Tr.ht_up l h.1
    have h2 := Tr.ht_up r h.2
    simp only [Tr.lv, Tr.ht, upP, List.length_map, List.length_append]
    have k1 : 2 ^ (l.ht - 1) ≤ 2 ^ (max l.ht r.ht - 1) := Nat.pow_le_pow_right (by omega) (by omega)
    have k2 : 2 ^ (r.ht - 1) ≤ 2 ^ (max l.ht r.ht - 1) := Nat.pow_le_pow_right (by omega) (by omega)
    have e : max l.ht r.ht + 1 - 1 = (max l.ht r.ht - 1) + 1 := by omega
    rw [e, Nat.pow_succ]
    omega
theorem Tr.ht_low : ∀ t : Tr, t.Wf → t.Avl → 2 ^ (t.ht / 2) ≤ t.lv.length ∧ (1 ≤ t.ht → 2 ^ ((t.ht - 1) / 2) ≤ t.lv.length)
  | .nil, h, _ => h.elim
  | .leaf rs h st, _, _ => by simp [Tr.lv, Tr.ht]
  | .node l r st, h, a => by
    obtain ⟨a1, a2, a3, a4⟩ := a
    have h1 := Tr.ht_low l h.1 a1
    have h2 := Tr.ht_low r h.2 a2
    have p1 := (Tr.ht_up l h.1).2
    have p2 := (Tr.ht_up r h.2).2
    rw [Tr.high_ht, Tr.high_ht] at a3 a4
    have hmin : (max l.ht r.ht - 1) ≤ l.ht ∧ (max l.ht r.ht - 1) ≤ r.ht := by omega
    have k1 : 2 ^ ((max l.ht r.ht - 1) / 2) ≤ 2 ^ (l.ht / 2) := Nat.pow_le_pow_right (by omega) (by omega)
    have k2 : 2 ^ ((max l.ht r.ht - 1) / 2) ≤ 2 ^ (r.ht / 2) := Nat.pow_le_pow_right (by omega) (by omega)
    simp only [Tr.lv, Tr.ht, upP, List.length_map, List.length_append]
    have e : (max l.ht r.ht + 1) / 2 = (max l.ht r.ht - 1) / 2 + 1 := by omega
    have hm : 2 ^ ((max l.ht r.ht + 1) / 2) ≤ l.lv.length + r.lv.length := by
      rw [e, Nat.pow_succ]
      omega
    refine ⟨hm, fun _ => Nat.le_trans (Nat.pow_le_pow_right (by omega) (by omega)) hm⟩
/-- How many binary digits. -/
def dgt (n : Nat) : Nat := if h : n = 0 then 0 else dgt (n / 2) + 1
termination_by n
decreasing_by omega
theorem dgt_zero : dgt 0 = 0 := by unfold dgt; rfl
theorem dgt_step (n : Nat) (h : n ≠ 0) : dgt n = dgt (n / 2) + 1 := by
  conv => lhs; unfold dgt
  rw [dif_neg h]
theorem dgt_le : ∀ (j n : Nat), n < 2 ^ j → dgt n ≤ j
  | 0, n, h => by
    obtain rfl : n = 0 := by omega
    rw [dgt_zero]; omega
  | j + 1, n, h => by
    by_cases e : n = 0
    · subst e; rw [dgt_zero]; omega
    · rw [dgt_step n e]
      have := dgt_le j (n / 2) (by rw [Nat.pow_succ] at h; omega)
      omega
theorem dgt_ge : ∀ (j n : Nat), 2 ^ j ≤ n → j + 1 ≤ dgt n
  | 0, n, h => by
    rw [dgt_step n (by omega)]; omega
  | j + 1, n, h => by
    have hp : 0 < 2 ^ j := Nat.pow_pos (by omega)
    rw [Nat.pow_succ] at h
    rw [dgt_step n (by omega)]
    have := dgt_ge j (n / 2) (by omega)
    omega
/-- What RopeKept asks of the levels. -/
theorem Tr.Rp.levels {t : Tr} (h : t.Rp) : (dgt t.lv.length : Int) ≤ t.sm.high ∧ t.sm.high ≤ 2 * (dgt t.lv.length : Int) := by
  rw [Tr.high_ht]
  rcases h.can with rfl | hf
  · simp [Tr.lv, Tr.ht, dgt_zero]
  · obtain ⟨u1, u2⟩ := Tr.ht_up t hf.wf
    have hl := (Tr.ht_low t hf.wf hf.avl).1
    have hp : 0 < 2 ^ (t.ht - 1) := Nat.pow_pos (by omega)
    have d1 := dgt_le t.ht t.lv.length (by
      have : 2 ^ t.ht = 2 ^ (t.ht - 1) * 2 := by rw [← Nat.pow_succ]; congr 1; omega
      omega)
    have d2 := dgt_ge _ _ hl
    omega
theorem Tr.Rp.kept {t : Tr} (h : t.Rp) : (runsOfRow t.row).length ≤ t.lv.length ∧ t.lv.length ≤ (runsOfRow t.row).length + t.row.length / 16 ∧ ((runsOfRow t.row).length = 0 ↔ t.row.length = 0) := by
  have := pcs_kept h.pcs
  rwa [← Tr.row_lv] at this
end Go.Proofs.YtcmefibipoidhaaDoor
