import Derived.Test.YtcmefibipoidhaaDoorRqMN
import Derived.Test.YtcmefibipoidhaaDoorRpPR
import Derived.Test.YtcmefibipoidhaaDoorRqK
import Derived.Test.YtcmefibipoidhaaDoorRrEJ
/-! The fewest runs of a row, cell by cell and piece by piece. -/
namespace Go.Proofs.YtcmefibipoidhaaDoor
set_option maxRecDepth 100000

/-- Runs that are ended, the runes of the last one, its counter. -/
abbrev RunSt := List (List Int × Int) × List Int × Int
def cst (s : RunSt) (c : Int × Int) : RunSt := if s.2.1 ≠ [] ∧ c.2 ≠ s.2.2 then (s.1 ++ [(s.2.1, s.2.2)], [c.1], c.2) else (s.1, s.2.1 ++ [c.1], c.2)
def cstR (R : List (Int × Int)) : RunSt := R.foldl cst ([], [], 0)
def runsOfRow (R : List (Int × Int)) : List (List Int × Int) := if (cstR R).2.1 = [] then (cstR R).1 else (cstR R).1 ++ [((cstR R).2.1, (cstR R).2.2)]
/-- A piece: its place, its runes, its counter. -/
def stp (s : RunSt) (y : Int × List Int × Int) : RunSt := if 0 < y.1 ∧ y.2.2 ≠ s.2.2 then (s.1 ++ [(s.2.1, s.2.2)], y.2.1, y.2.2) else (s.1, s.2.1 ++ y.2.1, y.2.2)
theorem cst_same (h : Int) : ∀ (rs : List Int) (D : List (List Int × Int)) (cur : List Int), cur ≠ [] → (rs.map fun c => (c, h)).foldl cst (D, cur, h) = (D, cur ++ rs, h)
  | [], D, cur, _ => by simp
  | r :: rs, D, cur, hc => by
    have e : cst (D, cur, h) (r, h) = (D, cur ++ [r], h) := by unfold cst; rw [if_neg (by simp)]
    rw [List.map_cons, List.foldl_cons, e, cst_same h rs D (cur ++ [r]) (by simp)]
    simp
theorem cst_piece (s : RunSt) (rs : List Int) (h : Int) (hr : rs ≠ []) : (rs.map fun c => (c, h)).foldl cst s = if s.2.1 ≠ [] ∧ h ≠ s.2.2 then (s.1 ++ [(s.2.1, s.2.2)], rs, h) else (s.1, s.2.1 ++ rs, h) := by
  cases rs with
  | nil => exact absurd rfl hr
  | cons r rs =>
    rw [List.map_cons, List.foldl_cons]
    by_cases c : s.2.1 ≠ [] ∧ h ≠ s.2.2
    · have e : cst s (r, h) = (s.1 ++ [(s.2.1, s.2.2)], [r], h) := by unfold cst; rw [if_pos c]
      rw [e, if_pos c, cst_same h rs _ [r] (by simp)]
      simp
    · have e : cst s (r, h) = (s.1, s.2.1 ++ [r], h) := by unfold cst; rw [if_neg c]
      rw [e, if_neg c, cst_same h rs _ (s.2.1 ++ [r]) (by simp)]
      simp
/-- Whole pieces with their places. -/
def pls : List (List Int × Int) → Int → List (Int × List Int × Int)
  | [], _ => []
  | p :: t, f => (f, p.1, p.2) :: pls t (f + p.1.length)
theorem gv_whole : ∀ (l : List (List Int × Int)) (f hi : Int), (∀ p ∈ l, p.1 ≠ []) → 0 ≤ f → f + (rowOf l).length ≤ hi → gv l f 0 hi = pls l f
  | [], _, _, _, _, _ => rfl
  | p :: t, f, hi, hp, h0, h1 => by
    have e : ((rowOf (p :: t)).length : Int) = p.1.length + (rowOf t).length := by rw [rowOf_cons, List.length_append, List.length_map]; omega
    have hne := List.length_pos_iff.2 (hp p (by simp))
    rw [e] at h1
    simp only [gv, pls]
    rw [gv_whole t (f + p.1.length) hi (fun q hq => hp q (by simp [hq])) (by omega) (by omega)]
    have m1 : max 0 f = f := by omega
    have m2 : min hi (f + (p.1.length : Int)) = f + (p.1.length : Int) := by omega
    unfold one
    rw [m1, m2, if_pos (by omega)]
    have e2 : (f + (p.1.length : Int) - f).toNat = p.1.length := by omega
    have e3 : (f - f).toNat = 0 := by omega
    rw [e2, e3, List.take_length, List.drop_zero]
    rfl
theorem stp_cells : ∀ (l : List (List Int × Int)) (f : Int) (s : RunSt), (∀ p ∈ l, p.1 ≠ []) → 0 ≤ f → (0 < f ↔ s.2.1 ≠ []) → (pls l f).foldl stp s = (rowOf l).foldl cst s
  | [], _, _, _, _, _ => by simp [pls, rowOf]
  | p :: t, f, s, hp, h0, hf => by
    have hne := hp p (by simp)
    have hpos := List.length_pos_iff.2 hne
    have e : stp s (f, p.1, p.2) = (p.1.map fun c => (c, p.2)).foldl cst s := by
      rw [cst_piece s p.1 p.2 hne]
      unfold stp
      simp only [hf]
    rw [pls, List.foldl_cons, rowOf_cons, List.foldl_append, e]
    refine stp_cells t _ _ (fun q hq => hp q (by simp [hq])) (by omega) ?_
    rw [cst_piece s p.1 p.2 hne]
    refine ⟨fun _ => ?_, fun _ => by omega⟩
    split
    · exact hne
    · simp only
      intro e2
      exact hne (List.append_eq_nil_iff.1 e2).2
/-- A row of three stretches. -/
theorem runs_three (a b c : List Int) (h k m : Int) (ha : a ≠ []) (hb : b ≠ []) (hc : c ≠ []) (h1 : k ≠ h) (h2 : m ≠ k) :
    runsOfRow ((a.map fun x => (x, h)) ++ (b.map fun x => (x, k)) ++ (c.map fun x => (x, m))) = [(a, h), (b, k), (c, m)] := by
  have e : cstR ((a.map fun x => (x, h)) ++ (b.map fun x => (x, k)) ++ (c.map fun x => (x, m))) = ([(a, h), (b, k)], c, m) := by
    unfold cstR
    rw [List.foldl_append, List.foldl_append, cst_piece _ a h ha, if_neg (by simp), cst_piece _ b k hb, if_pos (by simp [ha, h1]), cst_piece _ c m hc, if_pos (by simp [hb, h2])]
    simp
  unfold runsOfRow
  rw [e]
  simp [hc]
end Go.Proofs.YtcmefibipoidhaaDoor

/-! How many pieces and levels: RopeKept's bounds. -/
namespace Go.Proofs.YtcmefibipoidhaaDoor
set_option maxRecDepth 100000

/-- How many pieces have the counter of the one ahead of them. -/
def sameN : List (List Int × Int) → Nat
  | [] => 0
  | [_] => 0
  | p :: q :: t => (if p.2 = q.2 then 1 else 0) + sameN (q :: t)
def sameF (h : Int) : List (List Int × Int) → Nat
  | [] => 0
  | p :: t => (if p.2 = h then 1 else 0) + sameF p.2 t
theorem sameN_cons : ∀ (p : List Int × Int) (t : List (List Int × Int)), sameN (p :: t) = sameF p.2 t
  | _, [] => rfl
  | p, q :: t => by
    simp only [sameN, sameF]
    rw [sameN_cons q t]
    by_cases e : p.2 = q.2
    · rw [if_pos e, if_pos e.symm]
    · rw [if_neg e, if_neg fun h => e h.symm]
theorem sameF_le (h : Int) : ∀ t, sameF h t ≤ t.length
  | [] => Nat.le_refl _
  | p :: t => by have := sameF_le p.2 t; simp only [sameF, List.length_cons]; split <;> omega
theorem stp_count : ∀ (l : List (List Int × Int)) (f : Int) (s : RunSt), (∀ p ∈ l, p.1 ≠ []) → 0 < f → ((pls l f).foldl stp s).1.length + sameF s.2.2 l = s.1.length + l.length
  | [], _, _, _, _ => by simp [pls, sameF]
  | p :: t, f, s, hp, h0 => by
    have hne := hp p (by simp)
    rw [pls, List.foldl_cons]
    have ih := stp_count t (f + p.1.length) (stp s (f, p.1, p.2)) (fun q hq => hp q (by simp [hq])) (by omega)
    by_cases e : p.2 = s.2.2
    · have e1 : stp s (f, p.1, p.2) = (s.1, s.2.1 ++ p.1, p.2) := by unfold stp; rw [if_neg (by simp [e])]
      rw [e1] at ih ⊢
      simp only [sameF, List.length_cons, if_pos e] at ih ⊢
      omega
    · have e1 : stp s (f, p.1, p.2) = (s.1 ++ [(s.2.1, s.2.2)], p.1, p.2) := by unfold stp; rw [if_pos ⟨h0, e⟩]
      rw [e1] at ih ⊢
      simp only [sameF, List.length_cons, List.length_append, List.length_nil, if_neg e] at ih ⊢
      omega
theorem stp_open : ∀ (l : List (List Int × Int)) (f : Int) (s : RunSt), (∀ p ∈ l, p.1 ≠ []) → s.2.1 ≠ [] → ((pls l f).foldl stp s).2.1 ≠ []
  | [], _, _, _, h => by simpa [pls] using h
  | p :: t, f, s, hp, h => by
    rw [pls, List.foldl_cons]
    refine stp_open t _ _ (fun q hq => hp q (by simp [hq])) ?_
    unfold stp
    split
    · exact hp p (by simp)
    · simp only
      intro e
      exact h (List.append_eq_nil_iff.1 e).1
/-- Runs and pieces of one counter side by side are all the pieces. -/
theorem runs_count {l : List (List Int × Int)} (hp : ∀ p ∈ l, p.1 ≠ []) : (runsOfRow (rowOf l)).length + sameN l = l.length := by
  cases l with
  | nil => simp [runsOfRow, cstR, rowOf, sameN]
  | cons p t =>
    have hne := hp p (by simp)
    have hpos := List.length_pos_iff.2 hne
    have e0 : cstR (rowOf (p :: t)) = (pls (p :: t) 0).foldl stp ([], [], 0) := (stp_cells (p :: t) 0 ([], [], 0) hp (Int.le_refl _) (by simp)).symm
    have e1 : stp ([], [], 0) (0, p.1, p.2) = ([], p.1, p.2) := by unfold stp; rw [if_neg (by simp)]; rfl
    rw [pls, List.foldl_cons, e1] at e0
    have hc := stp_count t (0 + p.1.length) ([], p.1, p.2) (fun q hq => hp q (by simp [hq])) (by omega)
    have ho := stp_open t (0 + p.1.length) ([], p.1, p.2) (fun q hq => hp q (by simp [hq])) hne
    rw [← e0] at hc ho
    unfold runsOfRow
    rw [if_neg ho, sameN_cons]
    simp only [List.length_append, List.length_cons, List.length_nil] at hc ⊢
    omega
theorem same_cells : ∀ {l : List (List Int × Int)}, NoFit l → ∀ p, l.head? = some p → 33 * sameN l + p.1.length ≤ 2 * (rowOf l).length
  | [], _, p, h => by cases h
  | [q], _, p, h => by
    cases h
    simp [sameN, rowOf]
    omega
  | q :: r :: t, hn, p, h => by
    cases h
    have ih := same_cells hn.2 r rfl
    have e : (rowOf (q :: r :: t)).length = q.1.length + (rowOf (r :: t)).length := by rw [rowOf_cons, List.length_append, List.length_map]
    rw [e]
    simp only [sameN]
    by_cases c : q.2 = r.2
    · have := hn.1
      unfold Fit at this
      rw [if_pos c]
      have h2 : ¬ q.1.length + r.1.length ≤ 32 := fun h => this ⟨c, h⟩
      omega
    · rw [if_neg c]
      omega
theorem rowOf_some {l : List (List Int × Int)} (hp : ∀ p ∈ l, p.1 ≠ []) (h : l ≠ []) : 0 < (rowOf l).length := by
  cases l with
  | nil => exact absurd rfl h
  | cons p t =>
    have := List.length_pos_iff.2 (hp p (by simp))
    rw [rowOf_cons, List.length_append, List.length_map]
    omega
/-- What RopeKept asks of runs and pieces. -/
theorem pcs_kept {l : List (List Int × Int)} (h : Pcs l) : (runsOfRow (rowOf l)).length ≤ l.length ∧ l.length ≤ (runsOfRow (rowOf l)).length + (rowOf l).length / 16 ∧ ((runsOfRow (rowOf l)).length = 0 ↔ (rowOf l).length = 0) := by
  have h1 := runs_count h.some_
  by_cases hl : l = []
  · subst hl; simp [rowOf, runsOfRow, cstR]
  · have h3 := rowOf_some h.some_ hl
    cases l with
    | nil => exact absurd rfl hl
    | cons p t =>
      have h2 := same_cells h.apart p rfl
      have h4 : sameN (p :: t) ≤ t.length := by rw [sameN_cons]; exact sameF_le _ _
      simp only [List.length_cons] at h1 ⊢
      omega
theorem Tr.pieces_lv : ∀ t : Tr, t.sm.pieces = t.lv.length
  | .nil => rfl
  | .leaf rs h st => rfl
  | .node l r st => by
    have h1 := Tr.pieces_lv l
    have h2 := Tr.pieces_lv r
    simp only [Tr.sm, Tr.lv, Sm.raised, Sm.both, upP, List.length_map, List.length_append]
    omega
/-- The height as a number. -/
def Tr.ht : Tr → Nat
  | .nil => 0
  | .leaf _ _ _ => 1
  | .node l r _ => max l.ht r.ht + 1
theorem Tr.high_ht : ∀ t : Tr, t.sm.high = t.ht
  | .nil => rfl
  | .leaf rs h st => rfl
  | .node l r st => by
    have h1 := Tr.high_ht l
    have h2 := Tr.high_ht r
    simp only [Tr.sm, Tr.ht, Sm.raised, Sm.both]
    omega
theorem Tr.ht_up : ∀ t : Tr, t.Wf → t.lv.length ≤ 2 ^ (t.ht - 1) ∧ 1 ≤ t.ht
  | .nil, h => h.elim
  | .leaf rs h st, _ => by simp [Tr.lv, Tr.ht]
  | .node l r st, h => by
    have h1 := Tr.ht_up l h.1
    have h2 := Tr.ht_up r h.2
    simp only [Tr.lv, Tr.ht, upP, List.length_map, List.length_append]
    have k1 : 2 ^ (l.ht - 1) ≤ 2 ^ (max l.ht r.ht - 1) := Nat.pow_le_pow_right (by omega) (by omega)
    have k2 : 2 ^ (r.ht - 1) ≤ 2 ^ (max l.ht r.ht - 1) := Nat.pow_le_pow_right (by omega) (by omega)
    have e : max l.ht r.ht + 1 - 1 = (max l.ht r.ht - 1) + 1 := by omega
    rw [e, Nat.pow_succ]
    omega
theorem Tr.ht_low : ∀ t : Tr, t.Wf → t.Avl → 2 ^ (t.ht / 2) ≤ t.lv.length ∧ (1 ≤ t.ht → 2 ^ ((t.ht - 1) / 2) ≤ t.lv.length)
  | .nil, h, _ => h.elim
  | .leaf rs h st, _, _ => by simp [Tr.lv, Tr.ht]
  | .node l r st, h, a => by
    obtain ⟨a1, a2, a3, a4⟩ := a
    have h1 := Tr.ht_low l h.1 a1
    have h2 := Tr.ht_low r h.2 a2
    have p1 := (Tr.ht_up l h.1).2
    have p2 := (Tr.ht_up r h.2).2
    rw [Tr.high_ht, Tr.high_ht] at a3 a4
    have hmin : (max l.ht r.ht - 1) ≤ l.ht ∧ (max l.ht r.ht - 1) ≤ r.ht := by omega
    have k1 : 2 ^ ((max l.ht r.ht - 1) / 2) ≤ 2 ^ (l.ht / 2) := Nat.pow_le_pow_right (by omega) (by omega)
    have k2 : 2 ^ ((max l.ht r.ht - 1) / 2) ≤ 2 ^ (r.ht / 2) := Nat.pow_le_pow_right (by omega) (by omega)
    simp only [Tr.lv, Tr.ht, upP, List.length_map, List.length_append]
    have e : (max l.ht r.ht + 1) / 2 = (max l.ht r.ht - 1) / 2 + 1 := by omega
    have hm : 2 ^ ((max l.ht r.ht + 1) / 2) ≤ l.lv.length + r.lv.length := by
      rw [e, Nat.pow_succ]
      omega
    refine ⟨hm, fun _ => Nat.le_trans (Nat.pow_le_pow_right (by omega) (by omega)) hm⟩
/-- How many binary digits. -/
def dgt (n : Nat) : Nat := if h : n = 0 then 0 else dgt (n / 2) + 1
termination_by n
decreasing_by omega
theorem dgt_zero : dgt 0 = 0 := by unfold dgt; rfl
theorem dgt_step (n : Nat) (h : n ≠ 0) : dgt n = dgt (n / 2) + 1 := by
  conv => lhs; unfold dgt
  rw [dif_neg h]
theorem dgt_le : ∀ (j n : Nat), n < 2 ^ j → dgt n ≤ j
  | 0, n, h => by
    obtain rfl : n = 0 := by omega
    rw [dgt_zero]; omega
  | j + 1, n, h => by
    by_cases e : n = 0
    · subst e; rw [dgt_zero]; omega
    · rw [dgt_step n e]
      have := dgt_le j (n / 2) (by rw [Nat.pow_succ] at h; omega)
      omega
theorem dgt_ge : ∀ (j n : Nat), 2 ^ j ≤ n → j + 1 ≤ dgt n
  | 0, n, h => by
    rw [dgt_step n (by omega)]; omega
  | j + 1, n, h => by
    have hp : 0 < 2 ^ j := Nat.pow_pos (by omega)
    rw [Nat.pow_succ] at h
    rw [dgt_step n (by omega)]
    have := dgt_ge j (n / 2) (by omega)
    omega
/-- What RopeKept asks of the levels. -/
theorem Tr.Rp.levels {t : Tr} (h : t.Rp) : (dgt t.lv.length : Int) ≤ t.sm.high ∧ t.sm.high ≤ 2 * (dgt t.lv.length : Int) := by
  rw [Tr.high_ht]
  rcases h.can with rfl | hf
  · simp [Tr.lv, Tr.ht, dgt_zero]
  · obtain ⟨u1, u2⟩ := Tr.ht_up t hf.wf
    have hl := (Tr.ht_low t hf.wf hf.avl).1
    have hp : 0 < 2 ^ (t.ht - 1) := Nat.pow_pos (by omega)
    have d1 := dgt_le t.ht t.lv.length (by
      have : 2 ^ t.ht = 2 ^ (t.ht - 1) * 2 := by rw [← Nat.pow_succ]; congr 1; omega
      omega)
    have d2 := dgt_ge _ _ hl
    omega
theorem Tr.Rp.kept {t : Tr} (h : t.Rp) : (runsOfRow t.row).length ≤ t.lv.length ∧ t.lv.length ≤ (runsOfRow t.row).length + t.row.length / 16 ∧ ((runsOfRow t.row).length = 0 ↔ t.row.length = 0) := by
  have := pcs_kept h.pcs
  rwa [← Tr.row_lv] at this
end Go.Proofs.YtcmefibipoidhaaDoor

/-! Leaves, Height; the statement's own digits. -/
namespace Go.Proofs.YtcmefibipoidhaaDoor
open Go.RowKit Go.Lib
set_option maxRecDepth 100000

set_option maxHeartbeats 400000 in
theorem leaves_at {w : World} {t : Tr} {g q : Nat} (h : At w t g) (hq : w.cell? ⟨q, 0, none⟩ = some (.pointer (some ⟨g, 0, none⟩))) : Calls Tryd.prog 10 #[.pointer (some ⟨q, 0, none⟩)] w fun e w' => e = .returned (.int .i64 t.sm.pieces) ∧ w' = w := by
  obtain ⟨an, nn, cn, pl, pr, st, hn⟩ := h.node
  have c0 := hn.cell 1 _ rfl
  clear hn
  go_enter Tryd.func10, Tryd.ntmps10
  go_wp2_with fail
  go_ret
  exact ⟨rfl, rfl⟩
set_option maxHeartbeats 400000 in
theorem height_at {w : World} {t : Tr} {g q : Nat} (h : At w t g) (hq : w.cell? ⟨q, 0, none⟩ = some (.pointer (some ⟨g, 0, none⟩))) : Calls Tryd.prog 12 #[.pointer (some ⟨q, 0, none⟩)] w fun e w' => e = .returned (.int .i64 t.sm.high) ∧ w' = w := by
  obtain ⟨an, nn, cn, pl, pr, st, hn⟩ := h.node
  have c0 := hn.cell 2 _ rfl
  clear hn
  go_enter Tryd.func12, Tryd.ntmps12
  go_wp2_with fail
  go_ret
  exact ⟨rfl, rfl⟩
theorem leaves_any {w : World} {q : Nat} {t : Tr} (h : RopeAt w q t) : Calls Tryd.prog 10 #[ptr q] w fun e w' => e = .returned (.int .i64 (t.lv.length : Int)) ∧ w' = w := by
  obtain ⟨g, h1, h2⟩ := h.cell
  rw [← Tr.pieces_lv]
  exact leaves_at h2 h1
theorem height_any {w : World} {q : Nat} {t : Tr} (h : RopeAt w q t) : Calls Tryd.prog 12 #[ptr q] w fun e w' => e = .returned (.int .i64 t.sm.high) ∧ w' = w := by
  obtain ⟨g, h1, h2⟩ := h.cell
  exact height_at h2 h1
set_option maxHeartbeats 1000000 in
theorem digits_any (n : Nat) (hn : n ≤ 2097152) (w : World) : Calls Tryd.prog 11 #[.int .i64 (n : Int)] w fun e w' => e = .returned (.int .i64 (dgt n : Int)) ∧ w' = w := by
  go_enter Tryd.func11, Tryd.ntmps11
  go_wp2_with fail
  go_loopw [0, 3] (fun v0 v2 W => ∃ (m j : Nat), v0 = .int .i64 (m : Int) ∧ v2 = .int .i64 (j : Int) ∧ m ≤ n ∧ j + m ≤ n ∧ dgt n = j + dgt m ∧ W = w) (fun v _ _ => (RowKit.intOf v).toNat)
  case atStart => exact ⟨n, 0, rfl, rfl, Nat.le_refl _, by omega, by omega, rfl⟩
  case round =>
    obtain ⟨m, j, rfl, rfl, hm, hj, hd, rfl⟩ := hrel
    by_cases h0 : m = 0
    · subst h0
      rw [dgt_zero] at hd
      go_wp2_with fail
      go_ret
      exact ⟨by rw [hd]; rfl, rfl⟩
    · have d0 : decide ((0 : Int) < (m : Int)) = true := decide_eq_true (by omega)
      have e2 : ((m : Int)).tdiv 2 = ((m / 2 : Nat) : Int) := by rw [Int.tdiv_eq_ediv_of_nonneg (by omega)]; omega
      rw [dgt_step m h0] at hd
      go_wp2_with fail
      exact ⟨⟨m / 2, j + 1, by simp, by simp, by omega, by omega, by omega, trivial⟩, by simp [RowKit.intOf]; omega⟩
end Go.Proofs.YtcmefibipoidhaaDoor
