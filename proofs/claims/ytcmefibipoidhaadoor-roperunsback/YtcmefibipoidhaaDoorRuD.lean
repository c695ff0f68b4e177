import Derived.Test.YtcmefibipoidhaaDoorRuA
/-! The fewest runs of a row: they make the row, and they alone. -/
namespace Go.Proofs.YtcmefibipoidhaaDoor
set_option maxRecDepth 100000

/-- Neighbours of unlike counters. -/
def Alt : List (List Int × Int) → Prop
  | [] => True
  | [_] => True
  | p :: q :: t => p.2 ≠ q.2 ∧ Alt (q :: t)
theorem alt_snoc : ∀ (l : List (List Int × Int)) (q : List Int × Int), Alt (l ++ [q]) ↔ Alt l ∧ ∀ p, l.getLast? = some p → p.2 ≠ q.2
  | [], q => by simp [Alt]
  | [p], q => by simp [Alt]
  | p :: r :: t, q => by
    have ih := alt_snoc (r :: t) q
    show (p.2 ≠ r.2 ∧ Alt ((r :: t) ++ [q])) ↔ _
    rw [ih]
    simp only [Alt, List.getLast?_cons_cons]
    constructor
    · rintro ⟨a, b, c⟩; exact ⟨⟨a, b⟩, c⟩
    · rintro ⟨⟨a, b⟩, c⟩; exact ⟨a, b, c⟩
theorem alt_get : ∀ {l : List (List Int × Int)}, Alt l → ∀ (j : Nat) x y, l[j]? = some x → l[j + 1]? = some y → x.2 ≠ y.2
  | [], _, j, x, y, hx, _ => by simp at hx
  | [p], _, j, x, y, _, hy => by simp at hy
  | p :: q :: t, h, 0, x, y, hx, hy => by simp at hx hy; subst hx hy; exact h.1
  | p :: q :: t, h, j + 1, x, y, hx, hy => alt_get h.2 j x y (by simpa using hx) (by simpa using hy)
theorem alt_of : ∀ {l : List (List Int × Int)}, (∀ (j : Nat) x y, l[j]? = some x → l[j + 1]? = some y → x.2 ≠ y.2) → Alt l
  | [], _ => trivial
  | [_], _ => trivial
  | p :: q :: t, h => ⟨h 0 p q rfl rfl, alt_of fun j x y hx hy => h (j + 1) x y (by simpa using hx) (by simpa using hy)⟩
/-- The runs, the last one ended. -/
def fin (s : RunSt) : List (List Int × Int) := if s.2.1 = [] then s.1 else s.1 ++ [(s.2.1, s.2.2)]
theorem runs_fin (R : List (Int × Int)) : runsOfRow R = fin (cstR R) := rfl
structure FinOk (s : RunSt) : Prop where
  none_ : s.2.1 = [] → s.1 = []
  some_ : ∀ p ∈ fin s, p.1 ≠ []
  alt : Alt (fin s)
theorem fin_cst {s : RunSt} (h : FinOk s) (c : Int × Int) : FinOk (cst s c) ∧ rowOf (fin (cst s c)) = rowOf (fin s) ++ [c] := by
  obtain ⟨D, cur, k⟩ := s
  have r1 : ∀ (l : List Int) (k : Int), rowOf [(l, k)] = l.map fun c => (c, k) := fun l k => by simp [rowOf]
  by_cases h0 : cur = []
  · subst h0
    have hD := h.none_ rfl
    simp only at hD
    subst hD
    have e : cst ([], [], k) c = ([], [c.1], c.2) := by unfold cst; rw [if_neg (by simp)]; rfl
    rw [e]
    refine ⟨⟨fun e => by simp at e, fun p hp => ?_, ?_⟩, ?_⟩
    · simp [fin] at hp; subst hp; simp
    · simp [fin, Alt]
    · simp [fin, rowOf]
  · have hf : fin (D, cur, k) = D ++ [(cur, k)] := by unfold fin; rw [if_neg h0]
    have hs := h.some_
    have ha := h.alt
    rw [hf] at hs ha ⊢
    by_cases h1 : c.2 = k
    · have e : cst (D, cur, k) c = (D, cur ++ [c.1], c.2) := by unfold cst; rw [if_neg (by simp [h1])]
      have hf2 : fin (D, cur ++ [c.1], c.2) = D ++ [(cur ++ [c.1], c.2)] := by unfold fin; rw [if_neg (by simp)]
      rw [e]
      refine ⟨⟨fun e => by simp at e, fun p hp => ?_, ?_⟩, ?_⟩
      · rw [hf2] at hp
        rcases List.mem_append.1 hp with hp | hp
        · exact hs p (List.mem_append_left _ hp)
        · simp at hp; subst hp; simp
      · rw [hf2, alt_snoc]
        rw [alt_snoc] at ha
        exact ⟨ha.1, fun p hp => by rw [h1]; exact ha.2 p hp⟩
      · rw [hf2, rowOf_append, rowOf_append, r1, r1, List.map_append, h1]
        simp [← h1]
    · have e : cst (D, cur, k) c = (D ++ [(cur, k)], [c.1], c.2) := by unfold cst; rw [if_pos ⟨h0, h1⟩]
      have hf2 : fin (D ++ [(cur, k)], [c.1], c.2) = D ++ [(cur, k)] ++ [([c.1], c.2)] := by unfold fin; rw [if_neg (by simp)]
      rw [e]
      refine ⟨⟨fun e => by simp at e, fun p hp => ?_, ?_⟩, ?_⟩
      · rw [hf2] at hp
        rcases List.mem_append.1 hp with hp | hp
        · exact hs p hp
        · simp at hp; subst hp; simp
      · rw [hf2, alt_snoc]
        refine ⟨ha, fun p hp => ?_⟩
        rw [List.getLast?_append] at hp
        simp at hp
        subst hp
        exact fun e => h1 e.symm
      · rw [hf2, rowOf_append, r1]
        simp
theorem fin_all : ∀ (R : List (Int × Int)) {s : RunSt}, FinOk s → FinOk (R.foldl cst s) ∧ rowOf (fin (R.foldl cst s)) = rowOf (fin s) ++ R
  | [], s, h => ⟨h, by simp⟩
  | c :: R, s, h => by
    obtain ⟨h1, h2⟩ := fin_cst h c
    obtain ⟨h3, h4⟩ := fin_all R h1
    exact ⟨h3, by rw [List.foldl_cons, h4, h2]; simp⟩
theorem fin_nil : FinOk ([], [], 0) := ⟨fun _ => rfl, fun p hp => by simp [fin] at hp, trivial⟩
/-- The runs make the row. -/
theorem runs_row (R : List (Int × Int)) : rowOf (runsOfRow R) = R := by
  rw [runs_fin]
  exact (fin_all R fin_nil).2
theorem runs_some (R : List (Int × Int)) : ∀ p ∈ runsOfRow R, p.1 ≠ [] := by
  rw [runs_fin]
  exact (fin_all R fin_nil).1.some_
theorem runs_alt (R : List (Int × Int)) : Alt (runsOfRow R) := by
  rw [runs_fin]
  exact (fin_all R fin_nil).1.alt
theorem stp_fin : ∀ (l : List (List Int × Int)) (f : Int) (s : RunSt), (∀ p ∈ l, p.1 ≠ []) → 0 < f → s.2.1 ≠ [] → Alt ((s.2.1, s.2.2) :: l) → fin ((pls l f).foldl stp s) = fin s ++ l
  | [], _, _, _, _, _, _ => by simp [pls]
  | p :: t, f, s, hp, h0, hs, ha => by
    have hne := hp p (by simp)
    have e : stp s (f, p.1, p.2) = (s.1 ++ [(s.2.1, s.2.2)], p.1, p.2) := by unfold stp; rw [if_pos ⟨h0, fun e => ha.1 e.symm⟩]
    rw [pls, List.foldl_cons, e, stp_fin t _ _ (fun q hq => hp q (by simp [hq])) (by omega) hne ha.2]
    unfold fin
    rw [if_neg hne, if_neg hs]
    simp
/-- Runs of unlike neighbours are the fewest of their row. -/
theorem runs_of {l : List (List Int × Int)} (hp : ∀ p ∈ l, p.1 ≠ []) (ha : Alt l) : runsOfRow (rowOf l) = l := by
  cases l with
  | nil => simp [runsOfRow, cstR, rowOf]
  | cons p t =>
    have hne := hp p (by simp)
    have hpos := List.length_pos_iff.2 hne
    have e0 : cstR (rowOf (p :: t)) = (pls (p :: t) 0).foldl stp ([], [], 0) := (stp_cells (p :: t) 0 ([], [], 0) hp (Int.le_refl _) (by simp)).symm
    have e1 : stp ([], [], 0) (0, p.1, p.2) = ([], p.1, p.2) := by unfold stp; rw [if_neg (by simp)]; rfl
    rw [pls, List.foldl_cons, e1] at e0
    rw [runs_fin, e0, stp_fin t _ _ (fun q hq => hp q (by simp [hq])) (by omega) hne ha]
    unfold fin
    rw [if_neg hne]
    rfl
end Go.Proofs.YtcmefibipoidhaaDoor
