import Derived.Test.YtmdnmhdimfglaaaGreatDoorXkD
namespace Go.Proofs.YtmdnmhdimfglaaaGreatDoor
open Go.RowKit Go.Lib
set_option maxRecDepth 100000
def rowR : List OpV → OpV → (List OpV × OpV) × Int
  | [], l => (([], l), 0)
  | f :: F, l => if (inclP l f true).2 ≠ 0 then (([], op0), (inclP l f true).2) else if (inclP f l false).2 ≠ 0 then (([], op0), (inclP f l false).2)
    else (((inclP f l false).1 :: (rowR F (inclP l f true).1).1.1, (rowR F (inclP l f true).1).1.2), (rowR F (inclP l f true).1).2)
def allR : List OpV → List OpV → (List OpV × List OpV) × Int
  | F, [] => ((F, []), 0)
  | F, l :: L => if (rowR F l).2 ≠ 0 then (([], []), (rowR F l).2) else if (allR (rowR F l).1.1 L).2 ≠ 0 then (([], []), (allR (rowR F l).1.1 L).2)
    else (((allR (rowR F l).1.1 L).1.1, (rowR F l).1.2 :: (allR (rowR F l).1.1 L).1.2), 0)
def xCross (F L : List OpV) : (List OpV × List OpV) × Int :=
  if firstErr F ≠ 0 then (([], []), firstErr F) else if firstErr L ≠ 0 then (([], []), firstErr L) else allR F L
def no2 (e : Int) : (List OpV × List OpV) × Int := (([], []), e)
def LeftC (fin : (List OpV × List OpV) × Int) (F L : List OpV) (i : Nat) : Prop :=
  fin = if (allR F (L.drop i)).2 ≠ 0 then allR F (L.drop i) else (((allR F (L.drop i)).1.1, L.take i ++ (allR F (L.drop i)).1.2), 0)
structure CrS (fin : (List OpV × List OpV) × Int) (n m i : Nat) (F L : List OpV) : Prop where
  lenF : F.length = n
  lenL : L.length = m
  rF : ∀ x ∈ F, Right x
  rL : ∀ x ∈ L, Right x
  eq : LeftC fin F L i
structure CrT (fin : (List OpV × List OpV) × Int) (n m i j : Nat) (F L : List OpV) (l : OpV) : Prop where
  lenF : F.length = n
  lenL : L.length = m
  rF : ∀ x ∈ F, Right x
  rL : ∀ x ∈ L, Right x
  at_ : L[i]? = some l
  bad : (rowR (F.drop j) l).2 ≠ 0 → fin = no2 (rowR (F.drop j) l).2
  good : (rowR (F.drop j) l).2 = 0 → LeftC fin (F.take j ++ (rowR (F.drop j) l).1.1) (L.set i (rowR (F.drop j) l).1.2) (i + 1)
theorem take_set_at {α : Type} {L : List α} {i : Nat} {x y : α} (h : L[i]? = some x) : (L.set i y).take (i + 1) = L.take i ++ [y] := by
  obtain ⟨hi, rfl⟩ := List.getElem?_eq_some_iff.1 h
  rw [List.take_succ_eq_append_getElem (by rw [List.length_set]; exact hi), List.take_set_of_le (Nat.le_refl _), List.getElem_set_self]
theorem drop_set_at {α : Type} (L : List α) (i : Nat) (y : α) : (L.set i y).drop (i + 1) = L.drop (i + 1) := List.drop_set_of_lt (Nat.lt_succ_self _)
theorem crs_start {F L : List OpV} (hF : ∀ x ∈ F, Right x) (hL : ∀ x ∈ L, Right x) : CrS (allR F L) F.length L.length 0 F L := by
  refine ⟨rfl, rfl, hF, hL, ?_⟩
  unfold LeftC
  rw [List.drop_zero, List.take_zero, List.nil_append]
  by_cases h : (allR F L).2 ≠ 0
  · rw [if_pos h]
  · rw [if_neg h]
    exact Prod.ext (Prod.ext rfl rfl) (Classical.not_not.1 h)
theorem allR_bad {F L : List OpV} {l : OpV} (h : (rowR F l).2 ≠ 0) : allR F (l :: L) = no2 (rowR F l).2 := by
  rw [allR, if_pos h]; rfl
theorem allR_bad2 {F L : List OpV} {l : OpV} (h : (rowR F l).2 = 0) (h2 : (allR (rowR F l).1.1 L).2 ≠ 0) : allR F (l :: L) = no2 (allR (rowR F l).1.1 L).2 := by
  rw [allR, if_neg (fun e => e h), if_pos h2]; rfl
theorem allR_good {F L : List OpV} {l : OpV} (h : (rowR F l).2 = 0) (h2 : (allR (rowR F l).1.1 L).2 = 0) : allR F (l :: L) = (((allR (rowR F l).1.1 L).1.1, (rowR F l).1.2 :: (allR (rowR F l).1.1 L).1.2), 0) := by
  rw [allR, if_neg (fun e => e h), if_neg (fun e => e h2)]
theorem allR_no2 : ∀ (F L : List OpV), (allR F L).2 ≠ 0 → allR F L = no2 (allR F L).2
  | F, [], h => absurd rfl h
  | F, l :: L, h => by
    by_cases h1 : (rowR F l).2 ≠ 0
    · rw [allR_bad h1]; rfl
    · by_cases h2 : (allR (rowR F l).1.1 L).2 ≠ 0
      · rw [allR_bad2 (Classical.not_not.1 h1) h2]; rfl
      · rw [allR_good (Classical.not_not.1 h1) (Classical.not_not.1 h2)] at h; exact absurd rfl h
theorem crs_end {fin : (List OpV × List OpV) × Int} {n m : Nat} {F L : List OpV} (h : CrS fin n m m F L) : fin = ((F, L), 0) := by
  have := h.eq
  unfold LeftC at this
  rw [List.drop_of_length_le (by rw [h.lenL]; exact Nat.le_refl _), List.take_of_length_le (by rw [h.lenL]; exact Nat.le_refl _)] at this
  simpa [allR] using this
theorem crs_row {fin : (List OpV × List OpV) × Int} {n m i : Nat} {F L : List OpV} (h : CrS fin n m i F L) (hi : i < m) : ∃ l, CrT fin n m i 0 F L l := by
  have hil : i < L.length := by rw [h.lenL]; exact hi
  have hl : L[i]? = some L[i] := List.getElem?_eq_getElem hil
  have he := h.eq
  unfold LeftC at he
  rw [drop_at hl] at he
  refine ⟨L[i], h.lenF, h.lenL, h.rF, h.rL, hl, fun h0 => ?_, fun h0 => ?_⟩
  · rw [List.drop_zero] at h0 ⊢
    rw [allR_bad h0, if_pos (by exact h0)] at he
    exact he
  · rw [List.drop_zero] at h0 ⊢
    rw [List.take_zero, List.nil_append]
    unfold LeftC
    rw [drop_set_at, take_set_at hl]
    by_cases h2 : (allR (rowR F L[i]).1.1 (L.drop (i + 1))).2 ≠ 0
    · rw [allR_bad2 h0 h2, if_pos (by exact h2)] at he
      rw [if_pos h2, allR_no2 _ _ h2]
      exact he
    · have h3 := Classical.not_not.1 h2
      rw [allR_good h0 h3, if_neg (by simp)] at he
      rw [if_neg h2, he, List.append_assoc]
      rfl
theorem crt_step {fin : (List OpV × List OpV) × Int} {n m i j : Nat} {F L : List OpV} {l f : OpV} (h : CrT fin n m i j F L l) (hf : F[j]? = some f) :
    ((inclP l f true).2 ≠ 0 → fin = no2 (inclP l f true).2) ∧ ((inclP l f true).2 = 0 → (inclP f l false).2 ≠ 0 → fin = no2 (inclP f l false).2) ∧
    ((inclP l f true).2 = 0 → (inclP f l false).2 = 0 → CrT fin n m i (j + 1) (F.set j (inclP f l false).1) (L.set i (inclP l f true).1) (inclP l f true).1) := by
  have hb := h.bad
  have hg := h.good
  rw [drop_at hf] at hb hg
  unfold rowR at hb hg
  have hil : i < L.length := (List.getElem?_eq_some_iff.1 h.at_).1
  have rf : Right f := h.rF f (List.mem_of_getElem? hf)
  have rl : Right l := h.rL l (List.mem_of_getElem? h.at_)
  refine ⟨fun e1 => ?_, fun e1 e2 => ?_, fun e1 e2 => ?_⟩
  · rw [if_pos e1] at hb
    exact hb e1
  · rw [if_neg (by simp [e1]), if_pos e2] at hb
    exact hb e2
  · rw [if_neg (by simp [e1]), if_neg (by simp [e2])] at hb hg
    have q1 := inclP_right rl rf e1
    have q2 := inclP_right rf rl e2
    refine ⟨by rw [List.length_set]; exact h.lenF, by rw [List.length_set]; exact h.lenL, fun x hx => ?_, fun x hx => ?_, by rw [List.getElem?_set_self hil], fun e => ?_, fun e => ?_⟩
    · rcases List.mem_or_eq_of_mem_set hx with hx | rfl
      · exact h.rF x hx
      · exact q2
    · rcases List.mem_or_eq_of_mem_set hx with hx | rfl
      · exact h.rL x hx
      · exact q1
    · rw [drop_set_at] at e ⊢
      exact hb e
    · rw [drop_set_at] at e ⊢
      have := hg e
      rw [take_set_at hf, List.set_set, List.append_assoc]
      exact this
theorem crt_end {fin : (List OpV × List OpV) × Int} {n m i : Nat} {F L : List OpV} {l : OpV} (h : CrT fin n m i n F L l) : CrS fin n m (i + 1) F L := by
  have hg := h.good
  rw [List.drop_of_length_le (by rw [h.lenF]; exact Nat.le_refl _), List.take_of_length_le (by rw [h.lenF]; exact Nat.le_refl _)] at hg
  have hg := hg rfl
  simp only [rowR, List.append_nil] at hg
  have e : L.set i l = L := by
    obtain ⟨hi, e⟩ := List.getElem?_eq_some_iff.1 h.at_
    rw [← e, List.set_getElem_self]
  rw [e] at hg
  exact ⟨h.lenF, h.lenL, h.rF, h.rL, hg⟩
def crossP (f l : OpV) : (OpV × OpV) × Int :=
  if (inclP l f true).2 ≠ 0 then ((op0, op0), (inclP l f true).2) else (((inclP f l false).1, (inclP l f true).1), (inclP f l false).2)
theorem crossP_ok {f l : OpV} (h : (crossP f l).2 = 0) : (inclP l f true).2 = 0 ∧ (inclP f l false).2 = 0 ∧ (crossP f l).1 = ((inclP f l false).1, (inclP l f true).1) := by
  unfold crossP at h ⊢
  by_cases e : (inclP l f true).2 ≠ 0
  · rw [if_pos e] at h; exact absurd h e
  · rw [if_neg e] at h ⊢
    exact ⟨Classical.not_not.1 e, h, rfl⟩
theorem crt_next {fin : (List OpV × List OpV) × Int} {n m i j : Nat} {F L : List OpV} {l f : OpV} (h : CrT fin n m i j F L l) (hf : F[j]? = some f) :
    ((crossP f l).2 ≠ 0 → fin = no2 (crossP f l).2) ∧ ((crossP f l).2 = 0 → CrT fin n m i (j + 1) (F.set j (crossP f l).1.1) (L.set i (crossP f l).1.2) (crossP f l).1.2) := by
  obtain ⟨s1, s2, s3⟩ := crt_step h hf
  refine ⟨fun e => ?_, fun e => ?_⟩
  · unfold crossP at e ⊢
    by_cases e1 : (inclP l f true).2 ≠ 0
    · rw [if_pos e1]; exact s1 e1
    · rw [if_neg e1] at e ⊢
      exact s2 (Classical.not_not.1 e1) e
  · obtain ⟨e1, e2, e3⟩ := crossP_ok e
    rw [e3]
    exact s3 e1 e2
theorem crossP_few {f l : OpV} (h1 : Right f) (h2 : Right l) : ((crossP f l).1.1.l.length ≤ 32768 ∧ (crossP f l).1.1.s.size ≤ f.s.size) ∧ (crossP f l).1.2.l.length ≤ 32768 ∧ (crossP f l).1.2.s.size ≤ l.s.size := by
  unfold crossP
  by_cases e1 : (inclP l f true).2 ≠ 0
  · rw [if_pos e1]; exact ⟨⟨Nat.zero_le _, Nat.zero_le _⟩, Nat.zero_le _, Nat.zero_le _⟩
  · rw [if_neg e1]
    exact ⟨⟨inclP_few false h1, inclP_s f l false⟩, inclP_few true h2, inclP_s l f true⟩
end Go.Proofs.YtmdnmhdimfglaaaGreatDoor
