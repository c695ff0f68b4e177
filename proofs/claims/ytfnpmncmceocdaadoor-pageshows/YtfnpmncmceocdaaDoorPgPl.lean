import Derived.Test.YtfnpmncmceocdaaDoorPgBa
/-! A row's string in runes; a bar in it. -/
namespace Go.Proofs.YtfnpmncmceocdaaDoor
open Go.RowKit Go.Lib Go.Shelf
set_option maxRecDepth 100000

theorem encB_32 : encB 32 = [32] := by kernel_rfl
theorem encB_124 : encB 124 = [124] := by kernel_rfl
theorem encB_last {r : Int} (hv : Utf8.valid r = true) (hr : r ≠ 32) : ∃ f b, encB r = f ++ [b] ∧ (b == 32) = false := by
  obtain ⟨c, rfl⟩ := Int.eq_ofNat_of_zero_le (valid_le hv).1
  have hm : ∀ k : Nat, k < 256 → k ≠ 32 → (UInt8.ofNat k == 32) = false := fun k h1 h2 => by
    rw [beq_eq_false_iff_ne]
    intro e
    have := congrArg UInt8.toNat e
    rw [UInt8.toNat_ofNat'] at this
    have h3 : (32 : UInt8).toNat = 32 := rfl
    omega
  by_cases h1 : c < 0x80
  · exact ⟨[], _, encB1 c h1, hm _ (by omega) (by omega)⟩
  · by_cases h2 : c < 0x800
    · exact ⟨[_], _, encB2 c h2 (by omega), hm _ (by omega) (by omega)⟩
    · by_cases h3 : c < 0x10000
      · exact ⟨[_, _], _, encB3 c h3 (by omega) hv, hm _ (by omega) (by omega)⟩
      · exact ⟨[_, _, _], _, encB4 c (by omega) hv, hm _ (by omega) (by omega)⟩
theorem snoc_ind {α : Type} {P : List α → Prop} (h0 : P []) (h1 : ∀ l x, P l → P (l ++ [x])) (l : List α) : P l := by
  have : ∀ n (l : List α), l.length = n → P l := by
    intro n
    induction n with
    | zero => intro l hl; rw [List.length_eq_zero_iff.1 hl]; exact h0
    | succ n ih =>
      intro l hl
      have hne : l ≠ [] := fun e => by rw [e] at hl; cases hl
      rw [← List.dropLast_concat_getLast hne]
      exact h1 _ _ (ih _ (by rw [List.length_dropLast]; omega))
  exact this _ l rfl
theorem trimB_encs (l : List Int) (h : ∀ r ∈ l, Utf8.valid r = true) : trimB (encs l) = encs (trimI l) := by
  revert h
  refine snoc_ind (P := fun l => (∀ r ∈ l, Utf8.valid r = true) → trimB (encs l) = encs (trimI l)) ?_ ?_ l
  · intro _; rfl
  · intro l r ih h
    rw [encs_append, trimI_snoc]
    have e : encs [r] = encB r := by simp [encs]
    rw [e]
    by_cases hr : r = 32
    · subst hr
      rw [if_pos rfl, encB_32, trimB_snoc, if_pos (by decide)]
      exact ih (fun x hx => h x (List.mem_append.2 (.inl hx)))
    · obtain ⟨f, b, hb, hb2⟩ := encB_last (h r (by simp)) hr
      rw [if_neg hr, hb, ← List.append_assoc, trimB_snoc, hb2, if_neg (by decide), List.append_assoc, ← hb, encs_append, e]
/-- The runes of a character in a column. -/
def chR (r : Int) (c : Nat) : List Int := if r = 9 then List.replicate (colN r c) 32 else [r]
theorem chB_is (r : Int) (c : Nat) : chB r c = encs (chR r c) := by
  unfold chB chR
  split
  · have : ∀ n, encs (List.replicate n 32) = List.replicate n 32 := fun n => by
      induction n with
      | zero => rfl
      | succ n ih => rw [List.replicate_succ, encs_cons, ih, encB_32]; rfl
    rw [this]
  · simp [encs]
/-- The runes of a row's first j characters, a bar among them. -/
def drawR (rs : List Int) (lo : Nat) (car : Int) : Nat → List Int
  | 0 => []
  | j + 1 => drawR rs lo car j ++ ((if ((lo + j : Nat) : Int) = car then [124] else []) ++ chR (rs.getD (lo + j) 0) (wd rs lo (lo + j)))
theorem drawL_is (rs : List Int) (lo : Nat) (car : Int) : ∀ j, drawL rs lo car j = encs (drawR rs lo car j)
  | 0 => rfl
  | j + 1 => by
    unfold drawL drawR
    rw [encs_append, encs_append, ← drawL_is rs lo car j, chB_is, List.append_assoc]
    congr 2
    split
    · show _ = encB 124 ++ []
      rw [encB_124]; rfl
    · rfl
/-- A row's runes, a bar among them. -/
def drawnR (rs : List Int) (lo hi : Nat) (hard : Bool) (car : Int) : List Int :=
  trimI (drawR rs lo (carR lo hi hard car) (hi - lo) ++ (if (hi : Int) = carR lo hi hard car then [124] else []))
theorem chR_mem {r : Int} {c : Nat} {x : Int} (h : x ∈ chR r c) : x = 32 ∨ x = r := by
  unfold chR at h
  split at h
  · exact .inl (List.eq_of_mem_replicate h)
  · simp at h; exact .inr h
theorem drawR_mem {rs : List Int} {lo : Nat} {car : Int} : ∀ {j : Nat} {x : Int}, lo + j ≤ rs.length → x ∈ drawR rs lo car j → x = 32 ∨ (x = 124 ∧ ∃ i, i < j ∧ ((lo + i : Nat) : Int) = car) ∨ x ∈ rs
  | 0, x, _, h => by cases h
  | j + 1, x, hj, h => by
    unfold drawR at h
    rcases List.mem_append.1 h with h | h
    · rcases drawR_mem (by omega) h with h | ⟨h, i, hi, e⟩ | h
      · exact .inl h
      · exact .inr (.inl ⟨h, i, by omega, e⟩)
      · exact .inr (.inr h)
    · rcases List.mem_append.1 h with h | h
      · split at h
        · rename_i e
          simp at h
          exact .inr (.inl ⟨h, j, Nat.lt_succ_self j, e⟩)
        · cases h
      · rcases chR_mem h with h | h
        · exact .inl h
        · refine .inr (.inr ?_)
          rw [h, List.getD_eq_getElem?_getD, List.getElem?_eq_getElem (by omega)]
          exact List.getElem_mem _
theorem trimI_mem {l : List Int} {x : Int} (h : x ∈ trimI l) : x ∈ l := by
  unfold trimI at h
  rw [List.mem_reverse] at h
  exact List.mem_reverse.1 ((List.dropWhile_sublist _).mem h)
theorem drawnR_mem {rs : List Int} {lo hi : Nat} {hard : Bool} {car : Int} (hhi : hi ≤ rs.length) (hlo : lo ≤ hi) {x : Int} (h : x ∈ drawnR rs lo hi hard car) : x = 32 ∨ (x = 124 ∧ carR lo hi hard car = car ∧ car ≠ -1) ∨ x ∈ rs := by
  have hcr : ∀ n : Nat, (n : Int) = carR lo hi hard car → carR lo hi hard car = car ∧ car ≠ -1 := fun n e => by
    unfold carR at e ⊢
    split at e
    · rename_i hc
      rw [if_pos hc]
      exact ⟨rfl, by omega⟩
    · omega
  rcases List.mem_append.1 (trimI_mem h) with h | h
  · rcases drawR_mem (by omega) h with h | ⟨h, i, _, e⟩ | h
    · exact .inl h
    · exact .inr (.inl ⟨h, hcr _ e⟩)
    · exact .inr (.inr h)
  · split at h
    · rename_i e
      simp at h
      exact .inr (.inl ⟨h, hcr _ e⟩)
    · cases h
theorem drawnB_is {rs : List Int} (hok : ∀ r ∈ rs, okR r) {lo hi : Nat} {hard : Bool} {car : Int} (hhi : hi ≤ rs.length) (hlo : lo ≤ hi) : drawnB rs lo hi hard car = encs (drawnR rs lo hi hard car) ∧ ∀ r ∈ drawnR rs lo hi hard car, okR r := by
  have hk : ∀ x, x = 32 ∨ x = 124 ∨ x ∈ rs → okR x := fun x hx => by
    rcases hx with rfl | rfl | hx
    · exact ⟨by decide, by decide⟩
    · exact ⟨by decide, by decide⟩
    · exact hok x hx
  refine ⟨?_, fun r hr => hk r ?_⟩
  · unfold drawnB drawnR
    rw [← trimB_encs, encs_append, drawL_is]
    · congr 2
      split
      · show _ = encB 124 ++ []
        rw [encB_124]; rfl
      · rfl
    · intro r hr
      refine (hk r ?_).1
      rcases List.mem_append.1 hr with h | h
      · rcases drawR_mem (by omega) h with h | ⟨h, -⟩ | h
        · exact .inl h
        · exact .inr (.inl h)
        · exact .inr (.inr h)
      · split at h
        · simp at h; exact .inr (.inl h)
        · cases h
  · rcases drawnR_mem hhi hlo hr with h | ⟨h, -⟩ | h
    · exact .inl h
    · exact .inr (.inl h)
    · exact .inr (.inr h)
/-! A bar -/
theorem trimI_mid (A B : List Int) : trimI (A ++ 124 :: B) = A ++ 124 :: trimI B := by
  refine snoc_ind (P := fun B => trimI (A ++ 124 :: B) = A ++ 124 :: trimI B) ?_ ?_ B
  · rw [show A ++ 124 :: ([] : List Int) = A ++ [124] from rfl, trimI_snoc, if_neg (by decide)]; rfl
  · intro B x ih
    rw [show A ++ 124 :: (B ++ [x]) = (A ++ 124 :: B) ++ [x] by simp, trimI_snoc, trimI_snoc]
    split
    · exact ih
    · simp
theorem trimI_tail (A B : List Int) : trimI (A ++ trimI B) = trimI (A ++ B) := by
  refine snoc_ind (P := fun B => trimI (A ++ trimI B) = trimI (A ++ B)) ?_ ?_ B
  · rfl
  · intro B x ih
    rw [trimI_snoc]
    by_cases hx : x = 32
    · rw [if_pos hx, ih, ← List.append_assoc, trimI_snoc, if_pos hx]
    · rw [if_neg hx]
theorem unbar_mid : ∀ (A B : List Int), 124 ∉ A → unbar (A ++ 124 :: B) = A ++ B
  | [], B, _ => by simp [unbar]
  | x :: A, B, h => by
    have hx : ¬ x = 124 := fun e => h (by rw [e]; exact List.mem_cons_self ..)
    rw [List.cons_append]
    unfold unbar
    rw [if_neg hx, unbar_mid A B (fun hm => h (List.mem_cons_of_mem _ hm))]
    rfl
/-- A bar among a row's runes. -/
theorem drawR_bar {rs : List Int} {lo at' : Nat} (hat : lo ≤ at') : ∀ j : Nat, (j ≤ at' - lo → drawR rs lo (at' : Int) j = drawR rs lo (-1) j) ∧ (at' - lo < j → ∃ B, drawR rs lo (at' : Int) j = drawR rs lo (-1) (at' - lo) ++ 124 :: B ∧ drawR rs lo (-1) j = drawR rs lo (-1) (at' - lo) ++ B)
  | 0 => ⟨fun _ => rfl, fun h => absurd h (Nat.not_lt_zero _)⟩
  | j + 1 => by
    obtain ⟨h1, h2⟩ := drawR_bar hat j
    have hm : ¬ ((lo + j : Nat) : Int) = -1 := by omega
    refine ⟨fun h => ?_, fun h => ?_⟩
    · have hne : ¬ ((lo + j : Nat) : Int) = (at' : Int) := by omega
      rw [drawR, drawR, if_neg hne, if_neg hm, h1 (by omega)]
    · by_cases e : j = at' - lo
      · have he : ((lo + j : Nat) : Int) = (at' : Int) := by omega
        refine ⟨chR (rs.getD (lo + j) 0) (wd rs lo (lo + j)), ?_, ?_⟩
        · rw [drawR, if_pos he, h1 (by omega), e]; rfl
        · rw [drawR, if_neg hm, e]; rfl
      · obtain ⟨B, hB1, hB2⟩ := h2 (by omega)
        have hne : ¬ ((lo + j : Nat) : Int) = (at' : Int) := by omega
        refine ⟨B ++ chR (rs.getD (lo + j) 0) (wd rs lo (lo + j)), ?_, ?_⟩
        · rw [drawR, if_neg hne, hB1]; simp
        · rw [drawR, if_neg hm, hB2]; simp
/-- The caret's row: one bar, and without it the row as it is without a caret. -/
theorem drawn_bar {rs : List Int} (hno : (124 : Int) ∉ rs) {lo hi at' : Nat} {hard : Bool} (hhi : hi ≤ rs.length) (hlo : lo ≤ at') (hat : at' ≤ lastP hi hard) : (drawnR rs lo hi hard at').count 124 = 1 ∧ trimI (unbar (drawnR rs lo hi hard at')) = drawnR rs lo hi hard (-1) := by
  have hl : lastP hi hard ≤ hi := by unfold lastP; split <;> omega
  have hc : carR lo hi hard at' = at' := by unfold carR; rw [if_pos (by omega)]
  have hc0 : carR lo hi hard (-1) = -1 := by unfold carR; split <;> rfl
  have hnA : ∀ j, lo + j ≤ rs.length → (124 : Int) ∉ drawR rs lo (-1) j := fun j hj h => by
    rcases drawR_mem hj h with h | ⟨_, i, _, e⟩ | h
    · exact absurd h (by decide)
    · omega
    · exact hno h
  have hm : ¬ (hi : Int) = -1 := by omega
  have key : ∃ A B, drawR rs lo at' (hi - lo) ++ (if (hi : Int) = (at' : Int) then [124] else []) = A ++ 124 :: B ∧ drawR rs lo (-1) (hi - lo) = A ++ B ∧ (124 : Int) ∉ A ∧ (124 : Int) ∉ B := by
    obtain ⟨h1, h2⟩ := drawR_bar (rs := rs) hlo (hi - lo)
    by_cases e : hi = at'
    · refine ⟨drawR rs lo (-1) (hi - lo), [], ?_, by simp, hnA _ (by omega), by simp⟩
      rw [if_pos (by omega), h1 (by omega)]
    · obtain ⟨B, hB1, hB2⟩ := h2 (by omega)
      have hall := hnA (hi - lo) (by omega)
      refine ⟨_, B, ?_, hB2, hnA _ (by omega), fun hm => hall (by rw [hB2]; exact List.mem_append.2 (.inr hm))⟩
      rw [if_neg (by omega), hB1, List.append_nil]
  obtain ⟨A, B, e1, e2, hA, hB⟩ := key
  unfold drawnR
  rw [hc, hc0, e1, e2, if_neg hm, List.append_nil, trimI_mid]
  refine ⟨?_, ?_⟩
  · rw [List.count_append, List.count_cons_self, List.count_eq_zero.2 hA, List.count_eq_zero.2 (fun h => hB (trimI_mem h))]
  · rw [unbar_mid A _ hA, trimI_tail]
/-- Every other row: none. -/
theorem drawn_none {rs : List Int} (hno : (124 : Int) ∉ rs) {lo hi : Nat} {hard : Bool} {car : Int} (hhi : hi ≤ rs.length) (hlo : lo ≤ hi) (hc : ¬ ((lo : Int) ≤ car ∧ car ≤ lastP hi hard)) : drawnR rs lo hi hard car = drawnR rs lo hi hard (-1) ∧ (drawnR rs lo hi hard car).count 124 = 0 := by
  have h1 : carR lo hi hard car = -1 := by unfold carR; rw [if_neg hc]
  have h2 : carR lo hi hard (-1) = -1 := by unfold carR; split <;> rfl
  refine ⟨by unfold drawnR; rw [h1, h2], List.count_eq_zero.2 fun h => ?_⟩
  rcases drawnR_mem hhi hlo h with h | ⟨_, e, hne⟩ | h
  · exact absurd h (by decide)
  · rw [h1] at e; exact hne e.symm
  · exact hno h
theorem made_nobar (l : List Int) : (124 : Int) ∉ madeR l := fun h => by
  unfold madeR at h
  obtain ⟨n, _, e⟩ := List.mem_map.1 h
  have h1 : 0 ≤ n % 24 := Int.emod_nonneg _ (by decide)
  have h2 : n % 24 < 24 := Int.emod_lt_of_pos _ (by decide)
  unfold pickR at e
  repeat' split at e
  all_goals omega
end Go.Proofs.YtfnpmncmceocdaaDoor
