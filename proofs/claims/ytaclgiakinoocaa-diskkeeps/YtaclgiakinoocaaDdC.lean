import Derived.Test.YtaclgiakinoocaaDdB
/-! An armed disk beside one that is not. -/
namespace Go.Proofs.Ytaclgiakinoocaa
set_option maxRecDepth 100000

def armD (T : Dk) (s k : Nat) : Dk := { T with steps := s, keep := k }
structure Free (T : Dk) : Prop where
  st : T.steps = 0
  kp : T.keep = 0
  dn : T.down = false
/-- goes on alike, or crashes -/
def Alike (T : Dk) (s k : Nat) (o : OpR) : Prop := (∃ s', 1 ≤ s' ∧ s' ≤ s ∧ doesS (armD T s k) o = armD (doesS T o) s' k) ∧ ansE (armD T s k) o = ansE T o ∧ ansN (armD T s k) o = ansN T o
def Falls (T : Dk) (s k : Nat) (o : OpR) : Prop := ansE (armD T s k) o = 110 ∧ ansN (armD T s k) o = 0 ∧ doesS (armD T s k) o = crashP k (if o.kind = 1 then doesS T o else T)
theorem stepS_free {T : Dk} (h : Free T) : stepS T = T := by
  obtain ⟨a, b, c, d, e⟩ := T
  have := h.st
  simp only at this
  subst this
  rfl
theorem ansM_arm (T : Dk) (s k : Nat) (o : OpR) : ansM (armD T s k) o = ansM T o := rfl
theorem ansD_arm (T : Dk) (s k : Nat) (o : OpR) : ansD (armD T s k) o = ansD T o := rfl
theorem ansB_arm (T : Dk) (s k : Nat) (o : OpR) : ansB (armD T s k) o = ansB T o := rfl
theorem ansF_arm (T : Dk) (s k : Nat) (o : OpR) : ansF (armD T s k) o = ansF T o := rfl
/-- a call that may count -/
theorem sim_count {T : Dk} {s k : Nat} (hs : 1 ≤ s) {R R' : Dk × Int} {Y : Dk} {er : Int} (bad : Prop) (h1 : bad → R = (armD T s k, er) ∧ R' = (T, er)) (h2 : ¬ bad → (s = 1 → R = (crashP k T, 110)) ∧ (s ≠ 1 → R = (armD Y (s - 1) k, 0)) ∧ R' = (Y, 0)) :
    ((∃ s', 1 ≤ s' ∧ s' ≤ s ∧ R.1 = armD R'.1 s' k) ∧ R.2 = R'.2) ∨ (R.2 = 110 ∧ R.1 = crashP k T) := by
  by_cases hb : bad
  · obtain ⟨e1, e2⟩ := h1 hb
    rw [e1, e2]
    exact .inl ⟨⟨s, hs, Nat.le_refl _, rfl⟩, rfl⟩
  · obtain ⟨e1, e2, e3⟩ := h2 hb
    by_cases h : s = 1
    · rw [e1 h]
      exact .inr ⟨rfl, rfl⟩
    · rw [e2 h, e3]
      exact .inl ⟨⟨s - 1, by omega, by omega, rfl⟩, rfl⟩
theorem sim_sync {T : Dk} (hf : Free T) {s : Nat} (hs : 1 ≤ s) (k : Nat) (nm : List UInt8) : ((∃ s', 1 ≤ s' ∧ s' ≤ s ∧ (syncP (armD T s k) nm).1 = armD (syncP T nm).1 s' k) ∧ (syncP (armD T s k) nm).2 = (syncP T nm).2) ∨ ((syncP (armD T s k) nm).2 = 110 ∧ (syncP (armD T s k) nm).1 = crashP k T) := by
  have hst := hf.st
  refine sim_count hs (Y := { T with fs := T.fs.map (updF nm Fl.sync) }) (er := findE T nm) (findE T nm ≠ 0) (fun hb => ⟨?_, ?_⟩) (fun hb => ?_)
  · unfold syncP; rw [if_neg (show ¬ findE (armD T s k) nm = 0 from hb)]; rfl
  · unfold syncP; rw [if_neg hb]
  · have h0 : findE T nm = 0 := by simpa using hb
    have h0' : findE (armD T s k) nm = 0 := h0
    refine ⟨fun h => ?_, fun h => ?_, ?_⟩
    · unfold syncP; rw [if_pos h0', if_pos (show (armD T s k).steps = 1 from h)]; rfl
    · unfold syncP; rw [if_pos h0', if_neg (show ¬ (armD T s k).steps = 1 from h)]; rfl
    · unfold syncP; rw [if_pos h0, if_neg (by omega), stepS_free hf]
theorem sim_cut {T : Dk} (hf : Free T) {s : Nat} (hs : 1 ≤ s) (k : Nat) (nm : List UInt8) (n : Int) : ((∃ s', 1 ≤ s' ∧ s' ≤ s ∧ (cutP (armD T s k) nm n).1 = armD (cutP T nm n).1 s' k) ∧ (cutP (armD T s k) nm n).2 = (cutP T nm n).2) ∨ ((cutP (armD T s k) nm n).2 = 110 ∧ (cutP (armD T s k) nm n).1 = crashP k T) := by
  have hst := hf.st
  by_cases hf0 : findE T nm = 0
  · have h0' : findE (armD T s k) nm = 0 := hf0
    refine sim_count hs (Y := { T with fs := T.fs.map (updF nm (Fl.cut n.toNat)) }) (er := 12) (n < 0 ∨ (lenF T.fs nm : Int) < n) (fun hb => ⟨?_, ?_⟩) (fun hb => ?_)
    · unfold cutP; rw [if_pos h0', if_pos (show n < 0 ∨ (lenF (armD T s k).fs nm : Int) < n from hb)]
    · unfold cutP; rw [if_pos hf0, if_pos hb]
    · have hb' : ¬ (n < 0 ∨ (lenF (armD T s k).fs nm : Int) < n) := hb
      refine ⟨fun h => ?_, fun h => ?_, ?_⟩
      · unfold cutP; rw [if_pos h0', if_neg hb', if_pos (show (armD T s k).steps = 1 from h)]; rfl
      · unfold cutP; rw [if_pos h0', if_neg hb', if_neg (show ¬ (armD T s k).steps = 1 from h)]; rfl
      · unfold cutP; rw [if_pos hf0, if_neg hb, if_neg (by omega), stepS_free hf]
  · refine sim_count hs (Y := T) (er := findE T nm) True (fun _ => ⟨?_, ?_⟩) (fun hb => absurd trivial hb)
    · unfold cutP; rw [if_neg (show ¬ findE (armD T s k) nm = 0 from hf0)]; rfl
    · unfold cutP; rw [if_neg hf0]
theorem sim_remove {T : Dk} (hf : Free T) {s : Nat} (hs : 1 ≤ s) (k : Nat) (nm : List UInt8) : ((∃ s', 1 ≤ s' ∧ s' ≤ s ∧ (removeP (armD T s k) nm).1 = armD (removeP T nm).1 s' k) ∧ (removeP (armD T s k) nm).2 = (removeP T nm).2) ∨ ((removeP (armD T s k) nm).2 = 110 ∧ (removeP (armD T s k) nm).1 = crashP k T) := by
  have hst := hf.st
  refine sim_count hs (Y := { T with fs := T.fs.filter (fun f => !decide (f.nm = nm)) }) (er := findE T nm) (findE T nm ≠ 0) (fun hb => ⟨?_, ?_⟩) (fun hb => ?_)
  · unfold removeP; rw [if_neg (show ¬ findE (armD T s k) nm = 0 from hb)]; rfl
  · unfold removeP; rw [if_neg hb]
  · have h0 : findE T nm = 0 := by simpa using hb
    have h0' : findE (armD T s k) nm = 0 := h0
    refine ⟨fun h => ?_, fun h => ?_, ?_⟩
    · unfold removeP; rw [if_pos h0', if_pos (show (armD T s k).steps = 1 from h)]; rfl
    · unfold removeP; rw [if_pos h0', if_neg (show ¬ (armD T s k).steps = 1 from h)]; rfl
    · unfold removeP; rw [if_pos h0, if_neg (by omega), stepS_free hf]
theorem sim_turn (T : Dk) (s k : Nat) (nm : List UInt8) (n : Int) (m : UInt8) : (turnP (armD T s k) nm n m).1 = armD (turnP T nm n m).1 s k ∧ (turnP (armD T s k) nm n m).2 = (turnP T nm n m).2 := by
  unfold turnP
  have e1 : findE (armD T s k) nm = findE T nm := rfl
  have e2 : (armD T s k).fs = T.fs := rfl
  rw [e1, e2]
  split
  · split
    · exact ⟨rfl, rfl⟩
    · exact ⟨rfl, rfl⟩
  · exact ⟨rfl, rfl⟩
theorem sim_app {T : Dk} (hf : Free T) {s : Nat} (hs : 1 ≤ s) (k : Nat) (nm bs : List UInt8) : ((∃ s', 1 ≤ s' ∧ s' ≤ s ∧ (appC (armD T s k) nm bs).1 = armD (appC T nm bs).1 s' k) ∧ (appC (armD T s k) nm bs).2 = (appC T nm bs).2) ∨ ((appC (armD T s k) nm bs).2 = (0, 110) ∧ (appC (armD T s k) nm bs).1 = crashP k (appC T nm bs).1) := by
  have hst := hf.st
  unfold appC
  have e1 : readyP (armD T s k) nm = readyP T nm := rfl
  rw [e1]
  by_cases h0 : readyP T nm = 0
  · rw [if_pos h0, if_pos h0]
    unfold appP
    rw [if_neg (show ¬ T.steps = 1 by omega)]
    by_cases h : s = 1
    · rw [if_pos (show (armD T s k).steps = 1 from h)]
      exact .inr ⟨rfl, rfl⟩
    · rw [if_neg (show ¬ (armD T s k).steps = 1 from h)]
      exact .inl ⟨⟨s - 1, by omega, by omega, rfl⟩, rfl⟩
  · rw [if_neg h0, if_neg h0]
    exact .inl ⟨⟨s, hs, Nat.le_refl _, rfl⟩, rfl⟩
theorem sim {T : Dk} (hf : Free T) {s : Nat} (hs : 1 ≤ s) (k : Nat) (o : OpR) (h8 : o.kind ≠ 8) (h9 : o.kind ≠ 9) (h10 : o.kind ≠ 10) : Alike T s k o ∨ Falls T s k o := by
  by_cases k1 : o.kind = 1
  · rcases sim_app hf hs k o.nm o.B with ⟨⟨s', a1, a2, a3⟩, a4⟩ | ⟨a1, a2⟩
    · refine .inl ⟨⟨s', a1, a2, ?_⟩, ?_, ?_⟩
      · simp only [doesS, k1, if_true]; exact a3
      · simp only [ansE, k1, if_true, a4]
      · simp only [ansN, k1, if_true, a4]
    · refine .inr ⟨?_, ?_, ?_⟩
      · simp only [ansE, k1, if_true, a1]
      · simp only [ansN, k1, if_true, a1]
      · simp only [doesS, k1, if_true]; exact a2
  by_cases k2 : o.kind = 2
  · have n1 : ansN (armD T s k) o = 0 := by simp [ansN, k2]
    have n2 : ansN T o = 0 := by simp [ansN, k2]
    rcases sim_sync hf hs k o.nm with ⟨⟨s', a1, a2, a3⟩, a4⟩ | ⟨a1, a2⟩
    · refine .inl ⟨⟨s', a1, a2, ?_⟩, ?_, n1.trans n2.symm⟩
      · simp [doesS, k2]; exact a3
      · simp [ansE, k2]; exact a4
    · refine .inr ⟨?_, n1, ?_⟩
      · simp [ansE, k2]; exact a1
      · rw [if_neg k1]; simp [doesS, k2]; exact a2
  by_cases k3 : o.kind = 3
  · have n1 : ansN (armD T s k) o = 0 := by simp [ansN, k3]
    have n2 : ansN T o = 0 := by simp [ansN, k3]
    rcases sim_cut hf hs k o.nm o.N with ⟨⟨s', a1, a2, a3⟩, a4⟩ | ⟨a1, a2⟩
    · refine .inl ⟨⟨s', a1, a2, ?_⟩, ?_, n1.trans n2.symm⟩
      · simp [doesS, k3]; exact a3
      · simp [ansE, k3]; exact a4
    · refine .inr ⟨?_, n1, ?_⟩
      · simp [ansE, k3]; exact a1
      · rw [if_neg k1]; simp [doesS, k3]; exact a2
  by_cases k4 : o.kind = 4
  · have n1 : ansN (armD T s k) o = 0 := by simp [ansN, k4]
    have n2 : ansN T o = 0 := by simp [ansN, k4]
    rcases sim_remove hf hs k o.nm with ⟨⟨s', a1, a2, a3⟩, a4⟩ | ⟨a1, a2⟩
    · refine .inl ⟨⟨s', a1, a2, ?_⟩, ?_, n1.trans n2.symm⟩
      · simp [doesS, k4]; exact a3
      · simp [ansE, k4]; exact a4
    · refine .inr ⟨?_, n1, ?_⟩
      · simp [ansE, k4]; exact a1
      · rw [if_neg k1]; simp [doesS, k4]; exact a2
  by_cases k11 : o.kind = 11
  · obtain ⟨a1, a2⟩ := sim_turn T s k o.nm o.N (maskOf o.M)
    refine .inl ⟨⟨s, hs, Nat.le_refl _, ?_⟩, ?_, ?_⟩
    · simp [doesS, k11]; exact a1
    · simp [ansE, k11]; exact a2
    · simp [ansN, k11]
  refine .inl ⟨⟨s, hs, Nat.le_refl _, ?_⟩, ?_, ?_⟩
  · simp [doesS, k1, k2, k3, k4, h8, h9, h10, k11]
  · simp only [ansE, k1, k2, k3, k4, h8, h9, h10, k11, if_false]
    rfl
  · simp only [ansN, k1, if_false]
    rfl
theorem free_does {T : Dk} (hf : Free T) (o : OpR) (h8 : o.kind ≠ 8) (h9 : o.kind ≠ 9) (h10 : o.kind ≠ 10) : Free (doesS T o) := by
  have hst := hf.st
  have h1 : ¬ T.steps = 1 := by omega
  have hk := hf.kp
  have hd := hf.dn
  have hgo : ∀ Y : Dk, Y.steps = T.steps → Y.keep = T.keep → Y.down = T.down → Free Y := fun Y a b c => ⟨a.trans hst, b.trans hk, c.trans hd⟩
  unfold doesS
  rw [if_neg h8, if_neg h9, if_neg h10]
  split
  · unfold appC appP
    split
    · exact hgo _ (by show T.steps - 1 = _; omega) rfl rfl
    · exact hf
  · split
    · unfold syncP
      split
      · exact hgo _ (by show T.steps - 1 = _; omega) rfl rfl
      · exact hf
    · split
      · unfold cutP
        split
        · split
          · exact hf
          · exact hgo _ (by show T.steps - 1 = _; omega) rfl rfl
        · exact hf
      · split
        · unfold removeP
          split
          · exact hgo _ (by show T.steps - 1 = _; omega) rfl rfl
          · exact hf
        · split
          · unfold turnP
            split
            · split
              · exact hf
              · exact hgo _ rfl rfl rfl
            · exact hf
          · exact hf
end Go.Proofs.Ytaclgiakinoocaa
