import Derived.Test.YtaclgiakinoocaaDiI
/-! DiskKeeps: what a call does to the files, as plain data. -/
namespace Go.Proofs.Ytaclgiakinoocaa
open Go.RowKit Go.Lib
set_option maxRecDepth 100000

/-- what the sentence takes for the armed crash's keep -/
def keepK (keep : Int) (o : OpR) (E : Int) : Int := if o.kind = 9 ∧ E = 0 then o.N else if o.kind = 8 ∧ E = 0 then o.M else keep
structure KpI (S : Dk) (keep : Int) : Prop where
  arm : S.steps ≠ 0 → keep = (S.keep : Int)
  dn : S.down = true → S.steps = 0
/-- a call that neither arms, crashes nor sets going -/
theorem KpI.plain {S S' : Dk} {keep : Int} (h : KpI S keep) (h' : S' = S ∨ (S'.down = true ∧ S'.steps = 0) ∨ (S'.down = S.down ∧ S'.keep = S.keep ∧ S'.steps ≤ S.steps)) : KpI S' keep := by
  rcases h' with rfl | ⟨h1, h2⟩ | ⟨h1, h2, h3⟩
  · exact h
  · exact ⟨fun e => absurd h2 e, fun _ => h2⟩
  · exact ⟨fun e => by rw [h2]; exact h.arm (by omega), fun e => by have := h.dn (h1 ▸ e); omega⟩
theorem sync_plain (S : Dk) (nm : List UInt8) : (syncP S nm).1 = S ∨ ((syncP S nm).1.down = true ∧ (syncP S nm).1.steps = 0) ∨ ((syncP S nm).1.down = S.down ∧ (syncP S nm).1.keep = S.keep ∧ (syncP S nm).1.steps ≤ S.steps) := by
  unfold syncP
  split
  · split
    · exact .inr (.inl ⟨rfl, rfl⟩)
    · exact .inr (.inr ⟨rfl, rfl, Nat.sub_le _ _⟩)
  · exact .inl rfl
theorem cut_plain (S : Dk) (nm : List UInt8) (n : Int) : (cutP S nm n).1 = S ∨ ((cutP S nm n).1.down = true ∧ (cutP S nm n).1.steps = 0) ∨ ((cutP S nm n).1.down = S.down ∧ (cutP S nm n).1.keep = S.keep ∧ (cutP S nm n).1.steps ≤ S.steps) := by
  unfold cutP
  split
  · split
    · exact .inl rfl
    · split
      · exact .inr (.inl ⟨rfl, rfl⟩)
      · exact .inr (.inr ⟨rfl, rfl, Nat.sub_le _ _⟩)
  · exact .inl rfl
theorem remove_plain (S : Dk) (nm : List UInt8) : (removeP S nm).1 = S ∨ ((removeP S nm).1.down = true ∧ (removeP S nm).1.steps = 0) ∨ ((removeP S nm).1.down = S.down ∧ (removeP S nm).1.keep = S.keep ∧ (removeP S nm).1.steps ≤ S.steps) := by
  unfold removeP
  split
  · split
    · exact .inr (.inl ⟨rfl, rfl⟩)
    · exact .inr (.inr ⟨rfl, rfl, Nat.sub_le _ _⟩)
  · exact .inl rfl
theorem turn_plain (S : Dk) (nm : List UInt8) (n : Int) (c : UInt8) : (turnP S nm n c).1 = S ∨ ((turnP S nm n c).1.down = true ∧ (turnP S nm n c).1.steps = 0) ∨ ((turnP S nm n c).1.down = S.down ∧ (turnP S nm n c).1.keep = S.keep ∧ (turnP S nm n c).1.steps ≤ S.steps) := by
  unfold turnP
  split
  · split
    · exact .inl rfl
    · exact .inr (.inr ⟨rfl, rfl, Nat.le_refl _⟩)
  · exact .inl rfl
theorem app_plain (S : Dk) (nm bs : List UInt8) : (appC S nm bs).1 = S ∨ ((appC S nm bs).1.down = true ∧ (appC S nm bs).1.steps = 0) ∨ ((appC S nm bs).1.down = S.down ∧ (appC S nm bs).1.keep = S.keep ∧ (appC S nm bs).1.steps ≤ S.steps) := by
  unfold appC
  split
  · unfold appP
    split
    · exact .inr (.inl ⟨rfl, rfl⟩)
    · exact .inr (.inr ⟨rfl, rfl, Nat.sub_le _ _⟩)
  · exact .inl rfl
theorem KpI.does {S : Dk} {keep : Int} (h : KpI S keep) (o : OpR) : KpI (doesS S o) (keepK keep o (ansE S o)) := by
  have hk : ∀ E, o.kind ≠ 8 → o.kind ≠ 9 → keepK keep o E = keep := fun E h8 h9 => by
    unfold keepK
    rw [if_neg (fun e => h9 e.1), if_neg (fun e => h8 e.1)]
  by_cases k1 : o.kind = 1
  · rw [hk _ (by omega) (by omega), show doesS S o = (appC S o.nm o.B).1 by unfold doesS; rw [if_pos k1]]
    exact h.plain (app_plain ..)
  by_cases k2 : o.kind = 2
  · rw [hk _ (by omega) (by omega), show doesS S o = (syncP S o.nm).1 by unfold doesS; rw [if_neg k1, if_pos k2]]
    exact h.plain (sync_plain ..)
  by_cases k3 : o.kind = 3
  · rw [hk _ (by omega) (by omega), show doesS S o = (cutP S o.nm o.N).1 by unfold doesS; rw [if_neg k1, if_neg k2, if_pos k3]]
    exact h.plain (cut_plain ..)
  by_cases k4 : o.kind = 4
  · rw [hk _ (by omega) (by omega), show doesS S o = (removeP S o.nm).1 by unfold doesS; rw [if_neg k1, if_neg k2, if_neg k3, if_pos k4]]
    exact h.plain (remove_plain ..)
  by_cases k8 : o.kind = 8
  · have e1 : doesS S o = (armP S o.N o.M).1 := by unfold doesS; rw [if_neg k1, if_neg k2, if_neg k3, if_neg k4, if_pos k8]
    have e2 : ansE S o = (armP S o.N o.M).2 := by unfold ansE; rw [if_neg k1, if_neg k2, if_neg k3, if_neg k4, if_pos k8]
    have e3 : ∀ E, keepK keep o E = if E = 0 then o.M else keep := fun E => by
      unfold keepK
      rw [if_neg (fun e => by omega)]
      simp only [k8, true_and]
    rw [e1, e2, e3]
    unfold armP
    split
    · exact h
    · rename_i hd
      split
      · exact ⟨fun e => absurd rfl e, fun _ => rfl⟩
      · split
        · exact h
        · exact ⟨fun _ => by show o.M = (o.M.toNat : Int); omega, fun e => absurd e hd⟩
  by_cases k9 : o.kind = 9
  · have e1 : doesS S o = (crashC S o.N).1 := by unfold doesS; rw [if_neg k1, if_neg k2, if_neg k3, if_neg k4, if_neg k8, if_pos k9]
    have e2 : ansE S o = (crashC S o.N).2 := by unfold ansE; rw [if_neg k1, if_neg k2, if_neg k3, if_neg k4, if_neg k8, if_pos k9]
    have e3 : ∀ E, keepK keep o E = if E = 0 then o.N else keep := fun E => by
      unfold keepK
      simp only [k9, true_and]
      split
      · rfl
      · rw [if_neg (fun e => by omega)]
    rw [e1, e2, e3]
    unfold crashC
    split
    · exact h
    · split
      · exact h
      · exact ⟨fun e => absurd rfl e, fun _ => rfl⟩
  by_cases k10 : o.kind = 10
  · rw [hk _ k8 k9, show doesS S o = (upP S).1 by unfold doesS; rw [if_neg k1, if_neg k2, if_neg k3, if_neg k4, if_neg k8, if_neg k9, if_pos k10]]
    exact ⟨fun e => absurd rfl e, fun _ => rfl⟩
  by_cases k11 : o.kind = 11
  · rw [hk _ k8 k9, show doesS S o = (turnP S o.nm o.N (maskOf o.M)).1 by unfold doesS; rw [if_neg k1, if_neg k2, if_neg k3, if_neg k4, if_neg k8, if_neg k9, if_neg k10, if_pos k11]]
    exact h.plain (turn_plain ..)
  · rw [hk _ k8 k9, show doesS S o = S by unfold doesS; rw [if_neg k1, if_neg k2, if_neg k3, if_neg k4, if_neg k8, if_neg k9, if_neg k10, if_neg k11]]
    exact h
theorem ready_down {S : Dk} (hd : S.down = true) (nm : List UInt8) : readyP S nm = 110 := by unfold readyP; rw [if_pos hd]
theorem find_down {S : Dk} (hd : S.down = true) (nm : List UInt8) : findE S nm = 110 := by unfold findE; rw [ready_down hd]; rfl
/-- a disk that is down keeps its files -/
theorem down_same {S : Dk} (hd : S.down = true) (o : OpR) : (doesS S o).fs = S.fs := by
  unfold doesS
  split
  · unfold appC; rw [ready_down hd]; rfl
  split
  · unfold syncP; rw [find_down hd]; rfl
  split
  · unfold cutP; rw [find_down hd]; rfl
  split
  · unfold removeP; rw [find_down hd]; rfl
  split
  · unfold armP; rw [if_pos hd]
  split
  · unfold crashC; rw [if_pos hd]
  split
  · rfl
  split
  · unfold turnP; rw [find_down hd]; rfl
  · rfl
/-- the crash is just now -/
theorem crash_now {S : Dk} {keep : Int} (h : KpI S keep) (hO : S.Ok) (hd : S.down = false) (o : OpR) (hN : o.N ≤ 9223372036854775807) (hd' : (doesS S o).down = true) :
    ∃ kp : Nat, keepK keep o (ansE S o) = (kp : Int) ∧ kp ≤ 9223372036854775807 ∧ (doesS S o).fs = leftF kp (if o.kind = 1 then growP o.nm (o.B.take (takeN S o.B.length)) S.fs else S.fs) := by
  have hk : ∀ E, o.kind ≠ 8 → o.kind ≠ 9 → keepK keep o E = keep := fun E h8 h9 => by
    unfold keepK
    rw [if_neg (fun e => h9 e.1), if_neg (fun e => h8 e.1)]
  have hA : S.steps = 1 → keep = (S.keep : Int) := fun e => h.arm (by omega)
  by_cases k1 : o.kind = 1
  · have e1 : doesS S o = (appC S o.nm o.B).1 := by unfold doesS; rw [if_pos k1]
    rw [hk _ (by omega) (by omega), if_pos k1, e1]
    rw [e1] at hd'
    unfold appC at hd' ⊢
    split at hd'
    · unfold appP at hd' ⊢
      split at hd'
      · rename_i h1 h2
        rw [if_pos h1, if_pos h2]
        exact ⟨S.keep, hA h2, hO.kp, rfl⟩
      · rw [show ({ appS S o.nm o.B with steps := S.steps - 1 } : Dk).down = S.down from rfl, hd] at hd'
        cases hd'
    · rw [hd] at hd'; cases hd'
  rw [if_neg k1]
  by_cases k2 : o.kind = 2
  · have e1 : doesS S o = (syncP S o.nm).1 := by unfold doesS; rw [if_neg k1, if_pos k2]
    rw [hk _ (by omega) (by omega), e1]
    rw [e1] at hd'
    unfold syncP at hd' ⊢
    split at hd'
    · split at hd'
      · rename_i h1 h2
        rw [if_pos h1, if_pos h2]
        exact ⟨S.keep, hA h2, hO.kp, rfl⟩
      · exact absurd hd' (by show ¬ S.down = true; rw [hd]; decide)
    · rw [hd] at hd'; cases hd'
  by_cases k3 : o.kind = 3
  · have e1 : doesS S o = (cutP S o.nm o.N).1 := by unfold doesS; rw [if_neg k1, if_neg k2, if_pos k3]
    rw [hk _ (by omega) (by omega), e1]
    rw [e1] at hd'
    unfold cutP at hd' ⊢
    split at hd'
    · split at hd'
      · rw [hd] at hd'; cases hd'
      · split at hd'
        · rename_i h1 h2 h3
          rw [if_pos h1, if_neg h2, if_pos h3]
          exact ⟨S.keep, hA h3, hO.kp, rfl⟩
        · exact absurd hd' (by show ¬ S.down = true; rw [hd]; decide)
    · rw [hd] at hd'; cases hd'
  by_cases k4 : o.kind = 4
  · have e1 : doesS S o = (removeP S o.nm).1 := by unfold doesS; rw [if_neg k1, if_neg k2, if_neg k3, if_pos k4]
    rw [hk _ (by omega) (by omega), e1]
    rw [e1] at hd'
    unfold removeP at hd' ⊢
    split at hd'
    · split at hd'
      · rename_i h1 h2
        rw [if_pos h1, if_pos h2]
        exact ⟨S.keep, hA h2, hO.kp, rfl⟩
      · exact absurd hd' (by show ¬ S.down = true; rw [hd]; decide)
    · rw [hd] at hd'; cases hd'
  by_cases k8 : o.kind = 8
  · have e1 : doesS S o = (armP S o.N o.M).1 := by unfold doesS; rw [if_neg k1, if_neg k2, if_neg k3, if_neg k4, if_pos k8]
    rw [e1] at hd'
    exfalso
    unfold armP at hd'
    split at hd'
    · rw [hd] at hd'; cases hd'
    · split at hd'
      · exact absurd hd' (by show ¬ S.down = true; rw [hd]; decide)
      · split at hd'
        · rw [hd] at hd'; cases hd'
        · exact absurd hd' (by show ¬ S.down = true; rw [hd]; decide)
  by_cases k9 : o.kind = 9
  · have e1 : doesS S o = (crashC S o.N).1 := by unfold doesS; rw [if_neg k1, if_neg k2, if_neg k3, if_neg k4, if_neg k8, if_pos k9]
    have e2 : ansE S o = (crashC S o.N).2 := by unfold ansE; rw [if_neg k1, if_neg k2, if_neg k3, if_neg k4, if_neg k8, if_pos k9]
    rw [e1] at hd'
    rw [e1, e2]
    unfold crashC at hd' ⊢
    split at hd'
    · rw [hd] at hd'; cases hd'
    · split at hd'
      · rw [hd] at hd'; cases hd'
      · rename_i h1 h2
        rw [if_neg h1, if_neg h2]
        refine ⟨o.N.toNat, ?_, by omega, rfl⟩
        unfold keepK
        rw [if_pos ⟨k9, rfl⟩]
        omega
  exfalso
  by_cases k10 : o.kind = 10
  · rw [show doesS S o = (upP S).1 by unfold doesS; rw [if_neg k1, if_neg k2, if_neg k3, if_neg k4, if_neg k8, if_neg k9, if_pos k10]] at hd'
    cases hd'
  by_cases k11 : o.kind = 11
  · rw [show doesS S o = (turnP S o.nm o.N (maskOf o.M)).1 by unfold doesS; rw [if_neg k1, if_neg k2, if_neg k3, if_neg k4, if_neg k8, if_neg k9, if_neg k10, if_pos k11]] at hd'
    unfold turnP at hd'
    split at hd'
    · split at hd'
      · rw [hd] at hd'; cases hd'
      · exact absurd hd' (by show ¬ S.down = true; rw [hd]; decide)
    · rw [hd] at hd'; cases hd'
  · rw [show doesS S o = S by unfold doesS; rw [if_neg k1, if_neg k2, if_neg k3, if_neg k4, if_neg k8, if_neg k9, if_neg k10, if_neg k11], hd] at hd'
    cases hd'
end Go.Proofs.Ytaclgiakinoocaa
