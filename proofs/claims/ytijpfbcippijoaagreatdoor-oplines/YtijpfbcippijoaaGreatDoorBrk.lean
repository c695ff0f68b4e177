import Derived.Test.YtijpfbcippijoaaGreatDoorTxtF
namespace Go.Proofs.YtijpfbcippijoaaGreatDoor
set_option maxRecDepth 10000 in
set_option maxHeartbeats 4000000 in
theorem brk_one (l : List UInt8) (h0 : l ≠ []) (h : brkL l = true) : (dec l).2 = 1 ∧ 128 ≤ at0 l 0 := by
  have k0 := at0_lt l 0
  have k1 := at0_lt l 1
  have k2 := at0_lt l 2
  have k3 := at0_lt l 3
  unfold brkL at h
  by_cases h1 : (dec l).1 = 65533
  · rw [if_pos h1] at h
    unfold dec at h1 ⊢
    unfold decN at h1 ⊢
    by_cases a : at0 l 0 < 0x80
    · rw [if_pos a] at h1
      simp at h1
      omega
    rw [if_neg a] at h1 ⊢
    refine ⟨?_, by omega⟩
    split at h1
    · rename_i b
      rw [if_pos b]
      split at h1
      · simp at h1; omega
      · rename_i c; rw [if_neg c]
    · rename_i b
      rw [if_neg b]
      split at h1
      · rename_i c
        rw [if_pos c]
        split at h1
        · simp at h1
          exfalso
          match l, h0 with
          | [b0], _ => simp at c
          | [b0, b1], _ => simp at c
          | b0 :: b1 :: b2 :: u, _ =>
            have q0 : at0 (b0 :: b1 :: b2 :: u) 0 = b0.toNat := rfl
            have q1 : at0 (b0 :: b1 :: b2 :: u) 1 = b1.toNat := rfl
            have q2 : at0 (b0 :: b1 :: b2 :: u) 2 = b2.toNat := rfl
            have e0 : b0 = 239 := (ofNat_of_toNat b0 239 (by omega)).symm
            have e1 : b1 = 191 := (ofNat_of_toNat b1 191 (by omega)).symm
            have e2 : b2 = 189 := (ofNat_of_toNat b2 189 (by omega)).symm
            subst e0 e1 e2
            simp at h
        · rename_i d; rw [if_neg d]
      · rename_i c
        rw [if_neg c]
        split at h1
        · rename_i d
          rw [if_pos d]
          split at h1
          · simp at h1; omega
          · rename_i g; rw [if_neg g]
        · rename_i d; rw [if_neg d]
  · rw [if_neg h1] at h
    exact absurd h (by decide)
end Go.Proofs.YtijpfbcippijoaaGreatDoor
