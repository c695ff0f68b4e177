import Derived.Test.YtijpfbcippijoaaGreatDoorOpLR
import Derived.Laws.Slices
namespace Go.Proofs.YtijpfbcippijoaaGreatDoor
open Go.RowKit Go.Lib
set_option maxRecDepth 100000
def digB (m : Nat) : UInt8 := UInt8.ofNat (48 + m)
theorem dig_cut (m : Nat) (hm : m < 10) (w : World) : (Instr.slice 9 (.string ⟨#[48, 49, 50, 51, 52, 53, 54, 55, 56, 57]⟩) (some (.int .i64 (m : Int))) (some (.int .i64 ((m : Int) + 1))) none).run Tryz.prog w = .ok (.string (bs [digB m])) w := by
  have hs : (⟨#[48, 49, 50, 51, 52, 53, 54, 55, 56, 57]⟩ : ByteArray).size = 10 := rfl
  have hr := run_slice_string (P := Tryz.prog) w 9 (⟨#[48, 49, 50, 51, 52, 53, 54, 55, 56, 57]⟩ : ByteArray) .i64 .i64 (m : Int) ((m : Int) + 1) Tryz.underlying9 (by omega) (by omega) (by rw [hs]; omega)
  rw [hr]
  congr 1
  match m, hm with
  | 0, _ => rfl
  | 1, _ => rfl
  | 2, _ => rfl
  | 3, _ => rfl
  | 4, _ => rfl
  | 5, _ => rfl
  | 6, _ => rfl
  | 7, _ => rfl
  | 8, _ => rfl
  | 9, _ => rfl
theorem dec_split (u : Nat) : Lib.decDigits u = (if 10 ≤ u then Lib.decDigits (u / 10) else []) ++ [digB (u % 10)] := by
  rw [Lib.decDigits]
  by_cases h : u < 10
  · rw [dif_pos h, if_neg (by omega), Nat.mod_eq_of_lt h]; rfl
  · rw [dif_neg h, if_pos (by omega)]; rfl
set_option maxHeartbeats 2000000 in
theorem gDigits_any (u : Nat) (hu : u ≤ 9223372036854775807) (w : World) : Calls Tryz.prog 79 #[.int .i64 (u : Int)] w fun e w' => e = .returned (.string (bs (Lib.decDigits u))) ∧ w' = w := by
  have rm : ∀ k : Nat, (k : Int).tmod 10 = ((k % 10 : Nat) : Int) := fun k => by rw [Int.tmod_eq_emod_of_nonneg (by omega)]; simp
  have qm : ∀ k : Nat, (k : Int).tdiv 10 = ((k / 10 : Nat) : Int) := fun k => by rw [Int.tdiv_eq_ediv_of_nonneg (by omega)]; simp
  have HR : Hid (∀ k : Nat, (k : Int).tmod 10 = ((k % 10 : Nat) : Int)) := rm
  have HQ : Hid (∀ k : Nat, (k : Int).tdiv 10 = ((k / 10 : Nat) : Int)) := qm
  clear rm qm
  have r0 := HR.out u
  obtain ⟨m, hm⟩ : ∃ m, u % 10 = m := ⟨_, rfl⟩
  rw [hm] at r0
  have hm9 : m < 10 := by omega
  have w0 : IntKind.i64.wrap (m : Int) = (m : Int) := IntWalk.i64_in _ (by omega)
  have w1 : IntKind.i64.wrap ((m : Int) + 1) = (m : Int) + 1 := IntWalk.i64_in _ (by omega)
  have c0 := dig_cut m hm9 w
  have H0 : Hid (∃ t, bs t = bs [digB m] ∧ t.length ≤ 1 ∧ Lib.decDigits u = (if 10 ≤ u then Lib.decDigits (u / 10) else []) ++ t) := ⟨[digB m], rfl, by simp, by rw [← hm]; exact dec_split u⟩
  clear hm
  go_enter Tryz.func79, Tryz.ntmps79
  go_wp2_with fail
  go_loopw [0, 3] (fun v0 v3 wr => ∃ (k : Nat) (s : ByteArray), v0 = .int .i64 (k : Int) ∧ v3 = .string s ∧ wr = w ∧ k ≤ 9223372036854775807 ∧ Hid (∃ t, bs t = s ∧ t.length + k ≤ 9223372036854775808 ∧ Lib.decDigits u = (if 10 ≤ k then Lib.decDigits (k / 10) else []) ++ t)) (fun v0 _ _ => (RowKit.intOf v0).toNat)
  case atStart =>
    obtain ⟨t, h1, h2, h3⟩ := H0.out
    exact ⟨u, _, rfl, rfl, rfl, hu, t, h1, by omega, h3⟩
  case round =>
    obtain ⟨k, s, rfl, rfl, hw, hk, hI⟩ := hrel
    obtain rfl := hw.symm
    clear hw r0 w0 w1 c0 H0
    by_cases h10 : 10 ≤ k
    · have g1 : (10 : Int) ≤ (k : Int) := by omega
      have q0 := HQ.out k
      obtain ⟨j, hj⟩ : ∃ j, k / 10 = j := ⟨_, rfl⟩
      rw [hj] at q0
      have r0 := HR.out j
      obtain ⟨m, hm⟩ : ∃ m, j % 10 = m := ⟨_, rfl⟩
      rw [hm] at r0
      have hm9 : m < 10 := by omega
      have wj : IntKind.i64.wrap (j : Int) = (j : Int) := IntWalk.i64_in _ (by omega)
      have w0 : IntKind.i64.wrap (m : Int) = (m : Int) := IntWalk.i64_in _ (by omega)
      have w1 : IntKind.i64.wrap ((m : Int) + 1) = (m : Int) + 1 := IntWalk.i64_in _ (by omega)
      have c0 := dig_cut m hm9 w
      obtain ⟨t, h1, h2, h3⟩ := hI.out
      have e1 : bs [digB m] ++ s = bs ([digB m] ++ t) := by rw [← h1, bs_append]
      have n2 : ¬ ((bs [digB m]).size + s.size > 9223372036854775807) := by rw [← h1, bs_size, bs_size]; simp only [List.length_singleton]; omega
      have n3 : ¬ (9223372036854775807 < (bs [digB m]).size + s.size) := n2
      have HN : Hid (∃ t', bs t' = bs ([digB m] ++ t) ∧ t'.length + j ≤ 9223372036854775808 ∧ Lib.decDigits u = (if 10 ≤ j then Lib.decDigits (j / 10) else []) ++ t') := ⟨[digB m] ++ t, rfl, by simp only [List.length_append, List.length_singleton]; omega, by rw [h3, if_pos h10, hj, dec_split j, hm, List.append_assoc]⟩
      obtain ⟨s1, hs1⟩ : ∃ s1, bs [digB m] = s1 := ⟨_, rfl⟩
      obtain ⟨s2, hs2⟩ : ∃ s2, bs ([digB m] ++ t) = s2 := ⟨_, rfl⟩
      rw [hs1] at e1 n2 n3 c0
      rw [hs2] at e1 HN
      have hjk : j < k := by omega
      clear h1 h2 h3 hs1 hs2 hj hm hI
      go_wp2_with fail
      exact ⟨⟨j, s2, by simp, by simp, by simp, by omega, HN.out⟩, by simp [RowKit.intOf]; omega⟩
    · have g1 : ¬ (10 : Int) ≤ (k : Int) := by omega
      obtain ⟨t, h1, _, h3⟩ := hI.out
      rw [if_neg h10, List.nil_append] at h3
      have HE : Hid (s = bs (Lib.decDigits u)) := by show s = _; rw [h3, h1]
      clear h1 h3 hI
      go_wp2_with fail
      go_ret
      exact ⟨by rw [HE.out]; rfl, rfl⟩
end Go.Proofs.YtijpfbcippijoaaGreatDoor
