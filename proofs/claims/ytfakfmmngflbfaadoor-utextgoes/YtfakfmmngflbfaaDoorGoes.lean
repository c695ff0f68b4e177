import Derived.Test.YtfakfmmngflbfaaDoorStepAll
namespace Go.Proofs.YtfakfmmngflbfaaDoor
open Go.RowKit Go.Lib

theorem goes_of {s : ByteArray} {k how R to : Int} (hst : ∀ w, Bar w → Wlk w → Calls Tryd.prog 15 #[.string s, .int .i64 k, .int .i64 how] w fun e w' => e = .returned (.tuple #[.int .i64 R, .int .i64 0]) ∧ Below w.heap.size w w') (hto : to = R) (w : World) (hw : Bar w) (hq : Wlk w) :
    Calls Tryd.prog 19 #[.string s, .int .i64 k, .int .i64 how, .int .i64 to] w fun e w' => e = .returned (.bool true) ∧ Below w.heap.size w w' := by
  subst hto
  have t1 : (to == to) = true := by simp
  go_enter Tryd.func19, Tryd.ntmps19
  go_wp2_with fail
  refine (hst _ hw hq).mono ?_
  rintro e w1 ⟨rfl, hb1⟩
  go_wp2_with fail
  go_ret
  exact ⟨rfl, hb1⟩
theorem max_run (ats : Array TypeId) (ty : TypeId) (x y : Int) (w : World) : (Builtin.max_ ats ty #[.int .i64 x, .int .i64 y]).run Tryd.prog w = .ok (.int .i64 (max x y)) w := by
  simp only [run_max_int2]
  congr 2
  split <;> omega
theorem min_run (ats : Array TypeId) (ty : TypeId) (x y : Int) (w : World) : (Builtin.min_ ats ty #[.int .i64 x, .int .i64 y]).run Tryd.prog w = .ok (.int .i64 (min x y)) w := by
  simp only [run_min_int2]
  congr 2
  split <;> omega

set_option maxHeartbeats 4000000 in
theorem goes_any (o n : Value) (zo : List Int) (k : Int) (raw : ByteArray) (b : Int) (w : World) (ho : Ints w o zo) (h4 : zo.length * 4 ≤ 140737488351232) (hw : Bar w) (hq : Wlk w) (kk : Nat) (hkk : kk ≤ zo.length) (hmod : k % ((zo.length : Int) + 1) = kk) :
    Calls Tryd.prog 8 #[.agg #[o, n, .int .i64 k, .string raw, .int .u8 b]] w fun e w' => e = .returned (.bool true) ∧ Below w.heap.size w w' := by
  have HM : Hid (k % ((zo.length : Int) + 1) = kk) := hmod
  clear hmod
  have hts := txt_size zo
  have hT := isText_txt zo
  have HL : Hid ((zo.map letR).length = zo.length) := List.length_map ..
  have hmx := max_run
  have hmn := min_run
  go_enter Tryd.func8, Tryd.ntmps8
  go_wp2_with fail
  refine (let_ints o zo _ (ho.mono ((Below.refl _ _).alloc (Nat.le_refl _) _)) h4).mono ?_
  rintro e w2 ⟨a, cap, rfl, hown, hb2⟩
  have hcv := conv_let hown
  have hr2 := row_of_own hown
  have hc2 : w2.cell? ⟨w.heap.size, 2, none⟩ = some (.int .i64 k) := (hb2.cell (p := ⟨w.heap.size, 2, none⟩) (by simp)).trans (World.cell?_alloc_mark _ _ _ _ _)
  have hB2 : Below w.heap.size w w2 := ((Below.refl _ _).alloc (Nat.le_refl _) _).trans (hb2.mono (by simp))
  have hw2 : Bar w2 := (hw.alloc _).below hb2
  have hq2 : Wlk w2 := (hq.below ((Below.refl _ _).alloc (Nat.le_refl _) _)).below hb2
  clear hb2 ho hw hown hq
  generalize txt zo = s at *
  generalize zo.map letR = rs at *
  have hkr : kk ≤ rs.length := by rw [HL.out]; exact hkk
  have hh := homeOf_le rs kk
  have he := endOf_ge rs kk
  have hel := endOf_le rs kk hkr
  have hrz : rs.length ≤ zo.length := by rw [HL.out]; exact Nat.le_refl _
  go_wp2_with (first | (go_at_call 11; refine (pick_all _ _ (by omega) (by omega) _).mono ?_; rintro e w' ⟨rfl, rfl⟩; rw [HM.out]) | (go_at_call 17; refine (home_any a zo.length cap rs _ hr2 (by omega) kk hkk).mono ?_; rintro e w' ⟨rfl, rfl⟩) | (go_at_call 18; refine (end_any a zo.length cap rs _ hr2 (by omega) kk hkk).mono ?_; rintro e w' ⟨rfl, rfl⟩))
  refine (goes_of (fun w hw hq => step_left hT (by omega) (by omega) kk hkr w hw hq) (by omega) _ hw2 hq2).mono ?_
  rintro e w3 ⟨rfl, hb3⟩
  have hw3 := hw2.below hb3
  have hq3 := hq2.below hb3
  have hr3 := hr2.below hb3
  have hB3 := hB2.trans (hb3.mono hB2.size)
  clear hw2 hq2 hr2 hB2 hb3
  go_wp2_with fail
  refine (goes_of (fun w hw hq => step_right hT (by omega) (by omega) kk hkr w hw hq) (by have := HL.out; omega) _ hw3 hq3).mono ?_
  rintro e w4 ⟨rfl, hb4⟩
  have hw4 := hw3.below hb4
  have hq4 := hq3.below hb4
  have hr4 := hr3.below hb4
  have hB4 := hB3.trans (hb4.mono hB3.size)
  clear hw3 hq3 hr3 hB3 hb4
  go_wp2_with fail
  refine (goes_of (fun w hw hq => step_home hT (by omega) (by omega) kk hkr w hw hq) (rfl) _ hw4 hq4).mono ?_
  rintro e w5 ⟨rfl, hb5⟩
  have hw5 := hw4.below hb5
  have hq5 := hq4.below hb5
  have hr5 := hr4.below hb5
  have hB5 := hB4.trans (hb5.mono hB4.size)
  clear hw4 hq4 hr4 hB4 hb5
  go_wp2_with fail
  refine (goes_of (fun w hw hq => step_end hT (by omega) (by omega) kk hkr w hw hq) (rfl) _ hw5 hq5).mono ?_
  rintro e w6 ⟨rfl, hb6⟩
  have hw6 := hw5.below hb6
  have hq6 := hq5.below hb6
  have hr6 := hr5.below hb6
  have hB6 := hB5.trans (hb6.mono hB5.size)
  clear hw5 hq5 hr5 hB5 hb6
  go_wp2_with fail
  refine (goes_of (fun w hw hq => step_top hT (by omega) (by omega) kk hkr w hw hq) (rfl) _ hw6 hq6).mono ?_
  rintro e w7 ⟨rfl, hb7⟩
  have hw7 := hw6.below hb7
  have hq7 := hq6.below hb7
  have hr7 := hr6.below hb7
  have hB7 := hB6.trans (hb7.mono hB6.size)
  clear hw6 hq6 hr6 hB6 hb7
  go_wp2_with fail
  refine (goes_of (fun w hw hq => step_bottom hT (by omega) (by omega) kk hkr w hw hq) (by have := HL.out; omega) _ hw7 hq7).mono ?_
  rintro e w8 ⟨rfl, hb8⟩
  have hw8 := hw7.below hb8
  have hq8 := hq7.below hb8
  have hr8 := hr7.below hb8
  have hB8 := hB7.trans (hb8.mono hB7.size)
  clear hw7 hq7 hr7 hB7 hb8
  have hRL : (rs.length : Int) = zo.length := by have := HL.out; omega
  by_cases h0 : homeOf rs kk = 0
  · have HU : Hid (upOf rs kk = 0) := by unfold upOf; rw [if_pos h0]; rfl
    by_cases hz : endOf rs kk < rs.length
    · have HD : Hid (downOf rs kk = min (endOf rs kk + 1 + (kk - homeOf rs kk)) (endOf rs (endOf rs kk + 1))) := by unfold downOf; rw [if_pos hz]; rfl
      have E2 : Hid ((endOf rs kk : Int) + 1 = ((endOf rs kk + 1 : Nat) : Int)) := show (endOf rs kk : Int) + 1 = ((endOf rs kk + 1 : Nat) : Int) by omega
      have hee := endOf_le rs (endOf rs kk + 1) (by omega)
      go_wp2_with fail
      rw [E2.out]
      refine (end_any a zo.length cap rs _ hr8 (by omega) (endOf rs kk + 1) (by omega)).mono ?_
      rintro e w' ⟨rfl, rfl⟩
      go_wp2_with fail
      refine (goes_of (fun w hw hq => step_up hT (by omega) (by omega) kk hkr w hw hq) (by have := HU.out; omega) _ (by assumption) (by assumption)).mono ?_
      rintro e w9 ⟨rfl, hb9⟩
      have hw9 := hw8.below hb9
      have hq9 := hq8.below hb9
      have hB9 := hB8.trans (hb9.mono hB8.size)
      clear hw8 hq8 hr8 hB8 hb9
      go_wp2_with fail
      refine (goes_of (fun w hw hq => step_down hT (by omega) (by omega) kk hkr w hw hq) (by have := HD.out; have := HL.out; omega) _ hw9 hq9).mono ?_
      rintro e w10 ⟨rfl, hb10⟩
      have hB10 := hB9.trans (hb10.mono hB9.size)
      clear hw9 hq9 hB9 hb10
      go_wp2_with fail
      go_ret
      exact ⟨rfl, hB10⟩
    · have HD : Hid (downOf rs kk = rs.length) := by unfold downOf; rw [if_neg hz]; rfl
      go_wp2_with fail
      refine (goes_of (fun w hw hq => step_up hT (by omega) (by omega) kk hkr w hw hq) (by have := HU.out; omega) _ (by assumption) (by assumption)).mono ?_
      rintro e w9 ⟨rfl, hb9⟩
      have hw9 := hw8.below hb9
      have hq9 := hq8.below hb9
      have hB9 := hB8.trans (hb9.mono hB8.size)
      clear hw8 hq8 hr8 hB8 hb9
      go_wp2_with fail
      refine (goes_of (fun w hw hq => step_down hT (by omega) (by omega) kk hkr w hw hq) (by have := HD.out; have := HL.out; omega) _ hw9 hq9).mono ?_
      rintro e w10 ⟨rfl, hb10⟩
      have hB10 := hB9.trans (hb10.mono hB9.size)
      clear hw9 hq9 hB9 hb10
      go_wp2_with fail
      go_ret
      exact ⟨rfl, hB10⟩
  · have HU : Hid (upOf rs kk = min (homeOf rs (homeOf rs kk - 1) + (kk - homeOf rs kk)) (homeOf rs kk - 1)) := by unfold upOf; rw [if_neg h0]; rfl
    by_cases hz : endOf rs kk < rs.length
    · have HD : Hid (downOf rs kk = min (endOf rs kk + 1 + (kk - homeOf rs kk)) (endOf rs (endOf rs kk + 1))) := by unfold downOf; rw [if_pos hz]; rfl
      have E1 : Hid ((homeOf rs kk : Int) - 1 = ((homeOf rs kk - 1 : Nat) : Int)) := show (homeOf rs kk : Int) - 1 = ((homeOf rs kk - 1 : Nat) : Int) by omega
      have hh2 := homeOf_le rs (homeOf rs kk - 1)
      go_wp2_with fail
      rw [E1.out]
      refine (home_any a zo.length cap rs _ hr8 (by omega) (homeOf rs kk - 1) (by omega)).mono ?_
      rintro e w' ⟨rfl, rfl⟩
      have E2 : Hid ((endOf rs kk : Int) + 1 = ((endOf rs kk + 1 : Nat) : Int)) := show (endOf rs kk : Int) + 1 = ((endOf rs kk + 1 : Nat) : Int) by omega
      have hee := endOf_le rs (endOf rs kk + 1) (by omega)
      go_wp2_with fail
      rw [E2.out]
      refine (end_any a zo.length cap rs _ hr8 (by omega) (endOf rs kk + 1) (by omega)).mono ?_
      rintro e w' ⟨rfl, rfl⟩
      go_wp2_with fail
      refine (goes_of (fun w hw hq => step_up hT (by omega) (by omega) kk hkr w hw hq) (by have := HU.out; omega) _ (by assumption) (by assumption)).mono ?_
      rintro e w9 ⟨rfl, hb9⟩
      have hw9 := hw8.below hb9
      have hq9 := hq8.below hb9
      have hB9 := hB8.trans (hb9.mono hB8.size)
      clear hw8 hq8 hr8 hB8 hb9
      go_wp2_with fail
      refine (goes_of (fun w hw hq => step_down hT (by omega) (by omega) kk hkr w hw hq) (by have := HD.out; have := HL.out; omega) _ hw9 hq9).mono ?_
      rintro e w10 ⟨rfl, hb10⟩
      have hB10 := hB9.trans (hb10.mono hB9.size)
      clear hw9 hq9 hB9 hb10
      go_wp2_with fail
      go_ret
      exact ⟨rfl, hB10⟩
    · have HD : Hid (downOf rs kk = rs.length) := by unfold downOf; rw [if_neg hz]; rfl
      have E1 : Hid ((homeOf rs kk : Int) - 1 = ((homeOf rs kk - 1 : Nat) : Int)) := show (homeOf rs kk : Int) - 1 = ((homeOf rs kk - 1 : Nat) : Int) by omega
      have hh2 := homeOf_le rs (homeOf rs kk - 1)
      go_wp2_with fail
      rw [E1.out]
      refine (home_any a zo.length cap rs _ hr8 (by omega) (homeOf rs kk - 1) (by omega)).mono ?_
      rintro e w' ⟨rfl, rfl⟩
      go_wp2_with fail
      refine (goes_of (fun w hw hq => step_up hT (by omega) (by omega) kk hkr w hw hq) (by have := HU.out; omega) _ (by assumption) (by assumption)).mono ?_
      rintro e w9 ⟨rfl, hb9⟩
      have hw9 := hw8.below hb9
      have hq9 := hq8.below hb9
      have hB9 := hB8.trans (hb9.mono hB8.size)
      clear hw8 hq8 hr8 hB8 hb9
      go_wp2_with fail
      refine (goes_of (fun w hw hq => step_down hT (by omega) (by omega) kk hkr w hw hq) (by have := HD.out; have := HL.out; omega) _ hw9 hq9).mono ?_
      rintro e w10 ⟨rfl, hb10⟩
      have hB10 := hB9.trans (hb10.mono hB9.size)
      clear hw9 hq9 hB9 hb10
      go_wp2_with fail
      go_ret
      exact ⟨rfl, hB10⟩
theorem goes_all (o n : Value) (zo : List Int) (k : Int) (raw : ByteArray) (b : Int) (w : World) (ho : Ints w o zo) (h4 : zo.length * 4 ≤ 140737488351232) (hw : Bar w) (hq : Wlk w) :
    Calls Tryd.prog 8 #[.agg #[o, n, .int .i64 k, .string raw, .int .u8 b]] w fun e w' => e = .returned (.bool true) ∧ Below w.heap.size w w' := by
  obtain ⟨kk, h1, h2⟩ := mod_nat k zo.length
  exact goes_any o n zo k raw b w ho h4 hw hq kk h1 h2
end Go.Proofs.YtfakfmmngflbfaaDoor
