import Derived.Test.YtfakfmmngflbfabDoorHomeEnd
namespace Go.Proofs.YtfakfmmngflbfabDoor
open Go.RowKit Go.Lib

set_option maxHeartbeats 2000000 in
theorem lines_any (o n : Value) (zo : List Int) (k : Int) (raw : ByteArray) (b : Int) (w : World) (ho : Ints w o zo) (h4 : zo.length * 4 ≤ 140737488351232) (hw : Bar w) (kk : Nat) (hkk : kk ≤ zo.length) (hmod : k % ((zo.length : Int) + 1) = kk) :
    Calls Tryd.prog 3 #[.agg #[o, n, .int .i64 k, .string raw, .int .u8 b]] w fun e w' => e = .returned (.bool true) ∧ Below w.heap.size w w' := by
  have HM : Hid (k % ((zo.length : Int) + 1) = kk) := hmod
  clear hmod
  have hts := txt_size zo
  have hT := isText_txt zo
  have HL : Hid ((zo.map letR).length = zo.length) := List.length_map ..
  go_enter Tryd.func3, Tryd.ntmps3
  go_wp2_with fail
  refine (let_ints o zo _ (ho.mono ((Below.refl _ _).alloc (Nat.le_refl _) _)) h4).mono ?_
  rintro e w2 ⟨a, cap, rfl, hown, hb2⟩
  have hcv := conv_let hown
  have hr2 := row_of_own hown
  have hc2 : w2.cell? ⟨w.heap.size, 2, none⟩ = some (.int .i64 k) := (hb2.cell (p := ⟨w.heap.size, 2, none⟩) (by simp)).trans (World.cell?_alloc_mark _ _ _ _ _)
  have hB2 : Below w.heap.size w w2 := ((Below.refl _ _).alloc (Nat.le_refl _) _).trans (hb2.mono (by simp))
  have hw2 : Bar w2 := (hw.alloc _).below hb2
  clear hb2 ho hw hown
  generalize txt zo = s at *
  generalize zo.map letR = rs at *
  have hkr : kk ≤ rs.length := by rw [HL.out]; exact hkk
  have hh := homeOf_le rs kk
  have hl := lineOf_le rs kk
  have hll := lineOf_le rs rs.length
  have hlm : lineOf rs kk ≤ lineOf rs rs.length := by
    have := lineOf_mono rs kk (rs.length - kk)
    rwa [show kk + (rs.length - kk) = rs.length by omega] at this
  have hrz : rs.length ≤ zo.length := by rw [HL.out]; exact Nat.le_refl _
  have F1 : Hid (findF rs rs.length 0 (lineOf rs kk) ((kk : Int) - homeOf rs kk) = ((kk : Int), 0)) := find_back rs kk hkr
  have F2 : Hid (findF rs rs.length 0 (lineOf rs kk) 9223372036854775807 = ((endOf rs kk : Int), 0)) := find_far rs kk hkr _ (by omega)
  have F3 : Hid (findF rs rs.length 0 ((lineOf rs rs.length : Int) + 1) 0 = (0, 12)) := find_beyond rs 0
  go_wp2_with (go_at_call 9; refine (pick_all _ _ (by omega) (by omega) _).mono ?_; rintro e w' ⟨rfl, rfl⟩; rw [HM.out])
  refine (where_in hT (by omega) kk hkr _ hw2).mono ?_
  rintro e w3 ⟨rfl, hb3⟩
  have hw3 := hw2.below hb3
  have hr3 := hr2.below hb3
  have hB3 := hB2.trans (hb3.mono hB2.size)
  clear hw2 hB2 hr2 hb3
  go_wp2_with fail
  refine (find_in_text hT (by omega) (lineOf rs kk) ((kk : Int) - homeOf rs kk) (by omega) (by omega) (by omega) (by omega) _ hw3).mono ?_
  rintro e w4 ⟨rfl, hb4⟩
  rw [F1.out]
  have hw4 := hw3.below hb4
  have hr4 := hr3.below hb4
  have hB4 := hB3.trans (hb4.mono hB3.size)
  clear hw3 hB3 hr3 hb4
  go_wp2_with fail
  refine (home_any a zo.length cap rs _ hr4 (by omega) kk hkk).mono ?_
  rintro e w' ⟨rfl, rfl⟩
  go_wp2_with fail
  refine (find_in_text hT (by omega) (lineOf rs kk) 9223372036854775807 (by omega) (by omega) (by omega) (by omega) _ (by assumption)).mono ?_
  rintro e w5 ⟨rfl, hb5⟩
  rw [F2.out]
  have hw5 := hw4.below hb5
  have hr5 := hr4.below hb5
  have hB5 := hB4.trans (hb5.mono hB4.size)
  clear hw4 hB4 hr4 hb5
  go_wp2_with fail
  refine (end_any a zo.length cap rs _ hr5 (by omega) kk hkk).mono ?_
  rintro e w' ⟨rfl, rfl⟩
  have RL : Hid (zo.length = rs.length) := HL.out.symm
  go_wp2_with fail
  rw [RL.out]
  refine (where_in hT (by omega) rs.length (Nat.le_refl _) _ hw5).mono ?_
  rintro e w6 ⟨rfl, hb6⟩
  have hw6 := hw5.below hb6
  have hr6 := hr5.below hb6
  have hB6 := hB5.trans (hb6.mono hB5.size)
  clear hw5 hB5 hr5 hb6
  go_wp2_with fail
  refine (find_in_text hT (by omega) ((lineOf rs rs.length : Int) + 1) 0 (by omega) (by omega) (by omega) (by omega) _ hw6).mono ?_
  rintro e w7 ⟨rfl, hb7⟩
  rw [F3.out]
  have hw7 := hw6.below hb7
  have hr7 := hr6.below hb7
  have hB7 := hB6.trans (hb7.mono hB6.size)
  clear hw6 hB6 hr6 hb7
  go_wp2_with fail
  refine (find_neg hT (by omega) (-1) 0 (by omega) _ hw7).mono ?_
  rintro e w8 ⟨rfl, hb8⟩
  have hB8 := hB7.trans (hb8.mono hB7.size)
  clear hw7 hB7 hr7 hb8
  go_wp2_with fail
  go_ret
  exact ⟨rfl, hB8⟩
theorem lines_all (o n : Value) (zo : List Int) (k : Int) (raw : ByteArray) (b : Int) (w : World) (ho : Ints w o zo) (h4 : zo.length * 4 ≤ 140737488351232) (hw : Bar w) :
    Calls Tryd.prog 3 #[.agg #[o, n, .int .i64 k, .string raw, .int .u8 b]] w fun e w' => e = .returned (.bool true) ∧ Below w.heap.size w w' := by
  obtain ⟨kk, h1, h2⟩ := mod_nat k zo.length
  exact lines_any o n zo k raw b w ho h4 hw kk h1 h2
end Go.Proofs.YtfakfmmngflbfabDoor
