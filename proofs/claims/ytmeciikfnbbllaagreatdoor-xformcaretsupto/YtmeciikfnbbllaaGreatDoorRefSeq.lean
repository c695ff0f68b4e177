import Derived.Test.YtmeciikfnbbllaaGreatDoorRef
import Derived.Test.YtmeciikfnbbllaaGreatDoorRef4
namespace Go.Proofs.YtmeciikfnbbllaaGreatDoor
open Go.RowKit Go.Lib
theorem beqI_true {a b : Int} (h : a = b) : (a == b) = true := beq_iff_eq.2 h
theorem beqI_false {a b : Int} (h : ¬ a = b) : (a == b) = false := beq_eq_false_iff_ne.2 h
theorem bneI_true {a b : Int} (h : ¬ a = b) : (a != b) = true := by simp [h]
theorem bneI_false {a b : Int} (h : a = b) : (a != b) = false := by simp [h]
set_option maxHeartbeats 400000 in
theorem seq_any (s : ByteArray) (hs : s.size ≤ 9223372036854775000) (i : Nat) (hi : i < s.size) (w : World) :
    Calls Tryz.prog 109 #[.string s, .int .i64 i] w fun e w' => e = .returned (.tuple #[.int .i64 (seq (s.data.toList.drop i)).1, .int .i64 (seq (s.data.toList.drop i)).2]) ∧ w' = w := by
  have hlen : (s.data.toList.drop i).length = s.size - i := by rw [List.length_drop, ← size_data]
  have X0 := fun w => byte_run0 s i hi w
  have X1 := fun (h : i + 1 < s.size) w => byte_run s i 1 h w
  have X2 := fun (h : i + 2 < s.size) w => byte_run s i 2 h w
  have X3 := fun (h : i + 3 < s.size) w => byte_run s i 3 h w
  unfold seq
  rw [hlen]
  have l0 := at0_lt (s.data.toList.drop i) 0
  have l1 := at0_lt (s.data.toList.drop i) 1
  have l2 := at0_lt (s.data.toList.drop i) 2
  have l3 := at0_lt (s.data.toList.drop i) 3
  generalize at0 (s.data.toList.drop i) 0 = b0 at *
  generalize at0 (s.data.toList.drop i) 1 = b1 at *
  generalize at0 (s.data.toList.drop i) 2 = b2 at *
  generalize at0 (s.data.toList.drop i) 3 = b3 at *
  unfold seqN
  by_cases a : b0 < 0x80
  · rw [if_pos a]
    exact sq1 s hs i hi w b0 X0 (by omega) (by omega)
  rw [if_neg a]
  by_cases b : b0 / 32 = 6
  · rw [if_pos b]
    have q1 := beqI_true (a := (b0 : Int) / 32) (b := 6) (by omega)
    by_cases c1 : s.size ≤ i + 1
    · rw [if_neg (by omega)]
      exact sq2s1 s hs i hi w b0 X0 (by omega) (by omega) q1 c1
    by_cases c2 : b1 / 64 = 2
    · have r1 := bneI_false (a := (b1 : Int) / 64) (b := 2) (by omega)
      by_cases c3 : b0 % 32 * 64 + b1 % 64 ≥ 0x80
      · rw [if_pos (by omega)]
        have ec : ((b0 % 32 * 64 + b1 % 64 : Nat) : Int) = ((b0 : Int) % 32) * 64 + (b1 : Int) % 64 := by omega
        show Calls _ _ _ _ fun e w' => e = .returned (.tuple #[.int .i64 ((b0 % 32 * 64 + b1 % 64 : Nat) : Int), .int .i64 2]) ∧ w' = w
        rw [ec]
        exact sq2o s hs i hi w b0 X0 (by omega) (by omega) q1 (by omega) b1 (X1 (by omega)) (by omega) (by omega) r1 (by omega)
      · rw [if_neg (by omega)]
        exact sq2l s hs i hi w b0 X0 (by omega) (by omega) q1 (by omega) b1 (X1 (by omega)) (by omega) (by omega) r1 (by omega)
    · rw [if_neg (by omega)]
      exact sq2b1 s hs i hi w b0 X0 (by omega) (by omega) q1 (by omega) b1 (X1 (by omega)) (by omega) (by omega) (bneI_true (by omega))
  rw [if_neg b]
  have q1 := beqI_false (a := (b0 : Int) / 32) (b := 6) (by omega)
  by_cases d : b0 / 16 = 14
  · rw [if_pos d]
    have q2 := beqI_true (a := (b0 : Int) / 16) (b := 14) (by omega)
    by_cases c1 : s.size ≤ i + 1
    · rw [if_neg (by omega)]
      exact sq3s1 s hs i hi w b0 X0 (by omega) (by omega) q1 q2 c1
    by_cases c2 : b1 / 64 = 2
    · have r1 := bneI_false (a := (b1 : Int) / 64) (b := 2) (by omega)
      by_cases c3 : s.size ≤ i + 2
      · rw [if_neg (by omega)]
        exact sq3s2 s hs i hi w b0 X0 (by omega) (by omega) q1 q2 (by omega) b1 (X1 (by omega)) (by omega) (by omega) r1 c3
      by_cases c4 : b2 / 64 = 2
      · have r2 := bneI_false (a := (b2 : Int) / 64) (b := 2) (by omega)
        have ec : ((b0 % 16 * 4096 + b1 % 64 * 64 + b2 % 64 : Nat) : Int) = (((b0 : Int) % 16) * 64 + (b1 : Int) % 64) * 64 + (b2 : Int) % 64 := by omega
        by_cases c5 : b0 % 16 * 4096 + b1 % 64 * 64 + b2 % 64 ≥ 0x800
        · by_cases c6 : 55296 ≤ b0 % 16 * 4096 + b1 % 64 * 64 + b2 % 64 ∧ b0 % 16 * 4096 + b1 % 64 * 64 + b2 % 64 ≤ 57343
          · rw [if_neg (fun h => h.2.2.2.2.2 c6)]
            exact sq3m s hs i hi w b0 X0 (by omega) (by omega) q1 q2 (by omega) b1 (X1 (by omega)) (by omega) (by omega) r1 (by omega) b2 (X2 (by omega)) (by omega) (by omega) r2 (by omega) (by omega) (by omega)
          · rw [if_pos ⟨by omega, c2, by omega, c4, c5, c6⟩]
            show Calls _ _ _ _ fun e w' => e = .returned (.tuple #[.int .i64 ((b0 % 16 * 4096 + b1 % 64 * 64 + b2 % 64 : Nat) : Int), .int .i64 3]) ∧ w' = w
            rw [ec]
            by_cases c7 : b0 % 16 * 4096 + b1 % 64 * 64 + b2 % 64 < 55296
            · exact sq3o s hs i hi w b0 X0 (by omega) (by omega) q1 q2 (by omega) b1 (X1 (by omega)) (by omega) (by omega) r1 (by omega) b2 (X2 (by omega)) (by omega) (by omega) r2 (by omega) (by omega)
            · exact sq3p s hs i hi w b0 X0 (by omega) (by omega) q1 q2 (by omega) b1 (X1 (by omega)) (by omega) (by omega) r1 (by omega) b2 (X2 (by omega)) (by omega) (by omega) r2 (by omega) (by omega)
        · rw [if_neg (fun h => c5 h.2.2.2.2.1)]
          exact sq3l s hs i hi w b0 X0 (by omega) (by omega) q1 q2 (by omega) b1 (X1 (by omega)) (by omega) (by omega) r1 (by omega) b2 (X2 (by omega)) (by omega) (by omega) r2 (by omega)
      · rw [if_neg (fun h => c4 h.2.2.2.1)]
        exact sq3b2 s hs i hi w b0 X0 (by omega) (by omega) q1 q2 (by omega) b1 (X1 (by omega)) (by omega) (by omega) r1 (by omega) b2 (X2 (by omega)) (by omega) (by omega) (bneI_true (by omega))
    · rw [if_neg (fun h => c2 h.2.1)]
      exact sq3b1 s hs i hi w b0 X0 (by omega) (by omega) q1 q2 (by omega) b1 (X1 (by omega)) (by omega) (by omega) (bneI_true (by omega))
  rw [if_neg d]
  have q2 := beqI_false (a := (b0 : Int) / 16) (b := 14) (by omega)
  by_cases f : b0 / 8 = 30
  · rw [if_pos f]
    have q3 := beqI_true (a := (b0 : Int) / 8) (b := 30) (by omega)
    by_cases c1 : s.size ≤ i + 1
    · rw [if_neg (by omega)]
      exact sq4s1 s hs i hi w b0 X0 (by omega) (by omega) q1 q2 q3 c1
    by_cases c2 : b1 / 64 = 2
    · have r1 := bneI_false (a := (b1 : Int) / 64) (b := 2) (by omega)
      by_cases c3 : s.size ≤ i + 2
      · rw [if_neg (by omega)]
        exact sq4s2 s hs i hi w b0 X0 (by omega) (by omega) q1 q2 q3 (by omega) b1 (X1 (by omega)) (by omega) (by omega) r1 c3
      by_cases c4 : b2 / 64 = 2
      · have r2 := bneI_false (a := (b2 : Int) / 64) (b := 2) (by omega)
        by_cases c5 : s.size ≤ i + 3
        · rw [if_neg (by omega)]
          exact sq4s3 s hs i hi w b0 X0 (by omega) (by omega) q1 q2 q3 (by omega) b1 (X1 (by omega)) (by omega) (by omega) r1 (by omega) b2 (X2 (by omega)) (by omega) (by omega) r2 c5
        by_cases c6 : b3 / 64 = 2
        · have r3 := bneI_false (a := (b3 : Int) / 64) (b := 2) (by omega)
          have ec : ((b0 % 8 * 262144 + b1 % 64 * 4096 + b2 % 64 * 64 + b3 % 64 : Nat) : Int) = ((((b0 : Int) % 8) * 64 + (b1 : Int) % 64) * 64 + (b2 : Int) % 64) * 64 + (b3 : Int) % 64 := by omega
          by_cases c7 : b0 % 8 * 262144 + b1 % 64 * 4096 + b2 % 64 * 64 + b3 % 64 ≥ 0x10000
          · by_cases c8 : b0 % 8 * 262144 + b1 % 64 * 4096 + b2 % 64 * 64 + b3 % 64 ≤ 1114111
            · rw [if_pos ⟨by omega, c2, by omega, c4, by omega, c6, c7, c8⟩]
              show Calls _ _ _ _ fun e w' => e = .returned (.tuple #[.int .i64 ((b0 % 8 * 262144 + b1 % 64 * 4096 + b2 % 64 * 64 + b3 % 64 : Nat) : Int), .int .i64 4]) ∧ w' = w
              rw [ec]
              exact sq4o s hs i hi w b0 X0 (by omega) (by omega) q1 q2 q3 (by omega) b1 (X1 (by omega)) (by omega) (by omega) r1 (by omega) b2 (X2 (by omega)) (by omega) (by omega) r2 (by omega) b3 (X3 (by omega)) (by omega) (by omega) r3 (by omega) (by omega)
            · rw [if_neg (fun h => c8 h.2.2.2.2.2.2.2)]
              exact sq4m s hs i hi w b0 X0 (by omega) (by omega) q1 q2 q3 (by omega) b1 (X1 (by omega)) (by omega) (by omega) r1 (by omega) b2 (X2 (by omega)) (by omega) (by omega) r2 (by omega) b3 (X3 (by omega)) (by omega) (by omega) r3 (by omega)
          · rw [if_neg (fun h => c7 h.2.2.2.2.2.2.1)]
            exact sq4l s hs i hi w b0 X0 (by omega) (by omega) q1 q2 q3 (by omega) b1 (X1 (by omega)) (by omega) (by omega) r1 (by omega) b2 (X2 (by omega)) (by omega) (by omega) r2 (by omega) b3 (X3 (by omega)) (by omega) (by omega) r3 (by omega)
        · rw [if_neg (fun h => c6 h.2.2.2.2.2.1)]
          exact sq4b3 s hs i hi w b0 X0 (by omega) (by omega) q1 q2 q3 (by omega) b1 (X1 (by omega)) (by omega) (by omega) r1 (by omega) b2 (X2 (by omega)) (by omega) (by omega) r2 (by omega) b3 (X3 (by omega)) (by omega) (by omega) (bneI_true (by omega))
      · rw [if_neg (fun h => c4 h.2.2.2.1)]
        exact sq4b2 s hs i hi w b0 X0 (by omega) (by omega) q1 q2 q3 (by omega) b1 (X1 (by omega)) (by omega) (by omega) r1 (by omega) b2 (X2 (by omega)) (by omega) (by omega) (bneI_true (by omega))
    · rw [if_neg (fun h => c2 h.2.1)]
      exact sq4b1 s hs i hi w b0 X0 (by omega) (by omega) q1 q2 q3 (by omega) b1 (X1 (by omega)) (by omega) (by omega) (bneI_true (by omega))
  · rw [if_neg f]
    exact sq0 s hs i hi w b0 X0 (by omega) (by omega) q1 q2 (beqI_false (by omega))
end Go.Proofs.YtmeciikfnbbllaaGreatDoor
