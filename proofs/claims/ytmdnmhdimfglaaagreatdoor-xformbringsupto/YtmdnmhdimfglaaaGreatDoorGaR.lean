import Derived.Test.YtmdnmhdimfglaaaGreatDoorGr9
import Derived.Test.YtmdnmhdimfglaaaGreatDoorRef4
import Derived.Test.YtmdnmhdimfglaaaGreatDoorGaT
namespace Go.Proofs.YtmdnmhdimfglaaaGreatDoor
open Go.RowKit Go.Lib
theorem beqI_true {a b : Int} (h : a = b) : (a == b) = true := beq_iff_eq.2 h
theorem beqI_false {a b : Int} (h : ¬ a = b) : (a == b) = false := beq_eq_false_iff_ne.2 h
theorem bneI_true {a b : Int} (h : ¬ a = b) : (a != b) = true := by simp [h]
theorem bneI_false {a b : Int} (h : a = b) : (a != b) = false := by simp [h]
set_option maxHeartbeats 400000 in
theorem seq_any (s : ByteArray) (hs : s.size ≤ 9223372036854775000) (i : Nat) (hi : i < s.size) (w : World) :
    Calls Tryz.prog 103 #[.string s, .int .i64 i] w fun e w' => e = .returned (.tuple #[.int .i64 (seq (s.data.toList.drop i)).1, .int .i64 (seq (s.data.toList.drop i)).2]) ∧ w' = w := by
  have hlen : (s.data.toList.drop i).length = s.size - i := by rw [List.length_drop, ← size_data]
  have X0 := fun w => byte_run0 s i hi w
  have X1 := fun (h : i + 1 < s.size) w => byte_run s i 1 h w
  have X2 := fun (h : i + 2 < s.size) w => byte_run s i 2 h w
  have X3 := fun (h : i + 3 < s.size) w => byte_run s i 3 h w
  unfold seq
  rw [hlen]
  have l0 := at0_lt (s.data.toList.drop i) 0
  have l1 := at0_lt (s.data.toList.drop i) 1
  have l2 := at0_lt (s.data.toList.drop i) 2
  have l3 := at0_lt (s.data.toList.drop i) 3
  generalize at0 (s.data.toList.drop i) 0 = b0 at *
  generalize at0 (s.data.toList.drop i) 1 = b1 at *
  generalize at0 (s.data.toList.drop i) 2 = b2 at *
  generalize at0 (s.data.toList.drop i) 3 = b3 at *
  unfold seqN
  by_cases a : b0 < 0x80
  · rw [if_pos a]
    exact sq1 s hs i hi w b0 X0 (by omega) (by omega)
  rw [if_neg a]
  by_cases b : b0 / 32 = 6
  · rw [if_pos b]
    have q1 := beqI_true (a := (b0 : Int) / 32) (b := 6) (by omega)
    by_cases c1 : s.size ≤ i + 1
    · rw [if_neg (by omega)]
      exact sq2s1 s hs i hi w b0 X0 (by omega) (by omega) q1 c1
    by_cases c2 : b1 / 64 = 2
    · have r1 := bneI_false (a := (b1 : Int) / 64) (b := 2) (by omega)
      by_cases c3 : b0 % 32 * 64 + b1 % 64 ≥ 0x80
      · rw [if_pos (by omega)]
        have ec : ((b0 % 32 * 64 + b1 % 64 : Nat) : Int) = ((b0 : Int) % 32) * 64 + (b1 : Int) % 64 := by omega
        show Calls _ _ _ _ fun e w' => e = .returned (.tuple #[.int .i64 ((b0 % 32 * 64 + b1 % 64 : Nat) : Int), .int .i64 2]) ∧ w' = w
        rw [ec]
        exact sq2o s hs i hi w b0 X0 (by omega) (by omega) q1 (by omega) b1 (X1 (by omega)) (by omega) (by omega) r1 (by omega)
      · rw [if_neg (by omega)]
        exact sq2l s hs i hi w b0 X0 (by omega) (by omega) q1 (by omega) b1 (X1 (by omega)) (by omega) (by omega) r1 (by omega)
    · rw [if_neg (by omega)]
      exact sq2b1 s hs i hi w b0 X0 (by omega) (by omega) q1 (by omega) b1 (X1 (by omega)) (by omega) (by omega) (bneI_true (by omega))
  rw [if_neg b]
  have q1 := beqI_false (a := (b0 : Int) / 32) (b := 6) (by omega)
  by_cases d : b0 / 16 = 14
  · rw [if_pos d]
    have q2 := beqI_true (a := (b0 : Int) / 16) (b := 14) (by omega)
    by_cases c1 : s.size ≤ i + 1
    · rw [if_neg (by omega)]
      exact sq3s1 s hs i hi w b0 X0 (by omega) (by omega) q1 q2 c1
    by_cases c2 : b1 / 64 = 2
    · have r1 := bneI_false (a := (b1 : Int) / 64) (b := 2) (by omega)
      by_cases c3 : s.size ≤ i + 2
      · rw [if_neg (by omega)]
        exact sq3s2 s hs i hi w b0 X0 (by omega) (by omega) q1 q2 (by omega) b1 (X1 (by omega)) (by omega) (by omega) r1 c3
      by_cases c4 : b2 / 64 = 2
      · have r2 := bneI_false (a := (b2 : Int) / 64) (b := 2) (by omega)
        have ec : ((b0 % 16 * 4096 + b1 % 64 * 64 + b2 % 64 : Nat) : Int) = (((b0 : Int) % 16) * 64 + (b1 : Int) % 64) * 64 + (b2 : Int) % 64 := by omega
        by_cases c5 : b0 % 16 * 4096 + b1 % 64 * 64 + b2 % 64 ≥ 0x800
        · by_cases c6 : 55296 ≤ b0 % 16 * 4096 + b1 % 64 * 64 + b2 % 64 ∧ b0 % 16 * 4096 + b1 % 64 * 64 + b2 % 64 ≤ 57343
          · rw [if_neg (fun h => h.2.2.2.2.2 c6)]
            exact sq3m s hs i hi w b0 X0 (by omega) (by omega) q1 q2 (by omega) b1 (X1 (by omega)) (by omega) (by omega) r1 (by omega) b2 (X2 (by omega)) (by omega) (by omega) r2 (by omega) (by omega) (by omega)
          · rw [if_pos ⟨by omega, c2, by omega, c4, c5, c6⟩]
            show Calls _ _ _ _ fun e w' => e = .returned (.tuple #[.int .i64 ((b0 % 16 * 4096 + b1 % 64 * 64 + b2 % 64 : Nat) : Int), .int .i64 3]) ∧ w' = w
            rw [ec]
            by_cases c7 : b0 % 16 * 4096 + b1 % 64 * 64 + b2 % 64 < 55296
            · exact sq3o s hs i hi w b0 X0 (by omega) (by omega) q1 q2 (by omega) b1 (X1 (by omega)) (by omega) (by omega) r1 (by omega) b2 (X2 (by omega)) (by omega) (by omega) r2 (by omega) (by omega)
            · exact sq3p s hs i hi w b0 X0 (by omega) (by omega) q1 q2 (by omega) b1 (X1 (by omega)) (by omega) (by omega) r1 (by omega) b2 (X2 (by omega)) (by omega) (by omega) r2 (by omega) (by omega)
        · rw [if_neg (fun h => c5 h.2.2.2.2.1)]
          exact sq3l s hs i hi w b0 X0 (by omega) (by omega) q1 q2 (by omega) b1 (X1 (by omega)) (by omega) (by omega) r1 (by omega) b2 (X2 (by omega)) (by omega) (by omega) r2 (by omega)
      · rw [if_neg (fun h => c4 h.2.2.2.1)]
        exact sq3b2 s hs i hi w b0 X0 (by omega) (by omega) q1 q2 (by omega) b1 (X1 (by omega)) (by omega) (by omega) r1 (by omega) b2 (X2 (by omega)) (by omega) (by omega) (bneI_true (by omega))
    · rw [if_neg (fun h => c2 h.2.1)]
      exact sq3b1 s hs i hi w b0 X0 (by omega) (by omega) q1 q2 (by omega) b1 (X1 (by omega)) (by omega) (by omega) (bneI_true (by omega))
  rw [if_neg d]
  have q2 := beqI_false (a := (b0 : Int) / 16) (b := 14) (by omega)
  by_cases f : b0 / 8 = 30
  · rw [if_pos f]
    have q3 := beqI_true (a := (b0 : Int) / 8) (b := 30) (by omega)
    by_cases c1 : s.size ≤ i + 1
    · rw [if_neg (by omega)]
      exact sq4s1 s hs i hi w b0 X0 (by omega) (by omega) q1 q2 q3 c1
    by_cases c2 : b1 / 64 = 2
    · have r1 := bneI_false (a := (b1 : Int) / 64) (b := 2) (by omega)
      by_cases c3 : s.size ≤ i + 2
      · rw [if_neg (by omega)]
        exact sq4s2 s hs i hi w b0 X0 (by omega) (by omega) q1 q2 q3 (by omega) b1 (X1 (by omega)) (by omega) (by omega) r1 c3
      by_cases c4 : b2 / 64 = 2
      · have r2 := bneI_false (a := (b2 : Int) / 64) (b := 2) (by omega)
        by_cases c5 : s.size ≤ i + 3
        · rw [if_neg (by omega)]
          exact sq4s3 s hs i hi w b0 X0 (by omega) (by omega) q1 q2 q3 (by omega) b1 (X1 (by omega)) (by omega) (by omega) r1 (by omega) b2 (X2 (by omega)) (by omega) (by omega) r2 c5
        by_cases c6 : b3 / 64 = 2
        · have r3 := bneI_false (a := (b3 : Int) / 64) (b := 2) (by omega)
          have ec : ((b0 % 8 * 262144 + b1 % 64 * 4096 + b2 % 64 * 64 + b3 % 64 : Nat) : Int) = ((((b0 : Int) % 8) * 64 + (b1 : Int) % 64) * 64 + (b2 : Int) % 64) * 64 + (b3 : Int) % 64 := by omega
          by_cases c7 : b0 % 8 * 262144 + b1 % 64 * 4096 + b2 % 64 * 64 + b3 % 64 ≥ 0x10000
          · by_cases c8 : b0 % 8 * 262144 + b1 % 64 * 4096 + b2 % 64 * 64 + b3 % 64 ≤ 1114111
            · rw [if_pos ⟨by omega, c2, by omega, c4, by omega, c6, c7, c8⟩]
              show Calls _ _ _ _ fun e w' => e = .returned (.tuple #[.int .i64 ((b0 % 8 * 262144 + b1 % 64 * 4096 + b2 % 64 * 64 + b3 % 64 : Nat) : Int), .int .i64 4]) ∧ w' = w
              rw [ec]
              exact sq4o s hs i hi w b0 X0 (by omega) (by omega) q1 q2 q3 (by omega) b1 (X1 (by omega)) (by omega) (by omega) r1 (by omega) b2 (X2 (by omega)) (by omega) (by omega) r2 (by omega) b3 (X3 (by omega)) (by omega) (by omega) r3 (by omega) (by omega)
            · rw [if_neg (fun h => c8 h.2.2.2.2.2.2.2)]
              exact sq4m s hs i hi w b0 X0 (by omega) (by omega) q1 q2 q3 (by omega) b1 (X1 (by omega)) (by omega) (by omega) r1 (by omega) b2 (X2 (by omega)) (by omega) (by omega) r2 (by omega) b3 (X3 (by omega)) (by omega) (by omega) r3 (by omega)
          · rw [if_neg (fun h => c7 h.2.2.2.2.2.2.1)]
            exact sq4l s hs i hi w b0 X0 (by omega) (by omega) q1 q2 q3 (by omega) b1 (X1 (by omega)) (by omega) (by omega) r1 (by omega) b2 (X2 (by omega)) (by omega) (by omega) r2 (by omega) b3 (X3 (by omega)) (by omega) (by omega) r3 (by omega)
        · rw [if_neg (fun h => c6 h.2.2.2.2.2.1)]
          exact sq4b3 s hs i hi w b0 X0 (by omega) (by omega) q1 q2 q3 (by omega) b1 (X1 (by omega)) (by omega) (by omega) r1 (by omega) b2 (X2 (by omega)) (by omega) (by omega) r2 (by omega) b3 (X3 (by omega)) (by omega) (by omega) (bneI_true (by omega))
      · rw [if_neg (fun h => c4 h.2.2.2.1)]
        exact sq4b2 s hs i hi w b0 X0 (by omega) (by omega) q1 q2 q3 (by omega) b1 (X1 (by omega)) (by omega) (by omega) r1 (by omega) b2 (X2 (by omega)) (by omega) (by omega) (bneI_true (by omega))
    · rw [if_neg (fun h => c2 h.2.1)]
      exact sq4b1 s hs i hi w b0 X0 (by omega) (by omega) q1 q2 q3 (by omega) b1 (X1 (by omega)) (by omega) (by omega) (bneI_true (by omega))
  · rw [if_neg f]
    exact sq0 s hs i hi w b0 X0 (by omega) (by omega) q1 q2 (beqI_false (by omega))
end Go.Proofs.YtmdnmhdimfglaaaGreatDoor

namespace Go.Proofs.YtmdnmhdimfglaaaGreatDoor
open Go.RowKit Go.Lib
set_option maxHeartbeats 1000000 in
set_option maxRecDepth 100000 in
theorem refLet_any (r : Int) (h0 : 0 ≤ r) (h1 : r ≤ 1114111) (w : World) : Calls Tryz.prog 104 #[.int .i64 r] w fun e w' => e = .returned (.bool (okRune r)) ∧ w' = w := by
  have hcase : (r ≤ 8) ∨ (9 ≤ r ∧ r ≤ 9) ∨ (10 ≤ r ∧ r ≤ 10) ∨ (11 ≤ r ∧ r ≤ 31) ∨ (32 ≤ r ∧ r ≤ 126) ∨ (127 ≤ r ∧ r ≤ 159) ∨ (160 ≤ r ∧ r ≤ 64975) ∨ (64976 ≤ r ∧ r ≤ 65007) ∨ (65008 ≤ r ∧ r ≤ 65278) ∨ (65279 ≤ r ∧ r ≤ 65279) ∨ (65280 ≤ r) := by omega
  rcases hcase with ha | ⟨ha, hb⟩ | ⟨ha, hb⟩ | ⟨ha, hb⟩ | ⟨ha, hb⟩ | ⟨ha, hb⟩ | ⟨ha, hb⟩ | ⟨ha, hb⟩ | ⟨ha, hb⟩ | ⟨ha, hb⟩ | ha
  · have t1 : (r == 9) = false := beq_eq_false_iff_ne.2 (by omega)
    have t2 : (r == 10) = false := beq_eq_false_iff_ne.2 (by omega)
    have t3 : (r == 65279) = false := beq_eq_false_iff_ne.2 (by omega)
    go_enter Tryz.func104, Tryz.ntmps104
    go_wp2_with fail
    go_ret
    exact ⟨congrArg (fun b => Ending.returned (.bool b)) (okRune_no (by omega)), rfl⟩
  · have t1 : (r == 9) = true := beq_iff_eq.2 (by omega)
    have t2 : (r == 10) = false := beq_eq_false_iff_ne.2 (by omega)
    have t3 : (r == 65279) = false := beq_eq_false_iff_ne.2 (by omega)
    go_enter Tryz.func104, Tryz.ntmps104
    go_wp2_with fail
    go_ret
    exact ⟨congrArg (fun b => Ending.returned (.bool b)) (by unfold okRune; rw [eq_comm, decide_eq_true_iff]; omega), rfl⟩
  · have t1 : (r == 9) = false := beq_eq_false_iff_ne.2 (by omega)
    have t2 : (r == 10) = true := beq_iff_eq.2 (by omega)
    have t3 : (r == 65279) = false := beq_eq_false_iff_ne.2 (by omega)
    go_enter Tryz.func104, Tryz.ntmps104
    go_wp2_with fail
    go_ret
    exact ⟨congrArg (fun b => Ending.returned (.bool b)) (by unfold okRune; rw [eq_comm, decide_eq_true_iff]; omega), rfl⟩
  · have t1 : (r == 9) = false := beq_eq_false_iff_ne.2 (by omega)
    have t2 : (r == 10) = false := beq_eq_false_iff_ne.2 (by omega)
    have t3 : (r == 65279) = false := beq_eq_false_iff_ne.2 (by omega)
    go_enter Tryz.func104, Tryz.ntmps104
    go_wp2_with fail
    go_ret
    exact ⟨congrArg (fun b => Ending.returned (.bool b)) (okRune_no (by omega)), rfl⟩
  · have t1 : (r == 9) = false := beq_eq_false_iff_ne.2 (by omega)
    have t2 : (r == 10) = false := beq_eq_false_iff_ne.2 (by omega)
    have t3 : (r == 65279) = false := beq_eq_false_iff_ne.2 (by omega)
    go_enter Tryz.func104, Tryz.ntmps104
    go_wp2_with fail
    go_ret
    exact ⟨congrArg (fun b => Ending.returned (.bool b)) (okRune_yes (by omega)), rfl⟩
  · have t1 : (r == 9) = false := beq_eq_false_iff_ne.2 (by omega)
    have t2 : (r == 10) = false := beq_eq_false_iff_ne.2 (by omega)
    have t3 : (r == 65279) = false := beq_eq_false_iff_ne.2 (by omega)
    go_enter Tryz.func104, Tryz.ntmps104
    go_wp2_with fail
    go_ret
    exact ⟨congrArg (fun b => Ending.returned (.bool b)) (okRune_no (by omega)), rfl⟩
  · have t1 : (r == 9) = false := beq_eq_false_iff_ne.2 (by omega)
    have t2 : (r == 10) = false := beq_eq_false_iff_ne.2 (by omega)
    have t3 : (r == 65279) = false := beq_eq_false_iff_ne.2 (by omega)
    go_enter Tryz.func104, Tryz.ntmps104
    go_wp2_with fail
    go_ret
    exact ⟨congrArg (fun b => Ending.returned (.bool b)) (okRune_yes (by omega)), rfl⟩
  · have t1 : (r == 9) = false := beq_eq_false_iff_ne.2 (by omega)
    have t2 : (r == 10) = false := beq_eq_false_iff_ne.2 (by omega)
    have t3 : (r == 65279) = false := beq_eq_false_iff_ne.2 (by omega)
    go_enter Tryz.func104, Tryz.ntmps104
    go_wp2_with fail
    go_ret
    exact ⟨congrArg (fun b => Ending.returned (.bool b)) (okRune_no (by omega)), rfl⟩
  · have t1 : (r == 9) = false := beq_eq_false_iff_ne.2 (by omega)
    have t2 : (r == 10) = false := beq_eq_false_iff_ne.2 (by omega)
    have t3 : (r == 65279) = false := beq_eq_false_iff_ne.2 (by omega)
    go_enter Tryz.func104, Tryz.ntmps104
    go_wp2_with fail
    go_ret
    exact ⟨congrArg (fun b => Ending.returned (.bool b)) (okRune_yes (by omega)), rfl⟩
  · have t1 : (r == 9) = false := beq_eq_false_iff_ne.2 (by omega)
    have t2 : (r == 10) = false := beq_eq_false_iff_ne.2 (by omega)
    have t3 : (r == 65279) = true := beq_iff_eq.2 (by omega)
    go_enter Tryz.func104, Tryz.ntmps104
    go_wp2_with fail
    go_ret
    exact ⟨congrArg (fun b => Ending.returned (.bool b)) (okRune_no (by omega)), rfl⟩
  · have t1 : (r == 9) = false := beq_eq_false_iff_ne.2 (by omega)
    have t2 : (r == 10) = false := beq_eq_false_iff_ne.2 (by omega)
    have t3 : (r == 65279) = false := beq_eq_false_iff_ne.2 (by omega)
    go_enter Tryz.func104, Tryz.ntmps104
    go_wp2_with fail
    go_ret
    exact ⟨congrArg (fun b => Ending.returned (.bool b)) (okRune_yes (by omega)), rfl⟩
end Go.Proofs.YtmdnmhdimfglaaaGreatDoor

namespace Go.Proofs.YtmdnmhdimfglaaaGreatDoor
open Go.RowKit Go.Lib
theorem infoInt : (Tryz.prog.info? 3).map (fun i => (i.zero, i.size, i.bytes)) = some (some (.int .i64 0), 1, 8) := by kernel_rfl
structure Split (s : ByteArray) (rs : List Int) (rest : List UInt8) : Prop where
  bytes : s.data.toList = encs rs ++ rest
  ok : ∀ r ∈ rs, okR r
  stop : rest = [] ∨ bad rest
theorem split_any (s : ByteArray) : ∃ rs rest, Split s rs rest := by
  obtain ⟨rs, rest, e, ha, hr⟩ := split_text _ s.data.toList (Nat.le_refl _)
  exact ⟨rs, rest, e, ha, hr⟩
theorem Split.check_eq {s : ByteArray} {rs : List Int} {rest : List UInt8} (h : Split s rs rest) : check s = if rest = [] then ((rs.length : Int), 0, 0) else (0, (posOf rs rs.length : Int), faultOf rest) := by
  by_cases h0 : rest = []
  · rw [if_pos h0]
    exact check_text s rs (by rw [h.bytes, h0, List.append_nil]) h.ok
  · rw [if_neg h0, posOf_all]
    exact check_fault s rs rest h.bytes h.ok (h.stop.resolve_left h0)
theorem Split.size {s : ByteArray} {rs : List Int} {rest : List UInt8} (h : Split s rs rest) : s.size = posOf rs rs.length + rest.length := by
  rw [size_data, h.bytes, List.length_append, posOf_all]
theorem Split.drop {s : ByteArray} {rs : List Int} {rest : List UInt8} (h : Split s rs rest) (j : Nat) : s.data.toList.drop (posOf rs j) = encs (rs.drop j) ++ rest := by
  rw [h.bytes, List.drop_append_of_le_length (posOf_le rs j), posOf_drop]
theorem Split.seqAt {s : ByteArray} {rs : List Int} {rest : List UInt8} (h : Split s rs rest) (j : Nat) (hj : j < rs.length) : seq (s.data.toList.drop (posOf rs j)) = (rs[j].toNat, (encB rs[j]).length) := by
  have hv := (h.ok _ (List.getElem_mem hj)).1
  rw [h.drop, List.drop_eq_getElem_cons hj, encs_cons, List.append_assoc]
  have hb := brkL_enc rs[j] hv (encs (rs.drop (j + 1)) ++ rest)
  have hd := dec_enc rs[j] hv (encs (rs.drop (j + 1)) ++ rest)
  have hp := encB_pos rs[j]
  obtain ⟨b0, t, hbt⟩ := List.exists_cons_of_length_pos (l := encB rs[j] ++ (encs (rs.drop (j + 1)) ++ rest)) (by rw [List.length_append]; omega)
  rw [hbt] at hb hd ⊢
  rw [seq_dec, hb, if_neg (by simp), hd]
theorem Split.seqEnd {s : ByteArray} {rs : List Int} {rest : List UInt8} (h : Split s rs rest) : s.data.toList.drop (posOf rs rs.length) = rest := by
  rw [h.drop, List.drop_length]; rfl
def intsV (rs : List Int) : List Value := rs.map fun r => .int .i64 r
theorem intsV_snoc (rs : List Int) (j : Nat) (hj : j < rs.length) : intsV (rs.take j) ++ [Value.int .i64 rs[j]] = intsV (rs.take (j + 1)) := by
  rw [List.take_succ_eq_append_getElem hj]
  simp only [intsV, List.map_append, List.map_cons, List.map_nil]
theorem cell_newI (w : World) (x : Value) (t : TypeId) : ∀ j u, [x][j]? = some u → (w.alloc (.cells #[x] t)).cell? ((⟨w.heap.size, 0, none⟩ : Addr).add j) = some u := by
  intro j u hj
  match j, hj with
  | 0, hj => simp at hj; subst hj; simp [Addr.add]
theorem own_ge {w : World} {B : Nat} {e : TypeId} {size n : Nat} {v : Value} {xs : List Value} (h : w.ownsRow B e size v n xs) {g : Nat} (hg : v.ownBlock = some g) : B ≤ g := by
  rcases h.2 with ⟨rfl, _⟩ | ⟨g', cap, cur, rfl, hB, _⟩
  · simp [Value.ownBlock] at hg
  · simp [Value.ownBlock] at hg
    omega
theorem dec_width (l : List UInt8) : 1 ≤ (dec l).2 := by
  unfold dec decN
  repeat' split
  all_goals simp
set_option maxHeartbeats 2000000 in
set_option maxRecDepth 100000 in
theorem runes_any {s : ByteArray} {rs : List Int} {rest : List UInt8} (h : Split s rs rest) (hs : s.size ≤ 2097152) (w : World) :
    Calls Tryz.prog 97 #[.string s] w fun e w' => ∃ (a : Option Addr) (n cap : Nat) (p c : Int), e = .returned (.tuple #[.slice a n cap, .int .i64 p, .int .i64 c]) ∧ Below w.heap.size w w' ∧
      ((rest = [] ∧ p = 0 ∧ c = 0 ∧ n = rs.length ∧ w'.ownsRow w.heap.size 3 1 (.slice a n cap) n (intsV rs)) ∨ (¬ rest = [] ∧ n = 0 ∧ p = posOf rs rs.length ∧ c = faultOf rest)) := by
  obtain ⟨i0, hi, hz0, hz1, hz2⟩ := info_parts infoInt
  have HSZ : Hid (s.size = posOf rs rs.length + rest.length) := h.size
  have hrl : rs.length ≤ s.size := by have := posOf_ge rs rs.length (Nat.le_refl _); rw [HSZ.out]; omega
  go_enter Tryz.func97, Tryz.ntmps97
  go_wp2_with fail
  go_loopw [5, 6] (fun l i w' => ∃ (j : Nat) (a : Option Addr) (cap : Nat), j ≤ rs.length ∧ l = .slice a j cap ∧ i = .int .i64 (posOf rs j) ∧ w'.ownsRow w.heap.size 3 1 (.slice a j cap) j (intsV (rs.take j)) ∧ Below w.heap.size w w') (fun _ i _ => s.size - (intOf i).toNat)
  case atStart => exact ⟨0, none, 0, Nat.zero_le _, rfl, by rw [posOf_zero]; rfl, World.ownsRow_nil _ _ _ _, Below.refl _ _⟩
  case round =>
    obtain ⟨j, a, cap, hjl, rfl, rfl, hown, hnx⟩ := hrel
    have hsz := hnx.size
    have hple : posOf rs j ≤ s.size := by have := posOf_mono rs hjl; rw [HSZ.out]; omega
    by_cases hj : j < rs.length
    · have hplt : posOf rs j < s.size := by have := posOf_lt rs hj (Nat.le_refl _); rw [HSZ.out]; omega
      have hok := h.ok _ (List.getElem_mem hj)
      have hv := valid_le hok.1
      have HS : Hid (seq (s.data.toList.drop (posOf rs j)) = (rs[j].toNat, (encB rs[j]).length)) := h.seqAt j hj
      have HPS : Hid ((posOf rs (j + 1) : Int) = (posOf rs j : Int) + ((encB rs[j]).length : Int)) := by have := posOf_succ rs j hj; unfold Hid; omega
      have hep := encB_pos rs[j]
      have hle2 : posOf rs j + (encB rs[j]).length ≤ s.size := by
        have h1 := posOf_succ rs j hj
        have h2 := posOf_mono rs (show j + 1 ≤ rs.length by omega)
        rw [HSZ.out]; omega
      have HOK : Hid (okRune rs[j] = true) := hok.2
      have HIV : Hid (intsV (rs.take j) ++ [Value.int .i64 rs[j]] = intsV (rs.take (j + 1))) := intsV_snoc rs j hj
      have ER : Hid (((rs[j].toNat : Nat) : Int) = rs[j]) := by have := hv.1; unfold Hid; omega
      clear hok
      generalize (encB rs[j]).length = wd at *
      have t0 : ((wd : Int) == 0) = false := beq_eq_false_iff_ne.2 (by omega)
      obtain ⟨hv0, hv1, _⟩ := hv
      generalize rs[j] = r at *
      go_wp2_with fail
      refine (seq_any s (by omega) (posOf rs j) hplt _).mono ?_
      rintro e w' ⟨rfl, rfl⟩
      rw [HS.out]
      show _
      simp only
      rw [ER.out]
      go_wp2_with fail
      refine (refLet_any r hv0 hv1 _).mono ?_
      rintro e w' ⟨rfl, rfl⟩
      rw [HOK.out]
      go_wp2_with (at_builtin; refine wpList_append_own _ rfl _ _ 119 rfl w.heap.size 3 i0 (.int .i64 0) 1 8 Tryz.underlying119 hi hz0 hz1 hz2 rfl (by decide) _ _ _ rfl (hown.alloc _) ⟨_, 0, none⟩ 1 1 [.int .i64 r] rfl rfl ?c1 ?c2 ?c3 ?c4 ?c5 ?_)
      case c1 => exact cell_newI _ _ _
      case c2 => first | rfl | (intro u hu; simp at hu; subst hu; rfl)
      case c3 => unfold maxLen; omega
      case c4 => omega
      case c5 => first | omega | (simp; omega)
      intro v' w1 hown' hgrow _
      rw [HIV.out] at hown'
      have hnx' : Below w.heap.size w w1 := (hnx.alloc hsz _).grown hgrow (by simp; omega) (fun g hg => own_ge hown hg)
      obtain ⟨a', cap', rfl⟩ : ∃ a' cap', v' = .slice a' (j + 1) cap' := by
        rcases hown'.2 with ⟨_, h0⟩ | ⟨g, cap', cur, e, _⟩
        · omega
        · exact ⟨_, _, e⟩
      clear hown hgrow hnx HS
      go_wp2_with fail
      go_roundw
      case rel => exact ⟨j + 1, a', cap', by omega, rfl, by rw [HPS.out], hown', hnx'⟩
      case measure => simp [intOf]; omega
    · have hjl2 : j = rs.length := by omega
      subst hjl2
      rw [List.take_length] at hown
      by_cases hr : rest = []
      · have hend : s.size ≤ posOf rs rs.length := by rw [HSZ.out, hr]; simp
        have HR : Hid (rest = []) := hr
        clear hr
        go_wp2_with fail
        go_ret3
        exact ⟨a, _, cap, _, _, rfl, hnx, .inl ⟨HR.out, rfl, rfl, rfl, hown⟩⟩
      · have hbad := h.stop.resolve_left hr
        have hplt : posOf rs rs.length < s.size := by have := List.length_pos_iff.2 hr; rw [HSZ.out]; omega
        obtain ⟨b0, t, hbt⟩ := List.exists_cons_of_length_pos (List.length_pos_iff.2 hr)
        have HD : Hid (s.data.toList.drop (posOf rs rs.length) = rest) := h.seqEnd
        have HNR : Hid (¬ rest = []) := hr
        rcases bad_no hbad with hb | ⟨hb, hb2⟩
        · have HS : Hid (seq (s.data.toList.drop (posOf rs rs.length)) = (0, 0)) := by
            unfold Hid
            rw [HD.out, hbt, seq_dec, ← hbt, hb, if_pos rfl]
          have HF : Hid (faultOf rest = 10) := by unfold Hid faultOf; rw [if_pos hb]
          clear hbad hb hr hbt
          go_wp2_with fail
          refine (seq_any s (by omega) (posOf rs rs.length) hplt _).mono ?_
          rintro e w' ⟨rfl, rfl⟩
          rw [HS.out]
          go_wp2_with fail
          go_ret3
          exact ⟨none, 0, 0, _, _, rfl, hnx, .inr ⟨HNR.out, rfl, rfl, HF.out.symm⟩⟩
        · have hv := (enc_dec rest hr hb).1
          have hdw := dec_width rest
          have HS0 : seq (s.data.toList.drop (posOf rs rs.length)) = dec rest := by
            rw [HD.out, hbt, seq_dec, ← hbt, hb, if_neg (by simp)]
          have HF : Hid (faultOf rest = 11) := by unfold Hid faultOf; rw [hb]; rfl
          obtain ⟨r, wd, hdec⟩ : ∃ r wd, dec rest = (r, wd) := ⟨_, _, rfl⟩
          rw [hdec] at hv hdw HS0 hb2
          have HS : Hid (seq (s.data.toList.drop (posOf rs rs.length)) = (r, wd)) := HS0
          have HB2 : Hid (okRune (r : Int) = false) := hb2
          obtain ⟨hv0, hv1, _⟩ := valid_le hv
          clear hbad hb hb2 hr hbt hv HS0 hdec
          have hdw' : 1 ≤ wd := hdw
          have t0 : ((wd : Int) == 0) = false := beq_eq_false_iff_ne.2 (by omega)
          clear hdw
          go_wp2_with fail
          refine (seq_any s (by omega) (posOf rs rs.length) hplt _).mono ?_
          rintro e w' ⟨rfl, rfl⟩
          rw [HS.out]
          show _
          simp only
          go_wp2_with fail
          refine (refLet_any r hv0 hv1 _).mono ?_
          rintro e w' ⟨rfl, rfl⟩
          rw [HB2.out]
          go_wp2_with fail
          go_ret3
          exact ⟨none, 0, 0, _, _, rfl, hnx, .inr ⟨HNR.out, rfl, rfl, HF.out.symm⟩⟩
set_option maxHeartbeats 400000 in
theorem refCheck_any (s : ByteArray) (hs : s.size ≤ 2097152) (w : World) :
    Calls Tryz.prog 79 #[.string s] w fun e w' => e = .returned (.tuple #[.int .i64 (check s).1, .int .i64 (check s).2.1, .int .i64 (check s).2.2]) ∧ Below w.heap.size w w' := by
  obtain ⟨rs, rest, h⟩ := split_any s
  have HC : Hid (check s = if rest = [] then ((rs.length : Int), 0, 0) else (0, (posOf rs rs.length : Int), faultOf rest)) := h.check_eq
  go_enter Tryz.func79, Tryz.ntmps79
  go_wp2_with fail
  refine (runes_any h hs _).mono ?_
  rintro e w1 ⟨a, n, cap, p, c, rfl, hb1, hpost⟩
  have HP : Hid (check s = ((n : Int), p, c)) := by
    unfold Hid
    rw [HC.out]
    rcases hpost with ⟨h1, rfl, rfl, rfl, _⟩ | ⟨h1, rfl, rfl, rfl⟩
    · rw [if_pos h1]
    · rw [if_neg h1]; rfl
  clear hpost HC
  go_wp2_with fail
  go_ret3
  rw [HP.out]
  exact ⟨rfl, hb1⟩
end Go.Proofs.YtmdnmhdimfglaaaGreatDoor
