import Derived.Test.YtmdnmhdimfglaaaGreatDoorGaT
namespace Go.Proofs.YtmdnmhdimfglaaaGreatDoor
def seqN (n b0 b1 b2 b3 : Nat) : Nat × Nat :=
  if b0 < 0x80 then (b0, 1)
  else if b0 / 32 = 6 then
    if 1 < n ∧ b1 / 64 = 2 ∧ b0 % 32 * 64 + b1 % 64 ≥ 0x80 then (b0 % 32 * 64 + b1 % 64, 2) else (0, 0)
  else if b0 / 16 = 14 then
    if 1 < n ∧ b1 / 64 = 2 ∧ 2 < n ∧ b2 / 64 = 2 ∧ b0 % 16 * 4096 + b1 % 64 * 64 + b2 % 64 ≥ 0x800 ∧ ¬ (55296 ≤ b0 % 16 * 4096 + b1 % 64 * 64 + b2 % 64 ∧ b0 % 16 * 4096 + b1 % 64 * 64 + b2 % 64 ≤ 57343) then (b0 % 16 * 4096 + b1 % 64 * 64 + b2 % 64, 3) else (0, 0)
  else if b0 / 8 = 30 then
    if 1 < n ∧ b1 / 64 = 2 ∧ 2 < n ∧ b2 / 64 = 2 ∧ 3 < n ∧ b3 / 64 = 2 ∧ b0 % 8 * 262144 + b1 % 64 * 4096 + b2 % 64 * 64 + b3 % 64 ≥ 0x10000 ∧ b0 % 8 * 262144 + b1 % 64 * 4096 + b2 % 64 * 64 + b3 % 64 ≤ 1114111 then (b0 % 8 * 262144 + b1 % 64 * 4096 + b2 % 64 * 64 + b3 % 64, 4) else (0, 0)
  else (0, 0)
def seq (l : List UInt8) : Nat × Nat := seqN l.length (at0 l 0) (at0 l 1) (at0 l 2) (at0 l 3)
theorem valid_nat (c : Nat) (h : c ≤ 1114111) : Utf8.valid (c : Int) = true ↔ ¬ (55296 ≤ c ∧ c ≤ 57343) := by
  constructor
  · intro h1
    have := valid_le h1
    omega
  · intro h1
    exact valid_of (by omega) (by omega) (by omega)
theorem two_of {t : List UInt8} (h : 2 < t.length + 1) : ∃ b1 b2 u, t = b1 :: b2 :: u := by
  match t, h with
  | b1 :: b2 :: u, _ => exact ⟨b1, b2, u, rfl⟩
theorem seq_dec (b0 : UInt8) (t : List UInt8) : seq (b0 :: t) = if brkL (b0 :: t) = true then (0, 0) else dec (b0 :: t) := by
  have k0 := b0.toNat_lt
  have k1 := at0_lt t 0
  have k2 := at0_lt t 1
  have k3 := at0_lt t 2
  have hnot : b0.toNat ≠ 239 → ((b0 :: t).take 3 == [239, 191, 189]) = false := fun h => by
    rw [beq_eq_false_iff_ne]
    intro e
    obtain ⟨rest, hl⟩ := take_of_cons3 e
    simp at hl
    exact h (by rw [hl.1]; rfl)
  have hbad : ∀ w, dec (b0 :: t) = (65533, w) → b0.toNat ≠ 239 → brkL (b0 :: t) = true := fun w e h => by
    unfold brkL
    rw [e, if_pos rfl, hnot h]
    rfl
  have hgood : ∀ r w, dec (b0 :: t) = (r, w) → r ≠ 65533 → brkL (b0 :: t) = false := fun r w e h => by
    unfold brkL
    rw [e, if_neg h]
  show seqN (t.length + 1) b0.toNat (at0 t 0) (at0 t 1) (at0 t 2) = _
  have hd : dec (b0 :: t) = decN (t.length + 1) b0.toNat (at0 t 0) (at0 t 1) (at0 t 2) := rfl
  unfold seqN
  by_cases a : b0.toNat < 0x80
  · have e : dec (b0 :: t) = (b0.toNat, 1) := by rw [hd]; unfold decN; rw [if_pos a]
    rw [if_pos a, hgood _ _ e (by omega), if_neg (by simp), e]
  rw [if_neg a]
  by_cases b : b0.toNat / 32 = 6
  · rw [if_pos b]
    by_cases c : 1 < t.length + 1 ∧ at0 t 0 / 64 = 2
    · by_cases g : b0.toNat % 32 * 64 + at0 t 0 % 64 ≥ 0x80
      · have e : dec (b0 :: t) = (b0.toNat % 32 * 64 + at0 t 0 % 64, 2) := by rw [hd]; unfold decN; rw [if_neg a, if_pos ⟨b, c⟩, if_pos g]
        rw [if_pos ⟨c.1, c.2, g⟩, hgood _ _ e (by omega), if_neg (by simp), e]
      · have e : dec (b0 :: t) = (65533, 1) := by rw [hd]; unfold decN; rw [if_neg a, if_pos ⟨b, c⟩, if_neg g]
        rw [if_neg (fun h => g h.2.2), hbad _ e (by omega), if_pos rfl]
    · have e : dec (b0 :: t) = (65533, 1) := by rw [hd]; unfold decN; rw [if_neg a, if_neg (fun h => c h.2), if_neg (by omega), if_neg (by omega)]
      rw [if_neg (fun h => c ⟨h.1, h.2.1⟩), hbad _ e (by omega), if_pos rfl]
  rw [if_neg b]
  by_cases d : b0.toNat / 16 = 14
  · rw [if_pos d]
    by_cases c : (1 < t.length + 1 ∧ at0 t 0 / 64 = 2) ∧ 2 < t.length + 1 ∧ at0 t 1 / 64 = 2
    · have hv := valid_nat (b0.toNat % 16 * 4096 + at0 t 0 % 64 * 64 + at0 t 1 % 64) (by omega)
      by_cases g : b0.toNat % 16 * 4096 + at0 t 0 % 64 * 64 + at0 t 1 % 64 ≥ 0x800 ∧ ¬ (55296 ≤ b0.toNat % 16 * 4096 + at0 t 0 % 64 * 64 + at0 t 1 % 64 ∧ b0.toNat % 16 * 4096 + at0 t 0 % 64 * 64 + at0 t 1 % 64 ≤ 57343)
      · have e : dec (b0 :: t) = (b0.toNat % 16 * 4096 + at0 t 0 % 64 * 64 + at0 t 1 % 64, 3) := by rw [hd]; unfold decN; rw [if_neg a, if_neg (fun h => b h.1), if_pos ⟨d, c⟩, if_pos ⟨g.1, hv.2 g.2⟩]
        rw [if_pos ⟨c.1.1, c.1.2, c.2.1, c.2.2, g.1, g.2⟩]
        have hb : brkL (b0 :: t) = false := by
          by_cases h6 : b0.toNat % 16 * 4096 + at0 t 0 % 64 * 64 + at0 t 1 % 64 = 65533
          · obtain ⟨b1, b2, u, rfl⟩ := two_of c.2.1
            have q1 : at0 (b1 :: b2 :: u) 0 = b1.toNat := rfl
            have q2 : at0 (b1 :: b2 :: u) 1 = b2.toNat := rfl
            rw [q1, q2] at h6
            rw [q1, q2] at c
            rw [q1] at k1
            rw [q2] at k2
            have r0 : b0 = 239 := UInt8.toNat_inj.1 (by show b0.toNat = 239; omega)
            have r1 : b1 = 191 := UInt8.toNat_inj.1 (by show b1.toNat = 191; omega)
            have r2 : b2 = 189 := UInt8.toNat_inj.1 (by show b2.toNat = 189; omega)
            have hq : ((b0 :: b1 :: b2 :: u).take 3 == [239, 191, 189]) = true := by rw [r0, r1, r2]; rfl
            unfold brkL
            rw [hq]
            split <;> rfl
          · exact hgood _ _ e h6
        rw [hb, if_neg (by simp), e]
      · have e : dec (b0 :: t) = (65533, 1) := by rw [hd]; unfold decN; rw [if_neg a, if_neg (fun h => b h.1), if_pos ⟨d, c⟩, if_neg (fun h => g ⟨h.1, hv.1 h.2⟩)]
        rw [if_neg (fun h => g ⟨h.2.2.2.2.1, h.2.2.2.2.2⟩)]
        have hb : brkL (b0 :: t) = true := by
          unfold brkL
          rw [e, if_pos rfl]
          cases hq : ((b0 :: t).take 3 == [239, 191, 189]) with
          | false => rfl
          | true =>
            obtain ⟨rest, hl⟩ := take_of_cons3 (beq_iff_eq.1 hq)
            simp at hl
            obtain ⟨rfl, rfl⟩ := hl
            have z0 : at0 (191 :: 189 :: rest) 0 = 191 := rfl
            have z1 : at0 (191 :: 189 :: rest) 1 = 189 := rfl
            have z2 : (239 : UInt8).toNat = 239 := rfl
            rw [z0, z1, z2] at g
            omega
        rw [hb, if_pos rfl]
    · have e : dec (b0 :: t) = (65533, 1) := by rw [hd]; unfold decN; rw [if_neg a, if_neg (fun h => b h.1), if_neg (fun h => c h.2), if_neg (by omega)]
      rw [if_neg (fun h => c ⟨⟨h.1, h.2.1⟩, h.2.2.1, h.2.2.2.1⟩)]
      have hb : brkL (b0 :: t) = true := by
        unfold brkL
        rw [e, if_pos rfl]
        cases hq : ((b0 :: t).take 3 == [239, 191, 189]) with
        | false => rfl
        | true =>
          obtain ⟨rest, hl⟩ := take_of_cons3 (beq_iff_eq.1 hq)
          simp at hl
          obtain ⟨rfl, rfl⟩ := hl
          have z0 : at0 (191 :: 189 :: rest) 0 = 191 := rfl
          have z1 : at0 (191 :: 189 :: rest) 1 = 189 := rfl
          rw [z0, z1] at c
          simp at c
      rw [hb, if_pos rfl]
  rw [if_neg d]
  by_cases f : b0.toNat / 8 = 30
  · rw [if_pos f]
    by_cases c : (1 < t.length + 1 ∧ at0 t 0 / 64 = 2) ∧ (2 < t.length + 1 ∧ at0 t 1 / 64 = 2) ∧ 3 < t.length + 1 ∧ at0 t 2 / 64 = 2
    · by_cases g : b0.toNat % 8 * 262144 + at0 t 0 % 64 * 4096 + at0 t 1 % 64 * 64 + at0 t 2 % 64 ≥ 0x10000 ∧ b0.toNat % 8 * 262144 + at0 t 0 % 64 * 4096 + at0 t 1 % 64 * 64 + at0 t 2 % 64 ≤ 1114111
      · have hv := (valid_nat _ g.2).2 (by omega)
        have e : dec (b0 :: t) = (b0.toNat % 8 * 262144 + at0 t 0 % 64 * 4096 + at0 t 1 % 64 * 64 + at0 t 2 % 64, 4) := by rw [hd]; unfold decN; rw [if_neg a, if_neg (fun h => b h.1), if_neg (fun h => d h.1), if_pos ⟨f, c⟩, if_pos ⟨g.1, hv⟩]
        rw [if_pos ⟨c.1.1, c.1.2, c.2.1.1, c.2.1.2, c.2.2.1, c.2.2.2, g.1, g.2⟩, hgood _ _ e (by omega), if_neg (by simp), e]
      · have e : dec (b0 :: t) = (65533, 1) := by
          rw [hd]; unfold decN
          rw [if_neg a, if_neg (fun h => b h.1), if_neg (fun h => d h.1), if_pos ⟨f, c⟩, if_neg (fun h => g ⟨h.1, by have := (valid_le h.2).2.1; omega⟩)]
        rw [if_neg (fun h => g ⟨h.2.2.2.2.2.2.1, h.2.2.2.2.2.2.2⟩), hbad _ e (by omega), if_pos rfl]
    · have e : dec (b0 :: t) = (65533, 1) := by rw [hd]; unfold decN; rw [if_neg a, if_neg (fun h => b h.1), if_neg (fun h => d h.1), if_neg (fun h => c h.2)]
      rw [if_neg (fun h => c ⟨⟨h.1, h.2.1⟩, ⟨h.2.2.1, h.2.2.2.1⟩, h.2.2.2.2.1, h.2.2.2.2.2.1⟩), hbad _ e (by omega), if_pos rfl]
  · have e : dec (b0 :: t) = (65533, 1) := by rw [hd]; unfold decN; rw [if_neg a, if_neg (fun h => b h.1), if_neg (fun h => d h.1), if_neg (fun h => f h.1)]
    rw [if_neg f, hbad _ e (by omega), if_pos rfl]
end Go.Proofs.YtmdnmhdimfglaaaGreatDoor

namespace Go.Proofs.YtmdnmhdimfglaaaGreatDoor
open Go.RowKit Go.Lib
theorem byte_at (s : ByteArray) (i k : Nat) (h : i + k < s.size) : at0 (s.data.toList.drop i) k = (s[i + k]'h).toNat := by
  unfold at0
  rw [List.getD_eq_getElem?_getD, List.getElem?_drop, Array.getElem?_toList, Array.getElem?_eq_getElem h]
  rfl
theorem byte_run (s : ByteArray) (i k : Nat) (hi : i + k < s.size) (w : World) : (Instr.index 9 (.string s) (.int .i64 ((i : Int) + k))).run Tryz.prog w = .ok (.int .u8 (at0 (s.data.toList.drop i) k)) w := by
  rw [run_index_string _ _ _ _ _ Tryz.underlying9]
  rw [dif_pos (by omega), byte_at s i k hi]
  have e : ((i : Int) + k).toNat = i + k := by omega
  simp only [e]
theorem byte_run0 (s : ByteArray) (i : Nat) (hi : i < s.size) (w : World) : (Instr.index 9 (.string s) (.int .i64 i)).run Tryz.prog w = .ok (.int .u8 (at0 (s.data.toList.drop i) 0)) w := by
  have := byte_run s i 0 hi w
  simpa using this
set_option maxHeartbeats 1000000 in
set_option maxRecDepth 100000 in
theorem sq1 (s : ByteArray) (_hs : s.size ≤ 9223372036854775000) (i : Nat) (hi : i < s.size) (w : World) (x : Int) (hx : ∀ w, (Instr.index 9 (.string s) (.int .i64 (i : Int))).run Tryz.prog w = .ok (.int .u8 x) w) (h1 : 0 ≤ x) (h2 : x < 128) :
    Calls Tryz.prog 103 #[.string s, .int .i64 i] w fun e w' => e = .returned (.tuple #[.int .i64 (x), .int .i64 1]) ∧ w' = w := by
  have _rhi := hi
  go_enter Tryz.func103, Tryz.ntmps103
  go_wp2_with fail
  go_ret2
  exact ⟨rfl, rfl⟩
set_option maxHeartbeats 1000000 in
set_option maxRecDepth 100000 in
theorem sq0 (s : ByteArray) (_hs : s.size ≤ 9223372036854775000) (i : Nat) (hi : i < s.size) (w : World) (x : Int) (hx : ∀ w, (Instr.index 9 (.string s) (.int .i64 (i : Int))).run Tryz.prog w = .ok (.int .u8 x) w) (h1 : 128 ≤ x) (h9 : x ≤ 255) (q1 : (x / 32 == 6) = false) (q2 : (x / 16 == 14) = false) (q3 : (x / 8 == 30) = false) :
    Calls Tryz.prog 103 #[.string s, .int .i64 i] w fun e w' => e = .returned (.tuple #[.int .i64 (0), .int .i64 0]) ∧ w' = w := by
  have _rhi := hi
  go_enter Tryz.func103, Tryz.ntmps103
  go_wp2_with fail
  go_ret2
  exact ⟨rfl, rfl⟩
set_option maxHeartbeats 1000000 in
set_option maxRecDepth 100000 in
theorem sq2s1 (s : ByteArray) (hs : s.size ≤ 9223372036854775000) (i : Nat) (hi : i < s.size) (w : World) (x : Int) (hx : ∀ w, (Instr.index 9 (.string s) (.int .i64 (i : Int))).run Tryz.prog w = .ok (.int .u8 x) w) (h1 : 128 ≤ x) (h9 : x ≤ 255) (q1 : (x / 32 == 6) = true) (hl : s.size ≤ i + 1) :
    Calls Tryz.prog 103 #[.string s, .int .i64 i] w fun e w' => e = .returned (.tuple #[.int .i64 (0), .int .i64 0]) ∧ w' = w := by
  have _rhi := hi
  go_enter Tryz.func103, Tryz.ntmps103
  go_wp2_with fail
  refine wp_loop_rounds 5 ?_
  rw [rounds_succ]
  go_wp2_with fail
  go_ret2
  exact ⟨rfl, rfl⟩
set_option maxHeartbeats 1000000 in
set_option maxRecDepth 100000 in
theorem sq2b1 (s : ByteArray) (hs : s.size ≤ 9223372036854775000) (i : Nat) (hi : i < s.size) (w : World) (x : Int) (hx : ∀ w, (Instr.index 9 (.string s) (.int .i64 (i : Int))).run Tryz.prog w = .ok (.int .u8 x) w) (h1 : 128 ≤ x) (h9 : x ≤ 255) (q1 : (x / 32 == 6) = true) (hl1 : i + 1 < s.size) (y : Int) (hy : ∀ w, (Instr.index 9 (.string s) (.int .i64 ((i : Int) + 1))).run Tryz.prog w = .ok (.int .u8 y) w) (ay : 0 ≤ y) (upy : y ≤ 255) (cy : (y / 64 != 2) = true) :
    Calls Tryz.prog 103 #[.string s, .int .i64 i] w fun e w' => e = .returned (.tuple #[.int .i64 (0), .int .i64 0]) ∧ w' = w := by
  have _rhi := hi
  have _rhl1 := hl1
  go_enter Tryz.func103, Tryz.ntmps103
  go_wp2_with fail
  refine wp_loop_rounds 5 ?_
  rw [rounds_succ]
  go_wp2_with fail
  go_ret2
  exact ⟨rfl, rfl⟩
set_option maxHeartbeats 1000000 in
set_option maxRecDepth 100000 in
theorem sq2l (s : ByteArray) (hs : s.size ≤ 9223372036854775000) (i : Nat) (hi : i < s.size) (w : World) (x : Int) (hx : ∀ w, (Instr.index 9 (.string s) (.int .i64 (i : Int))).run Tryz.prog w = .ok (.int .u8 x) w) (h1 : 128 ≤ x) (h9 : x ≤ 255) (q1 : (x / 32 == 6) = true) (hl1 : i + 1 < s.size) (y : Int) (hy : ∀ w, (Instr.index 9 (.string s) (.int .i64 ((i : Int) + 1))).run Tryz.prog w = .ok (.int .u8 y) w) (ay : 0 ≤ y) (upy : y ≤ 255) (cy : (y / 64 != 2) = false) (hv : (x % 32) * 64 + y % 64 < 128) :
    Calls Tryz.prog 103 #[.string s, .int .i64 i] w fun e w' => e = .returned (.tuple #[.int .i64 (0), .int .i64 0]) ∧ w' = w := by
  have _rhi := hi
  have _rhl1 := hl1
  go_enter Tryz.func103, Tryz.ntmps103
  go_wp2_with fail
  refine wp_loop_rounds 5 ?_
  rw [rounds_succ]
  go_wp2_with fail
  rw [rounds_succ]
  go_wp2_with fail
  go_ret2
  exact ⟨rfl, rfl⟩
set_option maxHeartbeats 1000000 in
set_option maxRecDepth 100000 in
theorem sq2o (s : ByteArray) (hs : s.size ≤ 9223372036854775000) (i : Nat) (hi : i < s.size) (w : World) (x : Int) (hx : ∀ w, (Instr.index 9 (.string s) (.int .i64 (i : Int))).run Tryz.prog w = .ok (.int .u8 x) w) (h1 : 128 ≤ x) (h9 : x ≤ 255) (q1 : (x / 32 == 6) = true) (hl1 : i + 1 < s.size) (y : Int) (hy : ∀ w, (Instr.index 9 (.string s) (.int .i64 ((i : Int) + 1))).run Tryz.prog w = .ok (.int .u8 y) w) (ay : 0 ≤ y) (upy : y ≤ 255) (cy : (y / 64 != 2) = false) (hv : 128 ≤ (x % 32) * 64 + y % 64) :
    Calls Tryz.prog 103 #[.string s, .int .i64 i] w fun e w' => e = .returned (.tuple #[.int .i64 ((x % 32) * 64 + y % 64), .int .i64 2]) ∧ w' = w := by
  have _rhi := hi
  have _rhl1 := hl1
  go_enter Tryz.func103, Tryz.ntmps103
  go_wp2_with fail
  refine wp_loop_rounds 5 ?_
  rw [rounds_succ]
  go_wp2_with fail
  rw [rounds_succ]
  go_wp2_with fail
  go_ret2
  exact ⟨rfl, rfl⟩
set_option maxHeartbeats 1000000 in
set_option maxRecDepth 100000 in
theorem sq3s1 (s : ByteArray) (hs : s.size ≤ 9223372036854775000) (i : Nat) (hi : i < s.size) (w : World) (x : Int) (hx : ∀ w, (Instr.index 9 (.string s) (.int .i64 (i : Int))).run Tryz.prog w = .ok (.int .u8 x) w) (h1 : 128 ≤ x) (h9 : x ≤ 255) (q1 : (x / 32 == 6) = false) (q2 : (x / 16 == 14) = true) (hl : s.size ≤ i + 1) :
    Calls Tryz.prog 103 #[.string s, .int .i64 i] w fun e w' => e = .returned (.tuple #[.int .i64 (0), .int .i64 0]) ∧ w' = w := by
  have _rhi := hi
  go_enter Tryz.func103, Tryz.ntmps103
  go_wp2_with fail
  refine wp_loop_rounds 5 ?_
  rw [rounds_succ]
  go_wp2_with fail
  go_ret2
  exact ⟨rfl, rfl⟩
set_option maxHeartbeats 1000000 in
set_option maxRecDepth 100000 in
theorem sq3b1 (s : ByteArray) (hs : s.size ≤ 9223372036854775000) (i : Nat) (hi : i < s.size) (w : World) (x : Int) (hx : ∀ w, (Instr.index 9 (.string s) (.int .i64 (i : Int))).run Tryz.prog w = .ok (.int .u8 x) w) (h1 : 128 ≤ x) (h9 : x ≤ 255) (q1 : (x / 32 == 6) = false) (q2 : (x / 16 == 14) = true) (hl1 : i + 1 < s.size) (y : Int) (hy : ∀ w, (Instr.index 9 (.string s) (.int .i64 ((i : Int) + 1))).run Tryz.prog w = .ok (.int .u8 y) w) (ay : 0 ≤ y) (upy : y ≤ 255) (cy : (y / 64 != 2) = true) :
    Calls Tryz.prog 103 #[.string s, .int .i64 i] w fun e w' => e = .returned (.tuple #[.int .i64 (0), .int .i64 0]) ∧ w' = w := by
  have _rhi := hi
  have _rhl1 := hl1
  go_enter Tryz.func103, Tryz.ntmps103
  go_wp2_with fail
  refine wp_loop_rounds 5 ?_
  rw [rounds_succ]
  go_wp2_with fail
  go_ret2
  exact ⟨rfl, rfl⟩
set_option maxHeartbeats 1000000 in
set_option maxRecDepth 100000 in
theorem sq3s2 (s : ByteArray) (hs : s.size ≤ 9223372036854775000) (i : Nat) (hi : i < s.size) (w : World) (x : Int) (hx : ∀ w, (Instr.index 9 (.string s) (.int .i64 (i : Int))).run Tryz.prog w = .ok (.int .u8 x) w) (h1 : 128 ≤ x) (h9 : x ≤ 255) (q1 : (x / 32 == 6) = false) (q2 : (x / 16 == 14) = true) (hl1 : i + 1 < s.size) (y : Int) (hy : ∀ w, (Instr.index 9 (.string s) (.int .i64 ((i : Int) + 1))).run Tryz.prog w = .ok (.int .u8 y) w) (ay : 0 ≤ y) (upy : y ≤ 255) (cy : (y / 64 != 2) = false) (hl : s.size ≤ i + 2) :
    Calls Tryz.prog 103 #[.string s, .int .i64 i] w fun e w' => e = .returned (.tuple #[.int .i64 (0), .int .i64 0]) ∧ w' = w := by
  have _rhi := hi
  have _rhl1 := hl1
  go_enter Tryz.func103, Tryz.ntmps103
  go_wp2_with fail
  refine wp_loop_rounds 5 ?_
  rw [rounds_succ]
  go_wp2_with fail
  rw [rounds_succ]
  go_wp2_with fail
  go_ret2
  exact ⟨rfl, rfl⟩
set_option maxHeartbeats 1000000 in
set_option maxRecDepth 100000 in
theorem sq3b2 (s : ByteArray) (hs : s.size ≤ 9223372036854775000) (i : Nat) (hi : i < s.size) (w : World) (x : Int) (hx : ∀ w, (Instr.index 9 (.string s) (.int .i64 (i : Int))).run Tryz.prog w = .ok (.int .u8 x) w) (h1 : 128 ≤ x) (h9 : x ≤ 255) (q1 : (x / 32 == 6) = false) (q2 : (x / 16 == 14) = true) (hl1 : i + 1 < s.size) (y : Int) (hy : ∀ w, (Instr.index 9 (.string s) (.int .i64 ((i : Int) + 1))).run Tryz.prog w = .ok (.int .u8 y) w) (ay : 0 ≤ y) (upy : y ≤ 255) (cy : (y / 64 != 2) = false) (hl2 : i + 2 < s.size) (z : Int) (hz : ∀ w, (Instr.index 9 (.string s) (.int .i64 ((i : Int) + 2))).run Tryz.prog w = .ok (.int .u8 z) w) (az : 0 ≤ z) (upz : z ≤ 255) (cz : (z / 64 != 2) = true) :
    Calls Tryz.prog 103 #[.string s, .int .i64 i] w fun e w' => e = .returned (.tuple #[.int .i64 (0), .int .i64 0]) ∧ w' = w := by
  have _rhi := hi
  have _rhl1 := hl1
  have _rhl2 := hl2
  go_enter Tryz.func103, Tryz.ntmps103
  go_wp2_with fail
  refine wp_loop_rounds 5 ?_
  rw [rounds_succ]
  go_wp2_with fail
  rw [rounds_succ]
  go_wp2_with fail
  go_ret2
  exact ⟨rfl, rfl⟩
set_option maxHeartbeats 1000000 in
set_option maxRecDepth 100000 in
theorem sq3l (s : ByteArray) (hs : s.size ≤ 9223372036854775000) (i : Nat) (hi : i < s.size) (w : World) (x : Int) (hx : ∀ w, (Instr.index 9 (.string s) (.int .i64 (i : Int))).run Tryz.prog w = .ok (.int .u8 x) w) (h1 : 128 ≤ x) (h9 : x ≤ 255) (q1 : (x / 32 == 6) = false) (q2 : (x / 16 == 14) = true) (hl1 : i + 1 < s.size) (y : Int) (hy : ∀ w, (Instr.index 9 (.string s) (.int .i64 ((i : Int) + 1))).run Tryz.prog w = .ok (.int .u8 y) w) (ay : 0 ≤ y) (upy : y ≤ 255) (cy : (y / 64 != 2) = false) (hl2 : i + 2 < s.size) (z : Int) (hz : ∀ w, (Instr.index 9 (.string s) (.int .i64 ((i : Int) + 2))).run Tryz.prog w = .ok (.int .u8 z) w) (az : 0 ≤ z) (upz : z ≤ 255) (cz : (z / 64 != 2) = false) (hv : ((x % 16) * 64 + y % 64) * 64 + z % 64 < 2048) :
    Calls Tryz.prog 103 #[.string s, .int .i64 i] w fun e w' => e = .returned (.tuple #[.int .i64 (0), .int .i64 0]) ∧ w' = w := by
  have _rhi := hi
  have _rhl1 := hl1
  have _rhl2 := hl2
  go_enter Tryz.func103, Tryz.ntmps103
  go_wp2_with fail
  refine wp_loop_rounds 5 ?_
  rw [rounds_succ]
  go_wp2_with fail
  rw [rounds_succ]
  go_wp2_with fail
  rw [rounds_succ]
  go_wp2_with fail
  go_ret2
  exact ⟨rfl, rfl⟩
set_option maxHeartbeats 1000000 in
set_option maxRecDepth 100000 in
theorem sq3m (s : ByteArray) (hs : s.size ≤ 9223372036854775000) (i : Nat) (hi : i < s.size) (w : World) (x : Int) (hx : ∀ w, (Instr.index 9 (.string s) (.int .i64 (i : Int))).run Tryz.prog w = .ok (.int .u8 x) w) (h1 : 128 ≤ x) (h9 : x ≤ 255) (q1 : (x / 32 == 6) = false) (q2 : (x / 16 == 14) = true) (hl1 : i + 1 < s.size) (y : Int) (hy : ∀ w, (Instr.index 9 (.string s) (.int .i64 ((i : Int) + 1))).run Tryz.prog w = .ok (.int .u8 y) w) (ay : 0 ≤ y) (upy : y ≤ 255) (cy : (y / 64 != 2) = false) (hl2 : i + 2 < s.size) (z : Int) (hz : ∀ w, (Instr.index 9 (.string s) (.int .i64 ((i : Int) + 2))).run Tryz.prog w = .ok (.int .u8 z) w) (az : 0 ≤ z) (upz : z ≤ 255) (cz : (z / 64 != 2) = false) (hv : 2048 ≤ ((x % 16) * 64 + y % 64) * 64 + z % 64) (hv2 : 55296 ≤ ((x % 16) * 64 + y % 64) * 64 + z % 64) (hv3 : ((x % 16) * 64 + y % 64) * 64 + z % 64 ≤ 57343) :
    Calls Tryz.prog 103 #[.string s, .int .i64 i] w fun e w' => e = .returned (.tuple #[.int .i64 (0), .int .i64 0]) ∧ w' = w := by
  have _rhi := hi
  have _rhl1 := hl1
  have _rhl2 := hl2
  go_enter Tryz.func103, Tryz.ntmps103
  go_wp2_with fail
  refine wp_loop_rounds 5 ?_
  rw [rounds_succ]
  go_wp2_with fail
  rw [rounds_succ]
  go_wp2_with fail
  rw [rounds_succ]
  go_wp2_with fail
  go_ret2
  exact ⟨rfl, rfl⟩
set_option maxHeartbeats 1000000 in
set_option maxRecDepth 100000 in
theorem sq3o (s : ByteArray) (hs : s.size ≤ 9223372036854775000) (i : Nat) (hi : i < s.size) (w : World) (x : Int) (hx : ∀ w, (Instr.index 9 (.string s) (.int .i64 (i : Int))).run Tryz.prog w = .ok (.int .u8 x) w) (h1 : 128 ≤ x) (h9 : x ≤ 255) (q1 : (x / 32 == 6) = false) (q2 : (x / 16 == 14) = true) (hl1 : i + 1 < s.size) (y : Int) (hy : ∀ w, (Instr.index 9 (.string s) (.int .i64 ((i : Int) + 1))).run Tryz.prog w = .ok (.int .u8 y) w) (ay : 0 ≤ y) (upy : y ≤ 255) (cy : (y / 64 != 2) = false) (hl2 : i + 2 < s.size) (z : Int) (hz : ∀ w, (Instr.index 9 (.string s) (.int .i64 ((i : Int) + 2))).run Tryz.prog w = .ok (.int .u8 z) w) (az : 0 ≤ z) (upz : z ≤ 255) (cz : (z / 64 != 2) = false) (hv : 2048 ≤ ((x % 16) * 64 + y % 64) * 64 + z % 64) (hv2 : ((x % 16) * 64 + y % 64) * 64 + z % 64 < 55296) :
    Calls Tryz.prog 103 #[.string s, .int .i64 i] w fun e w' => e = .returned (.tuple #[.int .i64 (((x % 16) * 64 + y % 64) * 64 + z % 64), .int .i64 3]) ∧ w' = w := by
  have _rhi := hi
  have _rhl1 := hl1
  have _rhl2 := hl2
  go_enter Tryz.func103, Tryz.ntmps103
  go_wp2_with fail
  refine wp_loop_rounds 5 ?_
  rw [rounds_succ]
  go_wp2_with fail
  rw [rounds_succ]
  go_wp2_with fail
  rw [rounds_succ]
  go_wp2_with fail
  go_ret2
  exact ⟨rfl, rfl⟩
set_option maxHeartbeats 1000000 in
set_option maxRecDepth 100000 in
theorem sq3p (s : ByteArray) (hs : s.size ≤ 9223372036854775000) (i : Nat) (hi : i < s.size) (w : World) (x : Int) (hx : ∀ w, (Instr.index 9 (.string s) (.int .i64 (i : Int))).run Tryz.prog w = .ok (.int .u8 x) w) (h1 : 128 ≤ x) (h9 : x ≤ 255) (q1 : (x / 32 == 6) = false) (q2 : (x / 16 == 14) = true) (hl1 : i + 1 < s.size) (y : Int) (hy : ∀ w, (Instr.index 9 (.string s) (.int .i64 ((i : Int) + 1))).run Tryz.prog w = .ok (.int .u8 y) w) (ay : 0 ≤ y) (upy : y ≤ 255) (cy : (y / 64 != 2) = false) (hl2 : i + 2 < s.size) (z : Int) (hz : ∀ w, (Instr.index 9 (.string s) (.int .i64 ((i : Int) + 2))).run Tryz.prog w = .ok (.int .u8 z) w) (az : 0 ≤ z) (upz : z ≤ 255) (cz : (z / 64 != 2) = false) (hv : 2048 ≤ ((x % 16) * 64 + y % 64) * 64 + z % 64) (hv2 : 57343 < ((x % 16) * 64 + y % 64) * 64 + z % 64) :
    Calls Tryz.prog 103 #[.string s, .int .i64 i] w fun e w' => e = .returned (.tuple #[.int .i64 (((x % 16) * 64 + y % 64) * 64 + z % 64), .int .i64 3]) ∧ w' = w := by
  have _rhi := hi
  have _rhl1 := hl1
  have _rhl2 := hl2
  go_enter Tryz.func103, Tryz.ntmps103
  go_wp2_with fail
  refine wp_loop_rounds 5 ?_
  rw [rounds_succ]
  go_wp2_with fail
  rw [rounds_succ]
  go_wp2_with fail
  rw [rounds_succ]
  go_wp2_with fail
  go_ret2
  exact ⟨rfl, rfl⟩
end Go.Proofs.YtmdnmhdimfglaaaGreatDoor
