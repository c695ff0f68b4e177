import Derived.Test.YtmdnmhdimfglaaaGreatDoorSeq
import Derived.Test.YtmdnmhdimfglaaaGreatDoorGaT
namespace Go.Proofs.YtmdnmhdimfglaaaGreatDoor
open Go.RowKit Go.Lib
theorem byte_at (s : ByteArray) (i k : Nat) (h : i + k < s.size) : at0 (s.data.toList.drop i) k = (s[i + k]'h).toNat := by
  unfold at0
  rw [List.getD_eq_getElem?_getD, List.getElem?_drop, Array.getElem?_toList, Array.getElem?_eq_getElem h]
  rfl
theorem byte_run (s : ByteArray) (i k : Nat) (hi : i + k < s.size) (w : World) : (Instr.index 9 (.string s) (.int .i64 ((i : Int) + k))).run Tryz.prog w = .ok (.int .u8 (at0 (s.data.toList.drop i) k)) w := by
  rw [run_index_string _ _ _ _ _ Tryz.underlying9]
  rw [dif_pos (by omega), byte_at s i k hi]
  have e : ((i : Int) + k).toNat = i + k := by omega
  simp only [e]
theorem byte_run0 (s : ByteArray) (i : Nat) (hi : i < s.size) (w : World) : (Instr.index 9 (.string s) (.int .i64 i)).run Tryz.prog w = .ok (.int .u8 (at0 (s.data.toList.drop i) 0)) w := by
  have := byte_run s i 0 hi w
  simpa using this
set_option maxHeartbeats 1000000 in
set_option maxRecDepth 100000 in
theorem sq1 (s : ByteArray) (_hs : s.size ≤ 9223372036854775000) (i : Nat) (hi : i < s.size) (w : World) (x : Int) (hx : ∀ w, (Instr.index 9 (.string s) (.int .i64 (i : Int))).run Tryz.prog w = .ok (.int .u8 x) w) (h1 : 0 ≤ x) (h2 : x < 128) :
    Calls Tryz.prog 103 #[.string s, .int .i64 i] w fun e w' => e = .returned (.tuple #[.int .i64 (x), .int .i64 1]) ∧ w' = w := by
  have _rhi := hi
  go_enter Tryz.func103, Tryz.ntmps103
  go_wp2_with fail
  go_ret2
  exact ⟨rfl, rfl⟩
set_option maxHeartbeats 1000000 in
set_option maxRecDepth 100000 in
theorem sq0 (s : ByteArray) (_hs : s.size ≤ 9223372036854775000) (i : Nat) (hi : i < s.size) (w : World) (x : Int) (hx : ∀ w, (Instr.index 9 (.string s) (.int .i64 (i : Int))).run Tryz.prog w = .ok (.int .u8 x) w) (h1 : 128 ≤ x) (h9 : x ≤ 255) (q1 : (x / 32 == 6) = false) (q2 : (x / 16 == 14) = false) (q3 : (x / 8 == 30) = false) :
    Calls Tryz.prog 103 #[.string s, .int .i64 i] w fun e w' => e = .returned (.tuple #[.int .i64 (0), .int .i64 0]) ∧ w' = w := by
  have _rhi := hi
  go_enter Tryz.func103, Tryz.ntmps103
  go_wp2_with fail
  go_ret2
  exact ⟨rfl, rfl⟩
set_option maxHeartbeats 1000000 in
set_option maxRecDepth 100000 in
theorem sq2s1 (s : ByteArray) (hs : s.size ≤ 9223372036854775000) (i : Nat) (hi : i < s.size) (w : World) (x : Int) (hx : ∀ w, (Instr.index 9 (.string s) (.int .i64 (i : Int))).run Tryz.prog w = .ok (.int .u8 x) w) (h1 : 128 ≤ x) (h9 : x ≤ 255) (q1 : (x / 32 == 6) = true) (hl : s.size ≤ i + 1) :
    Calls Tryz.prog 103 #[.string s, .int .i64 i] w fun e w' => e = .returned (.tuple #[.int .i64 (0), .int .i64 0]) ∧ w' = w := by
  have _rhi := hi
  go_enter Tryz.func103, Tryz.ntmps103
  go_wp2_with fail
  refine wp_loop_rounds 5 ?_
  rw [rounds_succ]
  go_wp2_with fail
  go_ret2
  exact ⟨rfl, rfl⟩
set_option maxHeartbeats 1000000 in
set_option maxRecDepth 100000 in
theorem sq2b1 (s : ByteArray) (hs : s.size ≤ 9223372036854775000) (i : Nat) (hi : i < s.size) (w : World) (x : Int) (hx : ∀ w, (Instr.index 9 (.string s) (.int .i64 (i : Int))).run Tryz.prog w = .ok (.int .u8 x) w) (h1 : 128 ≤ x) (h9 : x ≤ 255) (q1 : (x / 32 == 6) = true) (hl1 : i + 1 < s.size) (y : Int) (hy : ∀ w, (Instr.index 9 (.string s) (.int .i64 ((i : Int) + 1))).run Tryz.prog w = .ok (.int .u8 y) w) (ay : 0 ≤ y) (upy : y ≤ 255) (cy : (y / 64 != 2) = true) :
    Calls Tryz.prog 103 #[.string s, .int .i64 i] w fun e w' => e = .returned (.tuple #[.int .i64 (0), .int .i64 0]) ∧ w' = w := by
  have _rhi := hi
  have _rhl1 := hl1
  go_enter Tryz.func103, Tryz.ntmps103
  go_wp2_with fail
  refine wp_loop_rounds 5 ?_
  rw [rounds_succ]
  go_wp2_with fail
  go_ret2
  exact ⟨rfl, rfl⟩
set_option maxHeartbeats 1000000 in
set_option maxRecDepth 100000 in
theorem sq2l (s : ByteArray) (hs : s.size ≤ 9223372036854775000) (i : Nat) (hi : i < s.size) (w : World) (x : Int) (hx : ∀ w, (Instr.index 9 (.string s) (.int .i64 (i : Int))).run Tryz.prog w = .ok (.int .u8 x) w) (h1 : 128 ≤ x) (h9 : x ≤ 255) (q1 : (x / 32 == 6) = true) (hl1 : i + 1 < s.size) (y : Int) (hy : ∀ w, (Instr.index 9 (.string s) (.int .i64 ((i : Int) + 1))).run Tryz.prog w = .ok (.int .u8 y) w) (ay : 0 ≤ y) (upy : y ≤ 255) (cy : (y / 64 != 2) = false) (hv : (x % 32) * 64 + y % 64 < 128) :
    Calls Tryz.prog 103 #[.string s, .int .i64 i] w fun e w' => e = .returned (.tuple #[.int .i64 (0), .int .i64 0]) ∧ w' = w := by
  have _rhi := hi
  have _rhl1 := hl1
  go_enter Tryz.func103, Tryz.ntmps103
  go_wp2_with fail
  refine wp_loop_rounds 5 ?_
  rw [rounds_succ]
  go_wp2_with fail
  rw [rounds_succ]
  go_wp2_with fail
  go_ret2
  exact ⟨rfl, rfl⟩
set_option maxHeartbeats 1000000 in
set_option maxRecDepth 100000 in
theorem sq2o (s : ByteArray) (hs : s.size ≤ 9223372036854775000) (i : Nat) (hi : i < s.size) (w : World) (x : Int) (hx : ∀ w, (Instr.index 9 (.string s) (.int .i64 (i : Int))).run Tryz.prog w = .ok (.int .u8 x) w) (h1 : 128 ≤ x) (h9 : x ≤ 255) (q1 : (x / 32 == 6) = true) (hl1 : i + 1 < s.size) (y : Int) (hy : ∀ w, (Instr.index 9 (.string s) (.int .i64 ((i : Int) + 1))).run Tryz.prog w = .ok (.int .u8 y) w) (ay : 0 ≤ y) (upy : y ≤ 255) (cy : (y / 64 != 2) = false) (hv : 128 ≤ (x % 32) * 64 + y % 64) :
    Calls Tryz.prog 103 #[.string s, .int .i64 i] w fun e w' => e = .returned (.tuple #[.int .i64 ((x % 32) * 64 + y % 64), .int .i64 2]) ∧ w' = w := by
  have _rhi := hi
  have _rhl1 := hl1
  go_enter Tryz.func103, Tryz.ntmps103
  go_wp2_with fail
  refine wp_loop_rounds 5 ?_
  rw [rounds_succ]
  go_wp2_with fail
  rw [rounds_succ]
  go_wp2_with fail
  go_ret2
  exact ⟨rfl, rfl⟩
set_option maxHeartbeats 1000000 in
set_option maxRecDepth 100000 in
theorem sq3s1 (s : ByteArray) (hs : s.size ≤ 9223372036854775000) (i : Nat) (hi : i < s.size) (w : World) (x : Int) (hx : ∀ w, (Instr.index 9 (.string s) (.int .i64 (i : Int))).run Tryz.prog w = .ok (.int .u8 x) w) (h1 : 128 ≤ x) (h9 : x ≤ 255) (q1 : (x / 32 == 6) = false) (q2 : (x / 16 == 14) = true) (hl : s.size ≤ i + 1) :
    Calls Tryz.prog 103 #[.string s, .int .i64 i] w fun e w' => e = .returned (.tuple #[.int .i64 (0), .int .i64 0]) ∧ w' = w := by
  have _rhi := hi
  go_enter Tryz.func103, Tryz.ntmps103
  go_wp2_with fail
  refine wp_loop_rounds 5 ?_
  rw [rounds_succ]
  go_wp2_with fail
  go_ret2
  exact ⟨rfl, rfl⟩
set_option maxHeartbeats 1000000 in
set_option maxRecDepth 100000 in
theorem sq3b1 (s : ByteArray) (hs : s.size ≤ 9223372036854775000) (i : Nat) (hi : i < s.size) (w : World) (x : Int) (hx : ∀ w, (Instr.index 9 (.string s) (.int .i64 (i : Int))).run Tryz.prog w = .ok (.int .u8 x) w) (h1 : 128 ≤ x) (h9 : x ≤ 255) (q1 : (x / 32 == 6) = false) (q2 : (x / 16 == 14) = true) (hl1 : i + 1 < s.size) (y : Int) (hy : ∀ w, (Instr.index 9 (.string s) (.int .i64 ((i : Int) + 1))).run Tryz.prog w = .ok (.int .u8 y) w) (ay : 0 ≤ y) (upy : y ≤ 255) (cy : (y / 64 != 2) = true) :
    Calls Tryz.prog 103 #[.string s, .int .i64 i] w fun e w' => e = .returned (.tuple #[.int .i64 (0), .int .i64 0]) ∧ w' = w := by
  have _rhi := hi
  have _rhl1 := hl1
  go_enter Tryz.func103, Tryz.ntmps103
  go_wp2_with fail
  refine wp_loop_rounds 5 ?_
  rw [rounds_succ]
  go_wp2_with fail
  go_ret2
  exact ⟨rfl, rfl⟩
set_option maxHeartbeats 1000000 in
set_option maxRecDepth 100000 in
theorem sq3s2 (s : ByteArray) (hs : s.size ≤ 9223372036854775000) (i : Nat) (hi : i < s.size) (w : World) (x : Int) (hx : ∀ w, (Instr.index 9 (.string s) (.int .i64 (i : Int))).run Tryz.prog w = .ok (.int .u8 x) w) (h1 : 128 ≤ x) (h9 : x ≤ 255) (q1 : (x / 32 == 6) = false) (q2 : (x / 16 == 14) = true) (hl1 : i + 1 < s.size) (y : Int) (hy : ∀ w, (Instr.index 9 (.string s) (.int .i64 ((i : Int) + 1))).run Tryz.prog w = .ok (.int .u8 y) w) (ay : 0 ≤ y) (upy : y ≤ 255) (cy : (y / 64 != 2) = false) (hl : s.size ≤ i + 2) :
    Calls Tryz.prog 103 #[.string s, .int .i64 i] w fun e w' => e = .returned (.tuple #[.int .i64 (0), .int .i64 0]) ∧ w' = w := by
  have _rhi := hi
  have _rhl1 := hl1
  go_enter Tryz.func103, Tryz.ntmps103
  go_wp2_with fail
  refine wp_loop_rounds 5 ?_
  rw [rounds_succ]
  go_wp2_with fail
  rw [rounds_succ]
  go_wp2_with fail
  go_ret2
  exact ⟨rfl, rfl⟩
set_option maxHeartbeats 1000000 in
set_option maxRecDepth 100000 in
theorem sq3b2 (s : ByteArray) (hs : s.size ≤ 9223372036854775000) (i : Nat) (hi : i < s.size) (w : World) (x : Int) (hx : ∀ w, (Instr.index 9 (.string s) (.int .i64 (i : Int))).run Tryz.prog w = .ok (.int .u8 x) w) (h1 : 128 ≤ x) (h9 : x ≤ 255) (q1 : (x / 32 == 6) = false) (q2 : (x / 16 == 14) = true) (hl1 : i + 1 < s.size) (y : Int) (hy : ∀ w, (Instr.index 9 (.string s) (.int .i64 ((i : Int) + 1))).run Tryz.prog w = .ok (.int .u8 y) w) (ay : 0 ≤ y) (upy : y ≤ 255) (cy : (y / 64 != 2) = false) (hl2 : i + 2 < s.size) (z : Int) (hz : ∀ w, (Instr.index 9 (.string s) (.int .i64 ((i : Int) + 2))).run Tryz.prog w = .ok (.int .u8 z) w) (az : 0 ≤ z) (upz : z ≤ 255) (cz : (z / 64 != 2) = true) :
    Calls Tryz.prog 103 #[.string s, .int .i64 i] w fun e w' => e = .returned (.tuple #[.int .i64 (0), .int .i64 0]) ∧ w' = w := by
  have _rhi := hi
  have _rhl1 := hl1
  have _rhl2 := hl2
  go_enter Tryz.func103, Tryz.ntmps103
  go_wp2_with fail
  refine wp_loop_rounds 5 ?_
  rw [rounds_succ]
  go_wp2_with fail
  rw [rounds_succ]
  go_wp2_with fail
  go_ret2
  exact ⟨rfl, rfl⟩
set_option maxHeartbeats 1000000 in
set_option maxRecDepth 100000 in
theorem sq3l (s : ByteArray) (hs : s.size ≤ 9223372036854775000) (i : Nat) (hi : i < s.size) (w : World) (x : Int) (hx : ∀ w, (Instr.index 9 (.string s) (.int .i64 (i : Int))).run Tryz.prog w = .ok (.int .u8 x) w) (h1 : 128 ≤ x) (h9 : x ≤ 255) (q1 : (x / 32 == 6) = false) (q2 : (x / 16 == 14) = true) (hl1 : i + 1 < s.size) (y : Int) (hy : ∀ w, (Instr.index 9 (.string s) (.int .i64 ((i : Int) + 1))).run Tryz.prog w = .ok (.int .u8 y) w) (ay : 0 ≤ y) (upy : y ≤ 255) (cy : (y / 64 != 2) = false) (hl2 : i + 2 < s.size) (z : Int) (hz : ∀ w, (Instr.index 9 (.string s) (.int .i64 ((i : Int) + 2))).run Tryz.prog w = .ok (.int .u8 z) w) (az : 0 ≤ z) (upz : z ≤ 255) (cz : (z / 64 != 2) = false) (hv : ((x % 16) * 64 + y % 64) * 64 + z % 64 < 2048) :
    Calls Tryz.prog 103 #[.string s, .int .i64 i] w fun e w' => e = .returned (.tuple #[.int .i64 (0), .int .i64 0]) ∧ w' = w := by
  have _rhi := hi
  have _rhl1 := hl1
  have _rhl2 := hl2
  go_enter Tryz.func103, Tryz.ntmps103
  go_wp2_with fail
  refine wp_loop_rounds 5 ?_
  rw [rounds_succ]
  go_wp2_with fail
  rw [rounds_succ]
  go_wp2_with fail
  rw [rounds_succ]
  go_wp2_with fail
  go_ret2
  exact ⟨rfl, rfl⟩
set_option maxHeartbeats 1000000 in
set_option maxRecDepth 100000 in
theorem sq3m (s : ByteArray) (hs : s.size ≤ 9223372036854775000) (i : Nat) (hi : i < s.size) (w : World) (x : Int) (hx : ∀ w, (Instr.index 9 (.string s) (.int .i64 (i : Int))).run Tryz.prog w = .ok (.int .u8 x) w) (h1 : 128 ≤ x) (h9 : x ≤ 255) (q1 : (x / 32 == 6) = false) (q2 : (x / 16 == 14) = true) (hl1 : i + 1 < s.size) (y : Int) (hy : ∀ w, (Instr.index 9 (.string s) (.int .i64 ((i : Int) + 1))).run Tryz.prog w = .ok (.int .u8 y) w) (ay : 0 ≤ y) (upy : y ≤ 255) (cy : (y / 64 != 2) = false) (hl2 : i + 2 < s.size) (z : Int) (hz : ∀ w, (Instr.index 9 (.string s) (.int .i64 ((i : Int) + 2))).run Tryz.prog w = .ok (.int .u8 z) w) (az : 0 ≤ z) (upz : z ≤ 255) (cz : (z / 64 != 2) = false) (hv : 2048 ≤ ((x % 16) * 64 + y % 64) * 64 + z % 64) (hv2 : 55296 ≤ ((x % 16) * 64 + y % 64) * 64 + z % 64) (hv3 : ((x % 16) * 64 + y % 64) * 64 + z % 64 ≤ 57343) :
    Calls Tryz.prog 103 #[.string s, .int .i64 i] w fun e w' => e = .returned (.tuple #[.int .i64 (0), .int .i64 0]) ∧ w' = w := by
  have _rhi := hi
  have _rhl1 := hl1
  have _rhl2 := hl2
  go_enter Tryz.func103, Tryz.ntmps103
  go_wp2_with fail
  refine wp_loop_rounds 5 ?_
  rw [rounds_succ]
  go_wp2_with fail
  rw [rounds_succ]
  go_wp2_with fail
  rw [rounds_succ]
  go_wp2_with fail
  go_ret2
  exact ⟨rfl, rfl⟩
set_option maxHeartbeats 1000000 in
set_option maxRecDepth 100000 in
theorem sq3o (s : ByteArray) (hs : s.size ≤ 9223372036854775000) (i : Nat) (hi : i < s.size) (w : World) (x : Int) (hx : ∀ w, (Instr.index 9 (.string s) (.int .i64 (i : Int))).run Tryz.prog w = .ok (.int .u8 x) w) (h1 : 128 ≤ x) (h9 : x ≤ 255) (q1 : (x / 32 == 6) = false) (q2 : (x / 16 == 14) = true) (hl1 : i + 1 < s.size) (y : Int) (hy : ∀ w, (Instr.index 9 (.string s) (.int .i64 ((i : Int) + 1))).run Tryz.prog w = .ok (.int .u8 y) w) (ay : 0 ≤ y) (upy : y ≤ 255) (cy : (y / 64 != 2) = false) (hl2 : i + 2 < s.size) (z : Int) (hz : ∀ w, (Instr.index 9 (.string s) (.int .i64 ((i : Int) + 2))).run Tryz.prog w = .ok (.int .u8 z) w) (az : 0 ≤ z) (upz : z ≤ 255) (cz : (z / 64 != 2) = false) (hv : 2048 ≤ ((x % 16) * 64 + y % 64) * 64 + z % 64) (hv2 : ((x % 16) * 64 + y % 64) * 64 + z % 64 < 55296) :
    Calls Tryz.prog 103 #[.string s, .int .i64 i] w fun e w' => e = .returned (.tuple #[.int .i64 (((x % 16) * 64 + y % 64) * 64 + z % 64), .int .i64 3]) ∧ w' = w := by
  have _rhi := hi
  have _rhl1 := hl1
  have _rhl2 := hl2
  go_enter Tryz.func103, Tryz.ntmps103
  go_wp2_with fail
  refine wp_loop_rounds 5 ?_
  rw [rounds_succ]
  go_wp2_with fail
  rw [rounds_succ]
  go_wp2_with fail
  rw [rounds_succ]
  go_wp2_with fail
  go_ret2
  exact ⟨rfl, rfl⟩
set_option maxHeartbeats 1000000 in
set_option maxRecDepth 100000 in
theorem sq3p (s : ByteArray) (hs : s.size ≤ 9223372036854775000) (i : Nat) (hi : i < s.size) (w : World) (x : Int) (hx : ∀ w, (Instr.index 9 (.string s) (.int .i64 (i : Int))).run Tryz.prog w = .ok (.int .u8 x) w) (h1 : 128 ≤ x) (h9 : x ≤ 255) (q1 : (x / 32 == 6) = false) (q2 : (x / 16 == 14) = true) (hl1 : i + 1 < s.size) (y : Int) (hy : ∀ w, (Instr.index 9 (.string s) (.int .i64 ((i : Int) + 1))).run Tryz.prog w = .ok (.int .u8 y) w) (ay : 0 ≤ y) (upy : y ≤ 255) (cy : (y / 64 != 2) = false) (hl2 : i + 2 < s.size) (z : Int) (hz : ∀ w, (Instr.index 9 (.string s) (.int .i64 ((i : Int) + 2))).run Tryz.prog w = .ok (.int .u8 z) w) (az : 0 ≤ z) (upz : z ≤ 255) (cz : (z / 64 != 2) = false) (hv : 2048 ≤ ((x % 16) * 64 + y % 64) * 64 + z % 64) (hv2 : 57343 < ((x % 16) * 64 + y % 64) * 64 + z % 64) :
    Calls Tryz.prog 103 #[.string s, .int .i64 i] w fun e w' => e = .returned (.tuple #[.int .i64 (((x % 16) * 64 + y % 64) * 64 + z % 64), .int .i64 3]) ∧ w' = w := by
  have _rhi := hi
  have _rhl1 := hl1
  have _rhl2 := hl2
  go_enter Tryz.func103, Tryz.ntmps103
  go_wp2_with fail
  refine wp_loop_rounds 5 ?_
  rw [rounds_succ]
  go_wp2_with fail
  rw [rounds_succ]
  go_wp2_with fail
  rw [rounds_succ]
  go_wp2_with fail
  go_ret2
  exact ⟨rfl, rfl⟩
end Go.Proofs.YtmdnmhdimfglaaaGreatDoor
