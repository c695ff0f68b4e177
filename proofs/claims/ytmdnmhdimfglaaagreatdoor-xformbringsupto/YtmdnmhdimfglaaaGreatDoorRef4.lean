import Derived.Test.YtmdnmhdimfglaaaGreatDoorGr9
import Derived.Test.YtmdnmhdimfglaaaGreatDoorGaT
namespace Go.Proofs.YtmdnmhdimfglaaaGreatDoor
open Go.RowKit Go.Lib
set_option maxHeartbeats 1000000 in
set_option maxRecDepth 100000 in
theorem sq4s1 (s : ByteArray) (hs : s.size ≤ 9223372036854775000) (i : Nat) (hi : i < s.size) (w : World) (x : Int) (hx : ∀ w, (Instr.index 9 (.string s) (.int .i64 (i : Int))).run Tryz.prog w = .ok (.int .u8 x) w) (h1 : 128 ≤ x) (h9 : x ≤ 255) (q1 : (x / 32 == 6) = false) (q2 : (x / 16 == 14) = false) (q3 : (x / 8 == 30) = true) (hl : s.size ≤ i + 1) :
    Calls Tryz.prog 103 #[.string s, .int .i64 i] w fun e w' => e = .returned (.tuple #[.int .i64 (0), .int .i64 0]) ∧ w' = w := by
  have _rhi := hi
  go_enter Tryz.func103, Tryz.ntmps103
  go_wp2_with fail
  refine wp_loop_rounds 5 ?_
  rw [rounds_succ]
  go_wp2_with fail
  go_ret2
  exact ⟨rfl, rfl⟩
set_option maxHeartbeats 1000000 in
set_option maxRecDepth 100000 in
theorem sq4b1 (s : ByteArray) (hs : s.size ≤ 9223372036854775000) (i : Nat) (hi : i < s.size) (w : World) (x : Int) (hx : ∀ w, (Instr.index 9 (.string s) (.int .i64 (i : Int))).run Tryz.prog w = .ok (.int .u8 x) w) (h1 : 128 ≤ x) (h9 : x ≤ 255) (q1 : (x / 32 == 6) = false) (q2 : (x / 16 == 14) = false) (q3 : (x / 8 == 30) = true) (hl1 : i + 1 < s.size) (y : Int) (hy : ∀ w, (Instr.index 9 (.string s) (.int .i64 ((i : Int) + 1))).run Tryz.prog w = .ok (.int .u8 y) w) (ay : 0 ≤ y) (upy : y ≤ 255) (cy : (y / 64 != 2) = true) :
    Calls Tryz.prog 103 #[.string s, .int .i64 i] w fun e w' => e = .returned (.tuple #[.int .i64 (0), .int .i64 0]) ∧ w' = w := by
  have _rhi := hi
  have _rhl1 := hl1
  go_enter Tryz.func103, Tryz.ntmps103
  go_wp2_with fail
  refine wp_loop_rounds 5 ?_
  rw [rounds_succ]
  go_wp2_with fail
  go_ret2
  exact ⟨rfl, rfl⟩
set_option maxHeartbeats 1000000 in
set_option maxRecDepth 100000 in
theorem sq4s2 (s : ByteArray) (hs : s.size ≤ 9223372036854775000) (i : Nat) (hi : i < s.size) (w : World) (x : Int) (hx : ∀ w, (Instr.index 9 (.string s) (.int .i64 (i : Int))).run Tryz.prog w = .ok (.int .u8 x) w) (h1 : 128 ≤ x) (h9 : x ≤ 255) (q1 : (x / 32 == 6) = false) (q2 : (x / 16 == 14) = false) (q3 : (x / 8 == 30) = true) (hl1 : i + 1 < s.size) (y : Int) (hy : ∀ w, (Instr.index 9 (.string s) (.int .i64 ((i : Int) + 1))).run Tryz.prog w = .ok (.int .u8 y) w) (ay : 0 ≤ y) (upy : y ≤ 255) (cy : (y / 64 != 2) = false) (hl : s.size ≤ i + 2) :
    Calls Tryz.prog 103 #[.string s, .int .i64 i] w fun e w' => e = .returned (.tuple #[.int .i64 (0), .int .i64 0]) ∧ w' = w := by
  have _rhi := hi
  have _rhl1 := hl1
  go_enter Tryz.func103, Tryz.ntmps103
  go_wp2_with fail
  refine wp_loop_rounds 5 ?_
  rw [rounds_succ]
  go_wp2_with fail
  rw [rounds_succ]
  go_wp2_with fail
  go_ret2
  exact ⟨rfl, rfl⟩
set_option maxHeartbeats 1000000 in
set_option maxRecDepth 100000 in
theorem sq4b2 (s : ByteArray) (hs : s.size ≤ 9223372036854775000) (i : Nat) (hi : i < s.size) (w : World) (x : Int) (hx : ∀ w, (Instr.index 9 (.string s) (.int .i64 (i : Int))).run Tryz.prog w = .ok (.int .u8 x) w) (h1 : 128 ≤ x) (h9 : x ≤ 255) (q1 : (x / 32 == 6) = false) (q2 : (x / 16 == 14) = false) (q3 : (x / 8 == 30) = true) (hl1 : i + 1 < s.size) (y : Int) (hy : ∀ w, (Instr.index 9 (.string s) (.int .i64 ((i : Int) + 1))).run Tryz.prog w = .ok (.int .u8 y) w) (ay : 0 ≤ y) (upy : y ≤ 255) (cy : (y / 64 != 2) = false) (hl2 : i + 2 < s.size) (z : Int) (hz : ∀ w, (Instr.index 9 (.string s) (.int .i64 ((i : Int) + 2))).run Tryz.prog w = .ok (.int .u8 z) w) (az : 0 ≤ z) (upz : z ≤ 255) (cz : (z / 64 != 2) = true) :
    Calls Tryz.prog 103 #[.string s, .int .i64 i] w fun e w' => e = .returned (.tuple #[.int .i64 (0), .int .i64 0]) ∧ w' = w := by
  have _rhi := hi
  have _rhl1 := hl1
  have _rhl2 := hl2
  go_enter Tryz.func103, Tryz.ntmps103
  go_wp2_with fail
  refine wp_loop_rounds 5 ?_
  rw [rounds_succ]
  go_wp2_with fail
  rw [rounds_succ]
  go_wp2_with fail
  go_ret2
  exact ⟨rfl, rfl⟩
set_option maxHeartbeats 1000000 in
set_option maxRecDepth 100000 in
theorem sq4s3 (s : ByteArray) (hs : s.size ≤ 9223372036854775000) (i : Nat) (hi : i < s.size) (w : World) (x : Int) (hx : ∀ w, (Instr.index 9 (.string s) (.int .i64 (i : Int))).run Tryz.prog w = .ok (.int .u8 x) w) (h1 : 128 ≤ x) (h9 : x ≤ 255) (q1 : (x / 32 == 6) = false) (q2 : (x / 16 == 14) = false) (q3 : (x / 8 == 30) = true) (hl1 : i + 1 < s.size) (y : Int) (hy : ∀ w, (Instr.index 9 (.string s) (.int .i64 ((i : Int) + 1))).run Tryz.prog w = .ok (.int .u8 y) w) (ay : 0 ≤ y) (upy : y ≤ 255) (cy : (y / 64 != 2) = false) (hl2 : i + 2 < s.size) (z : Int) (hz : ∀ w, (Instr.index 9 (.string s) (.int .i64 ((i : Int) + 2))).run Tryz.prog w = .ok (.int .u8 z) w) (az : 0 ≤ z) (upz : z ≤ 255) (cz : (z / 64 != 2) = false) (hl : s.size ≤ i + 3) :
    Calls Tryz.prog 103 #[.string s, .int .i64 i] w fun e w' => e = .returned (.tuple #[.int .i64 (0), .int .i64 0]) ∧ w' = w := by
  have _rhi := hi
  have _rhl1 := hl1
  have _rhl2 := hl2
  go_enter Tryz.func103, Tryz.ntmps103
  go_wp2_with fail
  refine wp_loop_rounds 5 ?_
  rw [rounds_succ]
  go_wp2_with fail
  rw [rounds_succ]
  go_wp2_with fail
  rw [rounds_succ]
  go_wp2_with fail
  go_ret2
  exact ⟨rfl, rfl⟩
set_option maxHeartbeats 1000000 in
set_option maxRecDepth 100000 in
theorem sq4b3 (s : ByteArray) (hs : s.size ≤ 9223372036854775000) (i : Nat) (hi : i < s.size) (w : World) (x : Int) (hx : ∀ w, (Instr.index 9 (.string s) (.int .i64 (i : Int))).run Tryz.prog w = .ok (.int .u8 x) w) (h1 : 128 ≤ x) (h9 : x ≤ 255) (q1 : (x / 32 == 6) = false) (q2 : (x / 16 == 14) = false) (q3 : (x / 8 == 30) = true) (hl1 : i + 1 < s.size) (y : Int) (hy : ∀ w, (Instr.index 9 (.string s) (.int .i64 ((i : Int) + 1))).run Tryz.prog w = .ok (.int .u8 y) w) (ay : 0 ≤ y) (upy : y ≤ 255) (cy : (y / 64 != 2) = false) (hl2 : i + 2 < s.size) (z : Int) (hz : ∀ w, (Instr.index 9 (.string s) (.int .i64 ((i : Int) + 2))).run Tryz.prog w = .ok (.int .u8 z) w) (az : 0 ≤ z) (upz : z ≤ 255) (cz : (z / 64 != 2) = false) (hl3 : i + 3 < s.size) (u : Int) (hu : ∀ w, (Instr.index 9 (.string s) (.int .i64 ((i : Int) + 3))).run Tryz.prog w = .ok (.int .u8 u) w) (au : 0 ≤ u) (upu : u ≤ 255) (cu : (u / 64 != 2) = true) :
    Calls Tryz.prog 103 #[.string s, .int .i64 i] w fun e w' => e = .returned (.tuple #[.int .i64 (0), .int .i64 0]) ∧ w' = w := by
  have _rhi := hi
  have _rhl1 := hl1
  have _rhl2 := hl2
  have _rhl3 := hl3
  go_enter Tryz.func103, Tryz.ntmps103
  go_wp2_with fail
  refine wp_loop_rounds 5 ?_
  rw [rounds_succ]
  go_wp2_with fail
  rw [rounds_succ]
  go_wp2_with fail
  rw [rounds_succ]
  go_wp2_with fail
  go_ret2
  exact ⟨rfl, rfl⟩
set_option maxHeartbeats 1000000 in
set_option maxRecDepth 100000 in
theorem sq4l (s : ByteArray) (hs : s.size ≤ 9223372036854775000) (i : Nat) (hi : i < s.size) (w : World) (x : Int) (hx : ∀ w, (Instr.index 9 (.string s) (.int .i64 (i : Int))).run Tryz.prog w = .ok (.int .u8 x) w) (h1 : 128 ≤ x) (h9 : x ≤ 255) (q1 : (x / 32 == 6) = false) (q2 : (x / 16 == 14) = false) (q3 : (x / 8 == 30) = true) (hl1 : i + 1 < s.size) (y : Int) (hy : ∀ w, (Instr.index 9 (.string s) (.int .i64 ((i : Int) + 1))).run Tryz.prog w = .ok (.int .u8 y) w) (ay : 0 ≤ y) (upy : y ≤ 255) (cy : (y / 64 != 2) = false) (hl2 : i + 2 < s.size) (z : Int) (hz : ∀ w, (Instr.index 9 (.string s) (.int .i64 ((i : Int) + 2))).run Tryz.prog w = .ok (.int .u8 z) w) (az : 0 ≤ z) (upz : z ≤ 255) (cz : (z / 64 != 2) = false) (hl3 : i + 3 < s.size) (u : Int) (hu : ∀ w, (Instr.index 9 (.string s) (.int .i64 ((i : Int) + 3))).run Tryz.prog w = .ok (.int .u8 u) w) (au : 0 ≤ u) (upu : u ≤ 255) (cu : (u / 64 != 2) = false) (hv : (((x % 8) * 64 + y % 64) * 64 + z % 64) * 64 + u % 64 < 65536) :
    Calls Tryz.prog 103 #[.string s, .int .i64 i] w fun e w' => e = .returned (.tuple #[.int .i64 (0), .int .i64 0]) ∧ w' = w := by
  have _rhi := hi
  have _rhl1 := hl1
  have _rhl2 := hl2
  have _rhl3 := hl3
  go_enter Tryz.func103, Tryz.ntmps103
  go_wp2_with fail
  refine wp_loop_rounds 5 ?_
  rw [rounds_succ]
  go_wp2_with fail
  rw [rounds_succ]
  go_wp2_with fail
  rw [rounds_succ]
  go_wp2_with fail
  rw [rounds_succ]
  go_wp2_with fail
  go_ret2
  exact ⟨rfl, rfl⟩
set_option maxHeartbeats 1000000 in
set_option maxRecDepth 100000 in
theorem sq4m (s : ByteArray) (hs : s.size ≤ 9223372036854775000) (i : Nat) (hi : i < s.size) (w : World) (x : Int) (hx : ∀ w, (Instr.index 9 (.string s) (.int .i64 (i : Int))).run Tryz.prog w = .ok (.int .u8 x) w) (h1 : 128 ≤ x) (h9 : x ≤ 255) (q1 : (x / 32 == 6) = false) (q2 : (x / 16 == 14) = false) (q3 : (x / 8 == 30) = true) (hl1 : i + 1 < s.size) (y : Int) (hy : ∀ w, (Instr.index 9 (.string s) (.int .i64 ((i : Int) + 1))).run Tryz.prog w = .ok (.int .u8 y) w) (ay : 0 ≤ y) (upy : y ≤ 255) (cy : (y / 64 != 2) = false) (hl2 : i + 2 < s.size) (z : Int) (hz : ∀ w, (Instr.index 9 (.string s) (.int .i64 ((i : Int) + 2))).run Tryz.prog w = .ok (.int .u8 z) w) (az : 0 ≤ z) (upz : z ≤ 255) (cz : (z / 64 != 2) = false) (hl3 : i + 3 < s.size) (u : Int) (hu : ∀ w, (Instr.index 9 (.string s) (.int .i64 ((i : Int) + 3))).run Tryz.prog w = .ok (.int .u8 u) w) (au : 0 ≤ u) (upu : u ≤ 255) (cu : (u / 64 != 2) = false) (hv : 1114111 < (((x % 8) * 64 + y % 64) * 64 + z % 64) * 64 + u % 64) :
    Calls Tryz.prog 103 #[.string s, .int .i64 i] w fun e w' => e = .returned (.tuple #[.int .i64 (0), .int .i64 0]) ∧ w' = w := by
  have _rhi := hi
  have _rhl1 := hl1
  have _rhl2 := hl2
  have _rhl3 := hl3
  go_enter Tryz.func103, Tryz.ntmps103
  go_wp2_with fail
  refine wp_loop_rounds 5 ?_
  rw [rounds_succ]
  go_wp2_with fail
  rw [rounds_succ]
  go_wp2_with fail
  rw [rounds_succ]
  go_wp2_with fail
  rw [rounds_succ]
  go_wp2_with fail
  go_ret2
  exact ⟨rfl, rfl⟩
set_option maxHeartbeats 1000000 in
set_option maxRecDepth 100000 in
theorem sq4o (s : ByteArray) (hs : s.size ≤ 9223372036854775000) (i : Nat) (hi : i < s.size) (w : World) (x : Int) (hx : ∀ w, (Instr.index 9 (.string s) (.int .i64 (i : Int))).run Tryz.prog w = .ok (.int .u8 x) w) (h1 : 128 ≤ x) (h9 : x ≤ 255) (q1 : (x / 32 == 6) = false) (q2 : (x / 16 == 14) = false) (q3 : (x / 8 == 30) = true) (hl1 : i + 1 < s.size) (y : Int) (hy : ∀ w, (Instr.index 9 (.string s) (.int .i64 ((i : Int) + 1))).run Tryz.prog w = .ok (.int .u8 y) w) (ay : 0 ≤ y) (upy : y ≤ 255) (cy : (y / 64 != 2) = false) (hl2 : i + 2 < s.size) (z : Int) (hz : ∀ w, (Instr.index 9 (.string s) (.int .i64 ((i : Int) + 2))).run Tryz.prog w = .ok (.int .u8 z) w) (az : 0 ≤ z) (upz : z ≤ 255) (cz : (z / 64 != 2) = false) (hl3 : i + 3 < s.size) (u : Int) (hu : ∀ w, (Instr.index 9 (.string s) (.int .i64 ((i : Int) + 3))).run Tryz.prog w = .ok (.int .u8 u) w) (au : 0 ≤ u) (upu : u ≤ 255) (cu : (u / 64 != 2) = false) (hv : 65536 ≤ (((x % 8) * 64 + y % 64) * 64 + z % 64) * 64 + u % 64) (hv2 : (((x % 8) * 64 + y % 64) * 64 + z % 64) * 64 + u % 64 ≤ 1114111) :
    Calls Tryz.prog 103 #[.string s, .int .i64 i] w fun e w' => e = .returned (.tuple #[.int .i64 ((((x % 8) * 64 + y % 64) * 64 + z % 64) * 64 + u % 64), .int .i64 4]) ∧ w' = w := by
  have _rhi := hi
  have _rhl1 := hl1
  have _rhl2 := hl2
  have _rhl3 := hl3
  go_enter Tryz.func103, Tryz.ntmps103
  go_wp2_with fail
  refine wp_loop_rounds 5 ?_
  rw [rounds_succ]
  go_wp2_with fail
  rw [rounds_succ]
  go_wp2_with fail
  rw [rounds_succ]
  go_wp2_with fail
  rw [rounds_succ]
  go_wp2_with fail
  go_ret2
  exact ⟨rfl, rfl⟩
end Go.Proofs.YtmdnmhdimfglaaaGreatDoor
