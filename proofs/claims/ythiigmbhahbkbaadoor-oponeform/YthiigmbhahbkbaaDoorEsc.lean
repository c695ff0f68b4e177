import Derived.Test.YthiigmbhahbkbaaDoorPars8
import Derived.Test.YthiigmbhahbkbaaDoorPars31
import Derived.Test.YthiigmbhahbkbaaDoorClone
import Derived.Lib.Bytealg
import Derived.Deep.RegionWith
import Derived.Deep.DeepCutAuto
namespace Go.Proofs.YthiigmbhahbkbaaDoor
open Go.RowKit Go.Lib

/-- The two errors of package strconv can be read. -/
structure Errs (w : World) : Prop where
  syn : ∃ T v, w.cell? ⟨3, 0, none⟩ = some (.iface T v) ∧ 3 < w.heap.size
  rng : ∃ T v, w.cell? ⟨4, 0, none⟩ = some (.iface T v) ∧ 4 < w.heap.size
theorem Errs.below {w w' : World} (h : Errs w) (hb : Below w.heap.size w w') : Errs w' := by
  obtain ⟨T, v, h1, h2⟩ := h.syn
  obtain ⟨U, u, h3, h4⟩ := h.rng
  exact ⟨⟨T, v, (hb.cell (p := ⟨3, 0, none⟩) h2).trans h1, by have := hb.size; omega⟩, ⟨U, u, (hb.cell (p := ⟨4, 0, none⟩) h4).trans h3, by have := hb.size; omega⟩⟩

set_option maxHeartbeats 1000000 in
set_option maxRecDepth 100000 in
theorem syntaxError_any (fn s : ByteArray) (hs : s.size ≤ 1099511627776) (w : World) (he : Errs w) :
    Calls Tryd.prog 134 #[.string fn, .string s] w fun e w' => ∃ a, e = .returned (.pointer (some a)) ∧ Below w.heap.size w w' := by
  obtain ⟨T, v, h1, h2⟩ := he.syn
  go_enter Tryd.func134, Tryd.ntmps134
  go_wp2_with fail
  go_region_with (go_at_call 80; refine (Tryd.clone_any s _ (by omega)).mono ?_; rintro e w1 ⟨rfl, hb1⟩; have hc1 : w1.cell? ⟨3, 0, none⟩ = some (.iface T v) := (hb1.cell (p := ⟨3, 0, none⟩) (by simpa using h2)).trans h1)
  all_goals
    have hd0 : Below w.heap.size w w.drew := ⟨rfl, rfl, rfl, Nat.le_refl _, fun _ _ => rfl⟩
    have hB1 : Below w.heap.size w w1 := hd0.trans (hb1.mono (Nat.le_refl _))
    have hs1 := hB1.size
    clear hb1
    go_wp2_with fail
    go_ret
    exact ⟨_, rfl, hB1.alloc hs1 _⟩
set_option maxHeartbeats 1000000 in
set_option maxRecDepth 100000 in
theorem rangeError_any (fn s : ByteArray) (hs : s.size ≤ 1099511627776) (w : World) (he : Errs w) :
    Calls Tryd.prog 135 #[.string fn, .string s] w fun e w' => ∃ a, e = .returned (.pointer (some a)) ∧ Below w.heap.size w w' := by
  obtain ⟨T, v, h1, h2⟩ := he.rng
  go_enter Tryd.func135, Tryd.ntmps135
  go_wp2_with fail
  go_region_with (go_at_call 80; refine (Tryd.clone_any s _ (by omega)).mono ?_; rintro e w1 ⟨rfl, hb1⟩; have hc1 : w1.cell? ⟨4, 0, none⟩ = some (.iface T v) := (hb1.cell (p := ⟨4, 0, none⟩) (by simpa using h2)).trans h1)
  all_goals
    have hd0 : Below w.heap.size w w.drew := ⟨rfl, rfl, rfl, Nat.le_refl _, fun _ _ => rfl⟩
    have hB1 : Below w.heap.size w w1 := hd0.trans (hb1.mono (Nat.le_refl _))
    have hs1 := hB1.size
    clear hb1
    go_wp2_with fail
    go_ret
    exact ⟨_, rfl, hB1.alloc hs1 _⟩

set_option maxHeartbeats 1000000 in
set_option maxRecDepth 100000 in
theorem toError_any (fn s : ByteArray) (b c k : Int) (hk : k = 1 ∨ k = 2) (hs : s.size ≤ 1099511627776) (w : World) (he : Errs w) :
    Calls Tryd.prog 121 #[.string fn, .string s, .int .i64 b, .int .i64 c, .iface 196 (.int .i64 k)] w fun e w' => ∃ T v, e = .returned (.iface T v) ∧ Below w.heap.size w w' := by
  have q12 : ∀ w, (binOp .eql 144 (.iface 196 (.int .i64 1)) (.iface 196 (.int .i64 2))).run Tryd.prog w = .ok (.bool false) w := fun w => by kernel_rfl
  have q11 : ∀ w, (binOp .eql 144 (.iface 196 (.int .i64 1)) (.iface 196 (.int .i64 1))).run Tryd.prog w = .ok (.bool true) w := fun w => by kernel_rfl
  have q22 : ∀ w, (binOp .eql 144 (.iface 196 (.int .i64 2)) (.iface 196 (.int .i64 2))).run Tryd.prog w = .ok (.bool true) w := fun w => by kernel_rfl
  rcases hk with rfl | rfl
  · go_enter Tryd.func121, Tryd.ntmps121
    go_wp2_with fail
    refine (rangeError_any fn s hs _ he).mono ?_
    rintro e w1 ⟨a, rfl, hb1⟩
    go_wp2_with fail
    go_ret
    exact ⟨_, _, rfl, hb1⟩
  · go_enter Tryd.func121, Tryd.ntmps121
    go_wp2_with fail
    refine (syntaxError_any fn s hs _ he).mono ?_
    rintro e w1 ⟨a, rfl, hb1⟩
    go_wp2_with fail
    go_ret
    exact ⟨_, _, rfl, hb1⟩
set_option maxHeartbeats 1000000 in
set_option maxRecDepth 100000 in
theorem parse_8 (s : ByteArray) (hs : s.size ≤ 1099511627776) (hne : 0 < s.size) (w : World) (he : Errs w) :
    Calls Tryd.prog 149 #[.string s, .int .i64 16, .int .i64 8] w fun e w' => ∃ x E, e = .returned (.tuple #[x, E]) ∧ Below w.heap.size w w' ∧
      ((∃ v : Nat, pu 255 0 s.data.toList = some v ∧ x = .int .u64 v ∧ E = .nilIface) ∨ (pu 255 0 s.data.toList = none ∧ ∃ y : Int, x = .int .u64 y ∧ ∃ T v, E = .iface T v)) := by
  go_enter Tryd.func149, Tryd.ntmps149
  go_wp2_with fail
  refine (parseIn_8 s hs hne _).mono ?_
  rintro e w1 ⟨x, E, rfl, hb1, ⟨v, hp, rfl, rfl⟩ | ⟨hp, y, rfl, k, hk, rfl⟩⟩
  · have HP : Hid (pu 255 0 s.data.toList = some v) := hp
    clear hp
    go_wp2_with fail
    go_ret2
    exact ⟨_, _, rfl, hb1, .inl ⟨v, HP.out, rfl, rfl⟩⟩
  · have HP : Hid (pu 255 0 s.data.toList = none) := hp
    have he1 := he.below hb1
    clear hp
    go_wp2_with fail
    refine (toError_any _ s _ _ k hk hs _ he1).mono ?_
    rintro e w2 ⟨T, v, rfl, hb2⟩
    have hB2 := hb1.trans (hb2.mono hb1.size)
    clear hb1 hb2
    go_wp2_with fail
    go_ret2
    exact ⟨_, _, rfl, hB2, .inr ⟨HP.out, y, rfl, T, v, rfl⟩⟩
set_option maxHeartbeats 1000000 in
set_option maxRecDepth 100000 in
theorem parse_31 (s : ByteArray) (hs : s.size ≤ 1099511627776) (hne : 0 < s.size) (w : World) (he : Errs w) :
    Calls Tryd.prog 149 #[.string s, .int .i64 16, .int .i64 31] w fun e w' => ∃ x E, e = .returned (.tuple #[x, E]) ∧ Below w.heap.size w w' ∧
      ((∃ v : Nat, pu 2147483647 0 s.data.toList = some v ∧ x = .int .u64 v ∧ E = .nilIface) ∨ (pu 2147483647 0 s.data.toList = none ∧ ∃ y : Int, x = .int .u64 y ∧ ∃ T v, E = .iface T v)) := by
  go_enter Tryd.func149, Tryd.ntmps149
  go_wp2_with fail
  refine (parseIn_31 s hs hne _).mono ?_
  rintro e w1 ⟨x, E, rfl, hb1, ⟨v, hp, rfl, rfl⟩ | ⟨hp, y, rfl, k, hk, rfl⟩⟩
  · have HP : Hid (pu 2147483647 0 s.data.toList = some v) := hp
    clear hp
    go_wp2_with fail
    go_ret2
    exact ⟨_, _, rfl, hb1, .inl ⟨v, HP.out, rfl, rfl⟩⟩
  · have HP : Hid (pu 2147483647 0 s.data.toList = none) := hp
    have he1 := he.below hb1
    clear hp
    go_wp2_with fail
    refine (toError_any _ s _ _ k hk hs _ he1).mono ?_
    rintro e w2 ⟨T, v, rfl, hb2⟩
    have hB2 := hb1.trans (hb2.mono hb1.size)
    clear hb1 hb2
    go_wp2_with fail
    go_ret2
    exact ⟨_, _, rfl, hB2, .inr ⟨HP.out, y, rfl, T, v, rfl⟩⟩

set_option maxHeartbeats 1000000 in
set_option maxRecDepth 100000 in
theorem indexIn_any (s : ByteArray) (w : World) : Calls Tryd.prog 129 #[.string s, .int .u8 125] w fun e w' => e = .returned (.int .i64 (Lib.indexByte s.data.toList 125)) ∧ w' = w := by
  go_enter Tryd.func129, Tryd.ntmps129
  go_wp2
  rw [run_callFunc_extern Tryd.func145 (by kernel_rfl) (by kernel_rfl) (by kernel_rfl) (e := Extern.BytealgIndexByte.indexByte) (by kernel_rfl), Lib.run_indexByteString]
  simp only [Result.andThen]
  rw [Oper.upon_value]
  go_wp2
  go_ret
  exact ⟨rfl, rfl⟩
set_option maxHeartbeats 1000000 in
theorem indexByte_any (s : ByteArray) (w : World) : Calls Tryd.prog 150 #[.string s, .int .u8 125] w fun e w' => e = .returned (.int .i64 (Lib.indexByte s.data.toList 125)) ∧ w' = w := by
  go_enter Tryd.func150, Tryd.ntmps150
  go_wp2_with fail
  refine (indexIn_any s _).mono ?_
  rintro e w1 ⟨rfl, rfl⟩
  go_wp2_with fail
  go_ret
  exact ⟨rfl, rfl⟩
def okV (r : Int) : Bool := decide (r < 55296 ∨ (57343 < r ∧ r ≤ 1114111))
set_option maxHeartbeats 1000000 in
set_option maxRecDepth 100000 in
theorem validRune_any (r : Int) (h0 : 0 ≤ r) (w : World) : Calls Tryd.prog 151 #[.int .i32 r] w fun e w' => e = .returned (.bool (okV r)) ∧ w' = w := by
  by_cases h1 : r < 55296
  · have HV : Hid (okV r = true) := decide_eq_true (.inl h1)
    go_enter Tryd.func151, Tryd.ntmps151
    go_wp2_with fail
    go_ret
    rw [HV.out]
    exact ⟨rfl, rfl⟩
  by_cases h2 : 57343 < r
  · by_cases h3 : r ≤ 1114111
    · have HV : Hid (okV r = true) := decide_eq_true (.inr ⟨h2, h3⟩)
      go_enter Tryd.func151, Tryd.ntmps151
      go_wp2_with fail
      go_ret
      rw [HV.out]
      exact ⟨rfl, rfl⟩
    · have HV : Hid (okV r = false) := decide_eq_false (by omega)
      go_enter Tryd.func151, Tryd.ntmps151
      go_wp2_with fail
      go_ret
      rw [HV.out]
      exact ⟨rfl, rfl⟩
  · have HV : Hid (okV r = false) := decide_eq_false (by omega)
    go_enter Tryd.func151, Tryd.ntmps151
    go_wp2_with fail
    go_ret
    rw [HV.out]
    exact ⟨rfl, rfl⟩
end Go.Proofs.YthiigmbhahbkbaaDoor
