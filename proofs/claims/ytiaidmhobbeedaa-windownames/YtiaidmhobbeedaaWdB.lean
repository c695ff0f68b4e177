import Derived.Test.YtiaidmhobbeedaaWdA
/-! WindowNames. -/
namespace Go.Proofs.Ytiaidmhobbeedaa
open Go.RowKit Go.Lib
set_option maxRecDepth 100000
set_option maxHeartbeats 1000000 in
theorem windowNames_any (w : World) : Calls Try.prog 3 #[] w fun e w' => e = .returned (.bool true) ∧ Below w.heap.size w w' := by
  have HO : Hid (∀ w, Calls Try.prog 9 #[.agg #[.int .i64 1048576, .int .i64 1048576]] w fun e w' => ∃ q b r, e = .returned (.tuple #[.pointer (some ⟨q, 0, none⟩), .pointer (some ⟨r, 0, none⟩), .bool true]) ∧ Below w.heap.size w w') := fun w => (opened_ok 1048576 1048576 (by decide) (by decide) (by decide) (by decide) w).mono (by
    rintro e w' ⟨q, b, r, he, _, _, _, _, _, _, _, hb⟩
    exact ⟨q, b, r, he, hb⟩)
  go_enter Try.func3, Try.ntmps3
  go_wp2_with fail
  refine (HO.out _).mono ?_
  rintro e w1 ⟨q, b, r, rfl, hb⟩
  have HB : Hid (Below w.heap.size w w1) := hb
  clear hb
  go_wp2_with fail
  go_ret
  exact ⟨rfl, HB.out⟩
end Go.Proofs.Ytiaidmhobbeedaa
