import Derived.Test.YtfakfmmngflbfacGreatDoorQuotePlain
namespace Go.Proofs.YtfakfmmngflbfacGreatDoor
open Go.RowKit Go.Lib

theorem ab_text : IsText ⟨#[97, 98]⟩ [97, 98] := ⟨by decide, fun r hr => by
  have : r = 97 ∨ r = 98 := by simpa using hr
  rcases this with rfl | rfl <;> exact plain_ok ⟨by decide, by decide, by decide, by decide⟩⟩
theorem ab_plain : ∀ r ∈ ([97, 98] : List Int), plainR r := fun r hr => by
  have : r = 97 ∨ r = 98 := by simpa using hr
  rcases this with rfl | rfl <;> exact ⟨by decide, by decide, by decide, by decide⟩
theorem ab_quote : quoteP [97, 98] = [34, 97, 98, 34] := by decide

set_option maxHeartbeats 400000 in
theorem fixed_any (w : World) (hw : Bar w) : Calls Tryz.prog 9 #[] w fun e w' => e = .returned (.bool true) ∧ Below w.heap.size w w' := by
  have hck : check ⟨#[97, 98]⟩ = (2, 0, 0) := ab_text.check
  have hq := quote_plain ab_text ab_plain (by decide)
  rw [ab_quote] at hq
  have HQ : Hid (∀ w : World, Calls Tryz.prog 12 #[.string ⟨#[97, 98]⟩] w fun e w' => e = .returned (.string ⟨[34, 97, 98, 34].toArray⟩) ∧ Below w.heap.size w w') := hq
  have HCK : Hid (check ⟨#[97, 98]⟩ = (2, 0, 0)) := hck
  clear hq hck
  go_enter Tryz.func9, Tryz.ntmps9
  go_wp2_with fail
  refine (check_bar (by decide) HCK.out _ hw).mono ?_
  rintro e w1 ⟨rfl, hb1⟩
  go_wp2_with fail
  refine (HQ.out _).mono ?_
  rintro e w2 ⟨rfl, hb2⟩
  have hb3 := hb1.trans (hb2.mono hb1.size)
  clear hb1 hb2
  go_wp2_with fail
  go_ret
  exact ⟨rfl, hb3⟩

end Go.Proofs.YtfakfmmngflbfacGreatDoor
