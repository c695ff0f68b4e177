import Derived.Test.YtokkodkhkpgebaaDoorKbL
/-! What Put asks of an empty history: cellsAhead, overfull, carry; slices.Insert at the end. -/
namespace Go.Proofs.YtokkodkhkpgebaaDoor
open Go.RowKit Go.Lib
set_option maxRecDepth 100000

set_option maxHeartbeats 1000000 in
theorem cellsAhead0 {w : World} {h r : Nat} {M : List ((Int × Int) × Int)} (H : HisB w h r none 0 0 none 0 0 0 M) :
    Calls Tryd.prog 44 #[.pointer (some ⟨h, 0, none⟩), .int .i64 0] w fun e w' => e = .returned (.int .i64 0) ∧ Below w.heap.size w w' := by
  obtain ⟨b0, b1, b2, b3⟩ := box4 H.box
  clear H
  go_enter Tryd.func44, Tryd.ntmps44
  go_wp2_with fail
  go_loopw [5, 7, 19] (fun v5 _ v19 W => v5 = .int .i64 0 ∧ v19 = .int .i64 0 ∧ Below w.heap.size w W) (fun _ _ _ _ => 0)
  case atStart => exact ⟨rfl, rfl, Below.refl _ _⟩
  case round =>
    obtain ⟨rfl, rfl, hB⟩ := hrel
    go_wp2_with fail
    go_ret
    exact ⟨rfl, hB⟩
set_option maxHeartbeats 1000000 in
theorem carry0 {w : World} {h r : Nat} {M : List ((Int × Int) × Int)} (H : HisB w h r none 0 0 none 0 0 0 M) (p n : Int) :
    Calls Tryd.prog 36 #[.pointer (some ⟨h, 0, none⟩), .int .i64 p, .int .i64 n] w fun e w' => e = .returned (.tuple #[]) ∧ Below w.heap.size w w' := by
  obtain ⟨b0, b1, b2, b3⟩ := box4 H.box
  clear H
  go_enter Tryd.func36, Tryd.ntmps36
  go_wp2_with fail
  go_loopw [6, 7, 13] (fun _ _ v13 W => v13 = .int .i64 0 ∧ Below w.heap.size w W) (fun _ _ _ _ => 0)
  case atStart => exact ⟨rfl, Below.refl _ _⟩
  case round =>
    obtain ⟨rfl, hB⟩ := hrel
    go_wp2_with fail
    exact ⟨rfl, .tuple #[], by simp [results, Tryd.results36], rfl, hB⟩
set_option maxHeartbeats 1000000 in
theorem indexFunc0 (f : Value) (w : World) :
    Calls Tryd.prog 75 #[.slice none 0 0, f] w fun e w' => e = .returned (.int .i64 (-1)) ∧ Below w.heap.size w w' := by
  go_enter Tryd.func75, Tryd.ntmps75
  go_wp2_with fail
  go_loopw [5, 8] (fun _ v8 W => v8 = .int .i64 0 ∧ Below w.heap.size w W) (fun _ _ _ => 0)
  case atStart => exact ⟨rfl, Below.refl _ _⟩
  case round =>
    obtain ⟨rfl, hB⟩ := hrel
    go_wp2_with fail
    go_ret
    exact ⟨rfl, hB⟩
set_option maxHeartbeats 1000000 in
theorem containsFunc0 (f : Value) (w : World) :
    Calls Tryd.prog 51 #[.slice none 0 0, f] w fun e w' => e = .returned (.bool false) ∧ Below w.heap.size w w' := by
  have HI := indexFunc0 f w
  go_enter Tryd.func51, Tryd.ntmps51
  go_wp2_with fail
  refine HI.mono ?_
  rintro e w1 ⟨rfl, hb1⟩
  clear HI
  go_wp2_with fail
  go_ret
  exact ⟨rfl, hb1⟩
set_option maxHeartbeats 1000000 in
theorem overfull0 {w : World} {h r : Nat} {M : List ((Int × Int) × Int)} (H : HisB w h r none 0 0 none 0 0 0 M) (p n : Int) :
    Calls Tryd.prog 35 #[.pointer (some ⟨h, 0, none⟩), .int .i64 p, .int .i64 n] w fun e w' => e = .returned (.bool false) ∧ Below w.heap.size w w' := by
  have k2 : Below w.heap.size w ((w.alloc (.cells #[.int .i64 p] 3)).alloc (.cells #[.int .i64 n] 3)) := ((Below.refl _ _).alloc (Nat.le_refl _) _).alloc (by simp) _
  obtain ⟨b0, b1, b2, b3⟩ := box4 (H.below k2).box
  clear H
  go_enter Tryd.func35, Tryd.ntmps35
  go_wp2_with fail
  refine (containsFunc0 _ _).mono ?_
  rintro e w1 ⟨rfl, hb1⟩
  have hB := k2.trans (hb1.mono k2.size)
  clear hb1
  go_wp2_with fail
  go_ret
  exact ⟨rfl, hB⟩

/-- What a history keeps of a command beside its form: its flag, its places. -/
abbrev NSt := Bool × (Option Addr × Nat × Nat)
def nsF (x : NSt) : List Value := [.bool x.1, .slice x.2.1 x.2.2.1 x.2.2.2]
theorem layN : Lay nsF 2 := ⟨fun _ => rfl, by decide, fun x u hu => by simp [nsF] at hu; rcases hu with rfl | rfl <;> rfl⟩
theorem kindN : Kind Tryd.prog 76 92 2 32 := kind_of Tryd.underlying76 (z := .agg #[.bool false, .slice none 0 0]) (by kernel_rfl) rfl
set_option maxHeartbeats 1000000 in
theorem insert0 {w : World} {x : NSt} {g : Nat} (hx : Rw nsF 2 w (some ⟨g, 0, none⟩) 1 1 [x]) :
    Calls Tryd.prog 37 #[.slice none 0 0, .int .i64 0, .slice (some ⟨g, 0, none⟩) 1 1] w fun e w' => ∃ g' cap', e = .returned (.slice (some ⟨g', 0, none⟩) 1 cap') ∧ OwnF nsF 2 92 w' w.heap.size (.slice (some ⟨g', 0, none⟩) 1 cap') [x] ∧ Below w.heap.size w w' := by
  obtain ⟨g', cap', w', hr, ho, hb, _⟩ := appendF kindN layN (ownF_nil w w.heap.size) (Nat.le_refl _) hx (by omega) (by simp) (by simp) 76
  simp only [List.length_nil, List.nil_append, Nat.zero_add] at hr ho
  clear hx
  go_enter Tryd.func37, Tryd.ntmps37
  go_wp2_with (at_builtin; refine wpList_append_hr rfl _ _ 76 rfl _ _ rfl rfl hr ?_)
  go_ret
  exact ⟨_, _, rfl, ho, hb⟩
end Go.Proofs.YtokkodkhkpgebaaDoor
