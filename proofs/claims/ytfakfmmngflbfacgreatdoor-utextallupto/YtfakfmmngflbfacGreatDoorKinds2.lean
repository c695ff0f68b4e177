import Derived.Test.YtfakfmmngflbfacGreatDoorKinds
import Derived.Test.YtfakfmmngflbfacGreatDoorStepAll
namespace Go.Proofs.YtfakfmmngflbfacGreatDoor
open Go.RowKit Go.Lib

/-- Both tables. -/
structure Tabs (w : World) : Prop where
  bar : Bar w
  wlk : Wlk w
theorem Tabs.below {w w' : World} (h : Tabs w) (hb : Below w.heap.size w w') : Tabs w' := ⟨h.bar.below hb, h.wlk.below hb⟩

set_option maxHeartbeats 2000000 in
set_option maxRecDepth 100000 in
theorem kinds_tab (ok : OpR → Prop) (lo hi : Int) (a : Option Addr) (n cap : Nat) (hn : n ≤ 2097152) (hcap : n ≤ cap ∧ cap ≤ maxLen) (w : World) (hw : Tabs w) (hsc : Script w a n ok)
    (HPL : ∀ o, ok o → lo ≤ o.kind → o.kind ≤ hi → ∀ w', Tabs w' → Calls Tryz.prog 10 #[o.val] w' fun e w'' => e = .returned (.bool true) ∧ Below w'.heap.size w' w'') :
    Calls Tryz.prog 8 #[.slice a n cap, .int .i64 lo, .int .i64 hi] w fun e w' => e = .returned (.bool true) ∧ Below w.heap.size w w' := by
  have _r := hcap
  have HP : Hid (∀ o, ok o → lo ≤ o.kind → o.kind ≤ hi → ∀ w', Tabs w' → Calls Tryz.prog 10 #[o.val] w' fun e w'' => e = .returned (.bool true) ∧ Below w'.heap.size w' w'') := HPL
  clear HPL
  go_enter Tryz.func8, Tryz.ntmps8
  go_wp2_with fail
  refine (fixed_any _ hw.bar).mono ?_
  rintro e w1 ⟨rfl, hb1⟩
  go_wp2_with fail
  go_loopw [7, 8] (fun o i w' => ∃ j : Nat, j ≤ n ∧ o = .bool true ∧ i = .int .i64 j ∧ Below w.heap.size w w') (fun _ i _ => n - (RowKit.intOf i).toNat)
  case atStart => exact ⟨0, Nat.zero_le _, rfl, rfl, hb1⟩
  case round =>
    obtain ⟨j, hjn, rfl, rfl, hb⟩ := hrel
    have hwr := hw.below hb
    by_cases hj : j < n
    · obtain ⟨g, off, ⟨kind, S, T, A, B⟩, rfl, hg, hok, hc0, hc1, hc2, hc3, hc4⟩ := hsc j hj
      have d0 := (hb.cell (p := ⟨g, off + j * 5, none⟩) hg).trans hc0
      have d1 := (hb.cell (p := ⟨g, off + j * 5 + 1, none⟩) hg).trans hc1
      have d2 := (hb.cell (p := ⟨g, off + j * 5 + 2, none⟩) hg).trans hc2
      have d3 := (hb.cell (p := ⟨g, off + j * 5 + 3, none⟩) hg).trans hc3
      have d4 := (hb.cell (p := ⟨g, off + j * 5 + 4, none⟩) hg).trans hc4
      simp only at d0 d1 d2 d3 d4
      clear hc0 hc1 hc2 hc3 hc4
      by_cases hlo : lo ≤ kind
      · by_cases hhi : kind ≤ hi
        · have hpl := HP.out ⟨kind, S, T, A, B⟩ hok hlo hhi
          have HPL : Hid (∀ w', Tabs w' → Calls Tryz.prog 10 #[.agg #[.int .i64 kind, .string S, .string T, .int .i64 A, .int .i64 B]] w' fun e w'' => e = .returned (.bool true) ∧ Below w'.heap.size w' w'') := hpl
          clear hpl
          go_wp2_with fail
          refine (HPL.out _ hwr).mono ?_
          rintro e w2 ⟨rfl, hb2⟩
          have hB2 := hb.trans (hb2.mono hb.size)
          clear hb2 d0 d1 d2 d3 d4
          go_wp2_with fail
          go_roundw
          case rel => exact ⟨j + 1, by omega, rfl, by simp, hB2⟩
          case measure => simp [RowKit.intOf]; omega
        · go_wp2_with fail
          go_roundw
          case rel => exact ⟨j + 1, by omega, rfl, by simp, hb⟩
          case measure => simp [RowKit.intOf]; omega
      · go_wp2_with fail
        go_roundw
        case rel => exact ⟨j + 1, by omega, rfl, by simp, hb⟩
        case measure => simp [RowKit.intOf]; omega
    · go_wp2_with fail
      go_ret
      exact ⟨rfl, hb⟩

end Go.Proofs.YtfakfmmngflbfacGreatDoor
