import Derived.Test.YtfakfmmngflbfacGreatDoorKinds2
import Derived.Test.YtfakfmmngflbfacGreatDoorQuoD
import Derived.Test.YtfakfmmngflbfacGreatDoorQuoE
namespace Go.Proofs.YtfakfmmngflbfacGreatDoor
open Go.RowKit Go.Lib

/-- All that the calls read of the package-level variables. -/
structure TabsQ (w : World) : Prop where
  bar : Bar w
  wlk : Wlk w
  deb : Deb w
  err : Errs w
theorem TabsQ.below {w w' : World} (h : TabsQ w) (hb : Below w.heap.size w w') : TabsQ w' := ⟨h.bar.below hb, h.wlk.below hb, h.deb.below hb, h.err.below hb⟩
theorem TabsQ.tabs {w : World} (h : TabsQ w) : Tabs w := ⟨h.bar, h.wlk⟩

set_option maxHeartbeats 2000000 in
set_option maxRecDepth 100000 in
theorem kinds_q (ok : OpR → Prop) (lo hi : Int) (a : Option Addr) (n cap : Nat) (hn : n ≤ 2097152) (hcap : n ≤ cap ∧ cap ≤ maxLen) (w : World) (hw : TabsQ w) (hsc : Script w a n ok)
    (HPL : ∀ o, ok o → lo ≤ o.kind → o.kind ≤ hi → ∀ w', TabsQ w' → Calls Tryz.prog 10 #[o.val] w' fun e w'' => e = .returned (.bool true) ∧ Below w'.heap.size w' w'') :
    Calls Tryz.prog 8 #[.slice a n cap, .int .i64 lo, .int .i64 hi] w fun e w' => e = .returned (.bool true) ∧ Below w.heap.size w w' := by
  have _r := hcap
  have HP : Hid (∀ o, ok o → lo ≤ o.kind → o.kind ≤ hi → ∀ w', TabsQ w' → Calls Tryz.prog 10 #[o.val] w' fun e w'' => e = .returned (.bool true) ∧ Below w'.heap.size w' w'') := HPL
  clear HPL
  go_enter Tryz.func8, Tryz.ntmps8
  go_wp2_with fail
  refine (fixed_any _ hw.bar).mono ?_
  rintro e w1 ⟨rfl, hb1⟩
  go_wp2_with fail
  go_loopw [7, 8] (fun o i w' => ∃ j : Nat, j ≤ n ∧ o = .bool true ∧ i = .int .i64 j ∧ Below w.heap.size w w') (fun _ i _ => n - (RowKit.intOf i).toNat)
  case atStart => exact ⟨0, Nat.zero_le _, rfl, rfl, hb1⟩
  case round =>
    obtain ⟨j, hjn, rfl, rfl, hb⟩ := hrel
    have hwr := hw.below hb
    by_cases hj : j < n
    · obtain ⟨g, off, ⟨kind, S, T, A, B⟩, rfl, hg, hok, hc0, hc1, hc2, hc3, hc4⟩ := hsc j hj
      have d0 := (hb.cell (p := ⟨g, off + j * 5, none⟩) hg).trans hc0
      have d1 := (hb.cell (p := ⟨g, off + j * 5 + 1, none⟩) hg).trans hc1
      have d2 := (hb.cell (p := ⟨g, off + j * 5 + 2, none⟩) hg).trans hc2
      have d3 := (hb.cell (p := ⟨g, off + j * 5 + 3, none⟩) hg).trans hc3
      have d4 := (hb.cell (p := ⟨g, off + j * 5 + 4, none⟩) hg).trans hc4
      simp only at d0 d1 d2 d3 d4
      clear hc0 hc1 hc2 hc3 hc4
      by_cases hlo : lo ≤ kind
      · by_cases hhi : kind ≤ hi
        · have hpl := HP.out ⟨kind, S, T, A, B⟩ hok hlo hhi
          have HPL : Hid (∀ w', TabsQ w' → Calls Tryz.prog 10 #[.agg #[.int .i64 kind, .string S, .string T, .int .i64 A, .int .i64 B]] w' fun e w'' => e = .returned (.bool true) ∧ Below w'.heap.size w' w'') := hpl
          clear hpl
          go_wp2_with fail
          refine (HPL.out _ hwr).mono ?_
          rintro e w2 ⟨rfl, hb2⟩
          have hB2 := hb.trans (hb2.mono hb.size)
          clear hb2 d0 d1 d2 d3 d4
          go_wp2_with fail
          go_roundw
          case rel => exact ⟨j + 1, by omega, rfl, by simp, hB2⟩
          case measure => simp [RowKit.intOf]; omega
        · go_wp2_with fail
          go_roundw
          case rel => exact ⟨j + 1, by omega, rfl, by simp, hb⟩
          case measure => simp [RowKit.intOf]; omega
      · go_wp2_with fail
        go_roundw
        case rel => exact ⟨j + 1, by omega, rfl, by simp, hb⟩
        case measure => simp [RowKit.intOf]; omega
    · go_wp2_with fail
      go_ret
      exact ⟨rfl, hb⟩

end Go.Proofs.YtfakfmmngflbfacGreatDoor

namespace Go.Proofs.YtfakfmmngflbfacGreatDoor
open Go.RowKit Go.Lib

set_option maxHeartbeats 1000000 in
set_option maxRecDepth 100000 in
theorem plays_quote (S T : ByteArray) (A B : Int) (hS : S.size ≤ 2097152) (w : World) (hw : TabsQ w) :
    Calls Tryz.prog 10 #[.agg #[.int .i64 7, .string S, .string T, .int .i64 A, .int .i64 B]] w fun e w' => e = .returned (.bool true) ∧ Below w.heap.size w w' := by
  obtain ⟨n, h1, h2⟩ : ∃ n : ByteArray,
      (∀ w, TabsQ w → Calls Tryz.prog 12 #[.string S] w fun E w' => E = .returned (.string n) ∧ Below w.heap.size w w') ∧
      (∀ w, Calls Tryz.prog 21 #[.string S] w fun E w' => E = .returned (.string n) ∧ Below w.heap.size w w') := ⟨_, fun w hw => quote_any S (by omega) w hw.deb, fun w => refQuote_any S (by omega) w⟩
  have H1 : Hid (∀ w, TabsQ w → Calls Tryz.prog 12 #[.string S] w fun E w' => E = .returned (.string n) ∧ Below w.heap.size w w') := h1
  have H2 : Hid (∀ w, Calls Tryz.prog 21 #[.string S] w fun E w' => E = .returned (.string n) ∧ Below w.heap.size w w') := h2
  clear h1 h2
  have t0 : (n.toList == n.toList) = true := beq_self_eq_true _
  go_enter Tryz.func10, Tryz.ntmps10
  go_wp2_with fail
  have hb0 : Below w.heap.size w (w.alloc (Obj.cells #[.int .i64 7, .string S, .string T, .int .i64 A, .int .i64 B] 27)) := (Below.refl _ _).alloc (Nat.le_refl _) _
  refine (H1.out _ (hw.below hb0)).mono ?_
  rintro e w1 ⟨rfl, hb1⟩
  have hc1 : w1.cell? ⟨w.heap.size, 1, none⟩ = some (.string S) := (hb1.cell (p := ⟨w.heap.size, 1, none⟩) (by simp)).trans (World.cell?_alloc_mark _ _ _ _ _)
  have hB1 : Below w.heap.size w w1 := hb0.trans (hb1.mono (by simp))
  clear hb1 hb0
  go_wp2_with fail
  refine (H2.out _).mono ?_
  rintro e w2 ⟨rfl, hb2⟩
  have hB2 := hB1.trans (hb2.mono hB1.size)
  clear hb2 hB1 hc1
  go_wp2_with fail
  go_ret
  exact ⟨rfl, hB2⟩
set_option maxHeartbeats 1000000 in
set_option maxRecDepth 100000 in
theorem plays_unquote (S T : ByteArray) (A B : Int) (hS : S.size ≤ 2097152) (w : World) (hw : TabsQ w) :
    Calls Tryz.prog 10 #[.agg #[.int .i64 8, .string S, .string T, .int .i64 A, .int .i64 B]] w fun e w' => e = .returned (.bool true) ∧ Below w.heap.size w w' := by
  obtain ⟨x, n, c, h1, h2⟩ : ∃ (x : ByteArray) (n c : Int),
      (∀ w, TabsQ w → Calls Tryz.prog 22 #[.string S] w fun E w' => E = .returned (.tuple #[.string x, .int .i64 n, .int .i64 c]) ∧ Below w.heap.size w w') ∧
      (∀ w, Calls Tryz.prog 23 #[.string S] w fun E w' => E = .returned (.tuple #[.string x, .int .i64 n, .int .i64 c]) ∧ Below w.heap.size w w') := ⟨_, _, _, fun w hw => by have := unquote_any S (by omega) w hw.deb hw.err; rw [unq_alike] at this; exact this, fun w => refUnquote_any S hS w⟩
  have H1 : Hid (∀ w, TabsQ w → Calls Tryz.prog 22 #[.string S] w fun E w' => E = .returned (.tuple #[.string x, .int .i64 n, .int .i64 c]) ∧ Below w.heap.size w w') := h1
  have H2 : Hid (∀ w, Calls Tryz.prog 23 #[.string S] w fun E w' => E = .returned (.tuple #[.string x, .int .i64 n, .int .i64 c]) ∧ Below w.heap.size w w') := h2
  clear h1 h2
  have t0 : (x.toList == x.toList) = true := beq_self_eq_true _
  have t1 : (n == n) = true := by simp
  have t2 : (c == c) = true := by simp
  go_enter Tryz.func10, Tryz.ntmps10
  go_wp2_with fail
  have hb0 : Below w.heap.size w (w.alloc (Obj.cells #[.int .i64 8, .string S, .string T, .int .i64 A, .int .i64 B] 27)) := (Below.refl _ _).alloc (Nat.le_refl _) _
  refine (H1.out _ (hw.below hb0)).mono ?_
  rintro e w1 ⟨rfl, hb1⟩
  have hc1 : w1.cell? ⟨w.heap.size, 1, none⟩ = some (.string S) := (hb1.cell (p := ⟨w.heap.size, 1, none⟩) (by simp)).trans (World.cell?_alloc_mark _ _ _ _ _)
  have hB1 : Below w.heap.size w w1 := hb0.trans (hb1.mono (by simp))
  clear hb1 hb0
  go_wp2_with fail
  refine (H2.out _).mono ?_
  rintro e w2 ⟨rfl, hb2⟩
  have hB2 := hB1.trans (hb2.mono hB1.size)
  clear hb2 hB1 hc1
  go_wp2_with fail
  go_ret
  exact ⟨rfl, hB2⟩
set_option maxHeartbeats 400000 in
theorem quotesLaw_any (a : Option Addr) (n cap : Nat) (hn : n ≤ 2097152) (hcap : n ≤ cap ∧ cap ≤ maxLen) (w : World) (hw : TabsQ w) (hsc : Script w a n smallOp) :
    Calls Tryz.prog 5 #[.slice a n cap] w fun e w' => e = .returned (.bool true) ∧ Below w.heap.size w w' := by
  have HK := kinds_q smallOp 7 8 a n cap hn hcap w hw hsc (fun o ho h1 h2 w' hw' => by
    obtain ⟨kind, S, T, A, B⟩ := o
    obtain ⟨hS, hT, hA, hB⟩ := ho
    simp only at h1 h2 hS hT hA hB
    have : kind = 7 ∨ kind = 8 := by omega
    rcases this with rfl | rfl
    · exact plays_quote S T A B hS w' hw'
    · exact plays_unquote S T A B hS w' hw')
  go_enter Tryz.func5, Tryz.ntmps5
  go_wp2_with fail
  refine HK.mono ?_
  rintro e w1 ⟨rfl, hb1⟩
  clear HK
  go_wp2_with fail
  go_ret
  exact ⟨rfl, hb1⟩
end Go.Proofs.YtfakfmmngflbfacGreatDoor
