import Derived.Test.YtfakfmmngflbfacGreatDoorRunes
import Derived.Test.YtfakfmmngflbfacGreatDoorFixed
namespace Go.Proofs.YtfakfmmngflbfacGreatDoor
open Go.RowKit Go.Lib

set_option maxHeartbeats 1000000 in
set_option maxRecDepth 100000 in
theorem plays_check (S T : ByteArray) (A B : Int) (hS : S.size ≤ 2097152) (w : World) (hw : Bar w) :
    Calls Tryz.prog 10 #[.agg #[.int .i64 1, .string S, .string T, .int .i64 A, .int .i64 B]] w fun e w' => e = .returned (.bool true) ∧ Below w.heap.size w w' := by
  obtain ⟨n, p, c, hck⟩ : ∃ n p c, check S = (n, p, c) := ⟨_, _, _, rfl⟩
  have HC : Hid (check S = (n, p, c)) := hck
  have HR : Hid (∀ w : World, Calls Tryz.prog 13 #[.string S] w fun e w' => e = .returned (.tuple #[.int .i64 n, .int .i64 p, .int .i64 c]) ∧ Below w.heap.size w w') := fun w => by
    have := refCheck_any S hS w
    rw [hck] at this
    exact this
  clear hck
  have t1 : (n == n) = true := by simp
  have t2 : (p == p) = true := by simp
  have t3 : (c == c) = true := by simp
  go_enter Tryz.func10, Tryz.ntmps10
  go_wp2_with fail
  refine (check_bar (by omega) HC.out _ (hw.alloc _)).mono ?_
  rintro e w1 ⟨rfl, hb1⟩
  have hc1 : w1.cell? ⟨w.heap.size, 1, none⟩ = some (.string S) := (hb1.cell (p := ⟨w.heap.size, 1, none⟩) (by simp)).trans (World.cell?_alloc_mark _ _ _ _ _)
  have hB1 : Below w.heap.size w w1 := ((Below.refl _ _).alloc (Nat.le_refl _) _).trans (hb1.mono (by simp))
  clear hb1
  go_wp2_with fail
  refine (HR.out _).mono ?_
  rintro e w2 ⟨rfl, hb2⟩
  have hB2 := hB1.trans (hb2.mono hB1.size)
  clear hb2 hB1 hc1
  go_wp2_with fail
  go_ret
  exact ⟨rfl, hB2⟩

/-- One call of a script. -/
structure OpR where
  kind : Int
  s : ByteArray
  t : ByteArray
  a : Int
  b : Int
def OpR.val (o : OpR) : Value := .agg #[.int .i64 o.kind, .string o.s, .string o.t, .int .i64 o.a, .int .i64 o.b]
/-- The script in memory. -/
def Script (w : World) (a : Option Addr) (n : Nat) (ok : OpR → Prop) : Prop :=
  ∀ j, j < n → ∃ g off o, a = some ⟨g, off, none⟩ ∧ g < w.heap.size ∧ ok o ∧ w.cell? ⟨g, off + j * 5, none⟩ = some (.int .i64 o.kind) ∧ w.cell? ⟨g, off + j * 5 + 1, none⟩ = some (.string o.s) ∧
    w.cell? ⟨g, off + j * 5 + 2, none⟩ = some (.string o.t) ∧ w.cell? ⟨g, off + j * 5 + 3, none⟩ = some (.int .i64 o.a) ∧ w.cell? ⟨g, off + j * 5 + 4, none⟩ = some (.int .i64 o.b)

set_option maxHeartbeats 2000000 in
set_option maxRecDepth 100000 in
theorem kinds_any (ok : OpR → Prop) (lo hi : Int) (a : Option Addr) (n cap : Nat) (hn : n ≤ 2097152) (hcap : n ≤ cap ∧ cap ≤ maxLen) (w : World) (hw : Bar w) (hsc : Script w a n ok)
    (HPL : ∀ o, ok o → lo ≤ o.kind → o.kind ≤ hi → ∀ w', Bar w' → Calls Tryz.prog 10 #[o.val] w' fun e w'' => e = .returned (.bool true) ∧ Below w'.heap.size w' w'') :
    Calls Tryz.prog 8 #[.slice a n cap, .int .i64 lo, .int .i64 hi] w fun e w' => e = .returned (.bool true) ∧ Below w.heap.size w w' := by
  have _r := hcap
  have HP : Hid (∀ o, ok o → lo ≤ o.kind → o.kind ≤ hi → ∀ w', Bar w' → Calls Tryz.prog 10 #[o.val] w' fun e w'' => e = .returned (.bool true) ∧ Below w'.heap.size w' w'') := HPL
  clear HPL
  go_enter Tryz.func8, Tryz.ntmps8
  go_wp2_with fail
  refine (fixed_any _ hw).mono ?_
  rintro e w1 ⟨rfl, hb1⟩
  go_wp2_with fail
  go_loopw [7, 8] (fun o i w' => ∃ j : Nat, j ≤ n ∧ o = .bool true ∧ i = .int .i64 j ∧ Below w.heap.size w w') (fun _ i _ => n - (RowKit.intOf i).toNat)
  case atStart => exact ⟨0, Nat.zero_le _, rfl, rfl, hb1⟩
  case round =>
    obtain ⟨j, hjn, rfl, rfl, hb⟩ := hrel
    have hwr := hw.below hb
    by_cases hj : j < n
    · obtain ⟨g, off, ⟨kind, S, T, A, B⟩, rfl, hg, hok, hc0, hc1, hc2, hc3, hc4⟩ := hsc j hj
      have d0 := (hb.cell (p := ⟨g, off + j * 5, none⟩) hg).trans hc0
      have d1 := (hb.cell (p := ⟨g, off + j * 5 + 1, none⟩) hg).trans hc1
      have d2 := (hb.cell (p := ⟨g, off + j * 5 + 2, none⟩) hg).trans hc2
      have d3 := (hb.cell (p := ⟨g, off + j * 5 + 3, none⟩) hg).trans hc3
      have d4 := (hb.cell (p := ⟨g, off + j * 5 + 4, none⟩) hg).trans hc4
      simp only at d0 d1 d2 d3 d4
      clear hc0 hc1 hc2 hc3 hc4
      by_cases hlo : lo ≤ kind
      · by_cases hhi : kind ≤ hi
        · have hpl := HP.out ⟨kind, S, T, A, B⟩ hok hlo hhi
          have HPL : Hid (∀ w', Bar w' → Calls Tryz.prog 10 #[.agg #[.int .i64 kind, .string S, .string T, .int .i64 A, .int .i64 B]] w' fun e w'' => e = .returned (.bool true) ∧ Below w'.heap.size w' w'') := hpl
          clear hpl
          go_wp2_with fail
          refine (HPL.out _ hwr).mono ?_
          rintro e w2 ⟨rfl, hb2⟩
          have hB2 := hb.trans (hb2.mono hb.size)
          clear hb2 d0 d1 d2 d3 d4
          go_wp2_with fail
          go_roundw
          case rel => exact ⟨j + 1, by omega, rfl, by simp, hB2⟩
          case measure => simp [RowKit.intOf]; omega
        · go_wp2_with fail
          go_roundw
          case rel => exact ⟨j + 1, by omega, rfl, by simp, hb⟩
          case measure => simp [RowKit.intOf]; omega
      · go_wp2_with fail
        go_roundw
        case rel => exact ⟨j + 1, by omega, rfl, by simp, hb⟩
        case measure => simp [RowKit.intOf]; omega
    · go_wp2_with fail
      go_ret
      exact ⟨rfl, hb⟩

/-- a script whose strings are of that size -/
def smallOp (o : OpR) : Prop := o.s.size ≤ 2097152 ∧ o.t.size ≤ 2097152 ∧ (-9223372036854775808 ≤ o.a ∧ o.a ≤ 9223372036854775807) ∧ (-9223372036854775808 ≤ o.b ∧ o.b ≤ 9223372036854775807)
end Go.Proofs.YtfakfmmngflbfacGreatDoor
