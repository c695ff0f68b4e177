import Derived.Test.YtelcjhflopgojaaDoorMkD
import Derived.Deep.QuietTactic
import Derived.BigQuiet
/-! Put, refused. -/
namespace Go.Proofs.YtelcjhflopgojaaDoor
open Go.RowKit Go.Lib
set_option maxRecDepth 100000

def boxM (nm : List UInt8) (lo hi : Int) : Obj := .cells #[.string ⟨nm.toArray⟩, .int .i64 lo, .int .i64 hi] 29
set_option maxHeartbeats 1000000 in
theorem put_title {w : World} {p : Nat} {nm : List UInt8} {lo hi : Int} (hl : nm.length ≤ 9223372036854775807) (hn : nameOk nm = false) :
    Calls Tryd.prog 6 #[.pointer (some ⟨p, 0, none⟩), .agg #[.string ⟨nm.toArray⟩, .int .i64 lo, .int .i64 hi]] w fun e w' => e = .returned (.int .i64 200) ∧ Below w.heap.size w w' := by
  have HN : Hid (∀ w, Calls Tryd.prog 10 #[.string ⟨nm.toArray⟩] w fun e w' => e = .returned (.bool false) ∧ w' = w) := fun w => by
    have := isName_any nm (by omega) w
    rw [hn] at this
    exact this
  have HB : Hid (Below w.heap.size w (w.alloc (.cells #[.string ⟨nm.toArray⟩, .int .i64 lo, .int .i64 hi] 29))) := (Below.refl _ _).alloc (Nat.le_refl _) _
  clear hl hn
  generalize (⟨nm.toArray⟩ : ByteArray) = s at *
  go_enter Tryd.func6, Tryd.ntmps6
  go_wp2_with fail
  refine (HN.out _).mono ?_
  rintro e w1 ⟨rfl, rfl⟩
  go_wp2_with fail
  go_ret
  exact ⟨rfl, HB.out⟩
set_option maxHeartbeats 2000000 in
theorem put_place {w : World} {p b t ck : Nat} {xs : List X} (h : BookAt w p b t xs ck) {nm : List UInt8} {lo hi : Int} (hl : nm.length ≤ 9223372036854775807) (hn : nameOk nm = true) (hp : lo < 0 ∨ hi ≤ lo ∨ (t : Int) < hi) :
    Calls Tryd.prog 6 #[.pointer (some ⟨p, 0, none⟩), .agg #[.string ⟨nm.toArray⟩, .int .i64 lo, .int .i64 hi]] w fun e w' => e = .returned (.int .i64 12) ∧ Below w.heap.size w w' := by
  have HN : Hid (∀ w, Calls Tryd.prog 10 #[.string ⟨nm.toArray⟩] w fun e w' => e = .returned (.bool true) ∧ w' = w) := fun w => by
    have := isName_any nm (by omega) w
    rw [hn] at this
    exact this
  have hb : Below w.heap.size w (w.alloc (.cells #[.string ⟨nm.toArray⟩, .int .i64 lo, .int .i64 hi] 29)) := (Below.refl _ _).alloc (Nat.le_refl _) _
  have HB : Hid (Below w.heap.size w (w.alloc (.cells #[.string ⟨nm.toArray⟩, .int .i64 lo, .int .i64 hi] 29))) := hb
  have hc := ((h.below hb).box)
  obtain ⟨c0, c1⟩ := box2 hc
  clear hl hn hb hc h
  generalize (⟨nm.toArray⟩ : ByteArray) = s at *
  go_enter Tryd.func6, Tryd.ntmps6
  by_cases h1 : lo < 0
  · clear hp
    go_wp2_with fail
    refine (HN.out _).mono ?_
    rintro e w1 ⟨rfl, rfl⟩
    go_wp2_with fail
    go_quiet (fail)
    go_wp2_with fail
    go_ret
    exact ⟨rfl, below_drewN HB.out _⟩
  · have a1 : decide (lo < 0) = false := decide_eq_false h1
    by_cases h2 : hi ≤ lo
    · clear hp
      go_wp2_with fail
      refine (HN.out _).mono ?_
      rintro e w1 ⟨rfl, rfl⟩
      go_wp2_with fail
      go_quiet (fail)
      go_wp2_with fail
      go_ret
      exact ⟨rfl, below_drewN HB.out _⟩
    · have a2 : decide (hi ≤ lo) = false := decide_eq_false h2
      have h3 : (t : Int) < hi := by omega
      clear hp
      go_wp2_with fail
      refine (HN.out _).mono ?_
      rintro e w1 ⟨rfl, rfl⟩
      go_wp2_with fail
      go_quiet (fail)
      go_wp2_with fail
      go_ret
      exact ⟨rfl, below_drewN HB.out _⟩
end Go.Proofs.YtelcjhflopgojaaDoor
