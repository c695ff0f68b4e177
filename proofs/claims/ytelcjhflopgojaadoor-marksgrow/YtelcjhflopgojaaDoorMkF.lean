import Derived.Test.YtelcjhflopgojaaDoorMkE
/-! Put of a name that is there. -/
namespace Go.Proofs.YtelcjhflopgojaaDoor
open Go.RowKit Go.Lib
set_option maxRecDepth 100000

set_option maxHeartbeats 2000000 in
theorem put_there {w : World} {p b t ck : Nat} {l r : List X} {x : X} (h : BookAt w p b t (l ++ x :: r) ck) {nm : List UInt8} {lo hi : Int} (hl : nm.length ≤ 9223372036854775807) (hn : nameOk nm = true) (hp : ¬ lo < 0 ∧ ¬ hi ≤ lo ∧ ¬ (t : Int) < hi) (hx : x.nm = nm) (hy : ∀ y ∈ l, y.nm ≠ nm) :
    Calls Tryd.prog 6 #[.pointer (some ⟨p, 0, none⟩), .agg #[.string ⟨nm.toArray⟩, .int .i64 lo, .int .i64 hi]] w fun e w' => e = .returned (.int .i64 201) ∧ Below w.heap.size w w' := by
  have HN : Hid (∀ w, Calls Tryd.prog 10 #[.string ⟨nm.toArray⟩] w fun e w' => e = .returned (.bool true) ∧ w' = w) := fun w => by
    have := isName_any nm (by omega) w
    rw [hn] at this
    exact this
  have hb : Below w.heap.size w (w.alloc (.cells #[.string ⟨nm.toArray⟩, .int .i64 lo, .int .i64 hi] 29)) := (Below.refl _ _).alloc (Nat.le_refl _) _
  have HB : Hid (Below w.heap.size w (w.alloc (.cells #[.string ⟨nm.toArray⟩, .int .i64 lo, .int .i64 hi] 29))) := hb
  have hc := ((h.below hb).box)
  have hk : ∀ k, (Instr.lookup 45 (.map (some b)) (.string ⟨nm.toArray⟩) false).run Tryd.prog ((w.alloc (.cells #[.string ⟨nm.toArray⟩, .int .i64 lo, .int .i64 hi] 29)).drewN k) = .ok (.pointer (some ⟨x.q, 0, none⟩)) ((w.alloc (.cells #[.string ⟨nm.toArray⟩, .int .i64 lo, .int .i64 hi] 29)).drewN k) := fun k => look_hit (h.below (below_drewN hb k)).map hx hy
  obtain ⟨c0, c1⟩ := box2 hc
  obtain ⟨h1, h2, h3⟩ := hp
  have a1 : decide (lo < 0) = false := decide_eq_false h1
  have a2 : decide (hi ≤ lo) = false := decide_eq_false h2
  clear hl hn hb hc h hx hy
  generalize (⟨nm.toArray⟩ : ByteArray) = s at *
  go_enter Tryd.func6, Tryd.ntmps6
  go_wp2_with fail
  refine (HN.out _).mono ?_
  rintro e w1 ⟨rfl, rfl⟩
  go_wp2_with fail
  go_quiet (fail)
  go_wp2_with fail
  go_quiet (fail)
  go_wp2_with fail
  go_ret
  exact ⟨rfl, below_drewN (below_drewN HB.out _) _⟩
set_option maxHeartbeats 2000000 in
theorem put_full {w : World} {p b t ck : Nat} {xs : List X} (h : BookAt w p b t xs ck) {nm : List UInt8} {lo hi : Int} (hl : nm.length ≤ 9223372036854775807) (hn : nameOk nm = true) (hp : ¬ lo < 0 ∧ ¬ hi ≤ lo ∧ ¬ (t : Int) < hi) (hx : ∀ x ∈ xs, x.nm ≠ nm) (hf : 256 ≤ xs.length) :
    Calls Tryd.prog 6 #[.pointer (some ⟨p, 0, none⟩), .agg #[.string ⟨nm.toArray⟩, .int .i64 lo, .int .i64 hi]] w fun e w' => e = .returned (.int .i64 202) ∧ Below w.heap.size w w' := by
  have HN : Hid (∀ w, Calls Tryd.prog 10 #[.string ⟨nm.toArray⟩] w fun e w' => e = .returned (.bool true) ∧ w' = w) := fun w => by
    have := isName_any nm (by omega) w
    rw [hn] at this
    exact this
  have hb : Below w.heap.size w (w.alloc (.cells #[.string ⟨nm.toArray⟩, .int .i64 lo, .int .i64 hi] 29)) := (Below.refl _ _).alloc (Nat.le_refl _) _
  have HB : Hid (Below w.heap.size w (w.alloc (.cells #[.string ⟨nm.toArray⟩, .int .i64 lo, .int .i64 hi] 29))) := hb
  have hc := ((h.below hb).box)
  have hk : ∀ k, (Instr.lookup 45 (.map (some b)) (.string ⟨nm.toArray⟩) false).run Tryd.prog ((w.alloc (.cells #[.string ⟨nm.toArray⟩, .int .i64 lo, .int .i64 hi] 29)).drewN k) = .ok (.pointer none) ((w.alloc (.cells #[.string ⟨nm.toArray⟩, .int .i64 lo, .int .i64 hi] 29)).drewN k) := fun k => look_miss (h.below (below_drewN hb k)).map hx
  have hln : ∀ j ty, (Builtin.len_ #[45] ty #[.map (some b)]).run Tryd.prog ((w.alloc (.cells #[.string ⟨nm.toArray⟩, .int .i64 lo, .int .i64 hi] 29)).drewN j) = .ok (.int .i64 (xs.length : Int)) ((w.alloc (.cells #[.string ⟨nm.toArray⟩, .int .i64 lo, .int .i64 hi] 29)).drewN j) := fun j => len_map (h.below (below_drewN hb j)).map
  have hf2 : ¬ ((xs.length : Int) < 256) := by omega
  obtain ⟨c0, c1⟩ := box2 hc
  obtain ⟨h1, h2, h3⟩ := hp
  have a1 : decide (lo < 0) = false := decide_eq_false h1
  have a2 : decide (hi ≤ lo) = false := decide_eq_false h2
  clear hl hn hb hc h hx hf
  generalize (⟨nm.toArray⟩ : ByteArray) = s at *
  go_enter Tryd.func6, Tryd.ntmps6
  go_wp2_with fail
  refine (HN.out _).mono ?_
  rintro e w1 ⟨rfl, rfl⟩
  go_wp2_with fail
  go_quiet (fail)
  go_wp2_with fail
  go_quiet (fail)
  go_wp2_with fail
  go_ret
  exact ⟨rfl, by first | exact below_drewN HB.out _ | exact below_drewN (below_drewN HB.out _) _⟩
end Go.Proofs.YtelcjhflopgojaaDoor
