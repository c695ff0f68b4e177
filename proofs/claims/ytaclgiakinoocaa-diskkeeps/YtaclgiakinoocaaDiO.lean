import Derived.Test.YtaclgiakinoocaaDiN
/-! DiskKeeps. -/
namespace Go.Proofs.Ytaclgiakinoocaa
open Go.RowKit Go.Lib Go.Sort Go.Shelf
set_option maxRecDepth 100000

set_option maxHeartbeats 4000000 in
theorem diskKeeps_bad {w : World} (L : Int) (hL : L < 0 ∨ 1099511627776 < L) (fa : Option Addr) (fl fc : Nat) (oa : Option Addr) (on oc : Nat) :
    Calls Try.prog 5 #[.agg #[.int .i64 L, .slice fa fl fc, .slice oa on oc]] w fun e w' => e = .returned (.bool true) ∧ Below w.heap.size w w' := by
  have HNU : Hid (∀ x w, Calls Try.prog 8 #[.int .i64 x] w fun e w' => e = .returned (.int .i64 x) ∧ w' = w) := num_any
  have HNW : Hid (∀ w, Calls Try.prog 7 #[.int .i64 L] w fun e w' => e = .returned (.tuple #[.pointer none, .int .i64 12]) ∧ w' = w) := new_bad L hL
  have hb0 : Below w.heap.size w (w.alloc (.cells #[.int .i64 L, .slice fa fl fc, .slice oa on oc] 45)) := (Below.refl _ _).alloc (Nat.le_refl _) _
  have HB0 : Hid (Below w.heap.size w (w.alloc (.cells #[.int .i64 L, .slice fa fl fc, .slice oa on oc] 45))) := hb0
  clear hb0
  by_cases h1 : L < 0
  · clear hL
    go_enter Try.func5, Try.ntmps5
    go_wp2_with fail
    refine (HNW.out _).mono ?_
    rintro e w1 ⟨rfl, rfl⟩
    go_wp2_with fail
    refine (HNU.out _ _).mono ?_
    rintro e wz ⟨rfl, hz⟩
    rw [hz]
    clear hz wz
    go_wp2_with fail
    refine (awake_any _).mono ?_
    rintro e w2 ⟨rfl, hb2⟩
    have HB2 : Hid (Below w.heap.size w w2) := HB0.out.trans (hb2.mono HB0.out.size)
    clear hb2
    go_wp2_with fail
    go_ret
    exact ⟨rfl, HB2.out⟩
  · have h2 : (1099511627776 : Int) < L := by omega
    clear hL
    go_enter Try.func5, Try.ntmps5
    go_wp2_with fail
    refine (HNW.out _).mono ?_
    rintro e w1 ⟨rfl, rfl⟩
    go_wp2_with fail
    refine (HNU.out _ _).mono ?_
    rintro e wz ⟨rfl, hz⟩
    rw [hz]
    clear hz wz
    go_wp2_with fail
    refine (awake_any _).mono ?_
    rintro e w2 ⟨rfl, hb2⟩
    have HB2 : Hid (Below w.heap.size w w2) := HB0.out.trans (hb2.mono HB0.out.size)
    clear hb2
    go_wp2_with fail
    go_ret
    exact ⟨rfl, HB2.out⟩
theorem ks_start {B : Nat} {W0 W : World} {p : Nat} {S : Dk} (hB : B ≤ W0.heap.size) (h : DS B W0 W p S) (hs : S.fs = []) : KS B W0 (W.alloc (.cells #[.slice none 0 0] 62)) p W.heap.size S S.fs := by
  obtain ⟨b, xs, ck, h1, h2, h3⟩ := h
  have hb : Below W.heap.size W (W.alloc (.cells #[.slice none 0 0] 62)) := (Below.refl _ _).alloc (Nat.le_refl _) _
  have hk : BkAt (W.alloc (.cells #[.slice none 0 0] 62)) W.heap.size B (.slice none 0 0) [] := ⟨(MapKept.heap_alloc W _).1, ownF_nil _ _, fun x hx => (by simp at hx), Nat.le_trans hB h3.size⟩
  refine ⟨⟨b, xs, ck, .slice none 0 0, [], h1.below hb, hk, fun g hg hq => ?_, h2, by rw [hs]; exact List.Perm.nil⟩, h3.trans (hb.mono (Nat.le_trans hB h3.size))⟩
  rcases hq with e | e | ⟨x, hx, _⟩
  · have := h1.lt hg
    omega
  · simp [Value.ownBlock] at e
  · simp at hx
end Go.Proofs.Ytaclgiakinoocaa
