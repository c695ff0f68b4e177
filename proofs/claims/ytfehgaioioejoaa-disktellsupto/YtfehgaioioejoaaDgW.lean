import Derived.Test.YtfehgaioioejoaaDgUV
import Derived.Test.YtfehgaioioejoaaDfG
/-! made: a disk of the program's and one of the reference's. -/
namespace Go.Proofs.Ytfehgaioioejoaa
open Go.RowKit Go.Lib
set_option maxRecDepth 100000

/-- A disk and the reference's, side by side. -/
structure PR (B : Nat) (W0 W : World) (p r : Nat) (S T : Dk) : Prop where
  both : ∃ b xs ck K a c rs, DiskAt W p b S xs ck ∧ RefAt W r T K a c rs ∧ (∀ g, Blk p b xs g → ¬ RB r a rs g) ∧ (∀ g, Blk p b xs g → B ≤ g) ∧ (∀ g, RB r a rs g → B ≤ g)
  below : Below B W0 W
  pm : Pm S T
  str : StrF T.fs
theorem PR.grow {B : Nat} {W0 W W' : World} {p r : Nat} {S T : Dk} (h : PR B W0 W p r S T) (hB : B ≤ W0.heap.size) (hb : Below W.heap.size W W') : PR B W0 W' p r S T := by
  obtain ⟨b, xs, ck, K, a, c, rs, h1, h2, h3, h4, h5⟩ := h.both
  have := h.below.size
  exact ⟨⟨b, xs, ck, K, a, c, rs, h1.below hb, h2.below hb, h3, h4, h5⟩, h.below.trans (hb.mono (by omega)), h.pm, h.str⟩
/-- What made answers. -/
def MadeP (w : World) (e : Ending) (w' : World) : Prop := (e = .returned (.tuple #[.pointer none, .pointer none, .bool true]) ∧ Below w.heap.size w w') ∨ ∃ p r S T, e = .returned (.tuple #[.pointer (some ⟨p, 0, none⟩), .pointer (some ⟨r, 0, none⟩), .bool true]) ∧ PR w.heap.size w w' p r S T ∧ Inv S 1048576 ∧ Inv T 1048576
set_option maxHeartbeats 2000000 in
theorem made_new {w : World} (L : Int) (fa : Option Addr) (fc : Nat) (oa : Option Addr) (on oc : Nat) :
    Calls Try.prog 41 #[.agg #[.int .i64 L, .slice fa 0 fc, .slice oa on oc]] w fun e w' => MadeP w e w' := by
  have HNU : Hid (∀ x w, Calls Try.prog 10 #[.int .i64 x] w fun e w' => e = .returned (.int .i64 x) ∧ w' = w) := num_any
  obtain ⟨W0, hW0⟩ : ∃ W0, w.alloc (.cells #[.int .i64 L, .slice fa 0 fc, .slice oa on oc] 25) = W0 := ⟨_, rfl⟩
  have hs0 : W0.heap.size = w.heap.size + 1 := by rw [← hW0, World.size_alloc]
  have hb0 : Below w.heap.size w W0 := by rw [← hW0]; exact (Below.refl _ _).alloc (Nat.le_refl _) _
  have hq0 : W0.heap[w.heap.size]? = some (.cells #[.int .i64 L, .slice fa 0 fc, .slice oa on oc] 25) := by rw [← hW0]; exact (MapKept.heap_alloc w _).1
  obtain ⟨s0, s1, s2⟩ := box3 hq0
  by_cases hL : L < 0 ∨ 1099511627776 < L
  · have HNW : Hid (∀ w, Calls Try.prog 9 #[.int .i64 L] w fun e w' => e = .returned (.tuple #[.pointer none, .int .i64 12]) ∧ w' = w) := new_bad L hL
    have HRW : Hid (∀ w, Calls Try.prog 59 #[.int .i64 L] w fun e w' => e = .returned (.tuple #[.pointer none, .int .i64 12]) ∧ w' = w) := rNew_bad L hL
    have HB : Hid (Below w.heap.size w W0) := hb0
    clear hL hb0 hq0 hs0
    go_enter Try.func41, Try.ntmps41
    go_wp2_with fail
    refine (HNW.out _).mono ?_
    rintro e wz ⟨rfl, hz⟩
    rw [hz]
    clear hz wz
    go_wp2_with fail
    refine (HRW.out _).mono ?_
    rintro e wz ⟨rfl, hz⟩
    rw [hz]
    clear hz wz
    go_wp2_with fail
    refine (HNU.out _ _).mono ?_
    rintro e wz ⟨rfl, hz⟩
    rw [hz]
    clear hz wz
    go_wp2_with fail
    go_ret3
    exact .inl ⟨rfl, HB.out⟩
  · obtain ⟨l0, rfl⟩ : ∃ m : Nat, L = (m : Int) := ⟨L.toNat, by omega⟩
    have HL0 : Hid (l0 ≤ 1099511627776) := by show l0 ≤ _; omega
    have HQ : Hid (W0.heap[w.heap.size]? = some (.cells #[.int .i64 (l0 : Int), .slice fa 0 fc, .slice oa on oc] 25) ∧ Below w.heap.size w W0 ∧ W0.heap.size = w.heap.size + 1) := ⟨hq0, hb0, hs0⟩
    clear hL hb0 hq0 hs0
    go_enter Try.func41, Try.ntmps41
    go_wp2_with fail
    refine (diskNew_any l0 HL0.out _).mono ?_
    rintro e w1 ⟨rfl, hD, hb1⟩
    obtain ⟨p, hp⟩ : ∃ p, W0.heap.size + 1 = p := ⟨_, rfl⟩
    rw [hp] at hD ⊢
    have H1 : Hid (DiskAt w1 p W0.heap.size ⟨l0, [], false, 0, 0⟩ [] 0 ∧ Below W0.heap.size W0 w1 ∧ W0.heap.size + 1 = p) := ⟨hD, hb1, hp⟩
    obtain ⟨q0, q1, q2⟩ := box3 ((hb1.block _ (by have := HQ.out.2.2; omega)).trans HQ.out.1)
    clear hD hb1 hp
    go_wp2_with fail
    refine (rNew l0 HL0.out _).mono ?_
    rintro e w2 ⟨rfl, hR, hb2⟩
    obtain ⟨r, hr⟩ : ∃ r, w1.heap.size = r := ⟨_, rfl⟩
    have H2 : Hid (PR w.heap.size w w2 p w1.heap.size ⟨l0, [], false, 0, 0⟩ ⟨l0, [], false, 0, 0⟩) := by
      have hsz := H1.out.2.1.size
      have hs0 := HQ.out.2.2
      have hblk : ∀ g, Blk p W0.heap.size [] g → W0.heap.size ≤ g ∧ g < w1.heap.size := fun g hg => by
        have h1 := H1.out.1.lt hg
        rcases hg with h | h | ⟨x, hx, _⟩
        · have := H1.out.2.2; omega
        · omega
        · simp at hx
      have hrb : ∀ g, RB w1.heap.size none [] g → g = w1.heap.size := fun g hg => by
        rcases hg with h | ⟨q, h, _⟩ | ⟨x, h, _⟩
        · exact h
        · cases h
        · cases h
      refine ⟨⟨W0.heap.size, [], 0, 0, none, 0, [], H1.out.1.below hb2, hR, fun g hg hq => ?_, fun g hg => ?_, fun g hg => ?_⟩, (HQ.out.2.1.trans (H1.out.2.1.mono HQ.out.2.1.size)).trans (hb2.mono (by omega)), ⟨rfl, rfl, rfl, rfl, List.Perm.refl _⟩, List.Pairwise.nil⟩
      · have := hblk g hg; have := hrb g hq; omega
      · have := hblk g hg; omega
      · have := hrb g hg; omega
    rw [hr] at H2 ⊢
    clear hR hb2 hr H1
    go_wp2_with fail
    refine (HNU.out _ _).mono ?_
    rintro e wz ⟨rfl, hz⟩
    rw [hz]
    clear hz wz
    go_wp2_with fail
    go_ret3
    exact .inr ⟨p, r, _, _, rfl, H2.out, ⟨⟨HL0.out, by simp [used], by simp, by simp⟩, by simp, by simp⟩, ⟨⟨HL0.out, by simp [used], by simp, by simp⟩, by simp, by simp⟩⟩
end Go.Proofs.Ytfehgaioioejoaa
