import Derived.Test.YtffkncohliollaaGreatDoorRyA
import Derived.Test.YtffkncohliollaaGreatDoorSpYM
import Derived.Test.YtffkncohliollaaGreatDoorSpHW
import Derived.Test.YtffkncohliollaaGreatDoorRtLB
import Derived.Test.YtffkncohliollaaGreatDoorRuEF
/-! Two ropes in one world; span's Make, Union, Meet, Through as lists of the rope. -/
namespace Go.Proofs.YtffkncohliollaaGreatDoor
open Go.RowKit Go.Lib
set_option maxRecDepth 100000

theorem Holds.other {w2 : World} {q q2 : Nat} {R R2 : List (Int × Int)} {W W' : World} (h2 : Holds w2 q2 R2 W) (h : Holds w2 q R W) (hne : q2 ≠ q) (hq : w2.heap.size ≤ q) (hu : Upd q W W') : Holds w2 q2 R2 W' := by
  obtain ⟨t, k1, _, _, k4⟩ := h
  obtain ⟨t2, j1, j2, j3, j4⟩ := h2
  exact ⟨t2, j1.upd k1 hne hu, j2, j3, Upd.below j4 hu hq j4.size⟩
theorem Rw.past {w2 : World} {q : Nat} {R R2 : List (Int × Int)} {W W' : World} {a : Option Addr} {n cap : Nat} (h2 : Rw cellV 2 W a n cap R2) (h : Holds w2 q R W) (hu : Upd q W W') : Rw cellV 2 W' a n cap R2 := by
  obtain ⟨t, k1, _⟩ := h
  exact Rw.upd num_cell h2 k1 hu
section
variable {w : World} {a b : Option Addr} {n m cap capb N : Nat} {l k : List (Int × Int)}
theorem make_of (h : Rw pieceV 2 w a n cap l) (hl : Laid N l) (hn : n ≤ 24) (hN : N ≤ 31000) :
    Calls Tryz.prog 7 #[.slice a n cap] w fun e w' => ∃ a' c' U, e = .returned (.tuple #[.slice a' U.length c', .int .i64 0]) ∧ Rw pieceV 2 w' a' U.length c' U ∧ Of N U ∧ Below w.heap.size w w' := by
  refine (Sp.make_any h.rng (by omega)).mono fun e w' ⟨hb, hc⟩ => ?_
  rcases hc with ⟨hno, _⟩ | ⟨_, U, a', c', hU, hL, _, he, ho⟩
  · exact absurd (fun r hr => by have := hl r hr; omega) hno
  · refine ⟨a', c', U, he, own_rw ho, of_lies hU fun q hq => ?_, hb⟩
    obtain ⟨r, hr, h1, h2⟩ := (hL q).1 hq
    have := hl r hr
    omega
theorem union_of (h : Rw pieceV 2 w a n cap l) (hk : Rw pieceV 2 w b m capb k) (hl : Of N l) (hkl : Of N k) (hN : N ≤ 31000) :
    Calls Tryz.prog 9 #[.slice a n cap, .slice b m capb] w fun e w' => ∃ a' c' U, e = .returned (.tuple #[.slice a' U.length c', .int .i64 0]) ∧ Rw pieceV 2 w' a' U.length c' U ∧ Of N U ∧ (∀ q, inL U q = (inL l q || inL k q)) ∧ Below w.heap.size w w' := by
  refine (Sp.union_ok h.rng hk.rng (hl.lst hN) (hkl.lst hN)).mono fun e w' ⟨U, hU, hL, hA, hb⟩ => ?_
  have hO : Of N U := of_lies hU fun q hq => by
    rcases (hL q).1 hq with h | h
    · exact (hl.lt h).2
    · exact (hkl.lt h).2
  rcases hA with ⟨hbig, _⟩ | ⟨_, a', c', he, ho⟩
  · have := hO.few; omega
  · exact ⟨a', c', U, he, own_rw ho, hO, inL_or hL, hb⟩
theorem meet_of (h : Rw pieceV 2 w a n cap l) (hk : Rw pieceV 2 w b m capb k) (hl : Of N l) (hkl : Of N k) (hN : N ≤ 31000) :
    Calls Tryz.prog 10 #[.slice a n cap, .slice b m capb] w fun e w' => ∃ a' c' U, e = .returned (.tuple #[.slice a' U.length c', .int .i64 0]) ∧ Rw pieceV 2 w' a' U.length c' U ∧ Of N U ∧ (∀ q, inL U q = (inL l q && inL k q)) ∧ Below w.heap.size w w' := by
  refine (Sp.meet_ok h.rng hk.rng (hl.lst hN) (hkl.lst hN)).mono fun e w' ⟨U, hU, hL, hA, hb⟩ => ?_
  have hO : Of N U := of_lies hU fun q hq => (hl.lt ((hL q).1 hq).1).2
  rcases hA with ⟨hbig, _⟩ | ⟨_, a', c', he, ho⟩
  · have := hO.few; omega
  · exact ⟨a', c', U, he, own_rw ho, hO, inL_and hL, hb⟩
end
/-- One more on counters keeps them within bounds. -/
theorem cntUp {M : Int} {R : List (Int × Int)} (h : Cnt M R) (l : List (Int × Int)) : Cnt (M + 1) (bmp l 1 0 R) := fun c hc => by
  obtain ⟨x, hx, e⟩ := bmp_mem hc
  have := h x hx
  rcases e with rfl | rfl
  · omega
  · simp only; omega
theorem okUp1 {R : List (Int × Int)} (h : ∀ c ∈ R, okR c.1) (l : List (Int × Int)) : ∀ c ∈ bmp l 1 0 R, okR c.1 := fun c hc => by
  obtain ⟨x, hx, e⟩ := bmp_mem hc
  rcases e with rfl | rfl
  · exact h _ hx
  · exact h x hx
theorem Holds.one {w2 : World} {q : Nat} {R : List (Int × Int)} {W : World} (h : Holds w2 q R W) (hq : w2.heap.size ≤ q) {a : Option Addr} {cap N : Nat} {l : List (Int × Int)} (hl : Rw pieceV 2 W a l.length cap l) (ho : Of N l) (hN : N ≤ 31000) (hR : R.length = N) {M : Int} (hc : Cnt M R) (hM : M ≤ 1000) :
    Calls Tryz.prog 13 #[.pointer (some ⟨q, 0, none⟩), .slice a l.length cap, .int .i64 1] W fun e W' => e = .returned (.int .i64 0) ∧ Holds w2 q (bmp l 1 0 R) W' ∧ Upd q W W' := by
  have hf := ho.few
  exact h.bumpU hq hl (by omega) (srt_norm ho.norm) (by rw [hR]; exact ho.within) 1 (.inl rfl) (fun c hcm => by have := cntUp hc l c hcm; omega)
/-- The statement's own bumped. -/
theorem ownBumped {w : World} {a b : Option Addr} {cap capb N : Nat} {R l : List (Int × Int)} (h : Rw cellV 2 w a R.length cap R) (hl : Rw pieceV 2 w b l.length capb l) (ho : Of N l) (hN : N ≤ 31000) (hR : R.length = N) {M : Int} (hc : Cnt M R) (hM : M ≤ 1000) :
    Calls Tryz.prog 12 #[.slice a R.length cap, .slice b l.length capb, .int .i64 1] w fun e w' => ∃ a' c', e = .returned (.slice a' (bmp l 1 0 R).length c') ∧ Rw cellV 2 w' a' (bmp l 1 0 R).length c' (bmp l 1 0 R) ∧ Below w.heap.size w w' := by
  have hf := ho.few
  have hs := srt_norm ho.norm
  have := lawBumped_any h (by omega) hl (by omega) (fun r hr => ⟨(ho.within r hr).1, by have := hs.some_ r hr; omega, by rw [hR]; exact (ho.within r hr).2⟩) 1 (by omega) (by omega) (fun c hcm => by have := hc c hcm; omega)
  rw [upAll_bmp l 1 R hs fun x hx => (ho.within x hx).1] at this
  refine this.mono fun e w' ⟨v, he, hw, hb⟩ => ?_
  obtain ⟨a', c', rfl⟩ := hw.shape
  exact ⟨a', c', he, hw.rw_ layC, hb⟩
end Go.Proofs.YtffkncohliollaaGreatDoor
