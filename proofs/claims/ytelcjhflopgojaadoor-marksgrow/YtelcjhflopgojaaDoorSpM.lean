import Derived.Test.YtelcjhflopgojaaDoorSpP
import Derived.Test.YtelcjhflopgojaaDoorProg
import Derived.WalkKit
import Derived.WalkSpells
import Derived.WalkLawsBesides
import Derived.Lib.OthersKept
import Derived.Laws.OwnMore
import Derived.Laws.CopyOwn
import Derived.Maps.AppendAt
namespace Go.Proofs.YtelcjhflopgojaaDoor.Sp
open Go.RowKit Go.Lib
set_option maxRecDepth 100000

/-- The cells of a row of ranges. -/
def flat (l : List (Int × Int)) : List Value := l.flatMap fun r => [.int .i64 r.1, .int .i64 r.2]
theorem flat_length (l : List (Int × Int)) : (flat l).length = l.length * 2 := by
  induction l with
  | nil => rfl
  | cons r t ih => simp only [flat, List.flatMap_cons, List.length_append, List.length_cons, List.length_nil] at ih ⊢; omega
theorem flat_append (l k : List (Int × Int)) : flat (l ++ k) = flat l ++ flat k := by simp [flat]
theorem flat_even (l : List (Int × Int)) (j : Nat) (hj : j < l.length) : (flat l)[j * 2]? = some (.int .i64 (l.getD j (0, 0)).1) ∧ (flat l)[j * 2 + 1]? = some (.int .i64 (l.getD j (0, 0)).2) := by
  induction l generalizing j with
  | nil => simp at hj
  | cons r t ih =>
    cases j with
    | zero => simp [flat]
    | succ j =>
      have := ih j (by simpa using hj)
      have e1 : (j + 1) * 2 = j * 2 + 1 + 1 := by omega
      rw [e1]
      simpa [flat] using this
theorem flat_one (l : List (Int × Int)) : ∀ u ∈ flat l, u.oneCell' = true := by
  intro u hu
  simp only [flat, List.mem_flatMap] at hu
  obtain ⟨r, _, hu⟩ := hu
  simp only [List.mem_cons, List.not_mem_nil, or_false] at hu
  rcases hu with rfl | rfl <;> rfl

/-- A slice of ranges in the world that reads as l. -/
structure Rng (w : World) (a : Option Addr) (n cap : Nat) (l : List (Int × Int)) : Prop where
  len : l.length = n
  room : n ≤ cap ∧ cap ≤ maxLen
  cells : ∀ j, j < n → ∃ g off, a = some ⟨g, off, none⟩ ∧ g < w.heap.size ∧ w.cell? ⟨g, off + j * 2, none⟩ = some (.int .i64 (l.getD j (0, 0)).1) ∧ w.cell? ⟨g, off + j * 2 + 1, none⟩ = some (.int .i64 (l.getD j (0, 0)).2)
/-- Its blocks lie below B. -/
def Under (B : Nat) (a : Option Addr) (n : Nat) : Prop := 0 < n → ∀ g off, a = some ⟨g, off, none⟩ → g < B
theorem Rng.belowB {B : Nat} {w w' : World} {a : Option Addr} {n cap : Nat} {l : List (Int × Int)} (h : Rng w a n cap l) (hu : Under B a n) (hb : Below B w w') : Rng w' a n cap l :=
  ⟨h.len, h.room, fun j hj => by
    obtain ⟨g, off, ha, hg, hc, hd⟩ := h.cells j hj
    have hlt := hu (by omega) g off ha
    exact ⟨g, off, ha, by have := hb.size; omega, (hb.cell (p := ⟨g, off + j * 2, none⟩) hlt).trans hc, (hb.cell (p := ⟨g, off + j * 2 + 1, none⟩) hlt).trans hd⟩⟩
theorem Rng.under {w : World} {a : Option Addr} {n cap : Nat} {l : List (Int × Int)} (h : Rng w a n cap l) : Under w.heap.size a n := fun hn g off ha => by
  obtain ⟨g', off', ha', hg, _⟩ := h.cells 0 hn
  rw [ha] at ha'
  cases ha'
  exact hg
theorem Under.mono {B C : Nat} {a : Option Addr} {n : Nat} (h : Under B a n) (hC : B ≤ C) : Under C a n := fun hn g off ha => by have := h hn g off ha; omega
theorem Rng.below {w w' : World} {a : Option Addr} {n cap : Nat} {l : List (Int × Int)} (h : Rng w a n cap l) (hb : Below w.heap.size w w') : Rng w' a n cap l := h.belowB h.under hb
theorem rng_nil (w : World) : Rng w none 0 0 [] := ⟨rfl, ⟨Nat.le_refl _, Nat.zero_le _⟩, fun _ hj => absurd hj (Nat.not_lt_zero _)⟩

/-- A row of one's own, at or beyond B. -/
def Own (w : World) (B : Nat) (v : Value) (l : List (Int × Int)) : Prop := w.ownsRow B 43 2 v l.length (flat l)
theorem own_nil (w : World) (B : Nat) : Own w B (.slice none 0 0) [] := World.ownsRow_nil w B _ _
theorem Own.shape {w : World} {B : Nat} {v : Value} {l : List (Int × Int)} (h : Own w B v l) : ∃ a cap, v = .slice a l.length cap := by
  rcases h.2 with ⟨e, h0⟩ | ⟨g, cap, cur, e, _⟩
  · exact ⟨none, 0, by rw [e, h0]⟩
  · exact ⟨_, _, e⟩
theorem Own.below {w w' : World} {B : Nat} {v : Value} {l : List (Int × Int)} (h : Own w B v l) (hb : Below w.heap.size w w') : Own w' B v l := by
  refine ⟨h.1, ?_⟩
  rcases h.2 with h0 | ⟨g, cap, cur, e, h1, hh, rest⟩
  · exact .inl h0
  · exact .inr ⟨g, cap, cur, e, h1, (hb.block g (Array.getElem?_eq_some_iff.1 hh).1).trans hh, rest⟩
theorem Own.mono {w : World} {B C : Nat} {v : Value} {l : List (Int × Int)} (h : Own w B v l) (hC : C ≤ B) : Own w C v l := by
  refine ⟨h.1, ?_⟩
  rcases h.2 with h0 | ⟨g, cap, cur, e, h1, rest⟩
  · exact .inl h0
  · exact .inr ⟨g, cap, cur, e, by omega, rest⟩
theorem Own.rng {w : World} {B n cap : Nat} {a : Option Addr} {l : List (Int × Int)} (h : Own w B (.slice a n cap) l) : Rng w a n cap l := by
  rcases h.2 with ⟨e, h0⟩ | ⟨g, cap', cur, e, _, hh, hn, hm, hsz, htk⟩
  · simp only [Value.slice.injEq] at e
    obtain ⟨rfl, rfl, rfl⟩ := e
    exact ⟨h0, ⟨Nat.le_refl _, Nat.zero_le _⟩, fun j hj => by omega⟩
  · simp only [Value.slice.injEq] at e
    obtain ⟨rfl, rfl, rfl⟩ := e
    refine ⟨rfl, ⟨hn, hm⟩, fun j hj => ⟨g, 0, rfl, (Array.getElem?_eq_some_iff.1 hh).1, ?_⟩⟩
    simp only [Nat.zero_add]
    have key : ∀ i, i < l.length * 2 → cur[i]? = (flat l)[i]? := fun i hi => by
      have e1 : cur.toList[i]? = (flat l)[i]? := by rw [← htk, List.getElem?_take, if_pos hi]
      simpa only [Array.getElem?_toList] using e1
    have := flat_even l j hj
    simp only [World.cell?, hh]
    exact ⟨(key _ (by omega)).trans this.1, (key _ (by omega)).trans this.2⟩
theorem below_grown {B : Nat} {w w' : World} {row : Option Nat} (hg : w.grownBy w' row) (hrow : ∀ k, row = some k → B ≤ k) (hB : B ≤ w.heap.size) : Below B w w' :=
  (Below.refl B w).grown hg hB hrow
/-- The cells of a slice of ranges, in a row. -/
theorem Rng.row {w : World} {a : Option Addr} {n cap : Nat} {l : List (Int × Int)} (h : Rng w a n cap l) (hn : 0 < n) : ∃ g off, a = some ⟨g, off, none⟩ ∧ g < w.heap.size ∧ ∀ j u, (flat l)[j]? = some u → w.cell? ((⟨g, off, none⟩ : Addr).add j) = some u := by
  obtain ⟨g, off, ha, hg, _⟩ := h.cells 0 hn
  refine ⟨g, off, ha, hg, fun j u hu => ?_⟩
  have hadd : (⟨g, off, none⟩ : Addr).add j = ⟨g, off + j, none⟩ := by unfold Addr.add; split <;> simp_all
  have hlt : j < (flat l).length := by
    rcases Nat.lt_or_ge j (flat l).length with h' | h'
    · exact h'
    · rw [List.getElem?_eq_none h'] at hu; cases hu
  rw [flat_length, h.len] at hlt
  obtain ⟨g', off', ha', _, hc, hd⟩ := h.cells (j / 2) (by omega)
  rw [ha] at ha'
  simp only [Option.some.injEq, Addr.mk.injEq, and_true] at ha'
  obtain ⟨rfl, rfl⟩ := ha'
  have he := flat_even l (j / 2) (by rw [h.len]; omega)
  rw [hadd]
  rcases Nat.mod_two_eq_zero_or_one j with hm | hm
  · have ej : j / 2 * 2 = j := by omega
    rw [ej] at hc he
    rw [hc, ← he.1, hu]
  · have ej : j / 2 * 2 + 1 = j := by omega
    rw [Nat.add_assoc, ej] at hd
    rw [ej] at he
    rw [hd, ← he.2, hu]
theorem rngInfo : (Tryd.prog.info? 43).map (fun i => (i.zero, i.size, i.bytes)) = some (some (.agg #[.int .i64 0, .int .i64 0]), 2, 16) := by kernel_rfl
end Go.Proofs.YtelcjhflopgojaaDoor.Sp
