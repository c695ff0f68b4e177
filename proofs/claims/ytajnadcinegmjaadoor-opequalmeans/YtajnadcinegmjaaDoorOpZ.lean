import Derived.Test.YtajnadcinegmjaaDoorOpY
import Derived.Test.YtajnadcinegmjaaDoorOpH
namespace Go.Proofs.YtajnadcinegmjaaDoor
open Go.RowKit Go.Lib Sp
set_option maxRecDepth 100000

def insW : List UInt8 := [105, 110, 115]
def hideW : List UInt8 := [104, 105, 100, 101]
def showW : List UInt8 := [115, 104, 111, 119]
def onW : List UInt8 := [111, 110]
def offW : List UInt8 := [111, 102, 102]
/-- What readLine reads. -/
def readW (i : Int × Int) (word rest : List UInt8) : OpV :=
  if word = insW then ⟨i.1, i.2, 1, numP (cut1 rest 32).1, bs (unqL (cut1 rest 32).2.1).1, [], 0, 0, false⟩
  else if word = hideW then ⟨i.1, i.2, 2, 0, ⟨#[]⟩, rngsP 32769 rest, 0, 0, false⟩
  else if word = showW then ⟨i.1, i.2, 3, 0, ⟨#[]⟩, rngsP 32769 rest, 0, 0, false⟩
  else if word = onW ∨ word = offW then ⟨i.1, i.2, 4, 0, ⟨#[]⟩, [], (idP rest).1, (idP rest).2, decide (word = onW)⟩
  else ⟨i.1, i.2, 0, 0, ⟨#[]⟩, [], 0, 0, false⟩
def readP (l : List UInt8) : OpV := readW (idP (cut1 l 32).1) (cut1 (cut1 l 32).2.1 32).1 (cut1 (cut1 l 32).2.1 32).2.1

theorem set9 {W : World} {b : Nat} {T : TypeId} {v0 v1 v2 v3 v4 v5 v6 v7 v8 : Value} (h : W.heap[b]? = some (.cells #[v0, v1, v2, v3, v4, v5, v6, v7, v8] T)) :
    (((((((((W.setCell ⟨b, 0, none⟩ v0).setCell ⟨b, 1, none⟩ v1).setCell ⟨b, 2, none⟩ v2).setCell ⟨b, 3, none⟩ v3).setCell ⟨b, 4, none⟩ v4).setCell ⟨b, 5, none⟩ v5).setCell ⟨b, 6, none⟩ v6).setCell ⟨b, 7, none⟩ v7).setCell ⟨b, 8, none⟩ v8).heap[b]? = some (.cells #[v0, v1, v2, v3, v4, v5, v6, v7, v8] T) := by
  have h0 := (heap_setCell_same _ b 0 _ _ v0 h).trans (by simp; rfl)
  have h1 := (heap_setCell_same _ b 1 _ _ v1 h0).trans (by simp; rfl)
  have h2 := (heap_setCell_same _ b 2 _ _ v2 h1).trans (by simp; rfl)
  have h3 := (heap_setCell_same _ b 3 _ _ v3 h2).trans (by simp; rfl)
  have h4 := (heap_setCell_same _ b 4 _ _ v4 h3).trans (by simp; rfl)
  have h5 := (heap_setCell_same _ b 5 _ _ v5 h4).trans (by simp; rfl)
  have h6 := (heap_setCell_same _ b 6 _ _ v6 h5).trans (by simp; rfl)
  have h7 := (heap_setCell_same _ b 7 _ _ v7 h6).trans (by simp; rfl)
  have h8 := (heap_setCell_same _ b 8 _ _ v8 h7).trans (by simp; rfl)
  exact h8

/-- A store into a block in which no cell of the list lies. -/
theorem rng_set {w : World} {a : Option Addr} {n cap : Nat} {l : List (Int × Int)} (h : Rng w a n cap l) (b i : Nat) (v : Value) (hb : ∀ g off, a = some ⟨g, off, none⟩ → 0 < n → g ≠ b) : Rng (w.setCell ⟨b, i, none⟩ v) a n cap l :=
  ⟨h.len, h.room, fun j hj => by
    obtain ⟨g, off, ha, hg, hc, hd⟩ := h.cells j hj
    have hne := hb g off ha (by omega)
    refine ⟨g, off, ha, by simpa [World.setCell] using hg, ?_, ?_⟩
    · rw [← hc]; unfold World.cell?; rw [Below.heap_setCell _ _ _ _ hne]
    · rw [← hd]; unfold World.cell?; rw [Below.heap_setCell _ _ _ _ hne]⟩
end Go.Proofs.YtajnadcinegmjaaDoor
