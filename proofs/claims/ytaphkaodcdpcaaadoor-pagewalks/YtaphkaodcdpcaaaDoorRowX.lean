import Derived.Test.YtaphkaodcdpcaaaDoorLineWalks
namespace Go.Proofs.YtaphkaodcdpcaaaDoor
open Go.RowKit Go.Lib

/-- A slice of int32 in the world that reads as rs. -/
structure Row32 (w : World) (a : Option Addr) (n cap : Nat) (rs : List Int) : Prop where
  len : rs.length = n
  room : n ≤ cap ∧ cap ≤ maxLen
  cells : ∀ j, j < n → ∃ g off, a = some ⟨g, off, none⟩ ∧ g < w.heap.size ∧ w.cell? ⟨g, off + j, none⟩ = some (.int .i32 (rs.getD j 0))
theorem Row32.below {w w' : World} {a : Option Addr} {n cap : Nat} {rs : List Int} (h : Row32 w a n cap rs) (hb : Below w.heap.size w w') : Row32 w' a n cap rs :=
  ⟨h.len, h.room, fun j hj => by
    obtain ⟨g, off, ha, hg, hc⟩ := h.cells j hj
    exact ⟨g, off, ha, by have := hb.size; omega, (hb.cell (p := ⟨g, off + j, none⟩) hg).trans hc⟩⟩
end Go.Proofs.YtaphkaodcdpcaaaDoor
