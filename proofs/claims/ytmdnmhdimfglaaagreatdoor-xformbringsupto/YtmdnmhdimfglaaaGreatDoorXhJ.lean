import Derived.Test.YtmdnmhdimfglaaaGreatDoorGaI
import Derived.Test.YtmdnmhdimfglaaaGreatDoorGr7
namespace Go.Proofs.YtmdnmhdimfglaaaGreatDoor
open Go.RowKit Go.Lib
set_option maxRecDepth 100000
theorem own_type {α : Type} {f : α → List Value} {k : Nat} {T T' : TypeId} {w w' : World} {B b : Nat} {v : Value} {l : List α} {cs : Array Value} (h : OwnF f k T w B v l) (hb : w.heap[b]? = some (.cells cs T')) (hT : T ≠ T') (hK : But b w w') : OwnF f k T w' B v l := by
  refine own_same h (fun g hg => hK.2 g (fun e => hT ?_))
  subst e
  rcases h.2 with ⟨rfl, _⟩ | ⟨g', cap, cur, rfl, _, hh, _⟩
  · simp [Value.ownBlock] at hg
  · simp only [Value.ownBlock, Option.some.injEq] at hg
    subst hg
    rw [hb] at hh
    simp only [Option.some.injEq, Obj.cells.injEq] at hh
    exact hh.2.1.symm
end Go.Proofs.YtmdnmhdimfglaaaGreatDoor
