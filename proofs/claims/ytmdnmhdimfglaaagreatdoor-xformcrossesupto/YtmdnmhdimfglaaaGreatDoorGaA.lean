import Derived.Test.YtmdnmhdimfglaaaGreatDoorGaJ
namespace Go.Proofs.YtmdnmhdimfglaaaGreatDoor
open Go.RowKit Go.Lib
set_option maxRecDepth 100000
theorem setCell_self {W : World} {b i : Nat} {v : Value} (h : W.cell? ⟨b, i, none⟩ = some v) : W.setCell ⟨b, i, none⟩ v = W := by
  unfold World.setCell
  unfold World.cell? at h
  obtain ⟨heap, t, d, os, out⟩ := W
  simp only at *
  congr 1
  refine Array.ext_getElem? fun k => ?_
  rw [Array.getElem?_modify]
  by_cases hk : b = k
  · subst hk
    rw [if_pos rfl]
    cases hb : heap[b]? with
    | none => rfl
    | some o =>
      rw [hb] at h
      cases o with
      | cells c T fr =>
        simp at h
        simp only [Option.map_some, Option.isSome_none]
        congr 2
        obtain ⟨hi, rfl⟩ := Array.getElem?_eq_some_iff.1 h
        simp
        refine Array.ext (by simp) fun j h1 h2 => ?_
        rw [Array.getElem_setIfInBounds]
        split
        · subst_vars; rfl
        · rfl
      | _ => rfl
  · rw [if_neg hk]
end Go.Proofs.YtmdnmhdimfglaaaGreatDoor
