import Derived.Test.YtijpfbcippijoaaGreatDoorGr21
import Derived.Deep.Cut
import Derived.BigGuard
import Derived.Test.YtijpfbcippijoaaGreatDoorQkAE
import Derived.Test.YtijpfbcippijoaaGreatDoorGr14
import Derived.Deep.MidRow
import Derived.Deep.WholeRow
import Derived.Test.YtijpfbcippijoaaGreatDoorGr17
import Derived.Test.YtijpfbcippijoaaGreatDoorGr19
import Derived.Test.YtijpfbcippijoaaGreatDoorQaAC
namespace Go.Proofs.YtijpfbcippijoaaGreatDoor
open Go.RowKit Go.Lib
set_option maxRecDepth 100000
theorem rw_frontK {α : Type} {f : α → List Value} {k : Nat} {w : World} {a : Option Addr} {n m cap : Nat} {l r : List α} (h : Rw f k w a n cap (l ++ r)) (hl : l.length = m) : Rw f k w a m cap l := by
  have hn := h.len
  simp only [List.length_append] at hn
  refine ⟨hl, ⟨by have := h.room.1; omega, h.room.2⟩, fun hm => ?_⟩
  obtain ⟨g, off, e, hg, hc⟩ := h.cells (by omega)
  exact ⟨g, off, e, hg, fun j x hj => hc j x (by rw [List.getElem?_append_left (List.getElem?_eq_some_iff.1 hj).1]; exact hj)⟩
end Go.Proofs.YtijpfbcippijoaaGreatDoor

namespace Go.Proofs.YtijpfbcippijoaaGreatDoor
open Go.RowKit Go.Lib
set_option maxRecDepth 100000
theorem fixR_ok (r : Int) : okR (fixR r) := by
  refine okL_okR ?_
  unfold fixR okL
  split <;> omega
theorem madeP_len (zs : List (Int × Int)) : (madeP zs).length ≤ 400 := by
  unfold madeP
  rw [List.length_map, List.length_take]
  omega
theorem madeP_ok (zs : List (Int × Int)) : ∀ c ∈ madeP zs, okR c.1 := fun c hc => by
  obtain ⟨x, _, rfl⟩ := List.mem_map.1 hc
  exact fixR_ok x.1
theorem madeP_cnt (zs : List (Int × Int)) : ∀ c ∈ madeP zs, 0 ≤ c.2 ∧ c.2 ≤ 1048576 := fun c hc => by
  obtain ⟨x, _, rfl⟩ := List.mem_map.1 hc
  simp only [fixC]
  unfold fixH
  split <;> omega
end Go.Proofs.YtijpfbcippijoaaGreatDoor
