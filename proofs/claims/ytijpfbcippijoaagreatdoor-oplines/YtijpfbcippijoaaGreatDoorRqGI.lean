import Derived.Test.YtijpfbcippijoaaGreatDoorGr16
namespace Go.Proofs.YtijpfbcippijoaaGreatDoor
open Go.RowKit Go.Lib
set_option maxRecDepth 100000
end Go.Proofs.YtijpfbcippijoaaGreatDoor

namespace Go.Proofs.YtijpfbcippijoaaGreatDoor
open Go.RowKit Go.Lib
set_option maxRecDepth 100000
end Go.Proofs.YtijpfbcippijoaaGreatDoor

namespace Go.Proofs.YtijpfbcippijoaaGreatDoor
open Go.RowKit Go.Lib
set_option maxRecDepth 100000
theorem Tr.Fine.lv_two {l r : Tr} {st : Int} (h : (Tr.node l r st).Fine) : 2 ≤ (Tr.node l r st).lv.length := by
  have hs := h.sides
  obtain ⟨⟨p, k, e1, _⟩, _⟩ := hs.fl.wf.ends
  obtain ⟨⟨q, m, f1, _⟩, _⟩ := hs.fr.wf.ends
  rw [hs.lv, List.length_append, e1, f1]
  simp only [List.length_cons]
  omega
theorem Tr.Can.one {t : Tr} (h : t.Can) {p : List Int × Int} (e : t.lv = [p]) : ∃ st, t = .leaf p.1 p.2 st := by
  cases t with
  | nil => simp [Tr.lv] at e
  | leaf rs hid st => simp [Tr.lv] at e; subst e; exact ⟨st, rfl⟩
  | node l r st =>
    have := (h.resolve_left (by simp)).lv_two
    rw [e] at this
    simp at this
end Go.Proofs.YtijpfbcippijoaaGreatDoor
