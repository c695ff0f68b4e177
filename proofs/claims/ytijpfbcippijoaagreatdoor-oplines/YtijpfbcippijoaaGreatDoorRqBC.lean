import Derived.Test.YtijpfbcippijoaaGreatDoorRpPR
import Derived.Test.YtijpfbcippijoaaGreatDoorRpST
namespace Go.Proofs.YtijpfbcippijoaaGreatDoor
open Go.RowKit Go.Lib
set_option maxRecDepth 100000
structure Tr.Fine (t : Tr) : Prop where
  wf : t.Wf
  bd : t.Bd
  avl : t.Avl
theorem Tr.row_len (t : Tr) : t.row.length = (rowOf t.lv).length := by rw [Tr.row_lv]
structure SidesOf (n l r : Tr) : Prop where
  lv : n.lv = l.lv ++ r.lv
  fl : l.Fine
  fr : r.Fine
  high : n.sm.high = max l.sm.high r.sm.high + 1
  h1 : l.sm.high ≤ r.sm.high + 1
  h2 : r.sm.high ≤ l.sm.high + 1
theorem SidesOf.len {n l r : Tr} (h : SidesOf n l r) : n.row.length = l.row.length + r.row.length := by rw [Tr.row_len, Tr.row_len, Tr.row_len, h.lv, rowOf_append, List.length_append]
theorem Tr.Fine.pos {t : Tr} (h : t.Fine) : 1 ≤ t.sm.high := h.wf.high_pos
theorem At.high {w : World} {t : Tr} {g : Nat} (h : At w t g) : w.cell? ⟨g, 2, none⟩ = some (.int .i64 t.sm.high) := by
  obtain ⟨_, _, h2, _⟩ := h.ten
  exact h2
theorem At.cells {w : World} {t : Tr} {g : Nat} (h : At w t g) : w.cell? ⟨g, 0, none⟩ = some (.int .i64 t.sm.cells) := h.ten.1
end Go.Proofs.YtijpfbcippijoaaGreatDoor

namespace Go.Proofs.YtijpfbcippijoaaGreatDoor
open Go.RowKit Go.Lib
set_option maxRecDepth 100000
def Tr.Can (t : Tr) : Prop := t = .nil ∨ t.Fine
theorem Tr.Can.ok {t : Tr} (h : t.Can) : t.Ok := h.imp id Tr.Fine.wf
theorem Tr.Can.bd {t : Tr} (h : t.Can) : t.Bd := by
  rcases h with rfl | h
  · trivial
  · exact h.bd
end Go.Proofs.YtijpfbcippijoaaGreatDoor
