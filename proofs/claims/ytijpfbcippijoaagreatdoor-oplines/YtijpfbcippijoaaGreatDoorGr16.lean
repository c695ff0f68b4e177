import Derived.Test.YtijpfbcippijoaaGreatDoorGr18
import Derived.Test.YtijpfbcippijoaaGreatDoorRpPR
namespace Go.Proofs.YtijpfbcippijoaaGreatDoor
open Go.RowKit Go.Lib
set_option maxRecDepth 100000
def Sm.vals (s : Sm) : Array Value := #[.int .i64 s.cells, .int .i64 s.pieces, .int .i64 s.high, .int .i64 s.least, .int .i64 s.most, .int .i64 s.lowest, .int .i64 s.fc, .int .i64 s.fh, .int .i64 s.lc, .int .i64 s.lh]
def runeV (x : Int) : List Value := [.int .i32 x]
theorem layN : Lay runeV 1 := ⟨fun _ => rfl, by decide, fun x u hu => by simp [runeV] at hu; rcases hu with rfl; rfl⟩
def nodeCells (s : Sm) (rs l r : Value) (st : Int) : Array Value := #[.int .i64 s.cells, .int .i64 s.pieces, .int .i64 s.high, .int .i64 s.least, .int .i64 s.most, .int .i64 s.lowest, .int .i64 s.fc, .int .i64 s.fh, .int .i64 s.lc, .int .i64 s.lh, rs, l, r, .int .i64 st]
def NodeAt (w : World) (g : Nat) (s : Sm) (rs l r : Value) (st : Int) : Prop := w.heap[g]? = some (.cells (nodeCells s rs l r st) 96)
def TypN (w : World) (a : Option Addr) (n : Nat) : Prop := 0 < n → ∀ g off, a = some ⟨g, off, none⟩ → ∃ cs fr, w.heap[g]? = some (.cells cs 21 fr)
structure RwN (w : World) (a : Option Addr) (n cap : Nat) (rs : List Int) : Prop where
  rw_ : Rw runeV 1 w a n cap rs
  typ : TypN w a n
theorem RwN.below {w w' : World} {a : Option Addr} {n cap : Nat} {rs : List Int} (h : RwN w a n cap rs) (hb : Below w.heap.size w w') : RwN w' a n cap rs :=
  ⟨h.rw_.below hb, fun h0 g off e => by
    obtain ⟨cs, fr, hh⟩ := h.typ h0 g off e
    exact ⟨cs, fr, (hb.block g (Array.getElem?_eq_some_iff.1 hh).1).trans hh⟩⟩
theorem OwnF.rwn {w : World} {B n cap : Nat} {a : Option Addr} {rs : List Int} (h : OwnF runeV 1 21 w B (.slice a n cap) rs) : RwN w a n cap rs := by
  refine ⟨h.rw_ layN, fun h0 g off e => ?_⟩
  rcases h.2 with ⟨e1, _⟩ | ⟨g', cap', cur, e1, _, hh, _⟩
  · simp only [Value.slice.injEq] at e1
    omega
  · simp only [Value.slice.injEq] at e1
    rw [e1.1] at e
    simp at e
    rw [← e.1]
    exact ⟨cur, _, hh⟩
def At (w : World) : Tr → Nat → Prop
  | .nil, g => NodeAt w g Tr.nil.sm (.slice none 0 0) (.pointer none) (.pointer none) 0
  | .leaf rs h st, g => ∃ a cap, NodeAt w g (Tr.leaf rs h st).sm (.slice a rs.length cap) (.pointer none) (.pointer none) st ∧ RwN w a rs.length cap rs
  | .node l r st, g => ∃ gl gr, NodeAt w g (Tr.node l r st).sm (.slice none 0 0) (.pointer (some ⟨gl, 0, none⟩)) (.pointer (some ⟨gr, 0, none⟩)) st ∧ At w l gl ∧ At w r gr
theorem NodeAt.lt {w : World} {g : Nat} {s : Sm} {rs l r : Value} {st : Int} (h : NodeAt w g s rs l r st) : g < w.heap.size := (Array.getElem?_eq_some_iff.1 h).1
theorem NodeAt.below {w w' : World} {g : Nat} {s : Sm} {rs l r : Value} {st : Int} (h : NodeAt w g s rs l r st) (hb : Below w.heap.size w w') : NodeAt w' g s rs l r st := (hb.block g h.lt).trans h
theorem At.below {w w' : World} (hb : Below w.heap.size w w') : ∀ {t : Tr} {g : Nat}, At w t g → At w' t g
  | .nil, _, h => NodeAt.below h hb
  | .leaf _ _ _, _, ⟨a, cap, h, hr⟩ => ⟨a, cap, h.below hb, hr.below hb⟩
  | .node _ _ _, _, ⟨gl, gr, h, hl, hr⟩ => ⟨gl, gr, h.below hb, At.below hb hl, At.below hb hr⟩
theorem At.node {w : World} {t : Tr} {g : Nat} (h : At w t g) : ∃ (a : Option Addr) (n cap : Nat) (pl pr : Option Addr) (st : Int), NodeAt w g t.sm (.slice a n cap) (.pointer pl) (.pointer pr) st := by
  cases t with
  | nil => exact ⟨_, _, _, _, _, _, h⟩
  | leaf rs hid st => obtain ⟨a, cap, h, _⟩ := h; exact ⟨_, _, _, _, _, _, h⟩
  | node l r st => obtain ⟨gl, gr, h, _⟩ := h; exact ⟨_, _, _, _, _, _, h⟩
theorem At.lt {w : World} {t : Tr} {g : Nat} (h : At w t g) : g < w.heap.size := by
  obtain ⟨_, _, _, _, _, _, h⟩ := h.node
  exact h.lt
theorem NodeAt.cell {w : World} {g : Nat} {s : Sm} {rs l r : Value} {st : Int} (h : NodeAt w g s rs l r st) (j : Nat) (v : Value) (hv : (nodeCells s rs l r st)[j]? = some v) : w.cell? ⟨g, j, none⟩ = some v := by
  unfold NodeAt at h
  simp only [World.cell?, h]
  exact hv
theorem NodeAt.ten {w : World} {g : Nat} {s : Sm} {rs l r : Value} {st : Int} (h : NodeAt w g s rs l r st) : w.cell? ⟨g, 0, none⟩ = some (.int .i64 s.cells) ∧ w.cell? ⟨g, 1, none⟩ = some (.int .i64 s.pieces) ∧ w.cell? ⟨g, 2, none⟩ = some (.int .i64 s.high) ∧ w.cell? ⟨g, 3, none⟩ = some (.int .i64 s.least) ∧ w.cell? ⟨g, 4, none⟩ = some (.int .i64 s.most) ∧ w.cell? ⟨g, 5, none⟩ = some (.int .i64 s.lowest) ∧ w.cell? ⟨g, 6, none⟩ = some (.int .i64 s.fc) ∧ w.cell? ⟨g, 7, none⟩ = some (.int .i64 s.fh) ∧ w.cell? ⟨g, 8, none⟩ = some (.int .i64 s.lc) ∧ w.cell? ⟨g, 9, none⟩ = some (.int .i64 s.lh) :=
  ⟨h.cell 0 _ rfl, h.cell 1 _ rfl, h.cell 2 _ rfl, h.cell 3 _ rfl, h.cell 4 _ rfl, h.cell 5 _ rfl, h.cell 6 _ rfl, h.cell 7 _ rfl, h.cell 8 _ rfl, h.cell 9 _ rfl⟩
end Go.Proofs.YtijpfbcippijoaaGreatDoor

namespace Go.Proofs.YtijpfbcippijoaaGreatDoor
open Go.RowKit Go.Lib
set_option maxRecDepth 100000
def ptr (g : Nat) : Value := .pointer (some ⟨g, 0, none⟩)
end Go.Proofs.YtijpfbcippijoaaGreatDoor

namespace Go.Proofs.YtijpfbcippijoaaGreatDoor
open Go.RowKit Go.Lib
set_option maxRecDepth 100000
theorem At.ten {w : World} {t : Tr} {g : Nat} (h : At w t g) : w.cell? ⟨g, 0, none⟩ = some (.int .i64 t.sm.cells) ∧ w.cell? ⟨g, 1, none⟩ = some (.int .i64 t.sm.pieces) ∧ w.cell? ⟨g, 2, none⟩ = some (.int .i64 t.sm.high) ∧ w.cell? ⟨g, 3, none⟩ = some (.int .i64 t.sm.least) ∧ w.cell? ⟨g, 4, none⟩ = some (.int .i64 t.sm.most) ∧ w.cell? ⟨g, 5, none⟩ = some (.int .i64 t.sm.lowest) ∧ w.cell? ⟨g, 6, none⟩ = some (.int .i64 t.sm.fc) ∧ w.cell? ⟨g, 7, none⟩ = some (.int .i64 t.sm.fh) ∧ w.cell? ⟨g, 8, none⟩ = some (.int .i64 t.sm.lc) ∧ w.cell? ⟨g, 9, none⟩ = some (.int .i64 t.sm.lh) := by
  obtain ⟨an, nn, cn, pl, pr, st, hn⟩ := h.node
  exact hn.ten
end Go.Proofs.YtijpfbcippijoaaGreatDoor

namespace Go.Proofs.YtijpfbcippijoaaGreatDoor
open Go.RowKit Go.Lib
set_option maxRecDepth 100000
def RopeAt (w : World) (q : Nat) (t : Tr) : Prop := ∃ g, w.heap[q]? = some (.cells #[.pointer (some ⟨g, 0, none⟩)] 73) ∧ At w t g
end Go.Proofs.YtijpfbcippijoaaGreatDoor
