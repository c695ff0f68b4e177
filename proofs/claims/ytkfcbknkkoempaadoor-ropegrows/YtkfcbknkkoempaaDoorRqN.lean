import Derived.Test.YtkfcbknkkoempaaDoorRqK
import Derived.Test.YtkfcbknkkoempaaDoorRqL
import Derived.Test.YtkfcbknkkoempaaDoorRqM
import Derived.Shelf.Abstract
import Derived.Shelf.RegionOpen
import Derived.OwnWalkIn
import Derived.TacticsInMore
import Derived.LoopNIn
import Derived.LoopIn
namespace Go.Proofs.YtkfcbknkkoempaaDoor
open Go.RowKit Go.Lib Go.Shelf
set_option maxRecDepth 100000
attribute [local go_sem] Oper.semAt_some

/-- A tree's blocks are blocks of nodes and of runes. -/
theorem At.avoid {w : World} {D : Nat → Prop} (h1 : ∀ (b : Nat) (cs : Array Value) fr, w.heap[b]? = some (.cells cs 56 fr) → D b) (h2 : ∀ (b : Nat) (cs : Array Value) fr, w.heap[b]? = some (.cells cs 21 fr) → D b) : ∀ {t : Tr} {g : Nat}, At w t g → AtD w D t g
  | .nil, g, h => ⟨h1 g _ _ h, h⟩
  | .leaf rs _ _, g, ⟨a, cap, k1, k2⟩ => ⟨h1 g _ _ k1, a, cap, k1, k2, fun h0 gr off e => by
      obtain ⟨cs, fr, hh⟩ := k2.typ h0 gr off e
      exact h2 gr cs fr hh⟩
  | .node _ _ _, g, ⟨gl, gr, k1, k2, k3⟩ => ⟨h1 g _ _ k1, gl, gr, k1, At.avoid h1 h2 k2, At.avoid h1 h2 k3⟩
/-- Blocks of nodes and of runes are kept. -/
structure KpT (W W' : World) : Prop where
  size : W.heap.size ≤ W'.heap.size
  node : ∀ (b : Nat) (cs : Array Value) fr, W.heap[b]? = some (.cells cs 56 fr) → W'.heap[b]? = W.heap[b]?
  rune : ∀ (b : Nat) (cs : Array Value) fr, W.heap[b]? = some (.cells cs 21 fr) → W'.heap[b]? = W.heap[b]?
theorem KpT.refl (W : World) : KpT W W := ⟨Nat.le_refl _, fun _ _ _ _ => rfl, fun _ _ _ _ => rfl⟩
theorem KpT.trans {A B C : World} (h : KpT A B) (k : KpT B C) : KpT A C :=
  ⟨Nat.le_trans h.size k.size, fun b cs fr hb => (k.node b cs fr ((h.node b cs fr hb).trans hb)).trans (h.node b cs fr hb), fun b cs fr hb => (k.rune b cs fr ((h.rune b cs fr hb).trans hb)).trans (h.rune b cs fr hb)⟩
theorem KpT.below {A B : World} (h : Below A.heap.size A B) : KpT A B := ⟨h.size, fun b _ _ hb => h.block b (Array.getElem?_eq_some_iff.1 hb).1, fun b _ _ hb => h.block b (Array.getElem?_eq_some_iff.1 hb).1⟩
theorem KpT.grown {A B : World} {row : Option Nat} (h : A.grownBy B row) (hr : ∀ r o, row = some r → A.heap[r]? = some o → (∀ cs fr, o ≠ .cells cs 56 fr) ∧ (∀ cs fr, o ≠ .cells cs 21 fr)) : KpT A B :=
  ⟨h.size, fun b cs fr hb => h.block b (Array.getElem?_eq_some_iff.1 hb).1 (fun e => (hr b _ e.symm hb).1 cs fr rfl), fun b cs fr hb => h.block b (Array.getElem?_eq_some_iff.1 hb).1 (fun e => (hr b _ e.symm hb).2 cs fr rfl)⟩
theorem kpT_b {w : World} (W : World) (l : Nat) (o o' : Obj) (_ : w.heap.size ≤ l) (h : W.heap[l]? = some o) (hc : o.isCells = false) (_ : o.isWalk = false) : KpT W (W.putObj l o') :=
  KpT.grown (grownBy_putObj' W l o') (fun r o2 e hr => by
    cases e
    rw [h] at hr
    cases hr
    exact ⟨fun cs fr e => by rw [e] at hc; simp [Obj.isCells] at hc, fun cs fr e => by rw [e] at hc; simp [Obj.isCells] at hc⟩)
theorem At.kpT {W W' : World} {t : Tr} {g : Nat} (h : At W t g) (hk : KpT W W') : At W' t g := by
  have h1 : AtD W (fun b => W'.heap[b]? = W.heap[b]?) t g := h.avoid hk.node hk.rune
  exact (h1.keep (fun b hb => hb) hk.size).at
/-- A piece that comes to a round. -/
structure Pc where
  at_ : Int
  g : Nat
  rs : List Int
  h : Int
def Pc.dat (x : Pc) : Int × List Int × Int := (x.at_, x.rs, x.h)
def Pc.encs (x : Pc) : Array Value := #[.int .i64 x.at_, .pointer (some ⟨x.g, 0, none⟩)]
def Pc.V (x : Pc) (W : World) : Prop := ∃ st, At W (.leaf x.rs x.h st) x.g ∧ (Tr.leaf x.rs x.h st).Fine ∧ x.rs.length ≤ 32 ∧ ∀ r ∈ x.rs, okR r
/-- The runes of pieces are such as a text may have. -/
def Okl (l : List (List Int × Int)) : Prop := ∀ p ∈ l, ∀ r ∈ p.1, okR r
theorem Okl.left {l k : List (List Int × Int)} (h : Okl (l ++ k)) : Okl l := fun p hp => h p (List.mem_append_left _ hp)
theorem Okl.right {l k : List (List Int × Int)} (h : Okl (l ++ k)) : Okl k := fun p hp => h p (List.mem_append_right _ hp)
theorem pc_own (B : Nat) (x : Pc) : OwnFrom B (fun (_ : Unit) W => x.V W) := fun _ A C row hs hg hr => by
  obtain ⟨st, h1, h2⟩ := hs
  refine ⟨st, h1.kpT (KpT.grown hg fun r o e ho => ?_), h2⟩
  obtain ⟨_, o2, ho2, hc⟩ := hr r e
  rw [ho] at ho2
  cases ho2
  exact ⟨fun cs fr e => by rw [e] at hc; simp [Obj.isCells] at hc, fun cs fr e => by rw [e] at hc; simp [Obj.isCells] at hc⟩
end Go.Proofs.YtkfcbknkkoempaaDoor
