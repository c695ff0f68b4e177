import Derived.WalkKit
import Derived.Lib.OthersKept
import Derived.RangeFuncNested
import Derived.RangeFuncBound
import Derived.RangeFuncCalls
import Derived.RangeFuncLeaves
import Derived.Test.YtijpfbcippijoaaGreatDoorRpPR
import Derived.Test.YtijpfbcippijoaaGreatDoorRqJK
import Derived.Shelf.Abstract
import Derived.Shelf.RegionOpen
import Derived.OwnWalkIn
import Derived.TacticsInMore
import Derived.LoopNIn
import Derived.LoopIn
namespace Go.Proofs.YtijpfbcippijoaaGreatDoor
open Go.RowKit Go.Lib
set_option maxRecDepth 100000
section
variable {F : Fence} {n : Nat} {P : Program}
end
end Go.Proofs.YtijpfbcippijoaaGreatDoor

namespace Go.Proofs.YtijpfbcippijoaaGreatDoor
set_option maxRecDepth 100000
def one (p : List Int × Int) (f lo hi : Int) : List (Int × List Int × Int) :=
  if max lo f < min hi (f + p.1.length) then [(max lo f, (p.1.take (min hi (f + p.1.length) - f).toNat).drop (max lo f - f).toNat, p.2)] else []
end Go.Proofs.YtijpfbcippijoaaGreatDoor

namespace Go.Proofs.YtijpfbcippijoaaGreatDoor
open Go.RowKit Go.Lib Go.Shelf
set_option maxRecDepth 100000
attribute [local go_sem] Oper.semAt_some
structure KpT (W W' : World) : Prop where
  size : W.heap.size ≤ W'.heap.size
  node : ∀ (b : Nat) (cs : Array Value) fr, W.heap[b]? = some (.cells cs 96 fr) → W'.heap[b]? = W.heap[b]?
  rune : ∀ (b : Nat) (cs : Array Value) fr, W.heap[b]? = some (.cells cs 21 fr) → W'.heap[b]? = W.heap[b]?
theorem KpT.trans {A B C : World} (h : KpT A B) (k : KpT B C) : KpT A C :=
  ⟨Nat.le_trans h.size k.size, fun b cs fr hb => (k.node b cs fr ((h.node b cs fr hb).trans hb)).trans (h.node b cs fr hb), fun b cs fr hb => (k.rune b cs fr ((h.rune b cs fr hb).trans hb)).trans (h.rune b cs fr hb)⟩
theorem KpT.below {A B : World} (h : Below A.heap.size A B) : KpT A B := ⟨h.size, fun b _ _ hb => h.block b (Array.getElem?_eq_some_iff.1 hb).1, fun b _ _ hb => h.block b (Array.getElem?_eq_some_iff.1 hb).1⟩
theorem KpT.grown {A B : World} {row : Option Nat} (h : A.grownBy B row) (hr : ∀ r o, row = some r → A.heap[r]? = some o → (∀ cs fr, o ≠ .cells cs 96 fr) ∧ (∀ cs fr, o ≠ .cells cs 21 fr)) : KpT A B :=
  ⟨h.size, fun b cs fr hb => h.block b (Array.getElem?_eq_some_iff.1 hb).1 (fun e => (hr b _ e.symm hb).1 cs fr rfl), fun b cs fr hb => h.block b (Array.getElem?_eq_some_iff.1 hb).1 (fun e => (hr b _ e.symm hb).2 cs fr rfl)⟩
structure Pc where
  at_ : Int
  g : Nat
  rs : List Int
  h : Int
def Pc.encs (x : Pc) : Array Value := #[.int .i64 x.at_, .pointer (some ⟨x.g, 0, none⟩)]
def Pc.V (x : Pc) (W : World) : Prop := ∃ st, At W (.leaf x.rs x.h st) x.g ∧ (Tr.leaf x.rs x.h st).Fine ∧ x.rs.length ≤ 32 ∧ ∀ r ∈ x.rs, okR r
def Okl (l : List (List Int × Int)) : Prop := ∀ p ∈ l, ∀ r ∈ p.1, okR r
theorem Okl.left {l k : List (List Int × Int)} (h : Okl (l ++ k)) : Okl l := fun p hp => h p (List.mem_append_left _ hp)
theorem Okl.right {l k : List (List Int × Int)} (h : Okl (l ++ k)) : Okl k := fun p hp => h p (List.mem_append_right _ hp)
end Go.Proofs.YtijpfbcippijoaaGreatDoor
