import Derived.Test.YtijpfbcippijoaaGreatDoorRpPR
import Derived.Test.YtijpfbcippijoaaGreatDoorRqJK
import Derived.Test.YtijpfbcippijoaaGreatDoorRqL
import Derived.Shelf.Abstract
import Derived.Shelf.RegionOpen
import Derived.OwnWalkIn
import Derived.TacticsInMore
import Derived.LoopNIn
import Derived.LoopIn
namespace Go.Proofs.YtijpfbcippijoaaGreatDoor
set_option maxRecDepth 100000
def one (p : List Int × Int) (f lo hi : Int) : List (Int × List Int × Int) :=
  if max lo f < min hi (f + p.1.length) then [(max lo f, (p.1.take (min hi (f + p.1.length) - f).toNat).drop (max lo f - f).toNat, p.2)] else []
def gv : List (List Int × Int) → Int → Int → Int → List (Int × List Int × Int)
  | [], _, _, _ => []
  | p :: t, f, lo, hi => one p f lo hi ++ gv t (f + p.1.length) lo hi
theorem gv_append : ∀ (l k : List (List Int × Int)) (f lo hi : Int), gv (l ++ k) f lo hi = gv l f lo hi ++ gv k (f + (rowOf l).length) lo hi
  | [], k, f, lo, hi => by simp [gv, rowOf]
  | p :: t, k, f, lo, hi => by
    have ih := gv_append t k (f + p.1.length) lo hi
    have e : ((rowOf (p :: t)).length : Int) = p.1.length + (rowOf t).length := by rw [rowOf_cons, List.length_append, List.length_map]; omega
    rw [List.cons_append]
    simp only [gv]
    rw [ih, e, List.append_assoc, Int.add_assoc]
theorem gv_none : ∀ (l : List (List Int × Int)) (f lo hi : Int), min hi (f + (rowOf l).length) ≤ max lo f → gv l f lo hi = []
  | [], _, _, _, _ => rfl
  | p :: t, f, lo, hi, h => by
    have e : ((rowOf (p :: t)).length : Int) = p.1.length + (rowOf t).length := by rw [rowOf_cons, List.length_append, List.length_map]; omega
    rw [e] at h
    simp only [gv]
    rw [gv_none t (f + p.1.length) lo hi (by omega)]
    unfold one
    rw [if_neg (by omega)]
    rfl
theorem gv_clip : ∀ (l : List (List Int × Int)) (f lo hi F H : Int), F ≤ f → f + (rowOf l).length ≤ H → gv l f (max lo F) (min hi H) = gv l f lo hi
  | [], _, _, _, _, _, _, _ => rfl
  | p :: t, f, lo, hi, F, H, h1, h2 => by
    have e : ((rowOf (p :: t)).length : Int) = p.1.length + (rowOf t).length := by rw [rowOf_cons, List.length_append, List.length_map]; omega
    rw [e] at h2
    simp only [gv]
    rw [gv_clip t (f + p.1.length) lo hi F H (by omega) (by omega)]
    congr 1
    unfold one
    rw [show max (max lo F) f = max lo f by omega, show min (min hi H) (f + p.1.length) = min hi (f + p.1.length) by omega]
def cellsG (ys : List (Int × List Int × Int)) : List (Int × Int) := ys.flatMap fun y => y.2.1.map fun c => (c, y.2.2)
theorem cellsG_append (l k : List (Int × List Int × Int)) : cellsG (l ++ k) = cellsG l ++ cellsG k := by simp [cellsG]
theorem gv_cells : ∀ (l : List (List Int × Int)) (f lo hi : Int), cellsG (gv l f lo hi) = ((rowOf l).take (hi - f).toNat).drop (lo - f).toNat
  | [], _, _, _ => by simp [gv, cellsG, rowOf]
  | p :: t, f, lo, hi => by
    have ih := gv_cells t (f + p.1.length) lo hi
    have hone : cellsG (one p f lo hi) = ((p.1.take (hi - f).toNat).drop (lo - f).toNat).map fun c => (c, p.2) := by
      unfold one
      by_cases h : max lo f < min hi (f + p.1.length)
      · rw [if_pos h]
        simp only [cellsG, List.flatMap_cons, List.flatMap_nil, List.append_nil]
        congr 1
        rw [show (max lo f - f).toNat = (lo - f).toNat by omega]
        by_cases h2 : hi ≤ f + p.1.length
        · rw [show (min hi (f + p.1.length) - f).toNat = (hi - f).toNat by omega]
        · rw [List.take_of_length_le (by omega), List.take_of_length_le (by omega)]
      · rw [if_neg h]
        symm
        simp only [cellsG, List.flatMap_nil, List.map_eq_nil_iff, List.drop_eq_nil_iff, List.length_take]
        omega
    simp only [gv]
    rw [cellsG_append, ih, hone, rowOf_cons, List.take_append, List.drop_append, List.length_map]
    congr 1
    · simp [List.map_take, List.map_drop]
    · simp only [List.length_take, List.length_map]
      by_cases h : (hi - f).toNat ≤ p.1.length
      · rw [show (hi - f).toNat - p.1.length = 0 by omega, show (hi - (f + p.1.length)).toNat = 0 by omega]
        simp
      · rw [show (hi - f).toNat - p.1.length = (hi - (f + p.1.length)).toNat by omega, show (lo - f).toNat - min (hi - f).toNat p.1.length = (lo - (f + p.1.length)).toNat by omega]
end Go.Proofs.YtijpfbcippijoaaGreatDoor

namespace Go.Proofs.YtijpfbcippijoaaGreatDoor
open Go.RowKit Go.Lib Go.Shelf
set_option maxRecDepth 100000
attribute [local go_sem] Oper.semAt_some
theorem At.avoid {w : World} {D : Nat → Prop} (h1 : ∀ (b : Nat) (cs : Array Value) fr, w.heap[b]? = some (.cells cs 96 fr) → D b) (h2 : ∀ (b : Nat) (cs : Array Value) fr, w.heap[b]? = some (.cells cs 21 fr) → D b) : ∀ {t : Tr} {g : Nat}, At w t g → AtD w D t g
  | .nil, g, h => ⟨h1 g _ _ h, h⟩
  | .leaf rs _ _, g, ⟨a, cap, k1, k2⟩ => ⟨h1 g _ _ k1, a, cap, k1, k2, fun h0 gr off e => by
      obtain ⟨cs, fr, hh⟩ := k2.typ h0 gr off e
      exact h2 gr cs fr hh⟩
  | .node _ _ _, g, ⟨gl, gr, k1, k2, k3⟩ => ⟨h1 g _ _ k1, gl, gr, k1, At.avoid h1 h2 k2, At.avoid h1 h2 k3⟩
structure KpT (W W' : World) : Prop where
  size : W.heap.size ≤ W'.heap.size
  node : ∀ (b : Nat) (cs : Array Value) fr, W.heap[b]? = some (.cells cs 96 fr) → W'.heap[b]? = W.heap[b]?
  rune : ∀ (b : Nat) (cs : Array Value) fr, W.heap[b]? = some (.cells cs 21 fr) → W'.heap[b]? = W.heap[b]?
theorem KpT.refl (W : World) : KpT W W := ⟨Nat.le_refl _, fun _ _ _ _ => rfl, fun _ _ _ _ => rfl⟩
theorem KpT.trans {A B C : World} (h : KpT A B) (k : KpT B C) : KpT A C :=
  ⟨Nat.le_trans h.size k.size, fun b cs fr hb => (k.node b cs fr ((h.node b cs fr hb).trans hb)).trans (h.node b cs fr hb), fun b cs fr hb => (k.rune b cs fr ((h.rune b cs fr hb).trans hb)).trans (h.rune b cs fr hb)⟩
theorem KpT.below {A B : World} (h : Below A.heap.size A B) : KpT A B := ⟨h.size, fun b _ _ hb => h.block b (Array.getElem?_eq_some_iff.1 hb).1, fun b _ _ hb => h.block b (Array.getElem?_eq_some_iff.1 hb).1⟩
theorem KpT.grown {A B : World} {row : Option Nat} (h : A.grownBy B row) (hr : ∀ r o, row = some r → A.heap[r]? = some o → (∀ cs fr, o ≠ .cells cs 96 fr) ∧ (∀ cs fr, o ≠ .cells cs 21 fr)) : KpT A B :=
  ⟨h.size, fun b cs fr hb => h.block b (Array.getElem?_eq_some_iff.1 hb).1 (fun e => (hr b _ e.symm hb).1 cs fr rfl), fun b cs fr hb => h.block b (Array.getElem?_eq_some_iff.1 hb).1 (fun e => (hr b _ e.symm hb).2 cs fr rfl)⟩
theorem kpT_b {w : World} (W : World) (l : Nat) (o o' : Obj) (_ : w.heap.size ≤ l) (h : W.heap[l]? = some o) (hc : o.isCells = false) (_ : o.isWalk = false) : KpT W (W.putObj l o') :=
  KpT.grown (grownBy_putObj' W l o') (fun r o2 e hr => by
    cases e
    rw [h] at hr
    cases hr
    exact ⟨fun cs fr e => by rw [e] at hc; simp [Obj.isCells] at hc, fun cs fr e => by rw [e] at hc; simp [Obj.isCells] at hc⟩)
theorem At.kpT {W W' : World} {t : Tr} {g : Nat} (h : At W t g) (hk : KpT W W') : At W' t g := by
  have h1 : AtD W (fun b => W'.heap[b]? = W.heap[b]?) t g := h.avoid hk.node hk.rune
  exact (h1.keep (fun b hb => hb) hk.size).at
structure Pc where
  at_ : Int
  g : Nat
  rs : List Int
  h : Int
def Pc.dat (x : Pc) : Int × List Int × Int := (x.at_, x.rs, x.h)
def Pc.encs (x : Pc) : Array Value := #[.int .i64 x.at_, .pointer (some ⟨x.g, 0, none⟩)]
def Pc.V (x : Pc) (W : World) : Prop := ∃ st, At W (.leaf x.rs x.h st) x.g ∧ (Tr.leaf x.rs x.h st).Fine ∧ x.rs.length ≤ 32 ∧ ∀ r ∈ x.rs, okR r
def Okl (l : List (List Int × Int)) : Prop := ∀ p ∈ l, ∀ r ∈ p.1, okR r
theorem Okl.left {l k : List (List Int × Int)} (h : Okl (l ++ k)) : Okl l := fun p hp => h p (List.mem_append_left _ hp)
theorem Okl.right {l k : List (List Int × Int)} (h : Okl (l ++ k)) : Okl k := fun p hp => h p (List.mem_append_right _ hp)
theorem pc_own (B : Nat) (x : Pc) : OwnFrom B (fun (_ : Unit) W => x.V W) := fun _ A C row hs hg hr => by
  obtain ⟨st, h1, h2⟩ := hs
  refine ⟨st, h1.kpT (KpT.grown hg fun r o e ho => ?_), h2⟩
  obtain ⟨_, o2, ho2, hc⟩ := hr r e
  rw [ho] at ho2
  cases ho2
  exact ⟨fun cs fr e => by rw [e] at hc; simp [Obj.isCells] at hc, fun cs fr e => by rw [e] at hc; simp [Obj.isCells] at hc⟩
end Go.Proofs.YtijpfbcippijoaaGreatDoor
