import Derived.Test.YthkfcocakhekaaaDoorXdP
import Derived.Test.YthkfcocakhekaaaDoorXbJ
import Derived.Deep.RegionHeld3
import Derived.Deep.DeepCutAuto
namespace Go.Proofs.YthkfcocakhekaaaDoor
open Go.RowKit Go.Lib
set_option maxRecDepth 100000

theorem box7 {W : World} {b : Nat} {T : TypeId} {v0 v1 v2 v3 v4 v5 v6 : Value} (h : W.heap[b]? = some (.cells #[v0, v1, v2, v3, v4, v5, v6] T)) :
    W.cell? ⟨b, 0, none⟩ = some v0 ∧ W.cell? ⟨b, 1, none⟩ = some v1 ∧ W.cell? ⟨b, 2, none⟩ = some v2 ∧ W.cell? ⟨b, 3, none⟩ = some v3 ∧ W.cell? ⟨b, 4, none⟩ = some v4 ∧ W.cell? ⟨b, 5, none⟩ = some v5 ∧ W.cell? ⟨b, 6, none⟩ = some v6 := by
  simp only [Lib.cell_of_heap h]
  exact ⟨rfl, rfl, rfl, rfl, rfl, rfl, rfl⟩

theorem rng0 {W : World} {a : Option Addr} {cap : Nat} (h : cap ≤ maxLen) : Sp.Rng W a 0 cap [] := ⟨rfl, ⟨Nat.zero_le _, h⟩, fun j hj => by omega⟩
theorem copy0 (o : OpV) (hl : o.l = []) (W : World) : Calls Tryd.prog 13 #[opVal o (.slice none 0 0)] W fun e w' => ∃ (a' : Option Addr) (cap' : Nat), e = .returned (opVal o (.slice a' 0 cap')) ∧ cap' ≤ maxLen ∧ Below W.heap.size W w' := by
  refine (copy_any (o := o) (by rw [hl]; exact rng0 (by decide)) (by omega)).mono ?_
  rintro e w1 ⟨a', cap', rfl, ho, hb⟩
  rw [hl] at ho
  exact ⟨_, _, rfl, (ho.rw_ layG).room.2, hb⟩
theorem incl0 (o o2 : OpV) (ear : Bool) (q : OpV) (h1 : o.l = []) (h2 : o2.l = []) (h3 : q.l = []) (hq : xInclude o o2 ear = (q, 0)) (hs1 : o.s.size ≤ 8) (hs2 : o2.s.size ≤ 8) (W : World) (hw : Bar W) {xa ya : Option Addr} {xc yc : Nat} (hx : xc ≤ maxLen) (hy : yc ≤ maxLen) :
    Calls Tryd.prog 17 #[opVal o (.slice xa 0 xc), opVal o2 (.slice ya 0 yc), .bool ear] W fun e w' => ∃ (va : Option Addr) (vc : Nat), e = .returned (.tuple #[opVal q (.slice va 0 vc), .int .i64 0]) ∧ vc ≤ maxLen ∧ Below W.heap.size W w' := by
  refine (Include_any (by rw [h1]; exact rng0 hx) (by rw [h2]; exact rng0 hy) (by omega) (by omega) hw).mono ?_
  rintro e w1 ⟨va, vm, vc, rfl, ho, hb⟩
  rw [hq] at ho ⊢
  have hr := ho.rw_ layG
  rw [h3] at hr
  obtain rfl : vm = 0 := hr.len.symm
  exact ⟨_, _, rfl, hr.room.2, hb⟩
theorem incl_behind {p ja jb : Nat} (ha : ja < 5) (hb : jb < 5) (hp : p ≤ 900) : xInclude (insV 2 1 p jb) (insV 1 1 p ja) true = (insV 2 1 ((p + (ja + 1) : Nat) : Int) jb, 0) := by
  have o1 := insV_own (c := 1) (n := 1) (p := p) ha (by decide) (by omega) (by omega)
  have o2 := insV_own (c := 2) (n := 1) (p := p) hb (by decide) (by omega) (by omega)
  unfold xInclude
  rw [if_neg (by simp [firstErr2 o2 o1])]
  unfold inclP
  rw [if_neg (by simp [clashP, insV]), if_neg (by simp [insV]), if_neg (by simp [insV]), if_pos (.inr ⟨rfl, rfl⟩), insV_width _ _ _ _ ha]
  unfold shiftP
  rw [insV_width _ _ _ _ hb, if_neg (by simp only [insV]; omega)]
  simp only [insV, Prod.mk.injEq, OpV.mk.injEq, and_true, true_and]
  omega
theorem incl_ahead {p ja jb : Nat} (ha : ja < 5) (hb : jb < 5) (hp : p ≤ 900) : xInclude (insV 1 1 p ja) (insV 2 1 p jb) false = (insV 1 1 p ja, 0) := by
  have o1 := insV_own (c := 1) (n := 1) (p := p) ha (by decide) (by omega) (by omega)
  have o2 := insV_own (c := 2) (n := 1) (p := p) hb (by decide) (by omega) (by omega)
  unfold xInclude
  rw [if_neg (by simp [firstErr2 o1 o2])]
  unfold inclP
  rw [if_neg (by simp [clashP, insV]), if_neg (by simp [insV]), if_neg (by simp [insV]), if_neg (by simp [insV])]
theorem alloc_held {X W w1 : World} {o : Obj} (hc : Below X.heap.size X W) (hb : Below (W.alloc o).heap.size (W.alloc o) w1) : w1.heap[W.heap.size]? = some o ∧ X.heap.size ≤ W.heap.size := ⟨(hb.block _ (by simp)).trans (alloc_last _ _ _ rfl), hc.size⟩
theorem held_next {X w1 w2 : World} {o : Obj} {g : Nat} (hz : w1.heap[g]? = some o ∧ X.heap.size ≤ g) (hb : Below w1.heap.size w1 w2) : w2.heap[g]? = some o ∧ X.heap.size ≤ g := ⟨(hb.block _ (Array.getElem?_eq_some_iff.1 hz.1).1).trans hz.1, hz.2⟩
theorem fold2 {R : List CellW} {o o2 : OpV} (h1 : o.l = []) (h2 : o2.l = []) (s1 : o.s.size ≤ 8) (s2 : o2.s.size ≤ 8) (k1 : o.k = 1) (k2 : o2.k = 1) (hR : R.length ≤ 500) (p1 : 0 ≤ o.p ∧ o.p ≤ R.length) (p2 : 0 ≤ o2.p ∧ o2.p ≤ (doesV R o).length) (hd : (doesV R o).length ≤ 1000) {X : List CellW} (hX : foldV R [o, o2] = X)
    {W : World} {xa : Option Addr} {xm xc : Nat} (hr : Rw cellW 4 W xa xm xc R) {g : Nat} {oa oa2 : Option Addr} {oc oc2 : Nat} (ho : oc ≤ maxLen) (ho2 : oc2 ≤ maxLen) (hg : W.heap[g]? = some (.cells (opF (o, (oa, 0, oc)) ++ opF (o2, (oa2, 0, oc2))).toArray 41)) :
    Calls Tryd.prog 15 #[.slice xa xm xc, .slice (some ⟨g, 0, none⟩) 2 2] W fun e w' => ∃ (a' : Option Addr) (m' cap' : Nat), e = .returned (.tuple #[.slice a' m' cap', .bool true]) ∧ Rw cellW 4 w' a' m' cap' X ∧ Below W.heap.size W w' := by
  have := fold_any (L := [(o, (oa, 0, oc)), (o2, (oa2, 0, oc2))]) hr (two_ops hg) (fun x hx => by
    simp at hx
    rcases hx with rfl | rfl
    · exact ⟨by rw [h1]; exact rng0 ho, by simp only; omega⟩
    · exact ⟨by rw [h2]; exact rng0 ho2, by simp only; omega⟩) (fun i x hx => by
    match i, hx with
    | 0, hx =>
      simp at hx; subst hx
      exact ⟨⟨by omega, .inl ⟨k1, p1⟩⟩, by simp [foldV]; omega⟩
    | 1, hx =>
      simp at hx; subst hx
      exact ⟨⟨by omega, .inl ⟨k2, p2⟩⟩, hd⟩
    | i + 2, hx => simp at hx)
  rw [← hX]
  exact this
theorem does_insV (R : List CellW) (c n : Int) (p i : Nat) (hi : i < 5) : doesV R (insV c n p i) = insL R p (newL c n (i + 1)) := by
  unfold doesV
  rw [if_pos (show (insV c n p i).k = 1 from rfl), insV_wdL _ _ _ _ hi]
  rfl
theorem fold_one (R : List CellW) (p ja jb : Nat) (ha : ja < 5) (hb : jb < 5) (h : p ≤ R.length) : foldV R [insV 1 1 p ja, insV 2 1 ((p + (ja + 1) : Nat) : Int) jb] = R.take p ++ newL 1 1 (ja + 1) ++ newL 2 1 (jb + 1) ++ R.drop p := by
  simp only [foldV, List.foldl_cons, List.foldl_nil]
  rw [does_insV _ _ _ _ _ ha, does_insV _ _ _ _ _ hb]
  have := insL_two R p (newL 1 1 (ja + 1)) (newL 2 1 (jb + 1)) h
  rw [newL_length] at this
  exact this
theorem fold_other (R : List CellW) (p ja jb : Nat) (ha : ja < 5) (hb : jb < 5) (h : p ≤ R.length) : foldV R [insV 2 1 p jb, insV 1 1 p ja] = R.take p ++ newL 1 1 (ja + 1) ++ newL 2 1 (jb + 1) ++ R.drop p := by
  simp only [foldV, List.foldl_cons, List.foldl_nil]
  rw [does_insV _ _ _ _ _ hb, does_insV _ _ _ _ _ ha]
  exact insL_at R p (newL 1 1 (ja + 1)) (newL 2 1 (jb + 1)) h
theorem box4 {W : World} {b : Nat} {T : TypeId} {v0 v1 v2 v3 : Value} (h : W.heap[b]? = some (.cells #[v0, v1, v2, v3] T)) : W.cell? ⟨b, 0, none⟩ = some v0 ∧ W.cell? ⟨b, 1, none⟩ = some v1 ∧ W.cell? ⟨b, 2, none⟩ = some v2 ∧ W.cell? ⟨b, 3, none⟩ = some v3 := by
  simp only [Lib.cell_of_heap h]
  exact ⟨rfl, rfl, rfl, rfl⟩
theorem wr4 {W : World} {b : Nat} {T : TypeId} {v0 v1 v2 v3 : Value} (h : W.heap[b]? = some (.cells #[v0, v1, v2, v3] T)) : W.frozen? ⟨b, 0, none⟩ = false ∧ W.frozen? ⟨b, 1, none⟩ = false ∧ W.frozen? ⟨b, 2, none⟩ = false ∧ W.frozen? ⟨b, 3, none⟩ = false :=
  ⟨Lib.frozen_of_heap h 0, Lib.frozen_of_heap h 1, Lib.frozen_of_heap h 2, Lib.frozen_of_heap h 3⟩
theorem set4k {W : World} {b : Nat} {T : TypeId} {v0 v1 v2 v3 : Value} (h : W.heap[b]? = some (.cells #[v0, v1, v2, v3] T)) (u : Value) : ∃ W9, W.setCell ⟨b, 2, none⟩ u = W9 ∧ W9.heap[b]? = some (.cells #[v0, v1, u, v3] T) ∧ But b W W9 ∧ (∀ (n : Nat) (w0 : World), Below n w0 W → n ≤ b → Below n w0 W9) :=
  ⟨_, rfl, (heap_setCell_same _ b 2 _ _ u h).trans (by simp), But.set _ _ _ _, fun _ _ hb hn => hb.setCell (by simp only; omega) _⟩
theorem store4 {W : World} {b : Nat} {T : TypeId} {v0 v1 v2 v3 : Value} (h : W.heap[b]? = some (.cells #[v0, v1, v2, v3] T)) (u0 u1 u2 u3 : Value) : ∃ W9, (((W.setCell ⟨b, 0, none⟩ u0).setCell ⟨b, 1, none⟩ u1).setCell ⟨b, 2, none⟩ u2).setCell ⟨b, 3, none⟩ u3 = W9 ∧ W9.heap[b]? = some (.cells #[u0, u1, u2, u3] T) ∧ But b W W9 ∧ (∀ (n : Nat) (w0 : World), Below n w0 W → n ≤ b → Below n w0 W9) := by
  have h0 := (heap_setCell_same _ b 0 _ _ u0 h).trans (by simp; rfl)
  have h1 := (heap_setCell_same _ b 1 _ _ u1 h0).trans (by simp; rfl)
  have h2 := (heap_setCell_same _ b 2 _ _ u2 h1).trans (by simp; rfl)
  have h3 := (heap_setCell_same _ b 3 _ _ u3 h2).trans (by simp; rfl)
  exact ⟨_, rfl, h3, (((But.set _ _ _ _).trans (But.set _ _ _ _)).trans (But.set _ _ _ _)).trans (But.set _ _ _ _), fun _ _ hb hn => (((hb.setCell (by simp only; omega) _).setCell (by simp only; omega) _).setCell (by simp only; omega) _).setCell (by simp only; omega) _⟩
theorem But.below {b n : Nat} {w W W9 : World} (hK : But b W W9) (hb : Below n w W) (hn : n ≤ b) (hos : W9.os = W.os) (ht : W9.tape = W.tape) (ho : W9.output = W.output) : Below n w W9 :=
  ⟨hos.trans hb.os, ht.trans hb.tape, ho.trans hb.output, by rw [hK.1]; exact hb.size, fun k hk => (hK.2 k (by omega)).trans (hb.block k hk)⟩
/-- What stands at each place of the row. -/
theorem early_get (n p ja jb : Nat) (hp : p ≤ n) (q : Nat) : ((((List.range n).map fun i => (((0, 0), ((i : Nat) : Int), 0) : CellW)).take p ++ newL 1 1 ja ++ newL 2 1 jb ++ ((List.range n).map fun i => (((0, 0), ((i : Nat) : Int), 0) : CellW)).drop p)[q]?) =
    if q < p then some ((0, 0), (q : Int), 0) else if q < p + ja then some ((1, 1), ((q - p : Nat) : Int), 0) else if q < p + ja + jb then some ((2, 1), ((q - p - ja : Nat) : Int), 0) else if q < n + ja + jb then some ((0, 0), ((q - ja - jb : Nat) : Int), 0) else none := by
  have l1 : (((List.range n).map fun i => (((0, 0), ((i : Nat) : Int), 0) : CellW)).take p).length = p := by simp; omega
  by_cases h1 : q < p
  · rw [if_pos h1, List.append_assoc, List.append_assoc, List.getElem?_append_left (by omega), List.getElem?_take, if_pos h1, List.getElem?_map, List.getElem?_range (by omega)]
    rfl
  · rw [if_neg h1]
    by_cases h2 : q < p + ja
    · rw [if_pos h2, List.append_assoc, List.append_assoc, List.getElem?_append_right (by omega), l1, List.getElem?_append_left (by rw [newL_length]; omega)]
      simp only [newL, List.getElem?_map]
      rw [List.getElem?_range (by omega)]
      rfl
    · rw [if_neg h2]
      by_cases h3 : q < p + ja + jb
      · rw [if_pos h3, List.append_assoc, List.append_assoc, List.getElem?_append_right (by omega), l1, List.getElem?_append_right (by rw [newL_length]; omega), newL_length, List.getElem?_append_left (by rw [newL_length]; omega)]
        simp only [newL, List.getElem?_map]
        rw [List.getElem?_range (by omega)]
        rfl
      · rw [if_neg h3, List.append_assoc, List.append_assoc, List.getElem?_append_right (by omega), l1, List.getElem?_append_right (by rw [newL_length]; omega), newL_length, List.getElem?_append_right (by rw [newL_length]; omega), newL_length, List.getElem?_drop, List.getElem?_map]
        by_cases h4 : q < n + ja + jb
        · rw [if_pos h4, List.getElem?_range (by omega)]
          simp only [Option.map_some, Option.some.injEq, Prod.mk.injEq, and_true, true_and]
          omega
        · rw [if_neg h4, List.getElem?_eq_none (by simp; omega)]
          rfl
theorem cell_al {W : World} {p : Addr} {v : Value} (h : W.cell? p = some v) (o : Obj) : (W.alloc o).cell? p = some v := (World.cell?_alloc_lt _ _ _ (World.block_lt_of_cell? W p h)).trans h

end Go.Proofs.YthkfcocakhekaaaDoor

namespace Go.Proofs.YthkfcocakhekaaaDoor
open Go.RowKit Go.Lib
set_option maxRecDepth 100000

def findReg (n : Nat) : Code → Option Code
  | .region id ops b => if id = n then some (.region id ops b) else none
  | .seq a b => match findReg n a with
    | some c => some c
    | none => findReg n b
  | .loop c => findReg n c
  | .block _ c => findReg n c
  | .scope c => findReg n c
  | .cond _ a b => match findReg n a with
    | some c => some c
    | none => findReg n b
  | _ => none
noncomputable def earlyReg (n : Nat) : Code := ((Tryd.f4.body.bind (findReg n)).getD .skip)
end Go.Proofs.YthkfcocakhekaaaDoor
