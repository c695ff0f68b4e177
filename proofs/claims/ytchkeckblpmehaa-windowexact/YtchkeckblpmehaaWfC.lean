import Derived.Test.YtchkeckblpmehaaWfI
import Derived.OrdersIn
/-! A window and a counter beside it, above a world that stands. -/
namespace Go.Proofs.Ytchkeckblpmehaa
open Go.RowKit Go.Lib
set_option maxRecDepth 100000

section
variable {F : Fence} {n : Nat} {P : Program} {md : Region.Mode} {ops : Array Oper} {Q : Exit → Act → World → Prop}
theorem takeR {i : Nat} {oi : Oper} {d : Option Nat} {v : Value} {fuel : Nat} {listed : Array Bool} {a : Act} {w : World} (hF : F.round = none) (hi : ops[i]? = some oi) (hd : oi.dst = d)
    (hs : Region.noSelect ops = true) (hf : Region.free md ops listed i = true) (hr : (Region.ready md ops listed).contains i = true)
    (hQ : ∀ c a w, Q (.panic c) (a.put oi.dst v) w → Q (.panic c) a w) (hy : YieldsFenced P ops oi v a)
    (h : wpAnyIn F n P md ops Q fuel (listed.setIfInBounds i true) (a.put d v) w) : wpAnyIn F n P md ops Q (fuel + 1) listed a w := by
  subst hd
  exact wpAnyIn_take hF hi hs hf hr hQ hy h
end
theorem run_equalIn_func_nil {P : Program} (w : World) (d : Nat) (t : TypeId) (ps rs : Array TypeId) (vr : Bool) (f : Fn) (x y : Array Value) (h : P.underlying t = some (.func ps rs vr)) :
    (Op.equalIn (d + 1) t (.func f x y) .nilFunc).run P w = .ok false w := by
  simp [Op.equalIn, run_underlying h]
theorem run_eql_func_nil {P : Program} (w : World) (t : TypeId) (ps rs : Array TypeId) (vr : Bool) (f : Fn) (x y : Array Value) (h : P.underlying t = some (.func ps rs vr)) :
    (binOp .eql t (.func f x y) .nilFunc).run P w = .ok (.bool false) w := by
  simp only [binOp]
  simp [Op.equal, Op.maxDepth, run_equalIn_func_nil w 9999 t ps rs vr f x y h]
/-- A piece of code that can't fail. -/
theorem wpIn_calm {F : Fence} {n : Nat} {P : Program} {s : Code} {K : Act → World → Prop} {Q' : Exit → Act → World → Prop} {a : Act} {w : World} (h : s.wpIn F n P (Exit.then K (fun _ _ _ => False)) a w) : s.wpIn F n P (Exit.then K Q') a w := by
  refine wpIn_mono h ?_
  intro e a' w' hq
  cases e with
  | normal => exact hq
  | exit id => exact False.elim hq
  | goto l => exact False.elim hq
  | ret => exact False.elim hq
  | panic ch => exact False.elim hq
  | outgrown => exact False.elim hq
theorem results_cells1 {fn : Func} {p : Tmp} {s : TypeId} (h : fn.results = #[.cell p s]) (tmps : Array Value) (P : Program) (w : World) :
    (results fn tmps).run P w = ((asAddr (tmps.getD p undef)).run P w).andThen fun a w₁ => (loadVar s a).run P w₁ := by
  simp only [results, h]
  simp [Sem.run_bind, Result.andThen]
/-- The mark that a loop over an iterator leaves. -/
def mark (r : Nat) : Deferred := { target := .collected r, args := #[] }
/-- A function that holds loops over iterators leaves. -/
theorem leave_marks {F : Fence} {n : Nat} {P : Program} {fn : Func} {tmps : Array Value} {R : Ending → World → Prop} : ∀ (rs : List Nat) (W : World), rs.Nodup → (∀ r ∈ rs, W.heap[r]? = some (.deferred (some []))) →
    (∀ W', Chg (fun g => g ∈ rs) W W' → ∃ v, (results fn tmps).run P W' = .ok v W' ∧ R (.returned v) W') → LeavesInM F n P fn tmps R (rs.map mark) .returning W
  | [], W, _, _, h => h W (Chg.refl _ _)
  | r :: rs, W, hd, hm, h => by
    have h0 := hm r (by simp)
    rw [List.nodup_cons] at hd
    have hC : Chg (fun g => g = r) W (W.putObj r (.deferred none)) := chg_setBlock _
    refine ⟨by simp, .inl ⟨r, _, rfl, run_takeDeferred h0, ?_⟩⟩
    exact leave_marks rs _ hd.2 (fun x hx => hC.block (hm x (by simp [hx])) (fun e => hd.1 (e ▸ hx))) (fun W' hC' => h W' ((hC.mono fun _ _ hg => by simp [hg]).trans (hC'.mono fun _ _ hg => by simp [hg])))
theorem grown_chg {W W' : World} {row : Option Nat} {B : Nat} (hg : W.grownBy W' row) (hr : ∀ r, row = some r → B ≤ r) : Chg (fun g => B ≤ g) W W' :=
  ⟨⟨hg.os, hg.tape, hg.output, hg.size, fun _ hk => absurd hk (Nat.not_lt_zero _)⟩, fun g hlt hne => hg.block g hlt (fun e => hne (hr g e.symm))⟩
theorem ownW_of {B : Nat} {I : World → Prop} (h : ∀ W W', I W → Chg (fun g => B ≤ g) W W' → I W') : OwnW B I := fun _ W W' _ hs hg hr => h W W' hs (grown_chg hg (fun r e => (hr r e).1))
theorem keepsFrom_chg {D : Nat → Prop} {B : Nat} {W W' : World} (h : Chg D W W') (hD : ∀ g, D g → g < B) : KeepsFrom B W W' :=
  ⟨h.size, fun k o hk ho _ => h.block ho (fun hd => by have := hD k hd; omega)⟩
section
variable {α : Type} {f : α → Value} {T : TypeId}
/-- A window (its blocks q, b) and a box of one value (block o), above a world W0. -/
structure SI (f : α → Value) (T : TypeId) (q b o : Nat) (TO : TypeId) (W0 W : World) (S : Wn α) (v : Value) : Prop where
  win : WinAt f T W q b S
  out : W.heap[o]? = some (.cells #[v] TO)
  chg : Chg (fun g => Wb q b g ∨ g = o) W0 W
theorem SI.ne {q b o : Nat} {TO : TypeId} {W0 W : World} {S : Wn α} {v : Value} (h : SI f T q b o TO W0 W S v) : ¬ Wb q b o := by
  rintro (rfl | rfl)
  · have := h.win.box.symm.trans h.out
    simp only [Option.some.injEq, Obj.cells.injEq] at this
    have h2 := congrArg Array.size this.1
    simp at h2
  · obtain ⟨xs, ck, hm, _⟩ := h.win.map
    have := hm.heap.symm.trans h.out
    simp at this
theorem SI.put {q b o : Nat} {TO : TypeId} {W0 W W' : World} {S S' : Wn α} {v : Value} (h : SI f T q b o TO W0 W S v) (h1 : WinAt f T W' q b S') (hC : Chg (Wb q b) W W') : SI f T q b o TO W0 W' S' v :=
  ⟨h1, hC.block h.out h.ne, h.chg.trans (hC.mono fun _ _ hg => .inl hg)⟩
theorem SI.below {q b o : Nat} {TO : TypeId} {W0 W W' : World} {S : Wn α} {v : Value} (h : SI f T q b o TO W0 W S v) (hb : Below W.heap.size W W') : SI f T q b o TO W0 W' S v :=
  ⟨h.win.below hb, (hb.block _ (Array.getElem?_eq_some_iff.1 h.out).1).trans h.out, h.chg.trans (Chg.of_below hb)⟩
theorem SI.chgD {q b o : Nat} {TO : TypeId} {W0 W W' : World} {S : Wn α} {v : Value} {D : Nat → Prop} (h : SI f T q b o TO W0 W S v) (hC : Chg D W W') (hq : ¬ D q) (hb : ¬ D b) (ho : ¬ D o) (h0 : ∀ g, D g → W0.heap.size ≤ g) : SI f T q b o TO W0 W' S v :=
  ⟨h.win.chg hC hq hb, hC.block h.out ho, h.chg.then hC (fun g hg => .inr (h0 g hg))⟩
theorem SI.set {q b o : Nat} {TO : TypeId} {W0 W : World} {S : Wn α} {v : Value} (h : SI f T q b o TO W0 W S v) (v' : Value) : SI f T q b o TO W0 (W.setCell ⟨o, 0, none⟩ v') S v' := by
  have hC : Chg (fun g => g = o) W (W.setCell ⟨o, 0, none⟩ v') := Chg.set (D := fun g => g = o) (q := o) 0 _ _ rfl
  have hn := h.ne
  exact ⟨h.win.chg hC (fun e => hn (.inl e.symm)) (fun e => hn (.inr e.symm)), heap_setCell_cells h.out 0 v', h.chg.trans (hC.mono fun _ _ hg => .inr hg)⟩
theorem SI.base {q b o : Nat} {TO : TypeId} {W0 W : World} {S : Wn α} {v : Value} (h : SI f T q b o TO W0 W S v) : SI f T q b o TO W W S v := ⟨h.win, h.out, Chg.refl _ _⟩
theorem SI.of {q b o : Nat} {TO : TypeId} {W0 W W' : World} {S S' : Wn α} {v v' : Value} (h : SI f T q b o TO W0 W S v) (k : SI f T q b o TO W W' S' v') : SI f T q b o TO W0 W' S' v' := ⟨k.win, k.out, h.chg.trans k.chg⟩
end
theorem AtI.of {q b o bx : Nat} {TO : TypeId} {W0 W : World} {S : Wn Int} {v : Value} (h : SI (Value.int .i64) 61 q b o TO W0 W S v) (hx : W0.heap[bx]? = some (.cells #[.pointer (some ⟨q, 0, none⟩)] 29)) (hn : ¬ (Wb q b bx ∨ bx = o)) (hb : S.nx + (S.L.length : Int) ≤ 4611686018427387904) : AtI bx q b S W :=
  ⟨h.win, h.chg.block hx hn, hb⟩
end Go.Proofs.Ytchkeckblpmehaa
