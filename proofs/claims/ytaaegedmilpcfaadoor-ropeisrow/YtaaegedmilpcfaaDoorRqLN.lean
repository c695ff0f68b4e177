import Derived.WalkKit
import Derived.Lib.OthersKept
import Derived.RangeFuncNested
import Derived.RangeFuncBound
import Derived.RangeFuncCalls
import Derived.RangeFuncLeaves
import Derived.Test.YtaaegedmilpcfaaDoorRqA
import Derived.Test.YtaaegedmilpcfaaDoorRqK
import Derived.Shelf.Abstract
import Derived.Shelf.RegionOpen
import Derived.OwnWalkIn
import Derived.TacticsInMore
import Derived.LoopNIn
import Derived.LoopIn
/-! A loop over an iterator whose elements are told of as they come: V x W holds of what is handed to a round. -/
namespace Go.Proofs.YtaaegedmilpcfaaDoor
open Go.RowKit Go.Lib
set_option maxRecDepth 100000
section
variable {F : Fence} {n : Nat} {P : Program}

/-- An iterator that hands out what V tells. -/
def SeqV {α : Type} (F : Fence) (n : Nat) (P : Program) (g : Nat) (lb : Array Value) (encs : α → Array Value) (Kp : World → World → Prop) (V : α → World → Prop) (S Sp : List α → Prop) (w : World) : Prop :=
  ∀ (l : Nat) (J Jx : List α → World → Prop) (W : World), Below w.heap.size w W → (∀ s A B, J s A → Below A.heap.size A B → J s B) →
    (∀ m pre x W1, J pre W1 → V x W1 → Sp (pre ++ [x]) → YieldAt F m P l (encs x) W1 fun e W' => (e = .returned (.bool true) ∧ J (pre ++ [x]) W' ∧ Kp W1 W') ∨ (e = .returned (.bool false) ∧ Jx (pre ++ [x]) W')) →
    J [] W → CallsIn F n P g (#[.func (.yield l) #[] #[]] ++ lb) W fun e W' => (∃ v, e = .returned v) ∧ ((∃ xs, S xs ∧ J xs W') ∨ (∃ pre, Sp pre ∧ Jx pre W'))
theorem grown_of_below {A B : World} (h : Below A.heap.size A B) : A.grownBy B none := ⟨h.os, h.tape, h.output, h.size, fun k hk _ => h.block k hk⟩
theorem ownBelow {β : Type} {B0 : Nat} {I : β → World → Prop} (h : OwnFrom B0 I) {s : β} {A B : World} (hs : I s A) (hb : Below A.heap.size A B) : I s B := h s A B none hs (grown_of_below hb) (fun r e => by cases e)
/-- The record of a loop that is at hand. -/
def recOf (fn : FuncId) (tmps : Array Value) (ps : Array Tmp) (assign body : Code) (D : Nat) (st : LoopState) (pe : Option Code) : Loop := { state := st, pending := pe, fn := fn, tmps := tmps, params := ps, assign := assign, body := body, defers := D }
/-- One round, out of its body's walk. -/
theorem round_v {α : Type} {fn : FuncId} {tmps : Array Value} {ps : Array Tmp} {assign body : Code} {D : Nat} (hfn : F.fn fn) {Kp : World → World → Prop} {I : List α → World → Prop} {Ix : Code → List α → World → Prop} (hI : OwnFrom D I) (hIx : ∀ c, OwnFrom D (Ix c))
    {V : α → World → Prop} (hV : ∀ x, OwnFrom D (fun (_ : Unit) W => V x W)) (hKt : ∀ {A B C : World}, Kp A B → Kp B C → Kp A C) (hKb : ∀ (W : World) (l : Nat) (o o' : Obj), D ≤ l → W.heap[l]? = some o → o.isCells = false → o.isWalk = false → Kp W (W.putObj l o'))
    {encs : α → Array Value} (hps : ∀ x, (encs x).size = ps.size) {m k : Nat} (hd : F.depth = none) (a₁ : α → Act)
    (hassign : ∀ (l : Nat) (x : α) (W : World) (K : Act → World → Prop), K (a₁ x) W → assign.wpIn (F.inRound l) k P (Exit.then K (fun _ _ _ => False)) { tmps := (ps.zip (encs x)).foldl (fun t (p, v) => t.setIfInBounds p v) tmps, defers := [] } W)
    {Sp : List α → Prop} (hbody : ∀ (l : Nat) (pre : List α) (x : α) (W : World), I pre W → V x W → Sp (pre ++ [x]) → body.wpIn (F.inRound l) k P (ownPostG D Kp I Ix (pre ++ [x]) W) (a₁ x) W)
    (pre : List α) (x : α) (W : World) (hi : I pre W) (hv : V x W) (hsp : Sp (pre ++ [x])) (hl : W.heap[D + 1]? = some (.loop (recOf fn tmps ps assign body D .ready none))) (hk : W.heap[D]? = some (.deferred (some []))) :
    YieldAt F m P (D + 1) (encs x) W fun e W' => (e = .returned (.bool true) ∧ (I (pre ++ [x]) W' ∧ W'.heap[D + 1]? = some (.loop (recOf fn tmps ps assign body D .ready none)) ∧ W'.heap[D]? = some (.deferred (some []))) ∧ Kp W W') ∨
      (e = .returned (.bool false) ∧ ∃ c, Ix c (pre ++ [x]) W' ∧ W'.heap[D + 1]? = some (.loop (recOf fn tmps ps assign body D .done (some c))) ∧ W'.heap[D]? = some (.deferred (some []))) := by
  have hlt : D + 1 < W.heap.size := (Array.getElem?_eq_some_iff.1 hl).1
  have any : ∀ {mm m' : Nat} {f : FuncId} {t : Array Value} {as bd : Code} {R : Ending → World → Prop}, RoundIn F mm P (D + 1) f t as bd W R → RoundIn F m' P (D + 1) f t as bd W R := fun h => ⟨h.1, fun c cs _ => h.2 c cs (fun d e => by rw [hd] at e; cases e)⟩
  refine ⟨fn, _, assign, body, run_yield (P := P) (args := encs x) hl (hps x), any (roundIn_of_wpIn (n := k) hfn (hassign _ x W _ ⟨_, run_beginRound hl rfl, ?_⟩))⟩
  generalize hbz : W.putObj (D + 1) (.loop { recOf fn tmps ps assign body D .ready none with state := .busy }) = Wz
  have z1 : Wz.heap[D + 1]? = some (.loop { recOf fn tmps ps assign body D .ready none with state := .busy }) := by rw [← hbz]; exact World.putObj_heap_same hlt
  have z2 : Wz.heap[D]? = some (.deferred (some [])) := by rw [← hbz]; exact (World.putObj_heap_other (by omega)).trans hk
  have z3 : Kp W Wz := by rw [← hbz]; exact hKb _ _ _ _ (by omega) hl rfl rfl
  have z4 : I pre Wz := by rw [← hbz]; exact hI.putObj _ hi (by omega) hl rfl
  have z5 : V x Wz := by rw [← hbz]; exact (hV x).putObj (s := ()) _ hv (by omega) hl rfl
  refine wpIn_mono (hbody (D + 1) pre x Wz z4 z5 hsp) ?_
  -- the round's end, whichever way the body was left
  have leave : ∀ (j : Option Code) (W3 : World), KeepsFrom D Wz W3 → ∃ v W4, (Instr.endRound (D + 1) j).run P W3 = .ok v W4 ∧ v = .bool j.isNone ∧ W3.heap[D + 1]? = some (.loop { recOf fn tmps ps assign body D .ready none with state := .busy }) ∧
      W4 = W3.putObj (D + 1) (.loop (recOf fn tmps ps assign body D (if j.isNone then .ready else .done) j)) ∧ W4.heap[D + 1]? = some (.loop (recOf fn tmps ps assign body D (if j.isNone then .ready else .done) j)) ∧ W4.heap[D]? = some (.deferred (some [])) := fun j W3 hkf => by
    have y1 := hkf.same _ _ (by omega) z1 rfl
    have y2 := hkf.same _ _ (Nat.le_refl _) z2 rfl
    exact ⟨_, _, run_endRound (P := P) j y1, rfl, y1, rfl, World.putObj_heap_same (Array.getElem?_eq_some_iff.1 y1).1, (World.putObj_heap_other (by omega)).trans y2⟩
  intro e a3 W3 hp
  cases e with
  | normal =>
    obtain ⟨v, W4, r1, rfl, r2, rfl, r3, r4⟩ := leave none W3 hp.1
    exact ⟨_, _, r1, .inl ⟨rfl, ⟨hI.putObj _ hp.2.2 (by omega) r2 rfl, r3, r4⟩, hKt z3 (hKt hp.2.1 (hKb _ _ _ _ (by omega) r2 rfl rfl))⟩⟩
  | ret =>
    obtain ⟨v, W4, r1, rfl, r2, rfl, r3, r4⟩ := leave (some .ret) W3 hp.1
    exact ⟨_, _, r1, .inr ⟨rfl, _, (hIx _).putObj _ hp.2 (by omega) r2 rfl, r3, r4⟩⟩
  | exit id =>
    obtain ⟨v, W4, r1, rfl, r2, rfl, r3, r4⟩ := leave (some (.exit id)) W3 hp.1
    exact ⟨_, _, r1, .inr ⟨rfl, _, (hIx _).putObj _ hp.2 (by omega) r2 rfl, r3, r4⟩⟩
  | goto t =>
    obtain ⟨v, W4, r1, rfl, r2, rfl, r3, r4⟩ := leave (some (.goto t)) W3 hp.1
    exact ⟨_, _, r1, .inr ⟨rfl, _, (hIx _).putObj _ hp.2 (by omega) r2 rfl, r3, r4⟩⟩
  | panic ch => exact hp.elim
  | outgrown => exact hp.elim
/-- The loop. -/
theorem rangeV {α : Type} {g : Operand} {ps : Array Tmp} {assign body : Code} {Q : Exit → Act → World → Prop} {a : Act} {w : World}
    (hro : F.round = none) (hd : F.depth = none) (h1 : 1 ≤ n) {gf : Nat} {lb : Array Value} (hg : a.eval g = .func (.func gf) #[] lb) (hFg : F.fn gf) (eg : ∀ args w, (callFunc gf args).run P w = .ok (.enter gf args) w)
    {encs : α → Array Value} {Kp : World → World → Prop} {V : α → World → Prop} {S Sp : List α → Prop} {w0 : World} (hseq : SeqV F (n - 1) P gf lb encs Kp V S Sp w0)
    (hKt : ∀ {A B C : World}, Kp A B → Kp B C → Kp A C) (hKb : ∀ (W : World) (l : Nat) (o o' : Obj), w.heap.size ≤ l → W.heap[l]? = some o → o.isCells = false → o.isWalk = false → Kp W (W.putObj l o')) (hb0 : Below w0.heap.size w0 w) (hps : ∀ x, (encs x).size = ps.size)
    (I : List α → World → Prop) (Ix : Code → List α → World → Prop) (hI : OwnFrom w.heap.size I) (hIx : ∀ c, OwnFrom w.heap.size (Ix c)) (hV : ∀ x, OwnFrom w.heap.size (fun (_ : Unit) W => V x W)) (h0 : I [] w) (a₁ : α → Act)
    (hassign : ∀ (l : Nat) (x : α) (W : World) (K : Act → World → Prop), K (a₁ x) W → assign.wpIn (F.inRound l) (n - 1 - 1) P (Exit.then K (fun _ _ _ => False)) { tmps := (ps.zip (encs x)).foldl (fun t (p, v) => t.setIfInBounds p v) a.tmps, defers := [] } W)
    (hbody : ∀ (l : Nat) (pre : List α) (x : α) (W : World), I pre W → V x W → Sp (pre ++ [x]) → body.wpIn (F.inRound l) (n - 1 - 1) P (ownPostG w.heap.size Kp I Ix (pre ++ [x]) W) (a₁ x) W)
    (hdone : ∀ (D : Nat) (xs : List α) (W : World), w.heap.size ≤ D → S xs → I xs W → W.heap[D]? = some (.deferred (some [])) → Q .normal { a with defers := { target := .collected D, args := #[] } :: a.defers } W)
    (hstop : ∀ (D : Nat) (c : Code) (pre : List α) (W : World), w.heap.size ≤ D → Sp pre → Ix c pre W → W.heap[D]? = some (.deferred (some [])) → c.wpIn F n P Q { a with defers := { target := .collected D, args := #[] } :: a.defers } W) :
    (Code.rangeFunc g ps assign body).wpIn F n P Q a w := by
  refine wpIn_rangeFunc fun fn hfn => ?_
  rw [hro]
  generalize hW1 : (w.alloc (.deferred (some []))).alloc (.loop (recOf fn a.tmps ps assign body w.heap.size .ready none)) = W1
  have e1 : W1.heap[w.heap.size + 1]? = some (.loop (recOf fn a.tmps ps assign body w.heap.size .ready none)) := by
    rw [← hW1]
    have := World.alloc_heap_new (w.alloc (.deferred (some []))) (.loop (recOf fn a.tmps ps assign body w.heap.size .ready none))
    rwa [World.size_alloc] at this
  have e2 : W1.heap[w.heap.size]? = some (.deferred (some [])) := by
    rw [← hW1]; exact (Below.heap_alloc _ _ _ (by simp)).trans (World.alloc_heap_new w _)
  have e3 : Below w.heap.size w W1 := by rw [← hW1]; exact ((Below.refl _ w).alloc (Nat.le_refl _) _).alloc (by simp) _
  refine ⟨w.heap.size + 1, [{ target := .collected w.heap.size, args := #[] }], W1, { target := .fn (.func gf) lb, args := #[.func (.yield (w.heap.size + 1)) #[] #[]] }, W1, gf, #[.func (.yield (w.heap.size + 1)) #[] #[]] ++ lb, W1, ?_, ?_, ?_, ?_, fun _ => h1, ?_⟩
  · rw [← hW1]; exact run_enterLoop_outer _ _ _ _ _
  · simp only [resolve, hg]
    simp [go_sem]
  · intro f' hf'; simp [Target.leads] at hf'; subst hf'; exact hFg
  · simp [invoke, go_sem, eg]
  · refine (hseq (w.heap.size + 1)
      (fun pre W => I pre W ∧ W.heap[w.heap.size + 1]? = some (.loop (recOf fn a.tmps ps assign body w.heap.size .ready none)) ∧ W.heap[w.heap.size]? = some (.deferred (some [])))
      (fun pre W => ∃ c, Ix c pre W ∧ W.heap[w.heap.size + 1]? = some (.loop (recOf fn a.tmps ps assign body w.heap.size .done (some c))) ∧ W.heap[w.heap.size]? = some (.deferred (some [])))
      W1 (hb0.trans (e3.mono hb0.size))
      (fun s A B hs hb => ⟨ownBelow hI hs.1 hb, (hb.block _ (Array.getElem?_eq_some_iff.1 hs.2.1).1).trans hs.2.1, (hb.block _ (Array.getElem?_eq_some_iff.1 hs.2.2).1).trans hs.2.2⟩)
      (fun m pre x W hJ hv hsp => round_v (Kp := Kp) hfn hI hIx hV hKt hKb hps hd a₁ hassign hbody pre x W hJ.1 hv hsp hJ.2.1 hJ.2.2) ⟨ownBelow hI h0 e3, e1, e2⟩).mono ?_
    rintro e W2 ⟨⟨v, rfl⟩, (⟨xs, hS, hi, hl, hk⟩ | ⟨pre, hSp, c, hi, hl, hk⟩)⟩
    · exact ⟨none, _, run_endLoop (P := P) hl (by simp [recOf]), hdone _ xs _ (Nat.le_refl _) hS (hI.putObj _ hi (by omega) hl rfl) ((World.putObj_heap_other (by omega)).trans hk)⟩
    · exact ⟨some c, _, run_endLoop (P := P) hl (by simp [recOf]), hstop _ c pre _ (Nat.le_refl _) hSp ((hIx c).putObj _ hi (by omega) hl rfl) ((World.putObj_heap_other (by omega)).trans hk)⟩
end
end Go.Proofs.YtaaegedmilpcfaaDoor

/-! The pieces among some places of a row. -/
namespace Go.Proofs.YtaaegedmilpcfaaDoor
set_option maxRecDepth 100000

/-- What 'give' hands out: the place, the runes, the counter. -/
def one (p : List Int × Int) (f lo hi : Int) : List (Int × List Int × Int) :=
  if max lo f < min hi (f + p.1.length) then [(max lo f, (p.1.take (min hi (f + p.1.length) - f).toNat).drop (max lo f - f).toNat, p.2)] else []
def gv : List (List Int × Int) → Int → Int → Int → List (Int × List Int × Int)
  | [], _, _, _ => []
  | p :: t, f, lo, hi => one p f lo hi ++ gv t (f + p.1.length) lo hi
theorem gv_append : ∀ (l k : List (List Int × Int)) (f lo hi : Int), gv (l ++ k) f lo hi = gv l f lo hi ++ gv k (f + (rowOf l).length) lo hi
  | [], k, f, lo, hi => by simp [gv, rowOf]
  | p :: t, k, f, lo, hi => by
    have ih := gv_append t k (f + p.1.length) lo hi
    have e : ((rowOf (p :: t)).length : Int) = p.1.length + (rowOf t).length := by rw [rowOf_cons, List.length_append, List.length_map]; omega
    rw [List.cons_append]
    simp only [gv]
    rw [ih, e, List.append_assoc, Int.add_assoc]
theorem gv_none : ∀ (l : List (List Int × Int)) (f lo hi : Int), min hi (f + (rowOf l).length) ≤ max lo f → gv l f lo hi = []
  | [], _, _, _, _ => rfl
  | p :: t, f, lo, hi, h => by
    have e : ((rowOf (p :: t)).length : Int) = p.1.length + (rowOf t).length := by rw [rowOf_cons, List.length_append, List.length_map]; omega
    rw [e] at h
    simp only [gv]
    rw [gv_none t (f + p.1.length) lo hi (by omega)]
    unfold one
    rw [if_neg (by omega)]
    rfl
/-- Cut down to the row's own places it is the same. -/
theorem gv_clip : ∀ (l : List (List Int × Int)) (f lo hi F H : Int), F ≤ f → f + (rowOf l).length ≤ H → gv l f (max lo F) (min hi H) = gv l f lo hi
  | [], _, _, _, _, _, _, _ => rfl
  | p :: t, f, lo, hi, F, H, h1, h2 => by
    have e : ((rowOf (p :: t)).length : Int) = p.1.length + (rowOf t).length := by rw [rowOf_cons, List.length_append, List.length_map]; omega
    rw [e] at h2
    simp only [gv]
    rw [gv_clip t (f + p.1.length) lo hi F H (by omega) (by omega)]
    congr 1
    unfold one
    rw [show max (max lo F) f = max lo f by omega, show min (min hi H) (f + p.1.length) = min hi (f + p.1.length) by omega]
/-- All of a row's cells that lie among the places. -/
def cellsG (ys : List (Int × List Int × Int)) : List (Int × Int) := ys.flatMap fun y => y.2.1.map fun c => (c, y.2.2)
theorem cellsG_append (l k : List (Int × List Int × Int)) : cellsG (l ++ k) = cellsG l ++ cellsG k := by simp [cellsG]
theorem gv_cells : ∀ (l : List (List Int × Int)) (f lo hi : Int), cellsG (gv l f lo hi) = ((rowOf l).take (hi - f).toNat).drop (lo - f).toNat
  | [], _, _, _ => by simp [gv, cellsG, rowOf]
  | p :: t, f, lo, hi => by
    have ih := gv_cells t (f + p.1.length) lo hi
    have hone : cellsG (one p f lo hi) = ((p.1.take (hi - f).toNat).drop (lo - f).toNat).map fun c => (c, p.2) := by
      unfold one
      by_cases h : max lo f < min hi (f + p.1.length)
      · rw [if_pos h]
        simp only [cellsG, List.flatMap_cons, List.flatMap_nil, List.append_nil]
        congr 1
        rw [show (max lo f - f).toNat = (lo - f).toNat by omega]
        by_cases h2 : hi ≤ f + p.1.length
        · rw [show (min hi (f + p.1.length) - f).toNat = (hi - f).toNat by omega]
        · rw [List.take_of_length_le (by omega), List.take_of_length_le (by omega)]
      · rw [if_neg h]
        symm
        simp only [cellsG, List.flatMap_nil, List.map_eq_nil_iff, List.drop_eq_nil_iff, List.length_take]
        omega
    simp only [gv]
    rw [cellsG_append, ih, hone, rowOf_cons, List.take_append, List.drop_append, List.length_map]
    congr 1
    · simp [List.map_take, List.map_drop]
    · simp only [List.length_take, List.length_map]
      by_cases h : (hi - f).toNat ≤ p.1.length
      · rw [show (hi - f).toNat - p.1.length = 0 by omega, show (hi - (f + p.1.length)).toNat = 0 by omega]
        simp
      · rw [show (hi - f).toNat - p.1.length = (hi - (f + p.1.length)).toNat by omega, show (lo - f).toNat - min (hi - f).toNat p.1.length = (lo - (f + p.1.length)).toNat by omega]
end Go.Proofs.YtaaegedmilpcfaaDoor

namespace Go.Proofs.YtaaegedmilpcfaaDoor
open Go.RowKit Go.Lib Go.Shelf
set_option maxRecDepth 100000
attribute [local go_sem] Oper.semAt_some

/-- A tree's blocks are blocks of nodes and of runes. -/
theorem At.avoid {w : World} {D : Nat → Prop} (h1 : ∀ (b : Nat) (cs : Array Value) fr, w.heap[b]? = some (.cells cs 77 fr) → D b) (h2 : ∀ (b : Nat) (cs : Array Value) fr, w.heap[b]? = some (.cells cs 21 fr) → D b) : ∀ {t : Tr} {g : Nat}, At w t g → AtD w D t g
  | .nil, g, h => ⟨h1 g _ _ h, h⟩
  | .leaf rs _ _, g, ⟨a, cap, k1, k2⟩ => ⟨h1 g _ _ k1, a, cap, k1, k2, fun h0 gr off e => by
      obtain ⟨cs, fr, hh⟩ := k2.typ h0 gr off e
      exact h2 gr cs fr hh⟩
  | .node _ _ _, g, ⟨gl, gr, k1, k2, k3⟩ => ⟨h1 g _ _ k1, gl, gr, k1, At.avoid h1 h2 k2, At.avoid h1 h2 k3⟩
/-- Blocks of nodes and of runes are kept. -/
structure KpT (W W' : World) : Prop where
  size : W.heap.size ≤ W'.heap.size
  node : ∀ (b : Nat) (cs : Array Value) fr, W.heap[b]? = some (.cells cs 77 fr) → W'.heap[b]? = W.heap[b]?
  rune : ∀ (b : Nat) (cs : Array Value) fr, W.heap[b]? = some (.cells cs 21 fr) → W'.heap[b]? = W.heap[b]?
theorem KpT.refl (W : World) : KpT W W := ⟨Nat.le_refl _, fun _ _ _ _ => rfl, fun _ _ _ _ => rfl⟩
theorem KpT.trans {A B C : World} (h : KpT A B) (k : KpT B C) : KpT A C :=
  ⟨Nat.le_trans h.size k.size, fun b cs fr hb => (k.node b cs fr ((h.node b cs fr hb).trans hb)).trans (h.node b cs fr hb), fun b cs fr hb => (k.rune b cs fr ((h.rune b cs fr hb).trans hb)).trans (h.rune b cs fr hb)⟩
theorem KpT.below {A B : World} (h : Below A.heap.size A B) : KpT A B := ⟨h.size, fun b _ _ hb => h.block b (Array.getElem?_eq_some_iff.1 hb).1, fun b _ _ hb => h.block b (Array.getElem?_eq_some_iff.1 hb).1⟩
theorem KpT.grown {A B : World} {row : Option Nat} (h : A.grownBy B row) (hr : ∀ r o, row = some r → A.heap[r]? = some o → (∀ cs fr, o ≠ .cells cs 77 fr) ∧ (∀ cs fr, o ≠ .cells cs 21 fr)) : KpT A B :=
  ⟨h.size, fun b cs fr hb => h.block b (Array.getElem?_eq_some_iff.1 hb).1 (fun e => (hr b _ e.symm hb).1 cs fr rfl), fun b cs fr hb => h.block b (Array.getElem?_eq_some_iff.1 hb).1 (fun e => (hr b _ e.symm hb).2 cs fr rfl)⟩
theorem kpT_b {w : World} (W : World) (l : Nat) (o o' : Obj) (_ : w.heap.size ≤ l) (h : W.heap[l]? = some o) (hc : o.isCells = false) (_ : o.isWalk = false) : KpT W (W.putObj l o') :=
  KpT.grown (grownBy_putObj' W l o') (fun r o2 e hr => by
    cases e
    rw [h] at hr
    cases hr
    exact ⟨fun cs fr e => by rw [e] at hc; simp [Obj.isCells] at hc, fun cs fr e => by rw [e] at hc; simp [Obj.isCells] at hc⟩)
theorem At.kpT {W W' : World} {t : Tr} {g : Nat} (h : At W t g) (hk : KpT W W') : At W' t g := by
  have h1 : AtD W (fun b => W'.heap[b]? = W.heap[b]?) t g := h.avoid hk.node hk.rune
  exact (h1.keep (fun b hb => hb) hk.size).at
/-- A piece that comes to a round. -/
structure Pc where
  at_ : Int
  g : Nat
  rs : List Int
  h : Int
def Pc.dat (x : Pc) : Int × List Int × Int := (x.at_, x.rs, x.h)
def Pc.encs (x : Pc) : Array Value := #[.int .i64 x.at_, .pointer (some ⟨x.g, 0, none⟩)]
def Pc.V (x : Pc) (W : World) : Prop := ∃ st, At W (.leaf x.rs x.h st) x.g ∧ (Tr.leaf x.rs x.h st).Fine ∧ x.rs.length ≤ 32 ∧ ∀ r ∈ x.rs, okR r
/-- The runes of pieces are such as a text may have. -/
def Okl (l : List (List Int × Int)) : Prop := ∀ p ∈ l, ∀ r ∈ p.1, okR r
theorem Okl.left {l k : List (List Int × Int)} (h : Okl (l ++ k)) : Okl l := fun p hp => h p (List.mem_append_left _ hp)
theorem Okl.right {l k : List (List Int × Int)} (h : Okl (l ++ k)) : Okl k := fun p hp => h p (List.mem_append_right _ hp)
theorem pc_own (B : Nat) (x : Pc) : OwnFrom B (fun (_ : Unit) W => x.V W) := fun _ A C row hs hg hr => by
  obtain ⟨st, h1, h2⟩ := hs
  refine ⟨st, h1.kpT (KpT.grown hg fun r o e ho => ?_), h2⟩
  obtain ⟨_, o2, ho2, hc⟩ := hr r e
  rw [ho] at ho2
  cases ho2
  exact ⟨fun cs fr e => by rw [e] at hc; simp [Obj.isCells] at hc, fun cs fr e => by rw [e] at hc; simp [Obj.isCells] at hc⟩
end Go.Proofs.YtaaegedmilpcfaaDoor
