import Derived.WalkKit
import Derived.Lib.OthersKept
import Derived.RangeFuncNested
import Derived.RangeFuncBound
import Derived.RangeFuncCalls
import Derived.RangeFuncLeaves
namespace Go.Proofs.YtijpfbcippijoaaGreatDoor
open Go.RowKit Go.Lib
set_option maxRecDepth 100000
section
variable {F : Fence} {n : Nat} {P : Program}
def SeqV {α : Type} (F : Fence) (n : Nat) (P : Program) (g : Nat) (lb : Array Value) (encs : α → Array Value) (Kp : World → World → Prop) (V : α → World → Prop) (S Sp : List α → Prop) (w : World) : Prop :=
  ∀ (l : Nat) (J Jx : List α → World → Prop) (W : World), Below w.heap.size w W → (∀ s A B, J s A → Below A.heap.size A B → J s B) →
    (∀ m pre x W1, J pre W1 → V x W1 → Sp (pre ++ [x]) → YieldAt F m P l (encs x) W1 fun e W' => (e = .returned (.bool true) ∧ J (pre ++ [x]) W' ∧ Kp W1 W') ∨ (e = .returned (.bool false) ∧ Jx (pre ++ [x]) W')) →
    J [] W → CallsIn F n P g (#[.func (.yield l) #[] #[]] ++ lb) W fun e W' => (∃ v, e = .returned v) ∧ ((∃ xs, S xs ∧ J xs W') ∨ (∃ pre, Sp pre ∧ Jx pre W'))
theorem grown_of_below {A B : World} (h : Below A.heap.size A B) : A.grownBy B none := ⟨h.os, h.tape, h.output, h.size, fun k hk _ => h.block k hk⟩
theorem ownBelow {β : Type} {B0 : Nat} {I : β → World → Prop} (h : OwnFrom B0 I) {s : β} {A B : World} (hs : I s A) (hb : Below A.heap.size A B) : I s B := h s A B none hs (grown_of_below hb) (fun r e => by cases e)
def recOf (fn : FuncId) (tmps : Array Value) (ps : Array Tmp) (assign body : Code) (D : Nat) (st : LoopState) (pe : Option Code) : Loop := { state := st, pending := pe, fn := fn, tmps := tmps, params := ps, assign := assign, body := body, defers := D }
theorem round_v {α : Type} {fn : FuncId} {tmps : Array Value} {ps : Array Tmp} {assign body : Code} {D : Nat} (hfn : F.fn fn) {Kp : World → World → Prop} {I : List α → World → Prop} {Ix : Code → List α → World → Prop} (hI : OwnFrom D I) (hIx : ∀ c, OwnFrom D (Ix c))
    {V : α → World → Prop} (hV : ∀ x, OwnFrom D (fun (_ : Unit) W => V x W)) (hKt : ∀ {A B C : World}, Kp A B → Kp B C → Kp A C) (hKb : ∀ (W : World) (l : Nat) (o o' : Obj), D ≤ l → W.heap[l]? = some o → o.isCells = false → o.isWalk = false → Kp W (W.putObj l o'))
    {encs : α → Array Value} (hps : ∀ x, (encs x).size = ps.size) {m k : Nat} (hd : F.depth = none) (a₁ : α → Act)
    (hassign : ∀ (l : Nat) (x : α) (W : World) (K : Act → World → Prop), K (a₁ x) W → assign.wpIn (F.inRound l) k P (Exit.then K (fun _ _ _ => False)) { tmps := (ps.zip (encs x)).foldl (fun t (p, v) => t.setIfInBounds p v) tmps, defers := [] } W)
    {Sp : List α → Prop} (hbody : ∀ (l : Nat) (pre : List α) (x : α) (W : World), I pre W → V x W → Sp (pre ++ [x]) → body.wpIn (F.inRound l) k P (ownPostG D Kp I Ix (pre ++ [x]) W) (a₁ x) W)
    (pre : List α) (x : α) (W : World) (hi : I pre W) (hv : V x W) (hsp : Sp (pre ++ [x])) (hl : W.heap[D + 1]? = some (.loop (recOf fn tmps ps assign body D .ready none))) (hk : W.heap[D]? = some (.deferred (some []))) :
    YieldAt F m P (D + 1) (encs x) W fun e W' => (e = .returned (.bool true) ∧ (I (pre ++ [x]) W' ∧ W'.heap[D + 1]? = some (.loop (recOf fn tmps ps assign body D .ready none)) ∧ W'.heap[D]? = some (.deferred (some []))) ∧ Kp W W') ∨
      (e = .returned (.bool false) ∧ ∃ c, Ix c (pre ++ [x]) W' ∧ W'.heap[D + 1]? = some (.loop (recOf fn tmps ps assign body D .done (some c))) ∧ W'.heap[D]? = some (.deferred (some []))) := by
  have hlt : D + 1 < W.heap.size := (Array.getElem?_eq_some_iff.1 hl).1
  have any : ∀ {mm m' : Nat} {f : FuncId} {t : Array Value} {as bd : Code} {R : Ending → World → Prop}, RoundIn F mm P (D + 1) f t as bd W R → RoundIn F m' P (D + 1) f t as bd W R := fun h => ⟨h.1, fun c cs _ => h.2 c cs (fun d e => by rw [hd] at e; cases e)⟩
  refine ⟨fn, _, assign, body, run_yield (P := P) (args := encs x) hl (hps x), any (roundIn_of_wpIn (n := k) hfn (hassign _ x W _ ⟨_, run_beginRound hl rfl, ?_⟩))⟩
  generalize hbz : W.putObj (D + 1) (.loop { recOf fn tmps ps assign body D .ready none with state := .busy }) = Wz
  have z1 : Wz.heap[D + 1]? = some (.loop { recOf fn tmps ps assign body D .ready none with state := .busy }) := by rw [← hbz]; exact World.putObj_heap_same hlt
  have z2 : Wz.heap[D]? = some (.deferred (some [])) := by rw [← hbz]; exact (World.putObj_heap_other (by omega)).trans hk
  have z3 : Kp W Wz := by rw [← hbz]; exact hKb _ _ _ _ (by omega) hl rfl rfl
  have z4 : I pre Wz := by rw [← hbz]; exact hI.putObj _ hi (by omega) hl rfl
  have z5 : V x Wz := by rw [← hbz]; exact (hV x).putObj (s := ()) _ hv (by omega) hl rfl
  refine wpIn_mono (hbody (D + 1) pre x Wz z4 z5 hsp) ?_
  -- the round's end, whichever way the body was left
  have leave : ∀ (j : Option Code) (W3 : World), KeepsFrom D Wz W3 → ∃ v W4, (Instr.endRound (D + 1) j).run P W3 = .ok v W4 ∧ v = .bool j.isNone ∧ W3.heap[D + 1]? = some (.loop { recOf fn tmps ps assign body D .ready none with state := .busy }) ∧
      W4 = W3.putObj (D + 1) (.loop (recOf fn tmps ps assign body D (if j.isNone then .ready else .done) j)) ∧ W4.heap[D + 1]? = some (.loop (recOf fn tmps ps assign body D (if j.isNone then .ready else .done) j)) ∧ W4.heap[D]? = some (.deferred (some [])) := fun j W3 hkf => by
    have y1 := hkf.same _ _ (by omega) z1 rfl
    have y2 := hkf.same _ _ (Nat.le_refl _) z2 rfl
    exact ⟨_, _, run_endRound (P := P) j y1, rfl, y1, rfl, World.putObj_heap_same (Array.getElem?_eq_some_iff.1 y1).1, (World.putObj_heap_other (by omega)).trans y2⟩
  intro e a3 W3 hp
  cases e with
  | normal =>
    obtain ⟨v, W4, r1, rfl, r2, rfl, r3, r4⟩ := leave none W3 hp.1
    exact ⟨_, _, r1, .inl ⟨rfl, ⟨hI.putObj _ hp.2.2 (by omega) r2 rfl, r3, r4⟩, hKt z3 (hKt hp.2.1 (hKb _ _ _ _ (by omega) r2 rfl rfl))⟩⟩
  | ret =>
    obtain ⟨v, W4, r1, rfl, r2, rfl, r3, r4⟩ := leave (some .ret) W3 hp.1
    exact ⟨_, _, r1, .inr ⟨rfl, _, (hIx _).putObj _ hp.2 (by omega) r2 rfl, r3, r4⟩⟩
  | exit id =>
    obtain ⟨v, W4, r1, rfl, r2, rfl, r3, r4⟩ := leave (some (.exit id)) W3 hp.1
    exact ⟨_, _, r1, .inr ⟨rfl, _, (hIx _).putObj _ hp.2 (by omega) r2 rfl, r3, r4⟩⟩
  | goto t =>
    obtain ⟨v, W4, r1, rfl, r2, rfl, r3, r4⟩ := leave (some (.goto t)) W3 hp.1
    exact ⟨_, _, r1, .inr ⟨rfl, _, (hIx _).putObj _ hp.2 (by omega) r2 rfl, r3, r4⟩⟩
  | panic ch => exact hp.elim
  | outgrown => exact hp.elim
theorem rangeV {α : Type} {g : Operand} {ps : Array Tmp} {assign body : Code} {Q : Exit → Act → World → Prop} {a : Act} {w : World}
    (hro : F.round = none) (hd : F.depth = none) (h1 : 1 ≤ n) {gf : Nat} {lb : Array Value} (hg : a.eval g = .func (.func gf) #[] lb) (hFg : F.fn gf) (eg : ∀ args w, (callFunc gf args).run P w = .ok (.enter gf args) w)
    {encs : α → Array Value} {Kp : World → World → Prop} {V : α → World → Prop} {S Sp : List α → Prop} {w0 : World} (hseq : SeqV F (n - 1) P gf lb encs Kp V S Sp w0)
    (hKt : ∀ {A B C : World}, Kp A B → Kp B C → Kp A C) (hKb : ∀ (W : World) (l : Nat) (o o' : Obj), w.heap.size ≤ l → W.heap[l]? = some o → o.isCells = false → o.isWalk = false → Kp W (W.putObj l o')) (hb0 : Below w0.heap.size w0 w) (hps : ∀ x, (encs x).size = ps.size)
    (I : List α → World → Prop) (Ix : Code → List α → World → Prop) (hI : OwnFrom w.heap.size I) (hIx : ∀ c, OwnFrom w.heap.size (Ix c)) (hV : ∀ x, OwnFrom w.heap.size (fun (_ : Unit) W => V x W)) (h0 : I [] w) (a₁ : α → Act)
    (hassign : ∀ (l : Nat) (x : α) (W : World) (K : Act → World → Prop), K (a₁ x) W → assign.wpIn (F.inRound l) (n - 1 - 1) P (Exit.then K (fun _ _ _ => False)) { tmps := (ps.zip (encs x)).foldl (fun t (p, v) => t.setIfInBounds p v) a.tmps, defers := [] } W)
    (hbody : ∀ (l : Nat) (pre : List α) (x : α) (W : World), I pre W → V x W → Sp (pre ++ [x]) → body.wpIn (F.inRound l) (n - 1 - 1) P (ownPostG w.heap.size Kp I Ix (pre ++ [x]) W) (a₁ x) W)
    (hdone : ∀ (D : Nat) (xs : List α) (W : World), w.heap.size ≤ D → S xs → I xs W → W.heap[D]? = some (.deferred (some [])) → Q .normal { a with defers := { target := .collected D, args := #[] } :: a.defers } W)
    (hstop : ∀ (D : Nat) (c : Code) (pre : List α) (W : World), w.heap.size ≤ D → Sp pre → Ix c pre W → W.heap[D]? = some (.deferred (some [])) → c.wpIn F n P Q { a with defers := { target := .collected D, args := #[] } :: a.defers } W) :
    (Code.rangeFunc g ps assign body).wpIn F n P Q a w := by
  refine wpIn_rangeFunc fun fn hfn => ?_
  rw [hro]
  generalize hW1 : (w.alloc (.deferred (some []))).alloc (.loop (recOf fn a.tmps ps assign body w.heap.size .ready none)) = W1
  have e1 : W1.heap[w.heap.size + 1]? = some (.loop (recOf fn a.tmps ps assign body w.heap.size .ready none)) := by
    rw [← hW1]
    have := World.alloc_heap_new (w.alloc (.deferred (some []))) (.loop (recOf fn a.tmps ps assign body w.heap.size .ready none))
    rwa [World.size_alloc] at this
  have e2 : W1.heap[w.heap.size]? = some (.deferred (some [])) := by
    rw [← hW1]; exact (Below.heap_alloc _ _ _ (by simp)).trans (World.alloc_heap_new w _)
  have e3 : Below w.heap.size w W1 := by rw [← hW1]; exact ((Below.refl _ w).alloc (Nat.le_refl _) _).alloc (by simp) _
  refine ⟨w.heap.size + 1, [{ target := .collected w.heap.size, args := #[] }], W1, { target := .fn (.func gf) lb, args := #[.func (.yield (w.heap.size + 1)) #[] #[]] }, W1, gf, #[.func (.yield (w.heap.size + 1)) #[] #[]] ++ lb, W1, ?_, ?_, ?_, ?_, fun _ => h1, ?_⟩
  · rw [← hW1]; exact run_enterLoop_outer _ _ _ _ _
  · simp only [resolve, hg]
    simp [go_sem]
  · intro f' hf'; simp [Target.leads] at hf'; subst hf'; exact hFg
  · simp [invoke, go_sem, eg]
  · refine (hseq (w.heap.size + 1)
      (fun pre W => I pre W ∧ W.heap[w.heap.size + 1]? = some (.loop (recOf fn a.tmps ps assign body w.heap.size .ready none)) ∧ W.heap[w.heap.size]? = some (.deferred (some [])))
      (fun pre W => ∃ c, Ix c pre W ∧ W.heap[w.heap.size + 1]? = some (.loop (recOf fn a.tmps ps assign body w.heap.size .done (some c))) ∧ W.heap[w.heap.size]? = some (.deferred (some [])))
      W1 (hb0.trans (e3.mono hb0.size))
      (fun s A B hs hb => ⟨ownBelow hI hs.1 hb, (hb.block _ (Array.getElem?_eq_some_iff.1 hs.2.1).1).trans hs.2.1, (hb.block _ (Array.getElem?_eq_some_iff.1 hs.2.2).1).trans hs.2.2⟩)
      (fun m pre x W hJ hv hsp => round_v (Kp := Kp) hfn hI hIx hV hKt hKb hps hd a₁ hassign hbody pre x W hJ.1 hv hsp hJ.2.1 hJ.2.2) ⟨ownBelow hI h0 e3, e1, e2⟩).mono ?_
    rintro e W2 ⟨⟨v, rfl⟩, (⟨xs, hS, hi, hl, hk⟩ | ⟨pre, hSp, c, hi, hl, hk⟩)⟩
    · exact ⟨none, _, run_endLoop (P := P) hl (by simp [recOf]), hdone _ xs _ (Nat.le_refl _) hS (hI.putObj _ hi (by omega) hl rfl) ((World.putObj_heap_other (by omega)).trans hk)⟩
    · exact ⟨some c, _, run_endLoop (P := P) hl (by simp [recOf]), hstop _ c pre _ (Nat.le_refl _) hSp ((hIx c).putObj _ hi (by omega) hl rfl) ((World.putObj_heap_other (by omega)).trans hk)⟩
end
end Go.Proofs.YtijpfbcippijoaaGreatDoor
