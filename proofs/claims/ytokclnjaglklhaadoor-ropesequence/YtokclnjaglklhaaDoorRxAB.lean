import Derived.Test.YtokclnjaglklhaaDoorRqL
import Derived.Test.YtokclnjaglklhaaDoorRqMN
import Derived.Test.YtokclnjaglklhaaDoorRwA
import Derived.Test.YtokclnjaglklhaaDoorRqP
/-! A loop over an iterator that runs loops of its own: what its rounds leave alone. -/
namespace Go.Proofs.YtokclnjaglklhaaDoor
open Go.RowKit Go.Lib
set_option maxRecDepth 100000
section
variable {F : Fence} {n : Nat} {P : Program}

/-- An iterator that may hold loops of its own: each round keeps the blocks that were laid since the call and are no cells. -/
def SeqW {α : Type} (F : Fence) (n : Nat) (P : Program) (g : Nat) (lb : Array Value) (encs : α → Array Value) (Kp : Nat → World → World → Prop) (V : α → World → Prop) (S Sp : List α → Prop) (w : World) : Prop :=
  ∀ (l : Nat) (J Jx : List α → World → Prop) (W : World), Below w.heap.size w W → OwnFrom W.heap.size J → OwnFrom W.heap.size Jx →
    (∀ m pre x W1, J pre W1 → V x W1 → Sp (pre ++ [x]) → YieldAt F m P l (encs x) W1 fun e W' => KeepsFrom W.heap.size W1 W' ∧ ((e = .returned (.bool true) ∧ J (pre ++ [x]) W' ∧ Kp W.heap.size W1 W') ∨ (e = .returned (.bool false) ∧ Jx (pre ++ [x]) W'))) →
    J [] W → CallsIn F n P g (#[.func (.yield l) #[] #[]] ++ lb) W fun e W' => (∃ v, e = .returned v) ∧ ((∃ xs, S xs ∧ J xs W') ∨ (∃ pre, Sp pre ∧ Jx pre W'))
theorem keepsFrom_up {B C : Nat} {W W' : World} (h : KeepsFrom B W W') (hB : B ≤ C) : KeepsFrom C W W' := ⟨h.size, fun k o hk ho hc => h.same k o (Nat.le_trans hB hk) ho hc⟩
/-- A round keeps all blocks from B on, and the nodes and runes of trees. -/
structure KpA (B : Nat) (W W' : World) : Prop where
  kpT : KpT W W'
  all : ∀ k, B ≤ k → k < W.heap.size → W'.heap[k]? = W.heap[k]?
theorem KpA.trans {B : Nat} {X Y Z : World} (h : KpA B X Y) (k : KpA B Y Z) : KpA B X Z := ⟨h.kpT.trans k.kpT, fun i hi hl => (k.all i hi (Nat.lt_of_lt_of_le hl h.kpT.size)).trans (h.all i hi hl)⟩
theorem KpA.put (B l : Nat) (W : World) (o o' : Obj) (hl : l < B) (h : W.heap[l]? = some o) (hc : o.isCells = false) : KpA B W (W.putObj l o') :=
  ⟨KpT.grown (grownBy_putObj' W l o') (fun r o2 e hr => by
    cases e
    rw [h] at hr
    cases hr
    exact ⟨fun cs fr e => by rw [e] at hc; simp [Obj.isCells] at hc, fun cs fr e => by rw [e] at hc; simp [Obj.isCells] at hc⟩), fun k hk _ => World.putObj_heap_other (by omega)⟩
theorem KpA.below {B : Nat} {W W' : World} (h : Below W.heap.size W W') : KpA B W W' := ⟨KpT.below h, fun k _ hl => h.block k hl⟩
theorem KpA.up {B C : Nat} {W W' : World} (h : KpA B W W') (hB : B ≤ C) : KpA C W W' := ⟨h.kpT, fun k hk hl => h.all k (Nat.le_trans hB hk) hl⟩
theorem KpA.from_ {B : Nat} {W W' : World} (h : KpA B W W') : KeepsFrom B W W' := ⟨h.kpT.size, fun k _ hk ho _ => (h.all k hk (Array.getElem?_eq_some_iff.1 ho).1).trans ho⟩
theorem keepsFrom_put {B l : Nat} {W : World} {o : Obj} (h : l < B) : KeepsFrom B W (W.putObj l o) := ⟨by simp [World.putObj], fun k x hk hx _ => (World.putObj_heap_other (by omega)).trans hx⟩
/-- One round, out of its body's walk. -/
theorem round_w {α : Type} {fn : FuncId} {tmps : Array Value} {ps : Array Tmp} {assign body : Code} {D : Nat} (hfn : F.fn fn) {Kp : World → World → Prop} {I : List α → World → Prop} {Ix : Code → List α → World → Prop} (hI : OwnFrom D I) (hIx : ∀ c, OwnFrom D (Ix c))
    {V : α → World → Prop} (hV : ∀ x, OwnFrom D (fun (_ : Unit) W => V x W)) (hKt : ∀ {A B C : World}, Kp A B → Kp B C → Kp A C) (hKb : ∀ (W : World) (o o' : Obj), W.heap[D + 1]? = some o → o.isCells = false → Kp W (W.putObj (D + 1) o'))
    {encs : α → Array Value} (hps : ∀ x, (encs x).size = ps.size) {m k : Nat} (hd : F.depth = none) (a₁ : α → Act)
    (hassign : ∀ (l : Nat) (x : α) (W : World) (K : Act → World → Prop), K (a₁ x) W → assign.wpIn (F.inRound l) k P (Exit.then K (fun _ _ _ => False)) { tmps := (ps.zip (encs x)).foldl (fun t (p, v) => t.setIfInBounds p v) tmps, defers := [] } W)
    {Sp : List α → Prop} (hbody : ∀ (l : Nat) (pre : List α) (x : α) (W : World), I pre W → V x W → Sp (pre ++ [x]) → body.wpIn (F.inRound l) k P (ownPostG D Kp I Ix (pre ++ [x]) W) (a₁ x) W)
    (pre : List α) (x : α) (W : World) (hi : I pre W) (hv : V x W) (hsp : Sp (pre ++ [x])) (hl : W.heap[D + 1]? = some (.loop (recOf fn tmps ps assign body D .ready none))) (hk : W.heap[D]? = some (.deferred (some []))) :
    YieldAt F m P (D + 1) (encs x) W fun e W' => KeepsFrom (D + 2) W W' ∧ ((e = .returned (.bool true) ∧ (I (pre ++ [x]) W' ∧ W'.heap[D + 1]? = some (.loop (recOf fn tmps ps assign body D .ready none)) ∧ W'.heap[D]? = some (.deferred (some []))) ∧ Kp W W') ∨
      (e = .returned (.bool false) ∧ ∃ c, Ix c (pre ++ [x]) W' ∧ W'.heap[D + 1]? = some (.loop (recOf fn tmps ps assign body D .done (some c))) ∧ W'.heap[D]? = some (.deferred (some [])))) := by
  have hlt : D + 1 < W.heap.size := (Array.getElem?_eq_some_iff.1 hl).1
  have any : ∀ {mm m' : Nat} {f : FuncId} {t : Array Value} {asg bd : Code} {R : Ending → World → Prop}, RoundIn F mm P (D + 1) f t asg bd W R → RoundIn F m' P (D + 1) f t asg bd W R := fun h => ⟨h.1, fun c cs _ => h.2 c cs (fun d e => by rw [hd] at e; cases e)⟩
  refine ⟨fn, _, assign, body, run_yield (P := P) (args := encs x) hl (hps x), any (roundIn_of_wpIn (n := k) hfn (hassign _ x W _ ⟨_, run_beginRound hl rfl, ?_⟩))⟩
  generalize hbz : W.putObj (D + 1) (.loop { recOf fn tmps ps assign body D .ready none with state := .busy }) = Wz
  have z1 : Wz.heap[D + 1]? = some (.loop { recOf fn tmps ps assign body D .ready none with state := .busy }) := by rw [← hbz]; exact World.putObj_heap_same hlt
  have z2 : Wz.heap[D]? = some (.deferred (some [])) := by rw [← hbz]; exact (World.putObj_heap_other (by omega)).trans hk
  have z6 : KeepsFrom (D + 2) W Wz := by rw [← hbz]; exact keepsFrom_put (by omega)
  have z3 : Kp W Wz := by rw [← hbz]; exact hKb _ _ _ hl rfl
  have z4 : I pre Wz := by rw [← hbz]; exact hI.putObj _ hi (by omega) hl rfl
  have z5 : V x Wz := by rw [← hbz]; exact (hV x).putObj (s := ()) _ hv (by omega) hl rfl
  refine wpIn_mono (hbody (D + 1) pre x Wz z4 z5 hsp) ?_
  -- the round's end, whichever way the body was left
  have leave : ∀ (j : Option Code) (W3 : World), KeepsFrom D Wz W3 → ∃ v W4, (Instr.endRound (D + 1) j).run P W3 = .ok v W4 ∧ v = .bool j.isNone ∧ W3.heap[D + 1]? = some (.loop { recOf fn tmps ps assign body D .ready none with state := .busy }) ∧
      W4 = W3.putObj (D + 1) (.loop (recOf fn tmps ps assign body D (if j.isNone then .ready else .done) j)) ∧ W4.heap[D + 1]? = some (.loop (recOf fn tmps ps assign body D (if j.isNone then .ready else .done) j)) ∧ W4.heap[D]? = some (.deferred (some [])) := fun j W3 hkf => by
    have y1 := hkf.same _ _ (by omega) z1 rfl
    have y2 := hkf.same _ _ (Nat.le_refl _) z2 rfl
    exact ⟨_, _, run_endRound (P := P) j y1, rfl, y1, rfl, World.putObj_heap_same (Array.getElem?_eq_some_iff.1 y1).1, (World.putObj_heap_other (by omega)).trans y2⟩
  intro e a3 W3 hp
  cases e with
  | normal =>
    obtain ⟨v, W4, r1, rfl, r2, rfl, r3, r4⟩ := leave none W3 hp.1
    exact ⟨_, _, r1, z6.trans ((keepsFrom_up hp.1 (by omega)).trans (keepsFrom_put (by omega))), .inl ⟨rfl, ⟨hI.putObj _ hp.2.2 (by omega) r2 rfl, r3, r4⟩, hKt z3 (hKt hp.2.1 (hKb _ _ _ r2 rfl))⟩⟩
  | ret =>
    obtain ⟨v, W4, r1, rfl, r2, rfl, r3, r4⟩ := leave (some .ret) W3 hp.1
    exact ⟨_, _, r1, z6.trans ((keepsFrom_up hp.1 (by omega)).trans (keepsFrom_put (by omega))), .inr ⟨rfl, _, (hIx _).putObj _ hp.2 (by omega) r2 rfl, r3, r4⟩⟩
  | exit id =>
    obtain ⟨v, W4, r1, rfl, r2, rfl, r3, r4⟩ := leave (some (.exit id)) W3 hp.1
    exact ⟨_, _, r1, z6.trans ((keepsFrom_up hp.1 (by omega)).trans (keepsFrom_put (by omega))), .inr ⟨rfl, _, (hIx _).putObj _ hp.2 (by omega) r2 rfl, r3, r4⟩⟩
  | goto t =>
    obtain ⟨v, W4, r1, rfl, r2, rfl, r3, r4⟩ := leave (some (.goto t)) W3 hp.1
    exact ⟨_, _, r1, z6.trans ((keepsFrom_up hp.1 (by omega)).trans (keepsFrom_put (by omega))), .inr ⟨rfl, _, (hIx _).putObj _ hp.2 (by omega) r2 rfl, r3, r4⟩⟩
  | panic ch => exact hp.elim
  | outgrown => exact hp.elim
/-- The loop. -/
theorem rangeW {α : Type} {g : Operand} {ps : Array Tmp} {assign body : Code} {Q : Exit → Act → World → Prop} {a : Act} {w : World}
    (hro : F.round = none) (hd : F.depth = none) (h1 : 1 ≤ n) {gf : Nat} {lb : Array Value} (hg : a.eval g = .func (.func gf) #[] lb) (hFg : F.fn gf) (eg : ∀ args w, (callFunc gf args).run P w = .ok (.enter gf args) w)
    {encs : α → Array Value} {Kp : Nat → World → World → Prop} {V : α → World → Prop} {S Sp : List α → Prop} {w0 : World} (hseq : SeqW F (n - 1) P gf lb encs Kp V S Sp w0)
    (hKt : ∀ {B : Nat} {X Y Z : World}, Kp B X Y → Kp B Y Z → Kp B X Z) (hKb : ∀ (B l : Nat) (W : World) (o o' : Obj), l < B → W.heap[l]? = some o → o.isCells = false → Kp B W (W.putObj l o')) (hb0 : Below w0.heap.size w0 w) (hps : ∀ x, (encs x).size = ps.size)
    (I : List α → World → Prop) (Ix : Code → List α → World → Prop) (hI : OwnFrom w.heap.size I) (hIx : ∀ c, OwnFrom w.heap.size (Ix c)) (hV : ∀ x, OwnFrom w.heap.size (fun (_ : Unit) W => V x W)) (h0 : I [] w) (a₁ : α → Act)
    (hassign : ∀ (l : Nat) (x : α) (W : World) (K : Act → World → Prop), K (a₁ x) W → assign.wpIn (F.inRound l) (n - 1 - 1) P (Exit.then K (fun _ _ _ => False)) { tmps := (ps.zip (encs x)).foldl (fun t (p, v) => t.setIfInBounds p v) a.tmps, defers := [] } W)
    (hbody : ∀ (l : Nat) (pre : List α) (x : α) (W : World), I pre W → V x W → Sp (pre ++ [x]) → body.wpIn (F.inRound l) (n - 1 - 1) P (ownPostG w.heap.size (Kp (w.heap.size + 2)) I Ix (pre ++ [x]) W) (a₁ x) W)
    (hdone : ∀ (D : Nat) (xs : List α) (W : World), w.heap.size ≤ D → S xs → I xs W → W.heap[D]? = some (.deferred (some [])) → Q .normal { a with defers := { target := .collected D, args := #[] } :: a.defers } W)
    (hstop : ∀ (D : Nat) (c : Code) (pre : List α) (W : World), w.heap.size ≤ D → Sp pre → Ix c pre W → W.heap[D]? = some (.deferred (some [])) → c.wpIn F n P Q { a with defers := { target := .collected D, args := #[] } :: a.defers } W) :
    (Code.rangeFunc g ps assign body).wpIn F n P Q a w := by
  refine wpIn_rangeFunc fun fn hfn => ?_
  rw [hro]
  generalize hW1 : (w.alloc (.deferred (some []))).alloc (.loop (recOf fn a.tmps ps assign body w.heap.size .ready none)) = W1
  have e1 : W1.heap[w.heap.size + 1]? = some (.loop (recOf fn a.tmps ps assign body w.heap.size .ready none)) := by
    rw [← hW1]
    have := World.alloc_heap_new (w.alloc (.deferred (some []))) (.loop (recOf fn a.tmps ps assign body w.heap.size .ready none))
    rwa [World.size_alloc] at this
  have e2 : W1.heap[w.heap.size]? = some (.deferred (some [])) := by
    rw [← hW1]; exact (Below.heap_alloc _ _ _ (by simp)).trans (World.alloc_heap_new w _)
  have eS : W1.heap.size = w.heap.size + 2 := by rw [← hW1]; simp [World.size_alloc]
  have e3 : Below w.heap.size w W1 := by rw [← hW1]; exact ((Below.refl _ w).alloc (Nat.le_refl _) _).alloc (by simp) _
  refine ⟨w.heap.size + 1, [{ target := .collected w.heap.size, args := #[] }], W1, { target := .fn (.func gf) lb, args := #[.func (.yield (w.heap.size + 1)) #[] #[]] }, W1, gf, #[.func (.yield (w.heap.size + 1)) #[] #[]] ++ lb, W1, ?_, ?_, ?_, ?_, fun _ => h1, ?_⟩
  · rw [← hW1]; exact run_enterLoop_outer _ _ _ _ _
  · simp only [resolve, hg]
    simp [go_sem]
  · intro f' hf'; simp [Target.leads] at hf'; subst hf'; exact hFg
  · simp [invoke, go_sem, eg]
  · refine (hseq (w.heap.size + 1)
      (fun pre W => I pre W ∧ W.heap[w.heap.size + 1]? = some (.loop (recOf fn a.tmps ps assign body w.heap.size .ready none)) ∧ W.heap[w.heap.size]? = some (.deferred (some [])))
      (fun pre W => ∃ c, Ix c pre W ∧ W.heap[w.heap.size + 1]? = some (.loop (recOf fn a.tmps ps assign body w.heap.size .done (some c))) ∧ W.heap[w.heap.size]? = some (.deferred (some [])))
      W1 (hb0.trans (e3.mono hb0.size))
      (fun s A B row hs hg hr => ⟨hI s A B row hs.1 hg (fun r e => ⟨by have := (hr r e).1; omega, (hr r e).2⟩), (hg.block _ (Array.getElem?_eq_some_iff.1 hs.2.1).1 (fun e => by have := (hr _ e.symm).1; omega)).trans hs.2.1, (hg.block _ (Array.getElem?_eq_some_iff.1 hs.2.2).1 (fun e => by have := (hr _ e.symm).1; omega)).trans hs.2.2⟩)
      (fun s A B row ⟨c, hs⟩ hg hr => ⟨c, hIx c s A B row hs.1 hg (fun r e => ⟨by have := (hr r e).1; omega, (hr r e).2⟩), (hg.block _ (Array.getElem?_eq_some_iff.1 hs.2.1).1 (fun e => by have := (hr _ e.symm).1; omega)).trans hs.2.1, (hg.block _ (Array.getElem?_eq_some_iff.1 hs.2.2).1 (fun e => by have := (hr _ e.symm).1; omega)).trans hs.2.2⟩)
      (fun m pre x W hJ hv hsp => by rw [eS]; exact round_w (Kp := Kp (w.heap.size + 2)) hfn hI hIx hV hKt (fun W o o' => hKb _ _ W o o' (by omega)) hps hd a₁ hassign hbody pre x W hJ.1 hv hsp hJ.2.1 hJ.2.2) ⟨ownBelow hI h0 e3, e1, e2⟩).mono ?_
    rintro e W2 ⟨⟨v, rfl⟩, (⟨xs, hS, hi, hl, hk⟩ | ⟨pre, hSp, c, hi, hl, hk⟩)⟩
    · exact ⟨none, _, run_endLoop (P := P) hl (by simp [recOf]), hdone _ xs _ (Nat.le_refl _) hS (hI.putObj _ hi (by omega) hl rfl) ((World.putObj_heap_other (by omega)).trans hk)⟩
    · exact ⟨some c, _, run_endLoop (P := P) hl (by simp [recOf]), hstop _ c pre _ (Nat.le_refl _) hSp ((hIx c).putObj _ hi (by omega) hl rfl) ((World.putObj_heap_other (by omega)).trans hk)⟩
end
end Go.Proofs.YtokclnjaglklhaaDoor

/-! The cells that Cells gives, one by one. -/
namespace Go.Proofs.YtokclnjaglklhaaDoor
open Go.RowKit Go.Lib
set_option maxRecDepth 100000

/-- A place and its cell. -/
def clE (x : Int × Int × Int) : Array Value := #[.int .i64 x.1, .agg #[.int .i32 x.2.1, .int .i64 x.2.2]]
/-- Cells with their places, from P on. -/
def enF : Int → List (Int × Int) → List (Int × Int × Int)
  | _, [] => []
  | P, c :: l => (P, c.1, c.2) :: enF (P + 1) l
theorem enF_append : ∀ (l k : List (Int × Int)) (P : Int), enF P (l ++ k) = enF P l ++ enF (P + l.length) k
  | [], k, P => by simp [enF]
  | c :: l, k, P => by
    simp only [List.cons_append, enF, List.length_cons]
    rw [enF_append l k (P + 1), show P + 1 + (l.length : Int) = P + ((l.length + 1 : Nat) : Int) by omega]
theorem enF_len : ∀ (l : List (Int × Int)) (P : Int), (enF P l).length = l.length
  | [], _ => rfl
  | _ :: l, P => by simp [enF, enF_len l]
theorem enF_get : ∀ (l : List (Int × Int)) (P : Int) (j : Nat), (enF P l)[j]? = l[j]?.map fun c => (P + (j : Int), c.1, c.2)
  | [], _, j => by simp [enF]
  | c :: l, P, 0 => by simp [enF]
  | c :: l, P, j + 1 => by
    simp only [enF, List.getElem?_cons_succ]
    rw [enF_get l (P + 1) j, show P + 1 + (j : Int) = P + ((j + 1 : Nat) : Int) by omega]
/-- The cells of what pieces gives. -/
def clG (ys : List (Int × List Int × Int)) : List (Int × Int × Int) := ys.flatMap fun y => enF y.1 (y.2.1.map fun c => (c, y.2.2))
theorem clG_append (l k : List (Int × List Int × Int)) : clG (l ++ k) = clG l ++ clG k := by simp [clG]
theorem clG_pre {l k : List (Int × List Int × Int)} (h : l <+: k) : clG l <+: clG k := by
  obtain ⟨m, rfl⟩ := h
  rw [clG_append]
  exact List.prefix_append _ _
theorem clG_cont : ∀ (ys : List (Int × List Int × Int)) (P : Int), Cont P ys → clG ys = enF P (cellsG ys)
  | [], _, _ => rfl
  | y :: ys, P, h => by
    have ih := clG_cont ys _ h.2.2
    have e1 : clG (y :: ys) = enF y.1 (y.2.1.map fun c => (c, y.2.2)) ++ clG ys := by simp [clG]
    have e2 : cellsG (y :: ys) = (y.2.1.map fun c => (c, y.2.2)) ++ cellsG ys := by simp [cellsG]
    rw [e1, e2, enF_append, List.length_map, ih, h.1]
/-- What Cells gives from lo on. -/
theorem clG_gv (l : List (List Int × Int)) (lo : Nat) (hi : Int) (h : ((rowOf l).length : Int) ≤ hi) : clG (gv l 0 (lo : Int) hi) = enF (lo : Int) ((rowOf l).drop lo) := by
  have hc := gv_cont l 0 (lo : Int) hi
  rw [show max (lo : Int) 0 = (lo : Int) by omega] at hc
  rw [clG_cont _ _ hc, gv_cells, List.take_of_length_le (by omega)]
  congr 2
end Go.Proofs.YtokclnjaglklhaaDoor
