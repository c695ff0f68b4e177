import Derived.Test.YtchkeckblpmehaaWaA
import Derived.RangeFuncNested
import Derived.RangeFuncBound
import Derived.RangeFuncCalls
import Derived.RangeFuncLeaves
/-! A loop over an iterator that takes what it hands out of a state which the loop's body may change, too. -/
namespace Go.Proofs.Ytchkeckblpmehaa
open Go.RowKit Go.Lib
set_option maxRecDepth 100000
section
variable {F : Fence} {n : Nat} {P : Program}

/-- An iterator over a state: it goes from s to s' (changing the blocks of D alone) and hands x out, as long as there is a next one; J k tells where the loop stands, k falls with each round. -/
def SeqM {α σ : Type} (F : Fence) (n : Nat) (P : Program) (g : Nat) (lb : Array Value) (encs : α → Array Value) (At : σ → World → Prop) (nxt : σ → Option (α × σ)) (D : Nat → Prop) : Prop :=
  ∀ (l : Nat) (J : Nat → σ → World → Prop) (Jx : World → Prop) (k0 : Nat) (s0 : σ) (W : World),
    (∀ k s A, J k s A → At s A) → (∀ k s A B, J k s A → Below A.heap.size A B → J k s B) → (∀ A B, Jx A → Below A.heap.size A B → Jx B) →
    (∀ m k s x s' W1 W2, J k s W1 → nxt s = some (x, s') → At s' W2 → Chg D W1 W2 → YieldAt F m P l (encs x) W2 fun e W' => (e = .returned (.bool true) ∧ ∃ k' s2, k' < k ∧ J k' s2 W') ∨ (e = .returned (.bool false) ∧ Jx W')) →
    J k0 s0 W → CallsIn F n P g (#[.func (.yield l) #[] #[]] ++ lb) W fun e W' => (∃ v, e = .returned v) ∧ ((∃ k s, J k s W' ∧ nxt s = none) ∨ Jx W')
theorem grown_of_below {A B : World} (h : Below A.heap.size A B) : A.grownBy B none := ⟨h.os, h.tape, h.output, h.size, fun k hk _ => h.block k hk⟩
/-- What a proposition over worlds owns from B on. -/
abbrev OwnW (B : Nat) (I : World → Prop) : Prop := OwnFrom B (fun (_ : Unit) W => I W)
theorem OwnW.below {B0 : Nat} {I : World → Prop} (h : OwnW B0 I) {A B : World} (hs : I A) (hb : Below A.heap.size A B) : I B := h () A B none hs (grown_of_below hb) (fun r e => by cases e)
theorem OwnW.put {B : Nat} {I : World → Prop} (h : OwnW B I) {W : World} {l : Nat} {o : Obj} (o' : Obj) (hs : I W) (hB : B ≤ l) (hl : W.heap[l]? = some o) (ho : o.isCells = false) : I (W.putObj l o') := OwnFrom.putObj h (s := ()) o' hs hB hl ho
/-- The record of a loop that is at hand. -/
def recOf (fn : FuncId) (tmps : Array Value) (ps : Array Tmp) (assign body : Code) (D : Nat) (st : LoopState) (pe : Option Code) : Loop := { state := st, pending := pe, fn := fn, tmps := tmps, params := ps, assign := assign, body := body, defers := D }
/-- What a round's body must leave. -/
def postM {σ : Type} (B : Nat) (I : Nat → σ → World → Prop) (Ix : Code → World → Prop) (k : Nat) (W : World) : Exit → Act → World → Prop
  | .normal, _, W' => KeepsFrom B W W' ∧ ∃ k' s, k' < k ∧ I k' s W'
  | .ret, _, W' => KeepsFrom B W W' ∧ Ix .ret W'
  | .exit id, _, W' => KeepsFrom B W W' ∧ Ix (.exit id) W'
  | .goto t, _, W' => KeepsFrom B W W' ∧ Ix (.goto t) W'
  | .panic _, _, _ => False
  | .outgrown, _, _ => False
/-- Blocks from B on that are no cells stay, but for l. -/
def KeepsBut (B l : Nat) (W W' : World) : Prop := ∀ k o, B ≤ k → k ≠ l → W.heap[k]? = some o → o.isCells = false → W'.heap[k]? = some o
/-- One round, out of its body's walk. -/
theorem round_m {α σ : Type} {fn : FuncId} {tmps : Array Value} {ps : Array Tmp} {assign body : Code} {B l D : Nat} (hBl : B ≤ l) (hfn : F.fn fn) {I : Nat → σ → World → Prop} {Pre : Nat → σ → α → σ → World → Prop} {Ix : Code → World → Prop}
    (hI : ∀ k s, OwnW B (I k s)) (hIx : ∀ c, OwnW B (Ix c)) (hPre : ∀ k s x s', OwnW B (Pre k s x s'))
    {encs : α → Array Value} (hps : ∀ x, (encs x).size = ps.size) {m kk : Nat} (hd : F.depth = none) (a₁ : α → Act)
    (hassign : ∀ (l : Nat) (x : α) (W : World) (K : Act → World → Prop), K (a₁ x) W → assign.wpIn (F.inRound l) kk P (Exit.then K (fun _ _ _ => False)) { tmps := (ps.zip (encs x)).foldl (fun t (p, v) => t.setIfInBounds p v) tmps, defers := [] } W)
    (hbody : ∀ (l : Nat) k s x s' (W : World), B ≤ l → (∃ r, W.heap[l]? = some (.loop r)) → Pre k s x s' W → body.wpIn (F.inRound l) kk P (postM B I Ix k W) (a₁ x) W)
    (k : Nat) (s : σ) (x : α) (s' : σ) (W : World) (hi : Pre k s x s' W) (hl : W.heap[l]? = some (.loop (recOf fn tmps ps assign body D .ready none))) :
    YieldAt F m P l (encs x) W fun e W' => KeepsBut B l W W' ∧ ((e = .returned (.bool true) ∧ (∃ k' s2, k' < k ∧ I k' s2 W') ∧ W'.heap[l]? = some (.loop (recOf fn tmps ps assign body D .ready none))) ∨
      (e = .returned (.bool false) ∧ ∃ c, Ix c W' ∧ W'.heap[l]? = some (.loop (recOf fn tmps ps assign body D .done (some c))))) := by
  have hlt : l < W.heap.size := (Array.getElem?_eq_some_iff.1 hl).1
  have any : ∀ {mm m' : Nat} {f : FuncId} {t : Array Value} {asg bd : Code} {R : Ending → World → Prop}, RoundIn F mm P l f t asg bd W R → RoundIn F m' P l f t asg bd W R := fun h => ⟨h.1, fun c cs _ => h.2 c cs (fun d e => by rw [hd] at e; cases e)⟩
  refine ⟨fn, _, assign, body, run_yield (P := P) (args := encs x) hl (hps x), any (roundIn_of_wpIn (n := kk) hfn (hassign _ x W _ ⟨_, run_beginRound hl rfl, ?_⟩))⟩
  generalize hbz : W.putObj l (.loop { recOf fn tmps ps assign body D .ready none with state := .busy }) = Wz
  have z1 : Wz.heap[l]? = some (.loop { recOf fn tmps ps assign body D .ready none with state := .busy }) := by rw [← hbz]; exact World.putObj_heap_same hlt
  have z2 : KeepsBut B l W Wz := fun q o _ hne hq _ => by rw [← hbz]; exact (World.putObj_heap_other (by omega)).trans hq
  have z4 : Pre k s x s' Wz := by rw [← hbz]; exact (hPre k s x s').put _ hi hBl hl rfl
  refine wpIn_mono (hbody l k s x s' Wz hBl ⟨_, z1⟩ z4) ?_
  -- the round's end, whichever way the body was left
  have leave : ∀ (j : Option Code) (W3 : World), KeepsFrom B Wz W3 → ∃ v W4, (Instr.endRound l j).run P W3 = .ok v W4 ∧ v = .bool j.isNone ∧ W3.heap[l]? = some (.loop { recOf fn tmps ps assign body D .ready none with state := .busy }) ∧
      W4 = W3.putObj l (.loop (recOf fn tmps ps assign body D (if j.isNone then .ready else .done) j)) ∧ W4.heap[l]? = some (.loop (recOf fn tmps ps assign body D (if j.isNone then .ready else .done) j)) ∧ KeepsBut B l W W4 := fun j W3 hkf => by
    have y1 := hkf.same _ _ hBl z1 rfl
    exact ⟨_, _, run_endRound (P := P) j y1, rfl, y1, rfl, World.putObj_heap_same (Array.getElem?_eq_some_iff.1 y1).1, fun q o hq hne ho hc => (World.putObj_heap_other (by omega)).trans (hkf.same q o hq (z2 q o hq hne ho hc) hc)⟩
  intro e a3 W3 hp
  cases e with
  | normal =>
    obtain ⟨v, W4, r1, rfl, r2, rfl, r3, r4⟩ := leave none W3 hp.1
    obtain ⟨k', s2, hk', hI'⟩ := hp.2
    exact ⟨_, _, r1, r4, .inl ⟨rfl, ⟨k', s2, hk', (hI k' s2).put _ hI' hBl r2 rfl⟩, r3⟩⟩
  | ret =>
    obtain ⟨v, W4, r1, rfl, r2, rfl, r3, r4⟩ := leave (some .ret) W3 hp.1
    exact ⟨_, _, r1, r4, .inr ⟨rfl, _, (hIx _).put _ hp.2 hBl r2 rfl, r3⟩⟩
  | exit id =>
    obtain ⟨v, W4, r1, rfl, r2, rfl, r3, r4⟩ := leave (some (.exit id)) W3 hp.1
    exact ⟨_, _, r1, r4, .inr ⟨rfl, _, (hIx _).put _ hp.2 hBl r2 rfl, r3⟩⟩
  | goto t =>
    obtain ⟨v, W4, r1, rfl, r2, rfl, r3, r4⟩ := leave (some (.goto t)) W3 hp.1
    exact ⟨_, _, r1, r4, .inr ⟨rfl, _, (hIx _).put _ hp.2 hBl r2 rfl, r3⟩⟩
  | panic ch => exact hp.elim
  | outgrown => exact hp.elim
/-- The loop. -/
theorem rangeM {α σ : Type} {g : Operand} {ps : Array Tmp} {assign body : Code} {Q : Exit → Act → World → Prop} {a : Act} {w : World}
    (hro : F.round = none) (hd : F.depth = none) (h1 : 1 ≤ n) {gf : Nat} {lb : Array Value} (hg : a.eval g = .func (.func gf) #[] lb) (hFg : F.fn gf) (eg : ∀ args w, (callFunc gf args).run P w = .ok (.enter gf args) w)
    {encs : α → Array Value} {At : σ → World → Prop} {nxt : σ → Option (α × σ)} {D : Nat → Prop} (hseq : SeqM F (n - 1) P gf lb encs At nxt D) (hD : ∀ q, D q → q < w.heap.size) (hps : ∀ x, (encs x).size = ps.size)
    (I : Nat → σ → World → Prop) (Pre : Nat → σ → α → σ → World → Prop) (Ix : Code → World → Prop) (hI : ∀ k s, OwnW w.heap.size (I k s)) (hIx : ∀ c, OwnW w.heap.size (Ix c)) (hPre : ∀ k s x s', OwnW w.heap.size (Pre k s x s'))
    (hAt : ∀ k s W, I k s W → At s W) (hstep : ∀ k s x s' W1 W2, I k s W1 → nxt s = some (x, s') → At s' W2 → Chg D W1 W2 → Pre k s x s' W2)
    (k0 : Nat) (s0 : σ) (h0 : I k0 s0 w) (a₁ : α → Act)
    (hassign : ∀ (l : Nat) (x : α) (W : World) (K : Act → World → Prop), K (a₁ x) W → assign.wpIn (F.inRound l) (n - 1 - 1) P (Exit.then K (fun _ _ _ => False)) { tmps := (ps.zip (encs x)).foldl (fun t (p, v) => t.setIfInBounds p v) a.tmps, defers := [] } W)
    (hbody : ∀ (l : Nat) k s x s' (W : World), w.heap.size ≤ l → (∃ r, W.heap[l]? = some (.loop r)) → Pre k s x s' W → body.wpIn (F.inRound l) (n - 1 - 1) P (postM w.heap.size I Ix k W) (a₁ x) W)
    (hdone : ∀ (Db k : Nat) (s : σ) (W : World), w.heap.size ≤ Db → I k s W → nxt s = none → W.heap[Db]? = some (.deferred (some [])) → Q .normal { a with defers := { target := .collected Db, args := #[] } :: a.defers } W)
    (hstop : ∀ (Db : Nat) (c : Code) (W : World), w.heap.size ≤ Db → Ix c W → W.heap[Db]? = some (.deferred (some [])) → c.wpIn F n P Q { a with defers := { target := .collected Db, args := #[] } :: a.defers } W) :
    (Code.rangeFunc g ps assign body).wpIn F n P Q a w := by
  refine wpIn_rangeFunc fun fn hfn => ?_
  rw [hro]
  generalize hW1 : (w.alloc (.deferred (some []))).alloc (.loop (recOf fn a.tmps ps assign body w.heap.size .ready none)) = W1
  have e1 : W1.heap[w.heap.size + 1]? = some (.loop (recOf fn a.tmps ps assign body w.heap.size .ready none)) := by
    rw [← hW1]
    have := World.alloc_heap_new (w.alloc (.deferred (some []))) (.loop (recOf fn a.tmps ps assign body w.heap.size .ready none))
    rwa [World.size_alloc] at this
  have e2 : W1.heap[w.heap.size]? = some (.deferred (some [])) := by
    rw [← hW1]; exact (Below.heap_alloc _ _ _ (by simp)).trans (World.alloc_heap_new w _)
  have e3 : Below w.heap.size w W1 := by rw [← hW1]; exact ((Below.refl _ w).alloc (Nat.le_refl _) _).alloc (by simp) _
  refine ⟨w.heap.size + 1, [{ target := .collected w.heap.size, args := #[] }], W1, { target := .fn (.func gf) lb, args := #[.func (.yield (w.heap.size + 1)) #[] #[]] }, W1, gf, #[.func (.yield (w.heap.size + 1)) #[] #[]] ++ lb, W1, ?_, ?_, ?_, ?_, fun _ => h1, ?_⟩
  · rw [← hW1]; exact run_enterLoop_outer _ _ _ _ _
  · simp only [resolve, hg]
    simp [go_sem]
  · intro f' hf'; simp [Target.leads] at hf'; subst hf'; exact hFg
  · simp [invoke, go_sem, eg]
  · refine (hseq (w.heap.size + 1)
      (fun k s W => I k s W ∧ W.heap[w.heap.size + 1]? = some (.loop (recOf fn a.tmps ps assign body w.heap.size .ready none)) ∧ W.heap[w.heap.size]? = some (.deferred (some [])))
      (fun W => ∃ c, Ix c W ∧ W.heap[w.heap.size + 1]? = some (.loop (recOf fn a.tmps ps assign body w.heap.size .done (some c))) ∧ W.heap[w.heap.size]? = some (.deferred (some [])))
      k0 s0 W1 (fun k s A h => hAt k s A h.1)
      (fun k s A B hs hb => ⟨(hI k s).below hs.1 hb, (hb.block _ (Array.getElem?_eq_some_iff.1 hs.2.1).1).trans hs.2.1, (hb.block _ (Array.getElem?_eq_some_iff.1 hs.2.2).1).trans hs.2.2⟩)
      (fun A B ⟨c, hs⟩ hb => ⟨c, (hIx c).below hs.1 hb, (hb.block _ (Array.getElem?_eq_some_iff.1 hs.2.1).1).trans hs.2.1, (hb.block _ (Array.getElem?_eq_some_iff.1 hs.2.2).1).trans hs.2.2⟩)
      (fun m k s x s' W2 W3 hJ hn hA hC => by
        have f1 := hC.block hJ.2.1 (fun h => by have := hD _ h; omega)
        have f2 := hC.block hJ.2.2 (fun h => by have := hD _ h; omega)
        refine YieldAt.mono (round_m (by omega) hfn hI hIx hPre hps hd a₁ hassign hbody k s x s' W3 (hstep k s x s' W2 W3 hJ.1 hn hA hC) f1) ?_
        rintro e W' ⟨hk, (⟨rfl, ⟨k', s2, hk', hI'⟩, hr⟩ | ⟨rfl, c, hc, hr⟩)⟩
        · exact .inl ⟨rfl, k', s2, hk', hI', hr, hk _ _ (Nat.le_refl _) (by omega) f2 rfl⟩
        · exact .inr ⟨rfl, c, hc, hr, hk _ _ (Nat.le_refl _) (by omega) f2 rfl⟩) ⟨(hI k0 s0).below h0 e3, e1, e2⟩).mono ?_
    rintro e W2 ⟨⟨v, rfl⟩, (⟨k, s, ⟨hi, hl, hk⟩, hn⟩ | ⟨c, hi, hl, hk⟩)⟩
    · exact ⟨none, _, run_endLoop (P := P) hl (by simp [recOf]), hdone _ k s _ (Nat.le_refl _) ((hI k s).put _ hi (by omega) hl rfl) hn ((World.putObj_heap_other (by omega)).trans hk)⟩
    · exact ⟨some c, _, run_endLoop (P := P) hl (by simp [recOf]), hstop _ c _ (Nat.le_refl _) ((hIx c).put _ hi (by omega) hl rfl) ((World.putObj_heap_other (by omega)).trans hk)⟩
/-- The loop within a round of another loop. -/
theorem rangeMN {α σ : Type} {g : Operand} {ps : Array Tmp} {assign body : Code} {Q : Exit → Act → World → Prop} {a : Act} {w : World} {l₀ : Nat} {r₀ : Loop}
    (hro : F.round = some l₀) (hl₀ : w.heap[l₀]? = some (.loop r₀)) (hd : F.depth = none) (h1 : 1 ≤ n) {gf : Nat} {lb : Array Value} (hg : a.eval g = .func (.func gf) #[] lb) (hFg : F.fn gf) (eg : ∀ args w, (callFunc gf args).run P w = .ok (.enter gf args) w)
    {encs : α → Array Value} {At : σ → World → Prop} {nxt : σ → Option (α × σ)} {D : Nat → Prop} (hseq : SeqM F (n - 1) P gf lb encs At nxt D) (hD : ∀ q, D q → q < w.heap.size) (hps : ∀ x, (encs x).size = ps.size)
    (I : Nat → σ → World → Prop) (Pre : Nat → σ → α → σ → World → Prop) (Ix : Code → World → Prop) (hI : ∀ k s, OwnW w.heap.size (I k s)) (hIx : ∀ c, OwnW w.heap.size (Ix c)) (hPre : ∀ k s x s', OwnW w.heap.size (Pre k s x s'))
    (hAt : ∀ k s W, I k s W → At s W) (hstep : ∀ k s x s' W1 W2, I k s W1 → nxt s = some (x, s') → At s' W2 → Chg D W1 W2 → Pre k s x s' W2)
    (k0 : Nat) (s0 : σ) (h0 : I k0 s0 w) (a₁ : α → Act)
    (hassign : ∀ (l : Nat) (x : α) (W : World) (K : Act → World → Prop), K (a₁ x) W → assign.wpIn (F.inRound l) (n - 1 - 1) P (Exit.then K (fun _ _ _ => False)) { tmps := (ps.zip (encs x)).foldl (fun t (p, v) => t.setIfInBounds p v) a.tmps, defers := [] } W)
    (hbody : ∀ (l : Nat) k s x s' (W : World), w.heap.size ≤ l → (∃ r, W.heap[l]? = some (.loop r)) → Pre k s x s' W → body.wpIn (F.inRound l) (n - 1 - 1) P (postM w.heap.size I Ix k W) (a₁ x) W)
    (hdone : ∀ (k : Nat) (s : σ) (W : World), I k s W → nxt s = none → Q .normal a W)
    (hstop : ∀ (c : Code) (W : World), Ix c W → c.wpIn F n P Q a W) :
    (Code.rangeFunc g ps assign body).wpIn F n P Q a w := by
  refine wpIn_rangeFunc fun fn hfn => ?_
  rw [hro]
  generalize hW1 : w.alloc (.loop (recOf fn a.tmps ps assign body r₀.defers .ready none)) = W1
  have e1 : W1.heap[w.heap.size]? = some (.loop (recOf fn a.tmps ps assign body r₀.defers .ready none)) := by rw [← hW1]; exact World.alloc_heap_new w _
  have e3 : Below w.heap.size w W1 := by rw [← hW1]; exact (Below.refl _ w).alloc (Nat.le_refl _) _
  refine ⟨w.heap.size, [], W1, { target := .fn (.func gf) lb, args := #[.func (.yield w.heap.size) #[] #[]] }, W1, gf, #[.func (.yield w.heap.size) #[] #[]] ++ lb, W1, ?_, ?_, ?_, ?_, fun _ => h1, ?_⟩
  · rw [← hW1]; exact run_enterLoop_inner hl₀ _ _ _ _ _
  · simp only [resolve, hg]
    simp [go_sem]
  · intro f' hf'; simp [Target.leads] at hf'; subst hf'; exact hFg
  · simp [invoke, go_sem, eg]
  · refine (hseq w.heap.size
      (fun k s W => I k s W ∧ W.heap[w.heap.size]? = some (.loop (recOf fn a.tmps ps assign body r₀.defers .ready none)))
      (fun W => ∃ c, Ix c W ∧ W.heap[w.heap.size]? = some (.loop (recOf fn a.tmps ps assign body r₀.defers .done (some c))))
      k0 s0 W1 (fun k s A h => hAt k s A h.1)
      (fun k s A B hs hb => ⟨(hI k s).below hs.1 hb, (hb.block _ (Array.getElem?_eq_some_iff.1 hs.2).1).trans hs.2⟩)
      (fun A B ⟨c, hs⟩ hb => ⟨c, (hIx c).below hs.1 hb, (hb.block _ (Array.getElem?_eq_some_iff.1 hs.2).1).trans hs.2⟩)
      (fun m k s x s' W2 W3 hJ hn hA hC => by
        have f1 := hC.block hJ.2 (fun h => by have := hD _ h; omega)
        refine YieldAt.mono (round_m (Nat.le_refl _) hfn hI hIx hPre hps hd a₁ hassign hbody k s x s' W3 (hstep k s x s' W2 W3 hJ.1 hn hA hC) f1) ?_
        rintro e W' ⟨hk, (⟨rfl, ⟨k', s2, hk', hI'⟩, hr⟩ | ⟨rfl, c, hc, hr⟩)⟩
        · exact .inl ⟨rfl, k', s2, hk', hI', hr⟩
        · exact .inr ⟨rfl, c, hc, hr⟩) ⟨(hI k0 s0).below h0 e3, e1⟩).mono ?_
    rintro e W2 ⟨⟨v, rfl⟩, (⟨k, s, ⟨hi, hl⟩, hn⟩ | ⟨c, hi, hl⟩)⟩
    · exact ⟨none, _, run_endLoop (P := P) hl (by simp [recOf]), hdone k s _ ((hI k s).put _ hi (Nat.le_refl _) hl rfl) hn⟩
    · exact ⟨some c, _, run_endLoop (P := P) hl (by simp [recOf]), hstop c _ ((hIx c).put _ hi (Nat.le_refl _) hl rfl)⟩
/-- An iterator's contract goes into a round as it is. -/
theorem SeqM.inRound {α σ : Type} {g : Nat} {lb : Array Value} {encs : α → Array Value} {At : σ → World → Prop} {nxt : σ → Option (α × σ)} {D : Nat → Prop} (l : Nat) (h : SeqM F n P g lb encs At nxt D) : SeqM (F.inRound l) n P g lb encs At nxt D := h
end
end Go.Proofs.Ytchkeckblpmehaa
