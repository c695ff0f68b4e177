import Derived.Test.YtelcjhflopgojaaDoorRpM
import Derived.Deep.RegionHeld3
import Derived.Deep.DeepCutAuto
import Derived.Laws.IdiomStrings
import Derived.Maps.RangeRun
/-! A book: words, marks and the map of marks in memory; the map's laws. -/
namespace Go.Proofs.YtelcjhflopgojaaDoor
open Go.RowKit Go.Lib
set_option maxRecDepth 100000

/-- All stands but the blocks of D, and what is new. -/
def Chg (D : Nat → Prop) (w w' : World) : Prop := Below 0 w w' ∧ ∀ g, g < w.heap.size → ¬ D g → w'.heap[g]? = w.heap[g]?
theorem Chg.refl (D : Nat → Prop) (w : World) : Chg D w w := ⟨Below.refl _ _, fun _ _ _ => rfl⟩
theorem Chg.size {D : Nat → Prop} {a b : World} (h : Chg D a b) : a.heap.size ≤ b.heap.size := h.1.size
theorem Chg.trans {D : Nat → Prop} {a b c : World} (h : Chg D a b) (k : Chg D b c) : Chg D a c := ⟨h.1.trans k.1, fun g hg hq => (k.2 g (Nat.lt_of_lt_of_le hg h.1.size) hq).trans (h.2 g hg hq)⟩
theorem Chg.of_below {D : Nat → Prop} {a b : World} (h : Below a.heap.size a b) : Chg D a b := ⟨h.mono (Nat.zero_le _), fun g hg _ => h.block g hg⟩
theorem Chg.mono {D E : Nat → Prop} {a b : World} (h : Chg D a b) (hD : ∀ g, g < a.heap.size → D g → E g) : Chg E a b := ⟨h.1, fun g hg hE => h.2 g hg (fun hd => hE (hD g hg hd))⟩
theorem Chg.block {D : Nat → Prop} {a b : World} (h : Chg D a b) {g : Nat} {o : Obj} (hg : a.heap[g]? = some o) (hq : ¬ D g) : b.heap[g]? = some o := (h.2 g (Array.getElem?_eq_some_iff.1 hg).1 hq).trans hg
theorem Chg.set {D : Nat → Prop} {q : Nat} (i : Nat) (w : World) (u : Value) (hq : D q) : Chg D w (w.setCell ⟨q, i, none⟩ u) := ⟨(Below.refl _ _).setCell (Nat.zero_le _) _, fun g _ hk => Below.heap_setCell _ _ _ _ (by simp only; intro e; exact hk (e ▸ hq))⟩
theorem Chg.alloc (D : Nat → Prop) (w : World) (o : Obj) : Chg D w (w.alloc o) := Chg.of_below ((Below.refl _ _).alloc (Nat.le_refl _) _)
theorem Chg.drew {D : Nat → Prop} {a b : World} (h : Chg D a b) : Chg D a b.drew := ⟨h.1.drew, h.2⟩
theorem Chg.drewN {D : Nat → Prop} {a b : World} (h : Chg D a b) {m : Nat} : Chg D a (b.drewN m) := ⟨below_drewN h.1 m, h.2⟩
theorem Chg.cell {D : Nat → Prop} {a b : World} (h : Chg D a b) {p : Addr} (hp : p.block < a.heap.size) (hq : ¬ D p.block) : b.cell? p = a.cell? p := by
  obtain ⟨g, o, s⟩ := p
  have := h.2 g hp hq
  unfold World.cell?
  rw [this]
theorem Chg.below {D : Nat → Prop} {B : Nat} {a b : World} (h : Chg D a b) (hB : ∀ g, D g → B ≤ g) (hs : B ≤ a.heap.size) : Below B a b := ⟨h.1.os, h.1.tape, h.1.output, h.1.size, fun g hg => h.2 g (by omega) (fun hd => by have := hB g hd; omega)⟩
/-- What changes D and what is newer than a, seen from a. -/
theorem Chg.then {D E : Nat → Prop} {a b c : World} (h : Chg D a b) (k : Chg E b c) (hE : ∀ g, E g → D g ∨ a.heap.size ≤ g) : Chg D a c :=
  ⟨h.1.trans k.1, fun g hg hd => (k.2 g (Nat.lt_of_lt_of_le hg h.1.size) (fun he => by rcases hE g he with h1 | h1; exact hd h1; omega)).trans (h.2 g hg hd)⟩
theorem Rw.chg {α : Type} {f : α → List Value} {k : Nat} {D : Nat → Prop} {W W' : World} {a : Option Addr} {n cap : Nat} {l : List α} (h : Rw f k W a n cap l) (hC : Chg D W W') (hd : ∀ g, a = some g → ¬ D g.block) : Rw f k W' a n cap l :=
  ⟨h.len, h.room, fun hn => by
    obtain ⟨g, off, ha, hg, hc⟩ := h.cells hn
    exact ⟨g, off, ha, by have := hC.size; omega, fun j x hj i v hv => (hC.cell (p := ⟨g, off + j * k + i, none⟩) hg (hd ⟨g, off, none⟩ ha)).trans (hc j x hj i v hv)⟩⟩
theorem OwnF.chg {α : Type} {f : α → List Value} {k : Nat} {T : TypeId} {D : Nat → Prop} {a b : World} {B : Nat} {v : Value} {l : List α} (ho : OwnF f k T a B v l) (h : Chg D a b) (hq : ∀ g, v.ownBlock = some g → ¬ D g) : OwnF f k T b B v l := by
  refine ⟨ho.1, ?_⟩
  rcases ho.2 with h0 | ⟨g, cap, cur, e, h1, hh, rest⟩
  · exact .inl h0
  · exact .inr ⟨g, cap, cur, e, h1, h.block hh (hq g (by rw [e]; rfl)), rest⟩
theorem heap_setCell_cells {W : World} {b : Nat} {cs : Array Value} {T : TypeId} (h : W.heap[b]? = some (.cells cs T)) (i : Nat) (u : Value) : (W.setCell ⟨b, i, none⟩ u).heap[b]? = some (.cells (cs.setIfInBounds i u) T) := by
  unfold World.setCell
  simp [Array.getElem?_modify, h]
theorem box2 {W : World} {b : Nat} {T : TypeId} {v0 v1 : Value} (h : W.heap[b]? = some (.cells #[v0, v1] T)) : W.cell? ⟨b, 0, none⟩ = some v0 ∧ W.cell? ⟨b, 1, none⟩ = some v1 := by
  simp only [Lib.cell_of_heap h]
  exact ⟨rfl, rfl⟩
theorem box5 {W : World} {b : Nat} {T : TypeId} {v0 v1 v2 v3 v4 : Value} (h : W.heap[b]? = some (.cells #[v0, v1, v2, v3, v4] T)) : W.cell? ⟨b, 0, none⟩ = some v0 ∧ W.cell? ⟨b, 1, none⟩ = some v1 ∧ W.cell? ⟨b, 2, none⟩ = some v2 ∧ W.cell? ⟨b, 3, none⟩ = some v3 ∧ W.cell? ⟨b, 4, none⟩ = some v4 := by
  simp only [Lib.cell_of_heap h]
  exact ⟨rfl, rfl, rfl, rfl, rfl⟩

theorem box3 {W : World} {b : Nat} {T : TypeId} {v0 v1 v2 : Value} (h : W.heap[b]? = some (.cells #[v0, v1, v2] T)) : W.cell? ⟨b, 0, none⟩ = some v0 ∧ W.cell? ⟨b, 1, none⟩ = some v1 ∧ W.cell? ⟨b, 2, none⟩ = some v2 := by
  simp only [Lib.cell_of_heap h]
  exact ⟨rfl, rfl, rfl⟩

/-! ## Marks -/
/-- A mark as plain data. -/
structure Mk where
  nm : List UInt8
  lo : Nat
  hi : Nat
/-- A mark in memory: its name, the block of its struct, the map's stamp, its places. -/
structure X where
  nm : List UInt8
  q : Nat
  born : Nat
  lo : Nat
  hi : Nat
def X.mk1 (x : X) : Mk := ⟨x.nm, x.lo, x.hi⟩
def mkE (x : X) : MapEntry := { key := .string ⟨x.nm.toArray⟩, val := .pointer (some ⟨x.q, 0, none⟩), born := x.born }
structure MarkAt (W : World) (x : X) : Prop where
  box : W.heap[x.q]? = some (.cells #[.string ⟨x.nm.toArray⟩, .int .i64 (x.lo : Int), .int .i64 (x.hi : Int)] 29)
theorem MarkAt.chg {W W' : World} {x : X} {D : Nat → Prop} (h : MarkAt W x) (hC : Chg D W W') (h1 : ¬ D x.q) : MarkAt W' x := ⟨hC.block h.box h1⟩
structure MapAt (W : World) (b : Nat) (xs : List X) (ck : Nat) : Prop where
  heap : W.heap[b]? = some (.map (xs.map mkE).toArray ck)
  lt : ∀ x ∈ xs, x.born < ck
  born : (xs.map (·.born)).Nodup
  nm : (xs.map (·.nm)).Nodup
theorem MapAt.chg {W W' : World} {b ck : Nat} {xs : List X} {D : Nat → Prop} (h : MapAt W b xs ck) (hC : Chg D W W') (h1 : ¬ D b) : MapAt W' b xs ck := ⟨hC.block h.heap h1, h.lt, h.born, h.nm⟩
theorem bytes_ne {a b : List UInt8} (h : a ≠ b) : ((⟨a.toArray⟩ : ByteArray) == ⟨b.toArray⟩) = false := by
  cases hq : ((⟨a.toArray⟩ : ByteArray) == ⟨b.toArray⟩) with
  | false => rfl
  | true =>
    have := (MapKept.bytes_beq _ _).1 hq
    simp at this
    exact absurd this h
theorem bytes_eq (a : List UInt8) : ((⟨a.toArray⟩ : ByteArray) == ⟨a.toArray⟩) = true := (MapKept.bytes_beq _ _).2 rfl
theorem findNow_miss {nm : List UInt8} : ∀ (xs : List X) (i : Nat), (∀ x ∈ xs, x.nm ≠ nm) → Instr.findNow .string (.string ⟨nm.toArray⟩) (xs.map mkE) i = some none
  | [], _, _ => rfl
  | x :: xs, i, h => by
    have h1 : x.nm ≠ nm := h x (by simp)
    simp only [List.map_cons, Instr.findNow, mkE, Instr.sameNow, bytes_ne (Ne.symm h1)]
    exact findNow_miss xs (i + 1) (fun y hy => h y (by simp [hy]))
theorem findNow_hit {nm : List UInt8} {x : X} {r : List X} (hx : x.nm = nm) : ∀ (l : List X) (i : Nat), (∀ y ∈ l, y.nm ≠ nm) → Instr.findNow .string (.string ⟨nm.toArray⟩) ((l ++ x :: r).map mkE) i = some (some (i + l.length, .pointer (some ⟨x.q, 0, none⟩)))
  | [], i, _ => by
    subst hx
    simp [Instr.findNow, mkE, Instr.sameNow, bytes_eq]
  | y :: l, i, h => by
    have h1 : y.nm ≠ nm := h y (by simp)
    simp only [List.cons_append, List.map_cons, Instr.findNow, mkE, Instr.sameNow, bytes_ne (Ne.symm h1)]
    have := findNow_hit (r := r) hx l (i + 1) (fun z hz => h z (by simp [hz]))
    rw [this]
    simp only [List.length_cons]
    congr 3
    omega
/-- A name is on no file, or on just one. -/
theorem name_cases (nm : List UInt8) : ∀ (xs : List X), (xs.map (·.nm)).Nodup → (∀ x ∈ xs, x.nm ≠ nm) ∨ ∃ l x r, xs = l ++ x :: r ∧ x.nm = nm ∧ (∀ y ∈ l, y.nm ≠ nm) ∧ (∀ y ∈ r, y.nm ≠ nm)
  | [], _ => .inl (by simp)
  | x :: xs, h => by
    rw [List.map_cons, List.nodup_cons] at h
    by_cases hx : x.nm = nm
    · exact .inr ⟨[], x, xs, rfl, hx, by simp, fun y hy he => h.1 (by rw [hx, ← he]; exact List.mem_map.2 ⟨y, hy, rfl⟩)⟩
    · rcases name_cases nm xs h.2 with h1 | ⟨l, y, r, rfl, h2, h3, h4⟩
      · exact .inl (fun y hy => by rcases List.mem_cons.1 hy with rfl | hy; exact hx; exact h1 y hy)
      · exact .inr ⟨x :: l, y, r, rfl, h2, fun z hz => by rcases List.mem_cons.1 hz with rfl | hz; exact hx; exact h3 z hz, h4⟩
theorem keyS (nm : List UInt8) : MapKept.IsKey .string (.string ⟨nm.toArray⟩) := by simp [MapKept.IsKey]
theorem look_miss {W : World} {b ck : Nat} {xs : List X} (h : MapAt W b xs ck) {nm : List UInt8} (hn : ∀ x ∈ xs, x.nm ≠ nm) :
    (Instr.lookup 45 (.map (some b)) (.string ⟨nm.toArray⟩) false).run Tryd.prog W = .ok (.pointer none) W := by
  have hf := MapKept.run_findKey (P := Tryd.prog) (w := W) Tryd.underlying9 (findNow_miss xs 0 hn)
  unfold Instr.lookup
  simp only [Sem.run_bind, run_underlying Tryd.underlying45, Result.andThen_ok]
  rw [MapKept.run_getObj_map h.heap]
  simp only [Result.andThen_ok, Sem.run_bind, Sem.run_pure]
  rw [MapKept.run_checkKey Tryd.underlying9 (keyS nm)]
  simp only [Result.andThen_ok]
  rw [hf]
  simp only [Result.andThen_ok]
  simp [go_sem]
theorem look_hit {W : World} {b ck : Nat} {l r : List X} {x : X} (h : MapAt W b (l ++ x :: r) ck) {nm : List UInt8} (hx : x.nm = nm) (hn : ∀ y ∈ l, y.nm ≠ nm) :
    (Instr.lookup 45 (.map (some b)) (.string ⟨nm.toArray⟩) false).run Tryd.prog W = .ok (.pointer (some ⟨x.q, 0, none⟩)) W := by
  have hf := MapKept.run_findKey (P := Tryd.prog) (w := W) Tryd.underlying9 (findNow_hit (r := r) hx l 0 hn)
  unfold Instr.lookup
  simp only [Sem.run_bind, run_underlying Tryd.underlying45, Result.andThen_ok]
  rw [MapKept.run_getObj_map h.heap]
  simp only [Result.andThen_ok, Sem.run_bind, Sem.run_pure]
  rw [MapKept.run_checkKey Tryd.underlying9 (keyS nm)]
  simp only [Result.andThen_ok]
  rw [hf]
  simp
theorem chg_setBlock {w : World} {r : Nat} (o : Obj) : Chg (fun g => g = r) w { w with heap := w.heap.setIfInBounds r o } :=
  ⟨⟨rfl, rfl, rfl, by simp, fun k hk => absurd hk (Nat.not_lt_zero _)⟩, fun g hg hne => by
    show (w.heap.setIfInBounds r o)[g]? = _
    rw [Array.getElem?_setIfInBounds_ne (fun e => hne e.symm)]⟩
/-- a new file's entry -/
theorem put_new {W : World} {b ck : Nat} {xs : List X} (h : MapAt W b xs ck) {nm : List UInt8} (hn : ∀ x ∈ xs, x.nm ≠ nm) (q : Nat) (lo hi : Nat) :
    ∃ W', (Instr.mapUpdate 45 (.map (some b)) (.string ⟨nm.toArray⟩) (.pointer (some ⟨q, 0, none⟩))).run Tryd.prog W = .ok () W' ∧ MapAt W' b (xs ++ [⟨nm, q, ck, lo, hi⟩]) (ck + 1) ∧ Chg (fun g => g = b) W W' ∧ W'.heap.size = W.heap.size := by
  have hf := MapKept.run_findKey (P := Tryd.prog) (w := W) Tryd.underlying9 (findNow_miss xs 0 hn)
  refine ⟨{ W with heap := W.heap.setIfInBounds b (.map ((xs.map mkE).toArray.push { key := .string ⟨nm.toArray⟩, val := .pointer (some ⟨q, 0, none⟩), born := ck }) (ck + 1)) }, ?_, ⟨?_, ?_, ?_, ?_⟩, chg_setBlock _, by simp⟩
  · unfold Instr.mapUpdate
    simp only [Sem.run_bind, run_underlying Tryd.underlying45, Result.andThen_ok]
    rw [MapKept.run_getObj_map h.heap]
    simp only [Result.andThen_ok, Sem.run_bind]
    rw [MapKept.run_checkKey Tryd.underlying9 (keyS nm)]
    simp only [Result.andThen_ok]
    rw [hf]
    simp only [Result.andThen_ok]
    exact MapKept.run_setObj_map _ h.heap
  · rw [(MapKept.heap_set h.heap).1]
    simp [mkE]
  · intro x hx
    rcases List.mem_append.1 hx with hx | hx
    · have := h.lt x hx; omega
    · simp at hx; subst hx; exact Nat.lt_succ_self _
  · rw [List.map_append, List.nodup_append]
    refine ⟨h.born, by simp, ?_⟩
    intro a ha c hc
    obtain ⟨x, hx, rfl⟩ := List.mem_map.1 ha
    simp at hc; subst hc
    have := h.lt x hx; omega
  · rw [List.map_append, List.nodup_append]
    refine ⟨h.nm, by simp, ?_⟩
    intro a ha c hc
    obtain ⟨x, hx, rfl⟩ := List.mem_map.1 ha
    simp at hc; subst hc
    exact hn x hx
theorem erase_mid {α : Type} (l r : List α) (x : α) : (l ++ x :: r).eraseIdx l.length = l ++ r := by
  rw [List.eraseIdx_append_of_length_le (Nat.le_refl _), Nat.sub_self]; rfl
theorem nodup_mid {α β : Type} {f : α → β} {l r : List α} {x : α} (h : ((l ++ x :: r).map f).Nodup) : ((l ++ r).map f).Nodup := by
  refine h.sublist ?_
  exact List.Sublist.map f (List.Sublist.append (List.Sublist.refl l) (List.sublist_cons_self x r))
/-- delete of a file that is there -/
theorem del_hit {W : World} {b ck : Nat} {l r : List X} {x : X} (h : MapAt W b (l ++ x :: r) ck) {nm : List UInt8} (hx : x.nm = nm) (hn : ∀ y ∈ l, y.nm ≠ nm) :
    ∃ W', (∀ ty, (Builtin.delete_ #[45, 9] ty #[.map (some b), .string ⟨nm.toArray⟩]).run Tryd.prog W = .ok (.tuple #[]) W') ∧ MapAt W' b (l ++ r) ck ∧ Chg (fun g => g = b) W W' ∧ W'.heap.size = W.heap.size := by
  have hf := MapKept.run_findKey (P := Tryd.prog) (w := W) Tryd.underlying9 (findNow_hit (r := r) hx l 0 hn)
  refine ⟨{ W with heap := W.heap.setIfInBounds b (.map (((l ++ x :: r).map mkE).toArray.eraseIdxIfInBounds (0 + l.length)) ck) }, ?_, ⟨?_, ?_, nodup_mid h.born, nodup_mid h.nm⟩, chg_setBlock _, by simp⟩
  · intro ty
    unfold Builtin.delete_
    simp only [List.getElem?_toArray, List.getElem?_cons_zero, List.getElem?_cons_succ, Sem.run_bind, run_underlying Tryd.underlying45, Result.andThen_ok]
    rw [MapKept.run_getObj_map h.heap]
    simp only [Result.andThen_ok, Sem.run_bind]
    rw [MapKept.run_checkKey Tryd.underlying9 (keyS nm)]
    simp only [Result.andThen_ok]
    rw [hf]
    simp only [Result.andThen_ok]
    rw [Sem.run_bind, MapKept.run_setObj_map _ h.heap]
    simp
  · rw [(MapKept.heap_set h.heap).1]
    congr 2
    have e1 : ((l ++ x :: r).map mkE).toArray.eraseIdxIfInBounds (0 + l.length) = (((l ++ x :: r).map mkE).eraseIdx l.length).toArray := by
      apply Array.toList_inj.1
      simp [Array.eraseIdxIfInBounds]
    rw [e1]
    congr 1
    have := erase_mid (l.map mkE) (r.map mkE) (mkE x)
    simpa using this
  · intro y hy
    exact h.lt y (by
      rcases List.mem_append.1 hy with hy | hy
      · exact List.mem_append.2 (.inl hy)
      · exact List.mem_append.2 (.inr (List.mem_cons_of_mem _ hy)))
end Go.Proofs.YtelcjhflopgojaaDoor
