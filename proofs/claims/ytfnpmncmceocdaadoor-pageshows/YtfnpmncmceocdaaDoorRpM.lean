import Derived.Test.YtfnpmncmceocdaaDoorProg
import Derived.WalkKit
import Derived.WalkSpells
import Derived.WalkLawsBesides
import Derived.Lib.OthersKept
import Derived.Laws.OwnMore
import Derived.Maps.AppendAt
/-! Rows of elements of k cells each, read and owned. -/
namespace Go.Proofs.YtfnpmncmceocdaaDoor
open Go.RowKit Go.Lib
set_option maxRecDepth 100000

theorem addr_add' (g off j : Nat) : (⟨g, off, none⟩ : Addr).add j = ⟨g, off + j, none⟩ := by unfold Addr.add; split <;> simp_all
/-- How an element lies: k cells, each of one cell. -/
structure Lay {α : Type} (f : α → List Value) (k : Nat) : Prop where
  len : ∀ x, (f x).length = k
  pos : 0 < k
  one : ∀ x, ∀ u ∈ f x, u.oneCell' = true
def flatF {α : Type} (f : α → List Value) (l : List α) : List Value := l.flatMap f
section
variable {α : Type} {f : α → List Value} {k : Nat}
theorem flatF_length (hf : Lay f k) (l : List α) : (flatF f l).length = l.length * k := by
  induction l with
  | nil => simp [flatF]
  | cons x t ih => simp only [flatF, List.flatMap_cons, List.length_append, List.length_cons] at ih ⊢; rw [ih, hf.len, Nat.add_mul, Nat.one_mul, Nat.add_comm]
theorem flatF_append (l m : List α) : flatF f (l ++ m) = flatF f l ++ flatF f m := by simp [flatF]
theorem flatF_one (hf : Lay f k) (l : List α) : ∀ u ∈ flatF f l, u.oneCell' = true := by
  intro u hu
  obtain ⟨x, _, hx⟩ := List.mem_flatMap.1 hu
  exact hf.one x u hx
theorem flatF_get (hf : Lay f k) : ∀ (l : List α) (j : Nat) (x : α), l[j]? = some x → ∀ i, i < k → (flatF f l)[j * k + i]? = (f x)[i]? := by
  intro l
  induction l with
  | nil => intro j x h; simp at h
  | cons y t ih =>
    intro j x h i hi
    have hy := hf.len y
    cases j with
    | zero =>
      simp at h; subst h
      simp only [flatF, List.flatMap_cons, Nat.zero_mul, Nat.zero_add]
      rw [List.getElem?_append_left (by omega)]
    | succ j =>
      simp at h
      have e : (j + 1) * k + i = (f y).length + (j * k + i) := by rw [hy, Nat.add_mul]; omega
      simp only [flatF, List.flatMap_cons] at ih ⊢
      rw [e, List.getElem?_append_right (by omega), Nat.add_sub_cancel_left]
      exact ih j x h i hi
/-- A slice in the world that reads as l. -/
structure Rw (f : α → List Value) (k : Nat) (w : World) (a : Option Addr) (n cap : Nat) (l : List α) : Prop where
  len : l.length = n
  room : n ≤ cap ∧ cap ≤ maxLen
  cells : 0 < n → ∃ g off, a = some ⟨g, off, none⟩ ∧ g < w.heap.size ∧ ∀ j x, l[j]? = some x → ∀ i v, (f x)[i]? = some v → w.cell? ⟨g, off + j * k + i, none⟩ = some v
theorem rw_nil (w : World) : Rw f k w none 0 0 [] := ⟨rfl, ⟨Nat.le_refl _, Nat.zero_le _⟩, fun h => absurd h (Nat.lt_irrefl _)⟩
theorem Rw.below {w w' : World} {a : Option Addr} {n cap : Nat} {l : List α} (h : Rw f k w a n cap l) (hb : Below w.heap.size w w') : Rw f k w' a n cap l :=
  ⟨h.len, h.room, fun hn => by
    obtain ⟨g, off, ha, hg, hc⟩ := h.cells hn
    exact ⟨g, off, ha, by have := hb.size; omega, fun j x hj i v hv => (hb.cell (p := ⟨g, off + j * k + i, none⟩) hg).trans (hc j x hj i v hv)⟩⟩
theorem Rw.at {w : World} {a : Option Addr} {n cap : Nat} {l : List α} (h : Rw f k w a n cap l) (j : Nat) (hj : j < n) :
    ∃ g off x, a = some ⟨g, off, none⟩ ∧ g < w.heap.size ∧ l[j]? = some x ∧ ∀ i v, (f x)[i]? = some v → w.cell? ⟨g, off + j * k + i, none⟩ = some v := by
  obtain ⟨g, off, ha, hg, hc⟩ := h.cells (by omega)
  have hl := h.len
  have hx : l[j]? = some l[j] := List.getElem?_eq_getElem (by omega)
  exact ⟨g, off, _, ha, hg, hx, hc j _ hx⟩
theorem Rw.row (hf : Lay f k) {w : World} {a : Option Addr} {n cap : Nat} {l : List α} (h : Rw f k w a n cap l) (hn : 0 < n) :
    ∃ g off, a = some ⟨g, off, none⟩ ∧ g < w.heap.size ∧ ∀ j u, (flatF f l)[j]? = some u → w.cell? ((⟨g, off, none⟩ : Addr).add j) = some u := by
  obtain ⟨g, off, ha, hg, hc⟩ := h.cells hn
  refine ⟨g, off, ha, hg, fun j u hu => ?_⟩
  have hk := hf.pos
  have hlt : j < (flatF f l).length := by
    rcases Nat.lt_or_ge j (flatF f l).length with h' | h'
    · exact h'
    · rw [List.getElem?_eq_none h'] at hu; cases hu
  rw [flatF_length hf] at hlt
  have hq : j / k < l.length := Nat.div_lt_of_lt_mul (by rw [Nat.mul_comm]; exact hlt)
  have hx : l[j / k]? = some l[j / k] := List.getElem?_eq_getElem hq
  have hj : j / k * k + j % k = j := by rw [Nat.mul_comm]; exact Nat.div_add_mod j k
  have hg2 := flatF_get hf l (j / k) _ hx (j % k) (Nat.mod_lt _ hk)
  rw [hj, hu] at hg2
  have := hc (j / k) _ hx (j % k) u hg2.symm
  rw [addr_add', ← hj, ← Nat.add_assoc]
  exact this
theorem Rw.take {w : World} {a : Option Addr} {n cap : Nat} {l : List α} (h : Rw f k w a n cap l) (m : Nat) (hm : m ≤ n) : Rw f k w a m cap (l.take m) := by
  have hl := h.len
  refine ⟨by rw [List.length_take]; omega, ⟨by have := h.room; omega, h.room.2⟩, fun h0 => ?_⟩
  obtain ⟨g, off, ha, hg, hc⟩ := h.cells (by omega)
  exact ⟨g, off, ha, hg, fun j x hj => hc j x (by
    rw [List.getElem?_take] at hj
    split at hj
    · exact hj
    · cases hj)⟩
theorem Rw.drop {w : World} {g off : Nat} {n cap : Nat} {l : List α} (h : Rw f k w (some ⟨g, off, none⟩) n cap l) (m : Nat) (hm : m ≤ n) : Rw f k w (some ⟨g, off + m * k, none⟩) (n - m) (cap - m) (l.drop m) := by
  have hl := h.len
  have hr := h.room
  refine ⟨by rw [List.length_drop]; omega, ⟨by omega, by omega⟩, fun h0 => ?_⟩
  obtain ⟨g', off', ha, hg, hc⟩ := h.cells (by omega)
  simp only [Option.some.injEq, Addr.mk.injEq, and_true] at ha
  obtain ⟨rfl, rfl⟩ := ha
  refine ⟨g, off + m * k, rfl, hg, fun j x hj i v hv => ?_⟩
  rw [List.getElem?_drop] at hj
  have := hc (m + j) x hj i v hv
  rw [Nat.add_mul, ← Nat.add_assoc] at this
  exact this

/-- A row of one's own, at or beyond B. -/
def OwnF (f : α → List Value) (k : Nat) (T : TypeId) (w : World) (B : Nat) (v : Value) (l : List α) : Prop := w.ownsRow B T k v l.length (flatF f l)
variable {T : TypeId}
theorem ownF_nil (w : World) (B : Nat) : OwnF f k T w B (.slice none 0 0) [] := World.ownsRow_nil w B _ _
theorem OwnF.shape {w : World} {B : Nat} {v : Value} {l : List α} (h : OwnF f k T w B v l) : ∃ a cap, v = .slice a l.length cap := by
  rcases h.2 with ⟨e, h0⟩ | ⟨g, cap, cur, e, _⟩
  · exact ⟨none, 0, by rw [e, h0]⟩
  · exact ⟨_, _, e⟩
theorem OwnF.below {w w' : World} {B : Nat} {v : Value} {l : List α} (h : OwnF f k T w B v l) (hb : Below w.heap.size w w') : OwnF f k T w' B v l := by
  refine ⟨h.1, ?_⟩
  rcases h.2 with h0 | ⟨g, cap, cur, e, h1, hh, rest⟩
  · exact .inl h0
  · exact .inr ⟨g, cap, cur, e, h1, (hb.block g (Array.getElem?_eq_some_iff.1 hh).1).trans hh, rest⟩
theorem OwnF.mono {w : World} {B C : Nat} {v : Value} {l : List α} (h : OwnF f k T w B v l) (hC : C ≤ B) : OwnF f k T w C v l := by
  refine ⟨h.1, ?_⟩
  rcases h.2 with h0 | ⟨g, cap, cur, e, h1, rest⟩
  · exact .inl h0
  · exact .inr ⟨g, cap, cur, e, by omega, rest⟩
theorem OwnF.rw_ (hf : Lay f k) {w : World} {B n cap : Nat} {a : Option Addr} {l : List α} (h : OwnF f k T w B (.slice a n cap) l) : Rw f k w a n cap l := by
  rcases h.2 with ⟨e, h0⟩ | ⟨g, cap', cur, e, _, hh, hn, hm, hsz, htk⟩
  · simp only [Value.slice.injEq] at e
    obtain ⟨rfl, rfl, rfl⟩ := e
    exact ⟨h0, ⟨Nat.le_refl _, Nat.zero_le _⟩, fun h => absurd h (Nat.lt_irrefl _)⟩
  · simp only [Value.slice.injEq] at e
    obtain ⟨rfl, rfl, rfl⟩ := e
    refine ⟨rfl, ⟨hn, hm⟩, fun h0 => ⟨g, 0, rfl, (Array.getElem?_eq_some_iff.1 hh).1, fun j x hj i v hv => ?_⟩⟩
    have hi : i < k := by
      have := hf.len x
      rcases Nat.lt_or_ge i (f x).length with h' | h'
      · omega
      · rw [List.getElem?_eq_none h'] at hv; cases hv
    have hjl : j < l.length := by
      rcases Nat.lt_or_ge j l.length with h' | h'
      · exact h'
      · rw [List.getElem?_eq_none h'] at hj; cases hj
    have hlt : j * k + i < l.length * k := by
      have : (j + 1) * k ≤ l.length * k := Nat.mul_le_mul_right k hjl
      rw [Nat.add_mul] at this; omega
    have e1 : cur.toList[j * k + i]? = (flatF f l)[j * k + i]? := by rw [← htk, List.getElem?_take, if_pos hlt]
    rw [flatF_get hf l j x hj i hi, hv, Array.getElem?_toList] at e1
    simp only [World.cell?, hh, Nat.zero_add]
    exact e1
theorem OwnF.ge {w : World} {B : Nat} {v : Value} {l : List α} (h : OwnF f k T w B v l) {g : Nat} (hg : v.ownBlock = some g) : B ≤ g := by
  rcases h.2 with ⟨rfl, _⟩ | ⟨g', cap, cur, rfl, hB, _⟩
  · simp [Value.ownBlock] at hg
  · simp [Value.ownBlock] at hg
    omega
theorem OwnF.lt {w : World} {B : Nat} {v : Value} {l : List α} (h : OwnF f k T w B v l) {g : Nat} (hg : v.ownBlock = some g) : g < w.heap.size := by
  rcases h.2 with ⟨rfl, _⟩ | ⟨g', cap, cur, rfl, hB, hh, _⟩
  · simp [Value.ownBlock] at hg
  · simp [Value.ownBlock] at hg
    have := (Array.getElem?_eq_some_iff.1 hh).1
    omega
/-- Every block but v's own reads as it did. -/
def Keeps (w w' : World) (v : Value) : Prop := ∀ k, k < w.heap.size → v.ownBlock ≠ some k → w'.heap[k]? = w.heap[k]?
theorem below_grown {B : Nat} {w w' : World} {row : Option Nat} (hg : w.grownBy w' row) (hrow : ∀ k, row = some k → B ≤ k) (hB : B ≤ w.heap.size) : Below B w w' :=
  (Below.refl B w).grown hg hB hrow
/-- What append asks of the types. -/
structure Kind (P : Program) (S T : TypeId) (k by_ : Nat) : Prop where
  under : P.underlying S = some (.slice T)
  info : ∃ i z, P.info? T = some i ∧ i.zero = some z ∧ i.size = k ∧ i.bytes = by_ ∧ z.cells.size = k
/-- 'append(v, u...)' -/
theorem appendF {P : Program} {S : TypeId} {by_ : Nat} (hK : Kind P S T k by_) (hf : Lay f k) {w : World} {B : Nat} {v : Value} {l : List α} (h : OwnF f k T w B v l) (hB : B ≤ w.heap.size)
    {b : Option Addr} {m capb : Nat} {ys : List α} (hy : Rw f k w b m capb ys) (hm : 0 < m) (hs : (l.length + m) * by_ ≤ 140737488355328) (hs2 : l.length + m ≤ 9223372036854775807) (ty : TypeId) :
    ∃ g cap' w', (Builtin.append_ #[S, S] ty #[v, .slice b m capb]).run P w = .ok (.slice (some ⟨g, 0, none⟩) (l.length + m) cap') w' ∧ OwnF f k T w' B (.slice (some ⟨g, 0, none⟩) (l.length + m) cap') (l ++ ys) ∧ Below B w w' ∧ Keeps w w' v ∧ (v.ownBlock = some g ∨ g = w.heap.size) := by
  obtain ⟨i, z, hi, hz, hsz, hby, hzc⟩ := hK.info
  obtain ⟨ga, off, rfl, hg, hc⟩ := hy.row hf hm
  obtain ⟨v', w', hr, ho, hgr, _, hat⟩ := run_append_own_at (P := P) w B S ty T i z k by_ hK.under hi hz hsz hby hzc hf.pos v l.length (flatF f l) h ⟨ga, off, none⟩ m capb (flatF f ys) (by rw [flatF_length hf, hy.len]) hc (flatF_one hf ys)
    (by simp only [maxLen]; omega) hs hB
  rcases ho.2 with ⟨_, h0⟩ | ⟨g, cap, cur, rfl, hBg, rest⟩
  · omega
  · refine ⟨g, cap, w', hr, ?_, below_grown hgr (fun k hk => h.ge hk) hB, fun q hq hne => hgr.block q hq (fun e => hne e.symm), ?_⟩
    · unfold OwnF
      rw [flatF_append, List.length_append, hy.len]
      exact ho
    · rcases hat with h5 | h5
      · exact .inl (by rw [← h5]; rfl)
      · right; simpa [Value.ownBlock] using h5
/-- A block of k cells, just made, as a slice of one. -/
theorem rw_lit (w : World) (x : α) (cs : Array Value) (hcs : f x = cs.toList) (t : TypeId) : Rw f k (w.alloc (.cells cs t)) (some ⟨w.heap.size, 0, none⟩) 1 1 [x] := by
  refine ⟨rfl, ⟨Nat.le_refl _, by simp [maxLen]⟩, fun _ => ⟨w.heap.size, 0, rfl, by simp, fun j y hj i v hv => ?_⟩⟩
  match j, hj with
  | 0, hj =>
    simp at hj; subst hj
    have hh := heap_alloc_new w (.cells cs t)
    rw [hcs] at hv
    simp only [World.cell?, hh, Nat.zero_mul, Nat.zero_add]
    simpa using hv
/-- 'append(v, x)': the new element lies in a block of its own. -/
theorem appendF_one {P : Program} {S : TypeId} {by_ : Nat} (hK : Kind P S T k by_) (hf : Lay f k) {w : World} {B : Nat} {v : Value} {l : List α} (h : OwnF f k T w B v l) (hB : B ≤ w.heap.size) (x : α) (cs : Array Value) (hcs : f x = cs.toList) (t : TypeId)
    (hs : (l.length + 1) * by_ ≤ 140737488355328) (hs2 : l.length + 1 ≤ 9223372036854775807) (ty : TypeId) :
    ∃ g cap' w', (Builtin.append_ #[S, S] ty #[v, .slice (some ⟨w.heap.size, 0, none⟩) 1 1]).run P (w.alloc (.cells cs t)) = .ok (.slice (some ⟨g, 0, none⟩) (l.length + 1) cap') w' ∧ OwnF f k T w' B (.slice (some ⟨g, 0, none⟩) (l.length + 1) cap') (l ++ [x]) ∧ Below B w w' ∧ Keeps w w' v ∧ w.heap.size < w'.heap.size ∧ (v.ownBlock = some g ∨ w.heap.size < g) := by
  have hw : Below w.heap.size w (w.alloc (.cells cs t)) := (Below.refl _ _).alloc (Nat.le_refl _) _
  obtain ⟨g, cap', w', hr, ho, hb, hk, hat⟩ := appendF hK hf (h.below hw) (by simp; omega) (rw_lit w x cs hcs t) (by omega) hs hs2 ty
  refine ⟨g, cap', w', hr, ho, ((Below.refl B w).alloc hB _).trans hb, fun q hq hne => ?_, ?_, ?_⟩
  · rw [hk q (by simp; omega) hne]
    exact Below.heap_alloc w _ q hq
  · have := hb.size
    simp at this
    omega
  · rcases hat with e | e
    · exact .inl e
    · right; simp at e; omega
end
theorem wpList_append_hr {P : Program} {w : World} {ops : Array Oper} {rest : List Oper} {o : Oper} {a : Act} {Q : Exit → Act → World → Prop} (hgd : o.guard = none) (s x : Operand) (t : TypeId)
    (ho : o.op = .call { callee := .builtin .append, args := #[s, x], argTypes := #[t, t] }) (v u : Value) (hs : a.eval s = v) (hx : a.eval x = u) {v' : Value} {w' : World}
    (hr : (Builtin.append_ #[t, t] o.type #[v, u]).run P w = .ok v' w') (h : wpList P ops Q rest (a.put o.dst v') w') : wpList P ops Q (o :: rest) a w :=
  wpList_plain hgd fun K hK => by
    unfold Oper.wp execOp
    simp only [ho, resolve, invoke, builtin, Sem.run_bind, Sem.run_pure, Result.andThen_ok, List.map_toArray, List.map_cons, List.map_nil, hs, hx, hr]
    exact hK _ _ h
theorem max_run (ats : Array TypeId) (ty : TypeId) (x y : Int) (w : World) : (Builtin.max_ ats ty #[.int .i64 x, .int .i64 y]).run Tryd.prog w = .ok (.int .i64 (max x y)) w := by
  simp only [run_max_int2]
  congr 2
  split <;> omega
theorem min_run (ats : Array TypeId) (ty : TypeId) (x y : Int) (w : World) : (Builtin.min_ ats ty #[.int .i64 x, .int .i64 y]).run Tryd.prog w = .ok (.int .i64 (min x y)) w := by
  simp only [run_min_int2]
  congr 2
  split <;> omega
theorem kind_of {S T : TypeId} {z : Value} {k by_ : Nat} (hu : Tryd.prog.underlying S = some (.slice T)) (h : (Tryd.prog.info? T).map (fun i => (i.zero, i.size, i.bytes)) = some (some z, k, by_)) (hz : z.cells.size = k) : Kind Tryd.prog S T k by_ := by
  obtain ⟨i, hi, h1, h2, h3⟩ := info_parts h
  exact ⟨hu, i, z, hi, h1, h2, h3, hz⟩
theorem below_drewN {B : Nat} {a w : World} (h : Below B a w) (m : Nat) : Below B a (w.drewN m) := h.trans ⟨rfl, rfl, rfl, Nat.le_refl _, fun _ _ => rfl⟩
end Go.Proofs.YtfnpmncmceocdaaDoor
