import Derived.Test.YtmdnmhdimfglaaaGreatDoorProg
import Derived.WalkKit
import Derived.WalkSpells
import Derived.WalkLawsBesides
import Derived.Lib.OthersKept
import Derived.Laws.OwnMore
import Derived.Maps.AppendAt
namespace Go.Proofs.YtmdnmhdimfglaaaGreatDoor
open Go.RowKit Go.Lib
set_option maxRecDepth 100000
theorem addr_add' (g off j : Nat) : (⟨g, off, none⟩ : Addr).add j = ⟨g, off + j, none⟩ := by unfold Addr.add; split <;> simp_all
structure Lay {α : Type} (f : α → List Value) (k : Nat) : Prop where
  len : ∀ x, (f x).length = k
  pos : 0 < k
  one : ∀ x, ∀ u ∈ f x, u.oneCell' = true
def flatF {α : Type} (f : α → List Value) (l : List α) : List Value := l.flatMap f
section
variable {α : Type} {f : α → List Value} {k : Nat}
theorem flatF_length (hf : Lay f k) (l : List α) : (flatF f l).length = l.length * k := by
  induction l with
  | nil => simp [flatF]
  | cons x t ih => simp only [flatF, List.flatMap_cons, List.length_append, List.length_cons] at ih ⊢; rw [ih, hf.len, Nat.add_mul, Nat.one_mul, Nat.add_comm]
theorem flatF_append (l m : List α) : flatF f (l ++ m) = flatF f l ++ flatF f m := by simp [flatF]
theorem flatF_one (hf : Lay f k) (l : List α) : ∀ u ∈ flatF f l, u.oneCell' = true := by
  intro u hu
  obtain ⟨x, _, hx⟩ := List.mem_flatMap.1 hu
  exact hf.one x u hx
theorem flatF_get (hf : Lay f k) : ∀ (l : List α) (j : Nat) (x : α), l[j]? = some x → ∀ i, i < k → (flatF f l)[j * k + i]? = (f x)[i]? := by
  intro l
  induction l with
  | nil => intro j x h; simp at h
  | cons y t ih =>
    intro j x h i hi
    have hy := hf.len y
    cases j with
    | zero =>
      simp at h; subst h
      simp only [flatF, List.flatMap_cons, Nat.zero_mul, Nat.zero_add]
      rw [List.getElem?_append_left (by omega)]
    | succ j =>
      simp at h
      have e : (j + 1) * k + i = (f y).length + (j * k + i) := by rw [hy, Nat.add_mul]; omega
      simp only [flatF, List.flatMap_cons] at ih ⊢
      rw [e, List.getElem?_append_right (by omega), Nat.add_sub_cancel_left]
      exact ih j x h i hi
structure Rw (f : α → List Value) (k : Nat) (w : World) (a : Option Addr) (n cap : Nat) (l : List α) : Prop where
  len : l.length = n
  room : n ≤ cap ∧ cap ≤ maxLen
  cells : 0 < n → ∃ g off, a = some ⟨g, off, none⟩ ∧ g < w.heap.size ∧ ∀ j x, l[j]? = some x → ∀ i v, (f x)[i]? = some v → w.cell? ⟨g, off + j * k + i, none⟩ = some v
theorem rw_nil (w : World) : Rw f k w none 0 0 [] := ⟨rfl, ⟨Nat.le_refl _, Nat.zero_le _⟩, fun h => absurd h (Nat.lt_irrefl _)⟩
theorem Rw.below {w w' : World} {a : Option Addr} {n cap : Nat} {l : List α} (h : Rw f k w a n cap l) (hb : Below w.heap.size w w') : Rw f k w' a n cap l :=
  ⟨h.len, h.room, fun hn => by
    obtain ⟨g, off, ha, hg, hc⟩ := h.cells hn
    exact ⟨g, off, ha, by have := hb.size; omega, fun j x hj i v hv => (hb.cell (p := ⟨g, off + j * k + i, none⟩) hg).trans (hc j x hj i v hv)⟩⟩
theorem Rw.at {w : World} {a : Option Addr} {n cap : Nat} {l : List α} (h : Rw f k w a n cap l) (j : Nat) (hj : j < n) :
    ∃ g off x, a = some ⟨g, off, none⟩ ∧ g < w.heap.size ∧ l[j]? = some x ∧ ∀ i v, (f x)[i]? = some v → w.cell? ⟨g, off + j * k + i, none⟩ = some v := by
  obtain ⟨g, off, ha, hg, hc⟩ := h.cells (by omega)
  have hl := h.len
  have hx : l[j]? = some l[j] := List.getElem?_eq_getElem (by omega)
  exact ⟨g, off, _, ha, hg, hx, hc j _ hx⟩
theorem Rw.row (hf : Lay f k) {w : World} {a : Option Addr} {n cap : Nat} {l : List α} (h : Rw f k w a n cap l) (hn : 0 < n) :
    ∃ g off, a = some ⟨g, off, none⟩ ∧ g < w.heap.size ∧ ∀ j u, (flatF f l)[j]? = some u → w.cell? ((⟨g, off, none⟩ : Addr).add j) = some u := by
  obtain ⟨g, off, ha, hg, hc⟩ := h.cells hn
  refine ⟨g, off, ha, hg, fun j u hu => ?_⟩
  have hk := hf.pos
  have hlt : j < (flatF f l).length := by
    rcases Nat.lt_or_ge j (flatF f l).length with h' | h'
    · exact h'
    · rw [List.getElem?_eq_none h'] at hu; cases hu
  rw [flatF_length hf] at hlt
  have hq : j / k < l.length := Nat.div_lt_of_lt_mul (by rw [Nat.mul_comm]; exact hlt)
  have hx : l[j / k]? = some l[j / k] := List.getElem?_eq_getElem hq
  have hj : j / k * k + j % k = j := by rw [Nat.mul_comm]; exact Nat.div_add_mod j k
  have hg2 := flatF_get hf l (j / k) _ hx (j % k) (Nat.mod_lt _ hk)
  rw [hj, hu] at hg2
  have := hc (j / k) _ hx (j % k) u hg2.symm
  rw [addr_add', ← hj, ← Nat.add_assoc]
  exact this
def OwnF (f : α → List Value) (k : Nat) (T : TypeId) (w : World) (B : Nat) (v : Value) (l : List α) : Prop := w.ownsRow B T k v l.length (flatF f l)
variable {T : TypeId}
theorem ownF_nil (w : World) (B : Nat) : OwnF f k T w B (.slice none 0 0) [] := World.ownsRow_nil w B _ _
theorem OwnF.shape {w : World} {B : Nat} {v : Value} {l : List α} (h : OwnF f k T w B v l) : ∃ a cap, v = .slice a l.length cap := by
  rcases h.2 with ⟨e, h0⟩ | ⟨g, cap, cur, e, _⟩
  · exact ⟨none, 0, by rw [e, h0]⟩
  · exact ⟨_, _, e⟩
theorem OwnF.below {w w' : World} {B : Nat} {v : Value} {l : List α} (h : OwnF f k T w B v l) (hb : Below w.heap.size w w') : OwnF f k T w' B v l := by
  refine ⟨h.1, ?_⟩
  rcases h.2 with h0 | ⟨g, cap, cur, e, h1, hh, rest⟩
  · exact .inl h0
  · exact .inr ⟨g, cap, cur, e, h1, (hb.block g (Array.getElem?_eq_some_iff.1 hh).1).trans hh, rest⟩
theorem OwnF.mono {w : World} {B C : Nat} {v : Value} {l : List α} (h : OwnF f k T w B v l) (hC : C ≤ B) : OwnF f k T w C v l := by
  refine ⟨h.1, ?_⟩
  rcases h.2 with h0 | ⟨g, cap, cur, e, h1, rest⟩
  · exact .inl h0
  · exact .inr ⟨g, cap, cur, e, by omega, rest⟩
theorem OwnF.rw_ (hf : Lay f k) {w : World} {B n cap : Nat} {a : Option Addr} {l : List α} (h : OwnF f k T w B (.slice a n cap) l) : Rw f k w a n cap l := by
  rcases h.2 with ⟨e, h0⟩ | ⟨g, cap', cur, e, _, hh, hn, hm, hsz, htk⟩
  · simp only [Value.slice.injEq] at e
    obtain ⟨rfl, rfl, rfl⟩ := e
    exact ⟨h0, ⟨Nat.le_refl _, Nat.zero_le _⟩, fun h => absurd h (Nat.lt_irrefl _)⟩
  · simp only [Value.slice.injEq] at e
    obtain ⟨rfl, rfl, rfl⟩ := e
    refine ⟨rfl, ⟨hn, hm⟩, fun h0 => ⟨g, 0, rfl, (Array.getElem?_eq_some_iff.1 hh).1, fun j x hj i v hv => ?_⟩⟩
    have hi : i < k := by
      have := hf.len x
      rcases Nat.lt_or_ge i (f x).length with h' | h'
      · omega
      · rw [List.getElem?_eq_none h'] at hv; cases hv
    have hjl : j < l.length := by
      rcases Nat.lt_or_ge j l.length with h' | h'
      · exact h'
      · rw [List.getElem?_eq_none h'] at hj; cases hj
    have hlt : j * k + i < l.length * k := by
      have : (j + 1) * k ≤ l.length * k := Nat.mul_le_mul_right k hjl
      rw [Nat.add_mul] at this; omega
    have e1 : cur.toList[j * k + i]? = (flatF f l)[j * k + i]? := by rw [← htk, List.getElem?_take, if_pos hlt]
    rw [flatF_get hf l j x hj i hi, hv, Array.getElem?_toList] at e1
    simp only [World.cell?, hh, Nat.zero_add]
    exact e1
theorem OwnF.ge {w : World} {B : Nat} {v : Value} {l : List α} (h : OwnF f k T w B v l) {g : Nat} (hg : v.ownBlock = some g) : B ≤ g := by
  rcases h.2 with ⟨rfl, _⟩ | ⟨g', cap, cur, rfl, hB, _⟩
  · simp [Value.ownBlock] at hg
  · simp [Value.ownBlock] at hg
    omega
theorem OwnF.lt {w : World} {B : Nat} {v : Value} {l : List α} (h : OwnF f k T w B v l) {g : Nat} (hg : v.ownBlock = some g) : g < w.heap.size := by
  rcases h.2 with ⟨rfl, _⟩ | ⟨g', cap, cur, rfl, hB, hh, _⟩
  · simp [Value.ownBlock] at hg
  · simp [Value.ownBlock] at hg
    have := (Array.getElem?_eq_some_iff.1 hh).1
    omega
def Keeps (w w' : World) (v : Value) : Prop := ∀ k, k < w.heap.size → v.ownBlock ≠ some k → w'.heap[k]? = w.heap[k]?
theorem below_grown {B : Nat} {w w' : World} {row : Option Nat} (hg : w.grownBy w' row) (hrow : ∀ k, row = some k → B ≤ k) (hB : B ≤ w.heap.size) : Below B w w' :=
  (Below.refl B w).grown hg hB hrow
structure Kind (P : Program) (S T : TypeId) (k by_ : Nat) : Prop where
  under : P.underlying S = some (.slice T)
  info : ∃ i z, P.info? T = some i ∧ i.zero = some z ∧ i.size = k ∧ i.bytes = by_ ∧ z.cells.size = k
theorem appendF {P : Program} {S : TypeId} {by_ : Nat} (hK : Kind P S T k by_) (hf : Lay f k) {w : World} {B : Nat} {v : Value} {l : List α} (h : OwnF f k T w B v l) (hB : B ≤ w.heap.size)
    {b : Option Addr} {m capb : Nat} {ys : List α} (hy : Rw f k w b m capb ys) (hm : 0 < m) (hs : (l.length + m) * by_ ≤ 140737488355328) (hs2 : l.length + m ≤ 9223372036854775807) (ty : TypeId) :
    ∃ g cap' w', (Builtin.append_ #[S, S] ty #[v, .slice b m capb]).run P w = .ok (.slice (some ⟨g, 0, none⟩) (l.length + m) cap') w' ∧ OwnF f k T w' B (.slice (some ⟨g, 0, none⟩) (l.length + m) cap') (l ++ ys) ∧ Below B w w' ∧ Keeps w w' v ∧ (v.ownBlock = some g ∨ g = w.heap.size) := by
  obtain ⟨i, z, hi, hz, hsz, hby, hzc⟩ := hK.info
  obtain ⟨ga, off, rfl, hg, hc⟩ := hy.row hf hm
  obtain ⟨v', w', hr, ho, hgr, _, hat⟩ := run_append_own_at (P := P) w B S ty T i z k by_ hK.under hi hz hsz hby hzc hf.pos v l.length (flatF f l) h ⟨ga, off, none⟩ m capb (flatF f ys) (by rw [flatF_length hf, hy.len]) hc (flatF_one hf ys)
    (by simp only [maxLen]; omega) hs hB
  rcases ho.2 with ⟨_, h0⟩ | ⟨g, cap, cur, rfl, hBg, rest⟩
  · omega
  · refine ⟨g, cap, w', hr, ?_, below_grown hgr (fun k hk => h.ge hk) hB, fun q hq hne => hgr.block q hq (fun e => hne e.symm), ?_⟩
    · unfold OwnF
      rw [flatF_append, List.length_append, hy.len]
      exact ho
    · rcases hat with h5 | h5
      · exact .inl (by rw [← h5]; rfl)
      · right; simpa [Value.ownBlock] using h5
theorem rw_lit (w : World) (x : α) (cs : Array Value) (hcs : f x = cs.toList) (t : TypeId) : Rw f k (w.alloc (.cells cs t)) (some ⟨w.heap.size, 0, none⟩) 1 1 [x] := by
  refine ⟨rfl, ⟨Nat.le_refl _, by simp [maxLen]⟩, fun _ => ⟨w.heap.size, 0, rfl, by simp, fun j y hj i v hv => ?_⟩⟩
  match j, hj with
  | 0, hj =>
    simp at hj; subst hj
    have hh := heap_alloc_new w (.cells cs t)
    rw [hcs] at hv
    simp only [World.cell?, hh, Nat.zero_mul, Nat.zero_add]
    simpa using hv
theorem appendF_one {P : Program} {S : TypeId} {by_ : Nat} (hK : Kind P S T k by_) (hf : Lay f k) {w : World} {B : Nat} {v : Value} {l : List α} (h : OwnF f k T w B v l) (hB : B ≤ w.heap.size) (x : α) (cs : Array Value) (hcs : f x = cs.toList) (t : TypeId)
    (hs : (l.length + 1) * by_ ≤ 140737488355328) (hs2 : l.length + 1 ≤ 9223372036854775807) (ty : TypeId) :
    ∃ g cap' w', (Builtin.append_ #[S, S] ty #[v, .slice (some ⟨w.heap.size, 0, none⟩) 1 1]).run P (w.alloc (.cells cs t)) = .ok (.slice (some ⟨g, 0, none⟩) (l.length + 1) cap') w' ∧ OwnF f k T w' B (.slice (some ⟨g, 0, none⟩) (l.length + 1) cap') (l ++ [x]) ∧ Below B w w' ∧ Keeps w w' v ∧ w.heap.size < w'.heap.size ∧ (v.ownBlock = some g ∨ w.heap.size < g) := by
  have hw : Below w.heap.size w (w.alloc (.cells cs t)) := (Below.refl _ _).alloc (Nat.le_refl _) _
  obtain ⟨g, cap', w', hr, ho, hb, hk, hat⟩ := appendF hK hf (h.below hw) (by simp; omega) (rw_lit w x cs hcs t) (by omega) hs hs2 ty
  refine ⟨g, cap', w', hr, ho, ((Below.refl B w).alloc hB _).trans hb, fun q hq hne => ?_, ?_, ?_⟩
  · rw [hk q (by simp; omega) hne]
    exact Below.heap_alloc w _ q hq
  · have := hb.size
    simp at this
    omega
  · rcases hat with e | e
    · exact .inl e
    · right; simp at e; omega
end
theorem wpList_append_hr {P : Program} {w : World} {ops : Array Oper} {rest : List Oper} {o : Oper} {a : Act} {Q : Exit → Act → World → Prop} (hgd : o.guard = none) (s x : Operand) (t : TypeId)
    (ho : o.op = .call { callee := .builtin .append, args := #[s, x], argTypes := #[t, t] }) (v u : Value) (hs : a.eval s = v) (hx : a.eval x = u) {v' : Value} {w' : World}
    (hr : (Builtin.append_ #[t, t] o.type #[v, u]).run P w = .ok v' w') (h : wpList P ops Q rest (a.put o.dst v') w') : wpList P ops Q (o :: rest) a w :=
  wpList_plain hgd fun K hK => by
    unfold Oper.wp execOp
    simp only [ho, resolve, invoke, builtin, Sem.run_bind, Sem.run_pure, Result.andThen_ok, List.map_toArray, List.map_cons, List.map_nil, hs, hx, hr]
    exact hK _ _ h
theorem max_run (ats : Array TypeId) (ty : TypeId) (x y : Int) (w : World) : (Builtin.max_ ats ty #[.int .i64 x, .int .i64 y]).run Tryz.prog w = .ok (.int .i64 (max x y)) w := by
  simp only [run_max_int2]
  congr 2
  split <;> omega
theorem min_run (ats : Array TypeId) (ty : TypeId) (x y : Int) (w : World) : (Builtin.min_ ats ty #[.int .i64 x, .int .i64 y]).run Tryz.prog w = .ok (.int .i64 (min x y)) w := by
  simp only [run_min_int2]
  congr 2
  split <;> omega
theorem kind_of {S T : TypeId} {z : Value} {k by_ : Nat} (hu : Tryz.prog.underlying S = some (.slice T)) (h : (Tryz.prog.info? T).map (fun i => (i.zero, i.size, i.bytes)) = some (some z, k, by_)) (hz : z.cells.size = k) : Kind Tryz.prog S T k by_ := by
  obtain ⟨i, hi, h1, h2, h3⟩ := info_parts h
  exact ⟨hu, i, z, hi, h1, h2, h3, hz⟩
theorem below_drewN {B : Nat} {a w : World} (h : Below B a w) (m : Nat) : Below B a (w.drewN m) := h.trans ⟨rfl, rfl, rfl, Nat.le_refl _, fun _ _ => rfl⟩
end Go.Proofs.YtmdnmhdimfglaaaGreatDoor

namespace Go.Proofs.YtmdnmhdimfglaaaGreatDoor
open Go.RowKit Go.Lib
set_option maxRecDepth 100000
abbrev Sth := Int × Int × Int
def sthF (x : Sth) : List Value := [.int .i64 x.1, .int .i64 x.2.1, .int .i64 x.2.2]
theorem layH : Lay sthF 3 := ⟨fun _ => rfl, by decide, fun x u hu => by simp [sthF] at hu; rcases hu with rfl | rfl | rfl <;> rfl⟩
theorem kindH : Kind Tryz.prog 83 103 3 24 := kind_of Tryz.underlying83 (z := .agg #[.int .i64 0, .int .i64 0, .int .i64 0]) (by kernel_rfl) rfl
def wid (s : Sth) : Int := s.2.2 - s.2.1
def seenL : List Sth → Int
  | [] => 0
  | s :: t => wid s + seenL t
theorem seenL_snoc (R : List Sth) (s : Sth) : seenL (R ++ [s]) = seenL R + wid s := by
  induction R with
  | nil => simp [seenL]
  | cons x t ih => simp only [List.cons_append, seenL, ih]; omega
def withOne (who at_ n : Int) (s : Sth) (seen : Int) : List Sth :=
  if seen ≤ at_ ∧ at_ < seen + wid s then (if seen < at_ then [(s.1, s.2.1, s.2.1 + at_ - seen)] else []) ++ [(who, 0, n), (s.1, s.2.1 + at_ - seen, s.2.2)] else [s]
def withL (who at_ n : Int) : List Sth → Int → List Sth
  | [], _ => []
  | s :: t, seen => withOne who at_ n s seen ++ withL who at_ n t (seen + wid s)
theorem withL_snoc (who at_ n : Int) (s : Sth) : ∀ (R : List Sth) (seen : Int), withL who at_ n (R ++ [s]) seen = withL who at_ n R seen ++ withOne who at_ n s (seen + seenL R)
  | [], seen => by simp [withL, seenL]
  | x :: t, seen => by
    simp only [List.cons_append, withL, withL_snoc who at_ n s t, List.append_assoc, seenL]
    rw [show seen + wid x + seenL t = seen + (wid x + seenL t) by omega]
def SthOk (R : List Sth) : Prop := ∀ s ∈ R, 0 ≤ s.2.1 ∧ s.2.1 ≤ s.2.2 ∧ s.2.2 ≤ 4194304
theorem seenL_le {R : List Sth} (h : SthOk R) : 0 ≤ seenL R ∧ seenL R ≤ 4194304 * R.length := by
  induction R with
  | nil => simp [seenL]
  | cons x t ih =>
    have h1 := ih (fun s hs => h s (List.mem_cons_of_mem _ hs))
    have h2 := h x (List.mem_cons_self ..)
    simp only [seenL, wid, List.length_cons]
    push_cast
    omega
theorem SthOk.take {R : List Sth} (h : SthOk R) (j : Nat) : SthOk (R.take j) := fun s hs => h s (List.mem_of_mem_take hs)
theorem take_snocH {R : List Sth} {j : Nat} {s : Sth} (h : R[j]? = some s) : R.take (j + 1) = R.take j ++ [s] := by
  obtain ⟨hj, rfl⟩ := List.getElem?_eq_some_iff.1 h
  exact List.take_succ_eq_append_getElem hj
def ctxL : List Sth := [(0, 0, 2097152)]
set_option maxHeartbeats 1000000 in
theorem context_any (w : World) : Calls Tryz.prog 61 #[] w fun e w' => ∃ a cap, e = .returned (.slice a 1 cap) ∧ Rw sthF 3 w' a 1 cap ctxL ∧ Below w.heap.size w w' := by
  go_enter Tryz.func61, Tryz.ntmps61
  go_wp2_with fail
  go_ret
  exact ⟨_, _, rfl, rw_lit w (0, 0, 2097152) _ rfl _, (Below.refl _ _).alloc (Nat.le_refl _) _⟩
def placeL (who k : Int) : List Sth → Int → Int
  | [], seen => seen
  | s :: t, seen => if s.1 = who ∧ s.2.1 ≤ k ∧ k < s.2.2 then seen + k - s.2.1 else placeL who k t (seen + s.2.2 - s.2.1)
theorem drop_consH {R : List Sth} {j : Nat} {s : Sth} (h : R[j]? = some s) : R.drop j = s :: R.drop (j + 1) := by
  obtain ⟨hj, rfl⟩ := List.getElem?_eq_some_iff.1 h
  exact List.drop_eq_getElem_cons hj
set_option maxHeartbeats 4000000 in
theorem place_any {w : World} {a : Option Addr} {m cap : Nat} {R : List Sth} (h : Rw sthF 3 w a m cap R) (hm : m ≤ 16) (hR : SthOk R) (who k : Int) (hk : 0 ≤ k ∧ k ≤ 4194304) :
    Calls Tryz.prog 63 #[.slice a m cap, .int .i64 who, .int .i64 k] w fun e w' => e = .returned (.int .i64 (placeL who k R 0)) ∧ Below w.heap.size w w' := by
  have hRl := h.len
  obtain ⟨res, hres⟩ : ∃ r, placeL who k R 0 = r := ⟨_, rfl⟩
  rw [hres]
  have HRes : Hid (placeL who k R 0 = res) := hres
  clear hres
  go_enter Tryz.func63, Tryz.ntmps63
  go_wp2_with fail
  go_loopw [7, 8] (fun vs vi W => ∃ (j : Nat) (z : Int), j ≤ m ∧ vi = .int .i64 (j : Int) ∧ vs = .int .i64 z ∧ Hid (seenL (R.take j) = z ∧ placeL who k (R.drop j) z = res) ∧ Below w.heap.size w W) (fun _ vi _ => m - (RowKit.intOf vi).toNat)
  case atStart => exact ⟨0, 0, Nat.zero_le _, rfl, rfl, ⟨rfl, HRes.out⟩, Below.refl _ _⟩
  case round =>
    obtain ⟨j, z, hj, rfl, rfl, HZ, hb⟩ := hrel
    clear HRes
    by_cases hlt : j < m
    · obtain ⟨g, off, ⟨wh, fr, to⟩, rfl, hg, hx, hc⟩ := h.at j hlt
      have c0 : wr.cell? ⟨g, off + j * 3, none⟩ = some (.int .i64 wh) := (hb.cell (p := ⟨g, off + j * 3, none⟩) hg).trans (hc 0 _ rfl)
      have c1 : wr.cell? ⟨g, off + j * 3 + 1, none⟩ = some (.int .i64 fr) := (hb.cell (p := ⟨g, off + j * 3 + 1, none⟩) hg).trans (hc 1 _ rfl)
      have c2 : wr.cell? ⟨g, off + j * 3 + 2, none⟩ = some (.int .i64 to) := (hb.cell (p := ⟨g, off + j * 3 + 2, none⟩) hg).trans (hc 2 _ rfl)
      obtain ⟨s1, s2, s3⟩ := hR _ (List.mem_of_getElem? hx)
      obtain ⟨n1, n2⟩ := seenL_le (hR.take j)
      simp only [List.length_take] at n2
      simp only at s1 s2 s3
      rw [HZ.out.1] at n1 n2
      have n3 : z ≤ 4194304 * 16 := by omega
      have hb2 : Below w.heap.size w (wr.alloc (Obj.cells #[.int .i64 wh, .int .i64 fr, .int .i64 to] 103)) := hb.alloc hb.size _
      have HD : Hid (placeL who k ((wh, fr, to) :: R.drop (j + 1)) z = res ∧ seenL (R.take (j + 1)) = z + to - fr) := ⟨by rw [← drop_consH hx]; exact HZ.out.2, by rw [take_snocH hx, seenL_snoc, HZ.out.1]; simp only [wid]; omega⟩
      have e1 : IntKind.i64.wrap (z + k) = z + k := IntWalk.i64_in _ (by omega)
      have e2 : IntKind.i64.wrap (z + k - fr) = z + k - fr := IntWalk.i64_in _ (by omega)
      have e3 : IntKind.i64.wrap (z + to) = z + to := IntWalk.i64_in _ (by omega)
      have e4 : IntKind.i64.wrap (z + to - fr) = z + to - fr := IntWalk.i64_in _ (by omega)
      clear hc HZ n2 hb hR h
      have stay : ¬ (wh = who ∧ fr ≤ k ∧ k < to) → placeL who k (R.drop (j + 1)) (z + to - fr) = res := fun hn => by
        have := HD.out.1
        simp only [placeL] at this
        rwa [if_neg hn] at this
      have HST : Hid (¬ (wh = who ∧ fr ≤ k ∧ k < to) → placeL who k (R.drop (j + 1)) (z + to - fr) = res) := stay
      clear stay
      by_cases h1 : wh = who
      · subst h1
        by_cases h2 : fr ≤ k
        · by_cases h3 : k < to
          · have hr : z + k - fr = res := by
              have := HD.out.1
              simp only [placeL] at this
              rwa [if_pos ⟨trivial, h2, h3⟩] at this
            subst hr
            clear HST HD
            go_wp2_with fail
            go_ret
            exact ⟨rfl, hb2⟩
          · have t3 : decide (k < to) = false := decide_eq_false h3
            go_wp2_with fail
            go_roundw
            case rel => exact ⟨j + 1, z + to - fr, by omega, by go_num, rfl, ⟨HD.out.2, HST.out (fun hh => h3 hh.2.2)⟩, hb2⟩
            case measure => simp [RowKit.intOf]; omega
        · have t2 : decide (fr ≤ k) = false := decide_eq_false h2
          go_wp2_with fail
          go_roundw
          case rel => exact ⟨j + 1, z + to - fr, by omega, by go_num, rfl, ⟨HD.out.2, HST.out (fun hh => h2 hh.2.1)⟩, hb2⟩
          case measure => simp [RowKit.intOf]; omega
      · have t1 : (wh == who) = false := beq_eq_false_iff_ne.2 h1
        go_wp2_with fail
        go_roundw
        case rel => exact ⟨j + 1, z + to - fr, by omega, by go_num, rfl, ⟨HD.out.2, HST.out (fun hh => h1 hh.1)⟩, hb2⟩
        case measure => simp [RowKit.intOf]; omega
    · obtain rfl : j = m := by omega
      have hr : z = res := by
        have := HZ.out.2
        rw [List.drop_eq_nil_of_le (by omega)] at this
        exact this
      subst hr
      clear HZ
      go_wp2_with fail
      go_ret
      exact ⟨rfl, hb⟩
end Go.Proofs.YtmdnmhdimfglaaaGreatDoor

namespace Go.Proofs.YtmdnmhdimfglaaaGreatDoor
open Go.RowKit Go.Lib
set_option maxRecDepth 100000
theorem box3 {W : World} {b : Nat} {T : TypeId} {v0 v1 v2 : Value} (h : W.heap[b]? = some (.cells #[v0, v1, v2] T)) :
    W.cell? ⟨b, 0, none⟩ = some v0 ∧ W.cell? ⟨b, 1, none⟩ = some v1 ∧ W.cell? ⟨b, 2, none⟩ = some v2 := by
  simp only [Lib.cell_of_heap h]
  exact ⟨rfl, rfl, rfl⟩
theorem app_box {α : Type} {f : α → List Value} {k by_ : Nat} {S T : TypeId} (hK : Kind Tryz.prog S T k by_) (hf : Lay f k) {W : World} {B b : Nat} {v : Value} {l : List α} {o : Obj} (h : OwnF f k T W B v l) (hB : B ≤ W.heap.size) (hbx : W.heap[b]? = some o) (hne : ∀ g, v.ownBlock = some g → g ≠ b)
    (x : α) (cs : Array Value) (hcs : f x = cs.toList) (t : TypeId) (hs : (l.length + 1) * by_ ≤ 140737488355328) (hs2 : l.length + 1 ≤ 9223372036854775807) (ty : TypeId) :
    ∃ g cap' w', (Builtin.append_ #[S, S] ty #[v, .slice (some ⟨W.heap.size, 0, none⟩) 1 1]).run Tryz.prog (W.alloc (.cells cs t)) = .ok (.slice (some ⟨g, 0, none⟩) (l.length + 1) cap') w' ∧ OwnF f k T w' B (.slice (some ⟨g, 0, none⟩) (l.length + 1) cap') (l ++ [x]) ∧ Below B W w' ∧ w'.heap[b]? = some o ∧ (∀ e, (Value.slice (some ⟨g, 0, none⟩) (l.length + 1) cap').ownBlock = some e → e ≠ b) := by
  have hlt := (Array.getElem?_eq_some_iff.1 hbx).1
  obtain ⟨g, cap', w', hr, ho, hb, hk, _, hat⟩ := appendF_one hK hf h hB x cs hcs t hs hs2 ty
  refine ⟨g, cap', w', hr, ho, hb, (hk b hlt (fun e => hne b e rfl)).trans hbx, fun e he eq => ?_⟩
  simp only [Value.ownBlock, Option.some.injEq] at he
  subst he
  rcases hat with q | q
  · exact hne _ q eq
  · omega
theorem withOne_len (who at_ n : Int) (s : Sth) (z : Int) : (withOne who at_ n s z).length ≤ 3 := by
  unfold withOne
  split
  · split <;> simp
  · simp
theorem withL_len (who at_ n : Int) : ∀ (R : List Sth) (z : Int), (withL who at_ n R z).length ≤ 3 * R.length
  | [], z => by simp [withL]
  | s :: t, z => by
    have h1 := withOne_len who at_ n s z
    have h2 := withL_len who at_ n t (z + wid s)
    simp only [withL, List.length_append, List.length_cons]
    omega
set_option maxHeartbeats 8000000 in
theorem with_any {w : World} {a : Option Addr} {m cap : Nat} {R : List Sth} (h : Rw sthF 3 w a m cap R) (hm : m ≤ 16) (hR : SthOk R) (who at_ n : Int) (ha : 0 ≤ at_ ∧ at_ ≤ 4194304) :
    Calls Tryz.prog 60 #[.slice a m cap, .int .i64 who, .int .i64 at_, .int .i64 n] w fun e w' => ∃ a' cap', e = .returned (.slice a' (withL who at_ n R 0).length cap') ∧ OwnF sthF 3 103 w' w.heap.size (.slice a' (withL who at_ n R 0).length cap') (withL who at_ n R 0) ∧ Below w.heap.size w w' := by
  have hRl := h.len
  go_enter Tryz.func60, Tryz.ntmps60
  go_wp2_with fail
  go_loopw [9, 10, 11] (fun vo vs vi W => ∃ (j : Nat) (z : Int) (L : List Sth), j ≤ m ∧ vi = .int .i64 (j : Int) ∧ vs = .int .i64 z ∧ Hid (seenL (R.take j) = z ∧ withL who at_ n (R.take j) 0 = L) ∧ OwnF sthF 3 103 W w.heap.size vo L ∧ Below w.heap.size w W) (fun _ _ vi _ => m - (RowKit.intOf vi).toNat)
  case atStart => exact ⟨0, 0, [], Nat.zero_le _, rfl, rfl, ⟨rfl, rfl⟩, ownF_nil _ _, Below.refl _ _⟩
  case round =>
    obtain ⟨j, z, L, hj, rfl, rfl, HZ, ho, hb⟩ := hrel
    by_cases hlt : j < m
    · obtain ⟨g, off, ⟨wh, fr, to⟩, rfl, hg, hx, hc⟩ := h.at j hlt
      have c0 : wr.cell? ⟨g, off + j * 3, none⟩ = some (.int .i64 wh) := (hb.cell (p := ⟨g, off + j * 3, none⟩) hg).trans (hc 0 _ rfl)
      have c1 : wr.cell? ⟨g, off + j * 3 + 1, none⟩ = some (.int .i64 fr) := (hb.cell (p := ⟨g, off + j * 3 + 1, none⟩) hg).trans (hc 1 _ rfl)
      have c2 : wr.cell? ⟨g, off + j * 3 + 2, none⟩ = some (.int .i64 to) := (hb.cell (p := ⟨g, off + j * 3 + 2, none⟩) hg).trans (hc 2 _ rfl)
      obtain ⟨s1, s2, s3⟩ := hR _ (List.mem_of_getElem? hx)
      obtain ⟨n1, n2⟩ := seenL_le (hR.take j)
      simp only [List.length_take] at n2
      simp only at s1 s2 s3
      rw [HZ.out.1] at n1 n2
      have n3 : z ≤ 4194304 * 16 := by omega
      have hLl : L.length ≤ 48 := by
        have := withL_len who at_ n (R.take j) 0
        rw [HZ.out.2, List.length_take] at this
        omega
      obtain ⟨W1, hW1⟩ : ∃ W1, wr.alloc (Obj.cells #[.int .i64 wh, .int .i64 fr, .int .i64 to] 103) = W1 := ⟨_, rfl⟩
      have hX1 : W1.heap[wr.heap.size]? = some (Obj.cells #[.int .i64 wh, .int .i64 fr, .int .i64 to] 103) := by rw [← hW1]; exact heap_alloc_new _ _
      have hb1 : Below w.heap.size w W1 := by rw [← hW1]; exact hb.alloc hb.size _
      have ho1 : OwnF sthF 3 103 W1 w.heap.size u9 L := by rw [← hW1]; exact ho.below ((Below.refl _ _).alloc (Nat.le_refl _) _)
      have hne : ∀ e, u9.ownBlock = some e → e ≠ wr.heap.size := fun e he eq => by have := ho.lt he; omega
      obtain ⟨ao, co, rfl⟩ := ho.shape
      have HD : Hid (seenL (R.take (j + 1)) = z + (to - fr) ∧ withL who at_ n (R.take (j + 1)) 0 = L ++ withOne who at_ n (wh, fr, to) z) := ⟨by rw [take_snocH hx, seenL_snoc, HZ.out.1]; rfl, by rw [take_snocH hx, withL_snoc, HZ.out.1, HZ.out.2, Int.zero_add]⟩
      obtain ⟨bx0, bx1, bx2⟩ := box3 hX1
      have e0 : IntKind.i64.wrap (to - fr) = to - fr := IntWalk.i64_in _ (by omega)
      have e1 : IntKind.i64.wrap (z + (to - fr)) = z + (to - fr) := IntWalk.i64_in _ (by omega)
      have e2 : IntKind.i64.wrap (fr + at_) = fr + at_ := IntWalk.i64_in _ (by omega)
      have e3 : IntKind.i64.wrap (fr + at_ - z) = fr + at_ - z := IntWalk.i64_in _ (by omega)
      clear hc HZ n2 hb hR h ho
      by_cases h1 : z ≤ at_ ∧ at_ < z + (to - fr)
      · obtain ⟨h1, h2⟩ := h1
        by_cases h3 : z < at_
        · obtain ⟨g2, cp2, w2, r2, o2, b2, x2, ne2⟩ := app_box kindH layH ho1 hb1.size hX1 hne (wh, fr, fr + at_ - z) #[.int .i64 wh, .int .i64 fr, .int .i64 (fr + at_ - z)] rfl 103 (by omega) (by omega) 83
          have hb2 := hb1.trans b2
          obtain ⟨g3, cp3, w3, r3, o3, b3, x3, ne3⟩ := app_box kindH layH o2 hb2.size x2 (by simpa using ne2) (who, 0, n) #[.int .i64 who, .int .i64 0, .int .i64 n] rfl 103 (by simp; omega) (by simp; omega) 83
          have hb3 := hb2.trans b3
          obtain ⟨g4, cp4, w4, r4, o4, b4, x4, ne4⟩ := app_box kindH layH o3 hb3.size x3 (by simpa using ne3) (wh, fr + at_ - z, to) #[.int .i64 wh, .int .i64 (fr + at_ - z), .int .i64 to] rfl 103 (by simp; omega) (by simp; omega) 83
          have hb4 := hb3.trans b4
          simp only [List.length_append, List.length_cons, List.length_nil, Nat.zero_add] at r3 r4 o4
          obtain ⟨by0, by1, by2⟩ := box3 x2
          obtain ⟨bz0, bz1, bz2⟩ := box3 x3
          have eL : L ++ [(wh, fr, fr + at_ - z)] ++ [(who, 0, n)] ++ [(wh, fr + at_ - z, to)] = L ++ withOne who at_ n (wh, fr, to) z := by
            unfold withOne
            rw [if_pos ⟨h1, by simpa [wid] using h2⟩, if_pos h3]
            simp
          rw [eL] at o4
          have HO : Hid (OwnF sthF 3 103 w4 w.heap.size (.slice (some ⟨g4, 0, none⟩) (L.length + 1 + 1 + 1) cp4) (L ++ withOne who at_ n (wh, fr, to) z)) := o4
          clear o2 o3 o4 ne2 ne3 ne4 x2 x3 x4 hne ho1 eL b2 b3 b4 hb1 hb2 hb3
          go_wp2_with (at_builtin; first | (have hgd := r2; refine wpList_append_hr rfl _ _ 83 rfl _ _ rfl rfl r2 ?_; clear hgd r2) | (have hgd := r3; refine wpList_append_hr rfl _ _ 83 rfl _ _ rfl rfl r3 ?_; clear hgd r3) | (have hgd := r4; refine wpList_append_hr rfl _ _ 83 rfl _ _ rfl rfl r4 ?_; clear hgd r4))
          go_roundw
          case rel => exact ⟨j + 1, z + (to - fr), _, by omega, by go_num, rfl, HD, HO.out, hb4⟩
          case measure => simp [RowKit.intOf]; omega
        · have t3 : decide (z < at_) = false := decide_eq_false h3
          obtain ⟨g3, cp3, w3, r3, o3, b3, x3, ne3⟩ := app_box kindH layH ho1 hb1.size hX1 hne (who, 0, n) #[.int .i64 who, .int .i64 0, .int .i64 n] rfl 103 (by omega) (by omega) 83
          have hb3 := hb1.trans b3
          obtain ⟨g4, cp4, w4, r4, o4, b4, x4, ne4⟩ := app_box kindH layH o3 hb3.size x3 (by simpa using ne3) (wh, fr + at_ - z, to) #[.int .i64 wh, .int .i64 (fr + at_ - z), .int .i64 to] rfl 103 (by simp; omega) (by simp; omega) 83
          have hb4 := hb3.trans b4
          simp only [List.length_append, List.length_cons, List.length_nil, Nat.zero_add] at r4 o4
          obtain ⟨bz0, bz1, bz2⟩ := box3 x3
          have eL : L ++ [(who, 0, n)] ++ [(wh, fr + at_ - z, to)] = L ++ withOne who at_ n (wh, fr, to) z := by
            unfold withOne
            rw [if_pos ⟨h1, by simpa [wid] using h2⟩, if_neg h3]
            simp
          rw [eL] at o4
          have HO : Hid (OwnF sthF 3 103 w4 w.heap.size (.slice (some ⟨g4, 0, none⟩) (L.length + 1 + 1) cp4) (L ++ withOne who at_ n (wh, fr, to) z)) := o4
          clear o3 o4 ne3 ne4 x3 x4 hne ho1 eL b3 b4 hb1 hb3
          go_wp2_with (at_builtin; first | (have hgd := r3; refine wpList_append_hr rfl _ _ 83 rfl _ _ rfl rfl r3 ?_; clear hgd r3) | (have hgd := r4; refine wpList_append_hr rfl _ _ 83 rfl _ _ rfl rfl r4 ?_; clear hgd r4))
          go_roundw
          case rel => exact ⟨j + 1, z + (to - fr), _, by omega, by go_num, rfl, HD, HO.out, hb4⟩
          case measure => simp [RowKit.intOf]; omega
      · obtain ⟨g4, cp4, w4, r4, o4, b4, x4, ne4⟩ := app_box kindH layH ho1 hb1.size hX1 hne (wh, fr, to) #[.int .i64 wh, .int .i64 fr, .int .i64 to] rfl 103 (by omega) (by omega) 83
        have hb4 := hb1.trans b4
        have eL : L ++ [(wh, fr, to)] = L ++ withOne who at_ n (wh, fr, to) z := by
          unfold withOne
          rw [if_neg (fun hh => h1 ⟨hh.1, by simpa [wid] using hh.2⟩)]
        rw [eL] at o4
        have HO : Hid (OwnF sthF 3 103 w4 w.heap.size (.slice (some ⟨g4, 0, none⟩) (L.length + 1) cp4) (L ++ withOne who at_ n (wh, fr, to) z)) := o4
        clear o4 ne4 x4 hne ho1 eL b4 hb1
        by_cases h2 : z ≤ at_
        · have t2 : decide (at_ < z + (to - fr)) = false := decide_eq_false (fun hh => h1 ⟨h2, hh⟩)
          go_wp2_with (at_builtin; refine wpList_append_hr rfl _ _ 83 rfl _ _ rfl rfl r4 ?_)
          go_roundw
          case rel => exact ⟨j + 1, z + (to - fr), _, by omega, by go_num, rfl, HD, HO.out, hb4⟩
          case measure => simp [RowKit.intOf]; omega
        · have t2 : decide (z ≤ at_) = false := decide_eq_false h2
          go_wp2_with (at_builtin; refine wpList_append_hr rfl _ _ 83 rfl _ _ rfl rfl r4 ?_)
          go_roundw
          case rel => exact ⟨j + 1, z + (to - fr), _, by omega, by go_num, rfl, HD, HO.out, hb4⟩
          case measure => simp [RowKit.intOf]; omega
    · obtain rfl : j = m := by omega
      have HR : Hid (withL who at_ n R 0 = L) := by
        have := HZ.out.2
        rwa [show R.take j = R by rw [← hRl]; exact List.take_length] at this
      obtain ⟨ao, co, rfl⟩ := ho.shape
      clear HZ
      go_wp2_with fail
      go_ret
      rw [HR.out]
      exact ⟨_, _, rfl, ho, hb⟩
end Go.Proofs.YtmdnmhdimfglaaaGreatDoor
