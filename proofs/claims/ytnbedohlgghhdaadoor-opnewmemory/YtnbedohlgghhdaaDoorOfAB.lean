import Derived.Test.YtnbedohlgghhdaaDoorXaK
import Derived.Deep.RegionHeld3
import Derived.Deep.DeepCutAuto
/-! Appends whose old slice stands; rows of slices; a book of lists. -/
namespace Go.Proofs.YtnbedohlgghhdaaDoor
open Go.RowKit Go.Lib
set_option maxRecDepth 100000

/-- 'append(v, u...)': what the old slice holds is as it was. -/
theorem appendF_old {α : Type} {f : α → List Value} {k : Nat} {T : TypeId} {P : Program} {S : TypeId} {by_ : Nat} (hK : Kind P S T k by_) (hf : Lay f k) {w : World} {B n cap : Nat} {a : Option Addr} {l : List α} (h : OwnF f k T w B (.slice a n cap) l) (hB : B ≤ w.heap.size)
    {b : Option Addr} {m capb : Nat} {ys : List α} (hy : Rw f k w b m capb ys) (hm : 0 < m) (hs : (n + m) * by_ ≤ 70368744177664) (hs2 : n + m ≤ 4611686018427387903) (ty : TypeId) :
    ∃ g cap' w', (Builtin.append_ #[S, S] ty #[.slice a n cap, .slice b m capb]).run P w = .ok (.slice (some ⟨g, 0, none⟩) (n + m) cap') w' ∧ OwnF f k T w' B (.slice (some ⟨g, 0, none⟩) (n + m) cap') (l ++ ys) ∧ Below B w w' ∧ Keeps w w' (.slice a n cap) ∧ ((Value.slice a n cap).ownBlock = some g ∨ g = w.heap.size) ∧ Rw f k w' a n cap l ∧ ∀ q, (Value.slice a n cap).ownBlock = some q → ∃ cs fr, w'.heap[q]? = some (.cells cs T fr) := by
  have hn := (h.rw_ hf).len
  have hrw := h.rw_ hf
  obtain ⟨g, cap', w', hr, ho, hb, hk, hat⟩ := appendF hK hf h hB hy hm (by rw [hn]; omega) (by rw [hn]; omega) ty
  rw [hn] at hr ho
  refine ⟨g, cap', w', hr, ho, hb, hk, hat, ?_⟩
  rcases h.2 with ⟨e, h0⟩ | ⟨g0, cap0, cur, e, hb0, hh, hnc, hcm, hsz, htk⟩
  · simp only [Value.slice.injEq] at e
    obtain ⟨rfl, rfl, rfl⟩ := e
    have : l = [] := List.eq_nil_of_length_eq_zero h0
    subst this
    exact ⟨rw_nil _, fun q hq => by simp [Value.ownBlock] at hq⟩
  · simp only [Value.slice.injEq] at e
    obtain ⟨rfl, e2, rfl⟩ := e
    obtain ⟨i, z, hi0, hz, hsz0, hby, hzc⟩ := hK.info
    obtain ⟨gb, offb, rfl, hgb, hcb⟩ := hy.row hf hm
    have hkp := hf.pos
    by_cases hroom : n + m ≤ cap
    · have hr2 := run_append_room (P := P) w S ty T i hK.under hi0 g0 n cap cur hh ⟨gb, offb, none⟩ m capb (flatF f ys) (by rw [flatF_length hf, hy.len, hsz0]) hcb (flatF_one hf ys) hroom (by
        rw [flatF_length hf, hy.len, hsz0, hsz, ← Nat.add_mul]
        exact Nat.mul_le_mul_right _ hroom)
      rw [hr2] at hr
      simp only [Result.ok.injEq, Value.slice.injEq, Option.some.injEq, Addr.mk.injEq, and_true] at hr
      obtain ⟨⟨rfl, _, rfl⟩, _⟩ := hr
      have r := (ho.rw_ hf).take n (by omega)
      have e3 : (l ++ ys).take n = l := by rw [← hn, List.take_left]
      rw [e3] at r
      refine ⟨r, fun q hq => ?_⟩
      have e4 : g0 = q := by simpa [Value.ownBlock] using hq
      subst e4
      rcases ho.2 with ⟨e5, _⟩ | ⟨g', cap', cur', e5, _, hh', _⟩
      · simp at e5
      · simp only [Value.slice.injEq, Option.some.injEq, Addr.mk.injEq, and_true] at e5
        obtain ⟨rfl, _⟩ := e5
        exact ⟨cur', _, hh'⟩
    · have hrow : ∀ j u, (flatF f l)[j]? = some u → w.cell? ((⟨g0, 0, none⟩ : Addr).add j) = some u := by
        intro j u hu
        by_cases h0 : n = 0
        · have : (flatF f l).length = 0 := by rw [flatF_length hf, hn, h0]; simp
          rw [List.eq_nil_of_length_eq_zero this] at hu
          simp at hu
        · obtain ⟨g1, o1, e1, hg1, hc1⟩ := hrw.row hf (by omega)
          cases e1
          exact hc1 j u hu
      have hr2 := run_append_grow (P := P) w S ty T i z hK.under hi0 hz ⟨g0, 0, none⟩ n cap (flatF f l) (by rw [flatF_length hf, hn, hsz0]) hrow ⟨gb, offb, none⟩ m capb (flatF f ys) (by rw [flatF_length hf, hy.len, hsz0]) hcb (by omega) (by omega) (by
        have h1 := nextslicecap_le (need := n + m) (old := cap) (by omega)
        have h2 := Nat.mul_le_mul_right i.bytes h1
        rw [hby] at h2 ⊢
        rw [Nat.mul_assoc] at h2
        omega)
      rw [hr2] at hr
      simp only [Result.ok.injEq] at hr
      obtain ⟨_, rfl⟩ := hr
      have hdr : Below w.heap.size w w.drew := ⟨rfl, rfl, rfl, Nat.le_refl _, fun _ _ => rfl⟩
      refine ⟨hrw.below (hdr.alloc hdr.size _), fun q hq => ?_⟩
      have e4 : g0 = q := by simpa [Value.ownBlock] using hq
      subst e4
      exact ⟨cur, _, ((hdr.alloc hdr.size _).block g0 (Array.getElem?_eq_some_iff.1 hh).1).trans hh⟩

/-- A slice of ranges as an element. -/
def slV (x : Option Addr × Nat × Nat) : List Value := [.slice x.1 x.2.1 x.2.2]
theorem laySl : Lay slV 1 := ⟨fun _ => rfl, by decide, fun x u hu => by simp [slV] at hu; subst hu; rfl⟩
theorem kindSl : Kind Tryd.prog 24 36 1 24 := kind_of Tryd.underlying24 (z := .slice none 0 0) (by kernel_rfl) rfl
theorem rw_lit2 {α : Type} {f : α → List Value} {k : Nat} (hf : Lay f k) (w : World) (x y : α) (cs : Array Value) (hcs : f x ++ f y = cs.toList) (t : TypeId) : Rw f k (w.alloc (.cells cs t)) (some ⟨w.heap.size, 0, none⟩) 2 2 [x, y] := by
  refine ⟨rfl, ⟨Nat.le_refl _, by simp [maxLen]⟩, fun _ => ⟨w.heap.size, 0, rfl, by simp, fun j z hj i v hv => ?_⟩⟩
  have hh := heap_alloc_new w (.cells cs t)
  have hlx := hf.len x
  simp only [World.cell?, hh]
  match j, hj with
  | 0, hj =>
    simp at hj; subst hj
    have hi := (List.getElem?_eq_some_iff.1 hv).1
    have : cs.toList[i]? = some v := by rw [← hcs, List.getElem?_append_left hi]; exact hv
    simpa using this
  | 1, hj =>
    simp at hj; subst hj
    have : cs.toList[k + i]? = some v := by rw [← hcs, List.getElem?_append_right (by omega), hlx, Nat.add_sub_cancel_left]; exact hv
    simpa using this
/-- A list of ranges in a block of its own type. -/
def TR (W : World) (x : Option Addr × Nat × Nat) (l : List (Int × Int)) : Prop := Rw rangeV 2 W x.1 x.2.1 x.2.2 l ∧ ∀ g off, x.1 = some ⟨g, off, none⟩ → 0 < x.2.1 → ∃ cs fr, W.heap[g]? = some (.cells cs 60 fr)
theorem Rw.blocks {α : Type} {f : α → List Value} {k : Nat} {W W' : World} {a : Option Addr} {n cap : Nat} {l : List α} (h : Rw f k W a n cap l) (hb : ∀ g off, a = some ⟨g, off, none⟩ → 0 < n → W'.heap[g]? = W.heap[g]?) (hs : W.heap.size ≤ W'.heap.size) : Rw f k W' a n cap l :=
  ⟨h.len, h.room, fun hn => by
    obtain ⟨g, off, ha, hg, hc⟩ := h.cells hn
    have he := hb g off ha hn
    exact ⟨g, off, ha, by omega, fun j x hj i v hv => by rw [← hc j x hj i v hv]; simp only [World.cell?, he]⟩⟩
theorem TR.blocks {W W' : World} {x : Option Addr × Nat × Nat} {l : List (Int × Int)} (h : TR W x l) (hb : ∀ g off, x.1 = some ⟨g, off, none⟩ → 0 < x.2.1 → W'.heap[g]? = W.heap[g]?) (hs : W.heap.size ≤ W'.heap.size) : TR W' x l :=
  ⟨h.1.blocks hb hs, fun g off e h0 => by rw [hb g off e h0]; exact h.2 g off e h0⟩
theorem TR.below {W W' : World} {x : Option Addr × Nat × Nat} {l : List (Int × Int)} (h : TR W x l) (hb : Below W.heap.size W W') : TR W' x l :=
  h.blocks (fun g off e h0 => hb.block g (by
    obtain ⟨g', off', ha, hg, _⟩ := h.1.cells h0
    rw [e] at ha; cases ha; exact hg)) hb.size
theorem TR.lt {W : World} {x : Option Addr × Nat × Nat} {l : List (Int × Int)} (h : TR W x l) {g off : Nat} (e : x.1 = some ⟨g, off, none⟩) (h0 : 0 < x.2.1) : g < W.heap.size := by
  obtain ⟨g', off', ha, hg, _⟩ := h.1.cells h0
  rw [e] at ha; cases ha; exact hg
theorem OwnF.tr {W : World} {B n cap : Nat} {a : Option Addr} {l : List (Int × Int)} (h : OwnF rangeV 2 60 W B (.slice a n cap) l) : TR W (a, n, cap) l :=
  ⟨h.rw_ layG, fun g off e h0 => by
    simp only at e h0
    subst e
    rcases h.2 with ⟨e, h1⟩ | ⟨g', cap', cur, e, _, hh, _⟩
    · simp at e
    · simp only [Value.slice.injEq, Option.some.injEq, Addr.mk.injEq, and_true] at e
      obtain ⟨⟨rfl, rfl⟩, _⟩ := e
      exact ⟨cur, _, hh⟩⟩
end Go.Proofs.YtnbedohlgghhdaaDoor

/-! A book of lists in memory. -/
namespace Go.Proofs.YtnbedohlgghhdaaDoor
open Go.RowKit Go.Lib
set_option maxRecDepth 100000

/-- wpAnyH_take, the slot written out. -/
theorem takeD {P : Program} {md : Region.Mode} {ops : Array Oper} {Q : Exit → Act → World → Prop} {S : World → Prop} {i : Nat} {oi : Oper} {d : Option Nat} {v : Value} {fuel : Nat} {listed : Array Bool} {a : Act} {w : World} (hi : ops[i]? = some oi) (hd : oi.dst = d)
    (hs : Region.noSelect ops = true) (hf : Region.free md ops listed i = true) (hr : (Region.ready md ops listed).contains i = true)
    (hQ : ∀ c a w, Q (.panic c) (a.put oi.dst v) w → Q (.panic c) a w) (hy : YieldsIf P ops S oi v a) (hS : S w)
    (h : wpAnyH P md ops Q S fuel (listed.setIfInBounds i true) (a.put d v) w) : wpAnyH P md ops Q S (fuel + 1) listed a w := by
  subst hd
  exact wpAnyH_take hi hs hf hr hQ hy hS h
theorem takeA {P : Program} {md : Region.Mode} {ops : Array Oper} {Q : Exit → Act → World → Prop} {i : Nat} {oi : Oper} {d : Option Nat} {v : Value} {fuel : Nat} {listed : Array Bool} {a : Act} {w : World} (hi : ops[i]? = some oi) (hd : oi.dst = d)
    (hs : Region.noSelect ops = true) (hf : Region.free md ops listed i = true) (hr : (Region.ready md ops listed).contains i = true)
    (hQ : ∀ c a w, Q (.panic c) (a.put oi.dst v) w → Q (.panic c) a w) (hy : Yields P ops oi v a)
    (h : wpAny P md ops Q fuel (listed.setIfInBounds i true) (a.put d v) w) : wpAny P md ops Q (fuel + 1) listed a w := by
  subst hd
  exact wpAny_take hi hs hf hr hQ hy h
theorem consS {P : Program} {md : Region.Mode} {ops : Array Oper} {Q : Exit → Act → World → Prop} {fuel : Nat} {listed : Array Bool} {a : Act} {w : World} {i : Nat} {o : Oper} {rs : List Nat} (ho : ops[i]? = some o)
    (h : ∀ K' : Act → World → Prop, Shut (∀ a w, wpAny P md ops Q fuel (listed.setIfInBounds i true) a w → K' a w) → if Region.wanted o (yielded ops a.tmps) = true then Oper.wp P o a w K' Q else K' (a.put o.dst undef) w)
    (hs : AllReady P md ops Q fuel listed a w rs) : AllReady P md ops Q fuel listed a w (i :: rs) := AllReady.cons ho h hs
theorem wp_append_hr {P : Program} {w : World} {o : Oper} {a : Act} {K : Act → World → Prop} {Q : Exit → Act → World → Prop} (s x : Operand) (t : TypeId) (d : Option Nat) (hd : o.dst = d)
    (ho : o.op = .call { callee := .builtin .append, args := #[s, x], argTypes := #[t, t] }) (v u : Value) (hs : a.eval s = v) (hx : a.eval x = u) {v' : Value} {w' : World}
    (hr : (Builtin.append_ #[t, t] o.type #[v, u]).run P w = .ok v' w') (h : K (a.put d v') w') : Oper.wp P o a w K Q := by
  subst hd
  unfold Oper.wp execOp
  simp only [ho, resolve, invoke, builtin, Sem.run_bind, Sem.run_pure, Result.andThen_ok, List.map_toArray, List.map_cons, List.map_nil, hs, hx, hr]
  exact h
/-- All stands but the blocks of D, and what is new. -/
def Chg (D : Nat → Prop) (w w' : World) : Prop := Below 0 w w' ∧ ∀ g, g < w.heap.size → ¬ D g → w'.heap[g]? = w.heap[g]?
theorem Chg.refl (D : Nat → Prop) (w : World) : Chg D w w := ⟨Below.refl _ _, fun _ _ _ => rfl⟩
theorem Chg.size {D : Nat → Prop} {a b : World} (h : Chg D a b) : a.heap.size ≤ b.heap.size := h.1.size
theorem Chg.trans {D : Nat → Prop} {a b c : World} (h : Chg D a b) (k : Chg D b c) : Chg D a c := ⟨h.1.trans k.1, fun g hg hq => (k.2 g (Nat.lt_of_lt_of_le hg h.1.size) hq).trans (h.2 g hg hq)⟩
theorem Chg.of_below {D : Nat → Prop} {a b : World} (h : Below a.heap.size a b) : Chg D a b := ⟨h.mono (Nat.zero_le _), fun g hg _ => h.block g hg⟩
theorem Chg.mono {D E : Nat → Prop} {a b : World} (h : Chg D a b) (hD : ∀ g, g < a.heap.size → D g → E g) : Chg E a b := ⟨h.1, fun g hg hE => h.2 g hg (fun hd => hE (hD g hg hd))⟩
theorem Chg.block {D : Nat → Prop} {a b : World} (h : Chg D a b) {g : Nat} {o : Obj} (hg : a.heap[g]? = some o) (hq : ¬ D g) : b.heap[g]? = some o := (h.2 g (Array.getElem?_eq_some_iff.1 hg).1 hq).trans hg
theorem Chg.set {D : Nat → Prop} {q : Nat} (i : Nat) (w : World) (u : Value) (hq : D q) : Chg D w (w.setCell ⟨q, i, none⟩ u) := ⟨(Below.refl _ _).setCell (Nat.zero_le _) _, fun g _ hk => Below.heap_setCell _ _ _ _ (by simp only; intro e; exact hk (e ▸ hq))⟩
theorem Chg.alloc (D : Nat → Prop) (w : World) (o : Obj) : Chg D w (w.alloc o) := Chg.of_below ((Below.refl _ _).alloc (Nat.le_refl _) _)
/-- What lies below B stands, where D lies at or beyond it. -/
theorem Chg.below {D : Nat → Prop} {B : Nat} {a b : World} (h : Chg D a b) (hB : ∀ g, D g → B ≤ g) (hs : B ≤ a.heap.size) : Below B a b := ⟨h.1.os, h.1.tape, h.1.output, h.1.size, fun g hg => h.2 g (by omega) (fun hd => by have := hB g hd; omega)⟩
theorem Chg.own {D : Nat → Prop} {a b : World} (h : Chg D a b) {α : Type} {f : α → List Value} {k : Nat} {T : TypeId} {B : Nat} {v : Value} {l : List α} (ho : OwnF f k T a B v l) (hq : ∀ g, v.ownBlock = some g → ¬ D g) : OwnF f k T b B v l := by
  refine ⟨ho.1, ?_⟩
  rcases ho.2 with h0 | ⟨g, cap, cur, e, h1, hh, rest⟩
  · exact .inl h0
  · exact .inr ⟨g, cap, cur, e, h1, h.block hh (hq g (by rw [e]; rfl)), rest⟩
theorem keeps_chg {w w' : World} {v : Value} (h : Keeps w w' v) (hb : Below 0 w w') {D : Nat → Prop} (hD : ∀ g, v.ownBlock = some g → D g) : Chg D w w' := ⟨hb, fun g hg hd => h g hg (fun e => hd (hD g e))⟩

theorem Chg.cell {D : Nat → Prop} {a b : World} (h : Chg D a b) {p : Addr} (hp : p.block < a.heap.size) (hq : ¬ D p.block) : b.cell? p = a.cell? p := by
  obtain ⟨g, o, s⟩ := p
  have := h.2 g hp hq
  unfold World.cell?
  rw [this]
theorem But.chg {b : Nat} {w w' : World} (h : But b w w') (hB : Below 0 w w') : Chg (fun g => g = b) w w' := ⟨hB, fun g _ hg => h.2 g hg⟩
theorem TR.chg {D : Nat → Prop} {W W' : World} {x : Option Addr × Nat × Nat} {l : List (Int × Int)} (h : TR W x l) (hC : Chg D W W') (hd : ∀ g off, x.1 = some ⟨g, off, none⟩ → 0 < x.2.1 → ¬ D g) : TR W' x l :=
  h.blocks (fun g off e h0 => hC.2 g (h.lt e h0) (hd g off e h0)) hC.size
/-- A book of lists: got and want side by side, each pair reads as one list. -/
structure Book (W : World) (bb : Nat) (vg vw : Value) (mk : Int) (G : List (((Option Addr × Nat × Nat) × (Option Addr × Nat × Nat)) × List (Int × Int))) : Prop where
  box : W.heap[bb]? = some (.cells #[vg, vw, .int .i64 mk] 26)
  got : OwnF slV 1 36 W 0 vg (G.map fun x => x.1.1)
  want : OwnF slV 1 36 W 0 vw (G.map fun x => x.1.2)
  apart : ∀ g, vg.ownBlock = some g → vw.ownBlock ≠ some g
  rd : ∀ x ∈ G, TR W x.1.1 x.2 ∧ TR W x.1.2 x.2
theorem OwnF.blockType {α : Type} {f : α → List Value} {k : Nat} {T : TypeId} {W : World} {B : Nat} {v : Value} {l : List α} (h : OwnF f k T W B v l) {g : Nat} (hg : v.ownBlock = some g) : ∃ cs fr, W.heap[g]? = some (.cells cs T fr) := by
  rcases h.2 with ⟨rfl, _⟩ | ⟨g', cap', cur, rfl, _, hh, _⟩
  · simp [Value.ownBlock] at hg
  · have e : g' = g := by simpa [Value.ownBlock] using hg
    subst e
    exact ⟨cur, _, hh⟩
/-- What others change leaves the book. -/
theorem Book.chg {D : Nat → Prop} {W W' : World} {bb : Nat} {vg vw : Value} {mk : Int} {G : List (((Option Addr × Nat × Nat) × (Option Addr × Nat × Nat)) × List (Int × Int))} (h : Book W bb vg vw mk G) (hC : Chg D W W') (hb : ¬ D bb) (hg : ∀ g, vg.ownBlock = some g → ¬ D g) (hw : ∀ g, vw.ownBlock = some g → ¬ D g)
    (hr : ∀ x ∈ G, (∀ g off, x.1.1.1 = some ⟨g, off, none⟩ → 0 < x.1.1.2.1 → ¬ D g) ∧ (∀ g off, x.1.2.1 = some ⟨g, off, none⟩ → 0 < x.1.2.2.1 → ¬ D g)) : Book W' bb vg vw mk G :=
  ⟨hC.block h.box hb, hC.own h.got hg, hC.own h.want hw, h.apart, fun x hx => ⟨(h.rd x hx).1.chg hC (hr x hx).1, (h.rd x hx).2.chg hC (hr x hx).2⟩⟩
theorem Book.below {W W' : World} {bb : Nat} {vg vw : Value} {mk : Int} {G : List (((Option Addr × Nat × Nat) × (Option Addr × Nat × Nat)) × List (Int × Int))} (h : Book W bb vg vw mk G) (hb : Below W.heap.size W W') : Book W' bb vg vw mk G :=
  h.chg (D := fun _ => False) (Chg.of_below hb) id (fun _ _ => id) (fun _ _ => id) (fun _ _ => ⟨fun _ _ _ _ => id, fun _ _ _ _ => id⟩)
def mkL (m : Int) (i : Nat) : List (Int × Int) := (List.range i).map fun (j : Nat) => (-m, (j : Int))
theorem mkL_length (m : Int) (i : Nat) : (mkL m i).length = i := by simp [mkL]
theorem mkL_succ (m : Int) (i : Nat) : mkL m (i + 1) = mkL m i ++ [(-m, (i : Int))] := by simp [mkL, List.range_succ]
def mixM (m : Int) (i : Nat) (l : List (Int × Int)) : List (Int × Int) := mkL m i ++ l.drop i
theorem mixM_set (m : Int) (i : Nat) (l : List (Int × Int)) (h : i < l.length) : (mixM m i l).set i (-m, (i : Int)) = mixM m (i + 1) l := by
  unfold mixM
  rw [List.set_append, mkL_length, if_neg (by omega), Nat.sub_self, List.drop_eq_getElem_cons h, List.set_cons_zero, mkL_succ]
  simp
theorem flatR_set2 : ∀ (l : List (Int × Int)) (j : Nat) (x y : Int), ((flatF rangeV l).set (j * 2) (.int .i64 x)).set (j * 2 + 1) (.int .i64 y) = flatF rangeV (l.set j (x, y))
  | [], j, x, y => by simp [flatF]
  | r :: t, 0, x, y => by simp [flatF, rangeV]
  | r :: t, j + 1, x, y => by
    have ih := flatR_set2 t j x y
    simp only [flatF, List.flatMap_cons, List.set_cons_succ] at ih ⊢
    rw [← ih, show (j + 1) * 2 = (rangeV r).length + j * 2 by simp [rangeV]; omega, List.set_append_right _ _ (by omega), show (rangeV r).length + j * 2 + 1 = (rangeV r).length + (j * 2 + 1) by omega, List.set_append_right _ _ (by omega), Nat.add_sub_cancel_left, Nat.add_sub_cancel_left]
theorem ownR_set2 {W : World} {B g n cap : Nat} {l : List (Int × Int)} (h : OwnF rangeV 2 60 W B (.slice (some ⟨g, 0, none⟩) n cap) l) (j : Nat) (x y : Int) :
    OwnF rangeV 2 60 ((W.setCell ⟨g, j * 2, none⟩ (.int .i64 x)).setCell ⟨g, j * 2 + 1, none⟩ (.int .i64 y)) B (.slice (some ⟨g, 0, none⟩) n cap) (l.set j (x, y)) := by
  have hl : l.length = n := (h.rw_ layG).len
  have h2 := h
  unfold OwnF at h2 ⊢
  rw [List.length_set, ← flatR_set2 l j x y]
  rw [hl] at h2 ⊢
  exact (World.ownsRow.stored (World.ownsRow.stored h2 (j * 2) (.int .i64 x)).1 (j * 2 + 1) (.int .i64 y)).1
theorem ownR_ptr {W : World} {B n cap : Nat} {a : Option Addr} {l : List (Int × Int)} (h : OwnF rangeV 2 60 W B (.slice a n cap) l) (h0 : 0 < n) :
    ∃ g, a = some ⟨g, 0, none⟩ ∧ B ≤ g ∧ g < W.heap.size ∧ (∀ j, W.frozen? ⟨g, j, none⟩ = false) ∧ ∀ j x, l[j]? = some x → W.cell? ⟨g, j * 2, none⟩ = some (.int .i64 x.1) ∧ W.cell? ⟨g, j * 2 + 1, none⟩ = some (.int .i64 x.2) := by
  have hrw := h.rw_ layG
  have hl := hrw.len
  rcases h.2 with ⟨e, h1⟩ | ⟨g, cap', cur, e, hB, hh, _⟩
  · omega
  · simp only [Value.slice.injEq] at e
    obtain ⟨rfl, _, rfl⟩ := e
    refine ⟨g, rfl, hB, (Array.getElem?_eq_some_iff.1 hh).1, fun j => Lib.frozen_of_heap hh _, fun j x hx => ?_⟩
    obtain ⟨g', off, ha, hg, hc⟩ := hrw.cells h0
    cases ha
    have h2 := hc j x hx 0 (.int .i64 x.1) rfl
    have h3 := hc j x hx 1 (.int .i64 x.2) rfl
    simp only [Nat.zero_add, Nat.add_zero] at h2 h3
    exact ⟨h2, h3⟩
theorem box3 {W : World} {b : Nat} {T : TypeId} {v0 v1 v2 : Value} (h : W.heap[b]? = some (.cells #[v0, v1, v2] T)) : W.cell? ⟨b, 0, none⟩ = some v0 ∧ W.cell? ⟨b, 1, none⟩ = some v1 ∧ W.cell? ⟨b, 2, none⟩ = some v2 := by
  simp only [Lib.cell_of_heap h]
  exact ⟨rfl, rfl, rfl⟩
theorem setBoxG {W : World} {b : Nat} {T : TypeId} {us : Array Value} (h : W.heap[b]? = some (.cells us T)) (i : Nat) (v : Value) (cs : Array Value) (hc : us.setIfInBounds i v = cs) :
    ∃ W9, W.setCell ⟨b, i, none⟩ v = W9 ∧ W9.heap[b]? = some (.cells cs T) ∧ Chg (fun g => g = b) W W9 := by
  have h0 := heap_setCell_same _ b i _ _ v h
  rw [hc] at h0
  exact ⟨_, rfl, h0, Chg.set (D := fun g => g = b) (q := b) i W v rfl⟩
end Go.Proofs.YtnbedohlgghhdaaDoor
