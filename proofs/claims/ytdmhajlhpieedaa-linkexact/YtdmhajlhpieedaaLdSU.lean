import Derived.Test.YtdmhajlhpieedaaLdR
/-! Laws for drawn regions that end with a store: what is read ahead of it may be taken first; appends of several. -/
namespace Go.Proofs.Ytdmhajlhpieedaa
open Go.RowKit Go.Lib Go.Shelf
set_option maxRecDepth 100000

section
variable {P : Program} {ops : Array Oper} {Q : Exit → Act → World → Prop} {md : Region.Mode} {S : World → Prop} {E : List Nat}
/-- Whatever order is picked from here on; S holds behind every operation that is none of E. -/
def wpE (P : Program) (md : Region.Mode) (ops : Array Oper) (Q : Exit → Act → World → Prop) (S : World → Prop) (E : List Nat) : Nat → Array Bool → Act → World → Prop
  | 0, listed, a, w => Region.ready md ops listed = [] ∧ Q .normal a w
  | fuel + 1, listed, a, w =>
    (Region.ready md ops listed = [] → Q .normal a w) ∧
    ∀ i ∈ Region.ready md ops listed, wpOp P ops Q i (fun a' w' => (E.contains i = false → S w') ∧ wpE P md ops Q S E fuel (listed.setIfInBounds i true) a' w') a w
theorem wpAny_of_wpE : ∀ (fuel : Nat) (listed : Array Bool) (a : Act) (w : World), wpE P md ops Q S E fuel listed a w → wpAny P md ops Q fuel listed a w
  | 0, _, _, _, h => h
  | fuel + 1, _, _, _, h => ⟨h.1, fun i hi => wpOp_mono (fun a' w' h' => wpAny_of_wpE fuel _ a' w' h'.2) (h.2 i hi)⟩
/-- Each of E waits for the operation i. -/
def waits (md : Region.Mode) (ops : Array Oper) (E : List Nat) (i : Nat) : Bool := E.all (fun j => match ops[j]? with | some oj => oj.after.any (fun e => Region.binds md e && e.on == i) | none => true)
theorem waits_spec {i j : Nat} {oj : Oper} (h : waits md ops E i = true) (hj : ops[j]? = some oj) (hno : ∀ e ∈ oj.after, Region.binds md e = true → e.on ≠ i) : E.contains j = false := by
  rcases hc : E.contains j with _ | _
  · rfl
  · have h1 := List.all_eq_true.1 h j (by simpa using hc)
    simp only [hj] at h1
    obtain ⟨e, he, h2⟩ := Array.any_eq_true'.1 h1
    simp only [Bool.and_eq_true, beq_iff_eq] at h2
    exact absurd h2.2 (hno e he h2.1)
theorem wpE_first {i : Nat} {oi : Oper} {v : Value} (hi : ops[i]? = some oi) (hsel : ∀ (j : Nat) (o : Oper) cs b, ops[j]? = some o → o.op ≠ .select cs b)
    (hQ : ∀ c a w, Q (.panic c) (a.put oi.dst v) w → Q (.panic c) a w) (hE : waits md ops E i = true) :
    ∀ (fuel : Nat) (listed : Array Bool) (a : Act) (w : World),
      (∀ j oj, ops[j]? = some oj → j ≠ i → listed.getD j true = false → (∀ e ∈ oj.after, Region.binds md e = true → e.on ≠ i) → oi.apart ops oj = true) →
      i ∈ Region.ready md ops listed → YieldsIf P ops S oi v a → S w →
      wpE P md ops Q S E fuel (listed.setIfInBounds i true) (a.put oi.dst v) w → wpE P md ops Q S E (fuel + 1) listed a w := by
  intro fuel
  induction fuel with
  | zero =>
    intro listed a w _ hr hy hS H
    refine ⟨fun h => (by rw [h] at hr; cases hr), fun j hj => ?_⟩
    by_cases hji : j = i
    · subst hji; exact hy.wpOp hi hS ⟨fun _ => hS, H⟩
    · have := ready_mono hj hji
      rw [H.1] at this
      cases this
  | succ fuel ih =>
    intro listed a w hfree hr hy hS H
    refine ⟨fun h => (by rw [h] at hr; cases hr), fun j hj => ?_⟩
    by_cases hji : j = i
    · subst hji; exact hy.wpOp hi hS ⟨fun _ => hS, H⟩
    · have h1 := H.2 j (ready_mono hj hji)
      obtain ⟨hjun, oj, hoj, hall⟩ := mem_ready.1 hj
      have hnot : ∀ e ∈ oj.after, Region.binds md e = true → e.on ≠ i := fun e he hb heq => by
        have h1 := hall e he hb
        have h0 := (mem_ready.1 hr).1
        rw [heq] at h1
        rcases Nat.lt_or_ge i listed.size with h' | h'
        · simp [h'] at h0 h1; rw [h0] at h1; cases h1
        · simp [Array.getElem?_eq_none h'] at h1
      have hEj := waits_spec hE hoj hnot
      have h2 := wpOp_putIf hoj (hfree j oj hoj hji hjun hnot) (fun cs b => hsel i oi cs b hi) (fun cs b => hsel j oj cs b hoj) hQ hy h1
      have hfree' : ∀ k ok, ops[k]? = some ok → k ≠ i → (listed.setIfInBounds j true).getD k true = false →
          (∀ e ∈ ok.after, Region.binds md e = true → e.on ≠ i) → oi.apart ops ok = true := fun k ok hk hki hun hno => by
        refine hfree k ok hk hki ?_ hno
        by_cases hjk : j = k
        · subst hjk; exact hjun
        · rw [getD_set_ne true hjk] at hun; exact hun
      refine wpOp_mono (fun a' w' h3 => ⟨fun _ => h3.2.1 hEj, ih (listed.setIfInBounds j true) a' w' hfree' (ready_mono hr (Ne.symm hji)) h3.1 (h3.2.1 hEj) ?_⟩) h2
      rw [Array.setIfInBounds_comm _ _ hji]
      exact h3.2.2
theorem takeE {i : Nat} {oi : Oper} {d : Option Nat} {v : Value} {fuel : Nat} {listed : Array Bool} {a : Act} {w : World} (hi : ops[i]? = some oi) (hd : oi.dst = d)
    (hs : Region.noSelect ops = true) (hf : Region.free md ops listed i = true) (hr : (Region.ready md ops listed).contains i = true) (hE : waits md ops E i = true)
    (hQ : ∀ c a w, Q (.panic c) (a.put oi.dst v) w → Q (.panic c) a w) (hy : YieldsIf P ops S oi v a) (hS : S w)
    (h : wpE P md ops Q S E fuel (listed.setIfInBounds i true) (a.put d v) w) : wpE P md ops Q S E (fuel + 1) listed a w := by
  subst hd
  exact wpE_first hi (Region.noSelect_spec hs) hQ hE fuel listed a w (Region.free_spec hi hf) (by simpa using hr) hy hS h
/-- The only one that may come up. -/
theorem oneE {i : Nat} {o : Oper} {fuel : Nat} {listed : Array Bool} {a : Act} {w : World} (hr : Region.ready md ops listed = [i]) (ho : ops[i]? = some o)
    (h : ∀ K' : Act → World → Prop, Shut (∀ a w, (E.contains i = false → S w) → wpE P md ops Q S E fuel (listed.setIfInBounds i true) a w → K' a w) → if Region.wanted o (yielded ops a.tmps) = true then Oper.wp P o a w K' Q else K' (a.put o.dst undef) w) : wpE P md ops Q S E (fuel + 1) listed a w :=
  by
  refine ⟨fun h0 => ?_, fun j hj => ?_⟩
  · rw [hr] at h0; cases h0
  · rw [hr] at hj
    simp only [List.mem_singleton] at hj
    subst hj
    exact wpOp_step ho (fun K' hK => h K' (fun a w hS hW => hK a w ⟨hS, hW⟩))
theorem doneE {listed : Array Bool} {a : Act} {w : World} (hr : Region.ready md ops listed = []) (h : Q .normal a w) :
    ∀ fuel, wpE P md ops Q S E fuel listed a w
  | 0 => ⟨hr, h⟩
  | _ + 1 => ⟨fun _ => h, by rw [hr]; simp⟩
theorem wp_region_E {id : Nat} {a : Act} {w : World} (hm : P.follows .mixedOrders = true) (h : wpE P .any ops Q S E ops.size (Array.replicate ops.size false) a w.drew) : (Code.region id ops true).wp P Q a w :=
  wp_region_any hm (wpAny_of_wpE _ _ _ _ h)
end
section
variable {α : Type} {f : α → List Value} {k : Nat} {T : TypeId}
/-- A piece of a block. -/
def Sg (f : α → List Value) (k : Nat) (T : TypeId) (W : World) (g : Nat) (pre : List Value) (l : List α) (post : List Value) (cap : Nat) : Prop := W.heap[g]? = some (.cells (pre ++ flatF f l ++ post).toArray T) ∧ l.length ≤ cap ∧ (cap - l.length) * k ≤ post.length ∧ cap ≤ maxLen
theorem Sg.rw_ (hf : Lay f k) {W : World} {g : Nat} {pre post : List Value} {l : List α} {cap : Nat} (h : Sg f k T W g pre l post cap) : Rw f k W (some ⟨g, pre.length, none⟩) l.length cap l := by
  obtain ⟨hh, h1, h2, h3⟩ := h
  refine ⟨rfl, ⟨h1, h3⟩, fun h0 => ⟨g, pre.length, rfl, (Array.getElem?_eq_some_iff.1 hh).1, fun j x hj i v hv => ?_⟩⟩
  have hi : i < k := by
    have := hf.len x
    rcases Nat.lt_or_ge i (f x).length with h' | h'
    · omega
    · rw [List.getElem?_eq_none h'] at hv; cases hv
  have hjl : j < l.length := by
    rcases Nat.lt_or_ge j l.length with h' | h'
    · exact h'
    · rw [List.getElem?_eq_none h'] at hj; cases hj
  have hlt : j * k + i < (flatF f l).length := by
    rw [flatF_length hf]
    have : (j + 1) * k ≤ l.length * k := Nat.mul_le_mul_right k hjl
    rw [Nat.add_mul] at this; omega
  simp only [World.cell?, hh]
  rw [Nat.add_assoc, List.getElem?_toArray, mid_get _ _ _ _ hlt, flatF_get hf l j x hj i hi, hv]
  rfl
/-- 'append' of several onto a piece. -/
theorem sg_append {P : Program} {S : TypeId} {by_ : Nat} (hK : Kind P S T k by_) (hf : Lay f k) {W : World} {g : Nat} {pre post : List Value} {l : List α} {cap : Nat} (h : Sg f k T W g pre l post cap) (ys : List α) (cs : Array Value) (hcs : flatF f ys = cs.toList) (m : Nat) (hm : ys.length = m) (h0 : 0 < m) (hs : (l.length + m) * by_ ≤ 140737488355328) (hs2 : l.length + m ≤ 9223372036854775807) (ty : TypeId) :
    (l.length + m ≤ cap ∧ ∃ W', (Builtin.append_ #[S, S] ty #[.slice (some ⟨g, pre.length, none⟩) l.length cap, .slice (some ⟨W.heap.size, 0, none⟩) m m]).run P (W.alloc (.cells cs T)) = .ok (.slice (some ⟨g, pre.length, none⟩) (l.length + m) cap) W' ∧ Sg f k T W' g pre (l ++ ys) (post.drop (m * k)) cap ∧ m * k ≤ post.length ∧ Chg (fun x => x = g) W W') ∨
    (cap < l.length + m ∧ ∃ W' cap', (Builtin.append_ #[S, S] ty #[.slice (some ⟨g, pre.length, none⟩) l.length cap, .slice (some ⟨W.heap.size, 0, none⟩) m m]).run P (W.alloc (.cells cs T)) = .ok (.slice (some ⟨W.heap.size + 1, 0, none⟩) (l.length + m) cap') W' ∧ (∃ post', Sg f k T W' (W.heap.size + 1) [] (l ++ ys) post' cap' ∧ post'.length = (cap' - (l.length + m)) * k) ∧ Below W.heap.size W W') := by
  obtain ⟨hh, h1, h2, h3⟩ := h
  obtain ⟨i, z, hi, hz, hsz, hby, hzc⟩ := hK.info
  obtain ⟨W1, hW1⟩ : ∃ W1, W.alloc (.cells cs T) = W1 := ⟨_, rfl⟩
  have hb1 : Below W.heap.size W W1 := by rw [← hW1]; exact (Below.refl _ _).alloc (Nat.le_refl _) _
  have hs1 : W1.heap.size = W.heap.size + 1 := by rw [← hW1]; exact World.size_alloc ..
  have hg : g < W.heap.size := (Array.getElem?_eq_some_iff.1 hh).1
  have hh1 : W1.heap[g]? = some (.cells (pre ++ flatF f l ++ post).toArray T) := (hb1.block g hg).trans hh
  have hlx : (flatF f ys).length = m * k := by rw [flatF_length hf, hm]
  obtain ⟨ga, off, ea, _, hc⟩ := ((offF_lit (f := f) (k := k) (T := T) W ys cs hcs m hm (by simp only [maxLen]; omega)).rw_ hf).row hf h0
  simp only [Option.some.injEq, Addr.mk.injEq, and_true] at ea
  obtain ⟨rfl, rfl⟩ := ea
  rw [hW1] at hc ⊢
  by_cases hroom : l.length + m ≤ cap
  · have hpk : (flatF f ys).length ≤ post.length := by
      rw [hlx]
      have : m * k ≤ (cap - l.length) * k := Nat.mul_le_mul_right k (by omega)
      omega
    have hr := run_append_off hK hf (cap := cap) (ys := ys) hh1 rfl ⟨W.heap.size, 0, none⟩ m m hm hc hroom hpk ty
    refine .inl ⟨hroom, _, hr, ⟨?_, by rw [List.length_append, hm]; exact hroom, ?_, h3⟩, by rw [← hlx]; exact hpk, (Chg.of_below hb1).trans (Chg.setRow (q := g) _ _ rfl)⟩
    · rw [← hlx]; exact setRow_heap _ _ _ _ _ _ hh1
    · rw [List.length_append, hm, List.length_drop, ← Nat.sub_sub, Nat.sub_mul (cap - l.length) m k]
      omega
  · have hlen : (flatF f l).length = l.length * i.size := by rw [flatF_length hf, hsz]
    have hr := run_append_grow (P := P) W1 S ty T i z hK.under hi hz ⟨g, pre.length, none⟩ l.length cap (flatF f l) hlen (fun j u hu => by
      rw [addr_add']
      have hj : j < (flatF f l).length := by
        rcases Nat.lt_or_ge j (flatF f l).length with h' | h'
        · exact h'
        · rw [List.getElem?_eq_none h'] at hu; cases hu
      simp only [World.cell?, hh1]
      rw [List.getElem?_toArray, mid_get _ _ _ _ hj, hu]
      rfl) ⟨W.heap.size, 0, none⟩ m m (flatF f ys) (by rw [hlx, hsz]) hc (by omega) (by omega) (growslice_fits (by omega) (by rw [hby]; exact hs))
    have hge := grownCap_ge W1 (l.length + m) cap T
    have hle := grownCap_le_maxLen W1 (l.length + m) cap T (by simp only [maxLen]; omega)
    rw [hs1] at hr
    refine .inr ⟨by omega, _, _, hr, ⟨(Builtin.zeroCells z.cells (grownCap W1 (l.length + m) cap T - (l.length + m))).toList, ⟨?_, by rw [List.length_append, hm]; exact hge, ?_, hle⟩, ?_⟩, ?_⟩
    · have hnw := heap_alloc_new W1.drew (.cells ((flatF f l).toArray ++ (flatF f ys).toArray ++ Builtin.zeroCells z.cells (grownCap W1 (l.length + m) cap T - (l.length + m))) T)
      have e1 : W1.drew.heap.size = W.heap.size + 1 := hs1
      rw [e1] at hnw
      refine hnw.trans ?_
      congr 2
      apply Array.ext'
      simp [flatF_append]
    · have := size_zeroCells z.cells (grownCap W1 (l.length + m) cap T - (l.length + m))
      rw [hzc] at this
      rw [List.length_append, hm]
      exact Nat.le_of_eq ((Array.length_toList (xs := Builtin.zeroCells z.cells (grownCap W1 (l.length + m) cap T - (l.length + m)))).trans this).symm
    · have := size_zeroCells z.cells (grownCap W1 (l.length + m) cap T - (l.length + m))
      rw [hzc] at this
      exact (Array.length_toList (xs := Builtin.zeroCells z.cells (grownCap W1 (l.length + m) cap T - (l.length + m)))).trans this
    · have hd : Below W.heap.size W W1.drew := hb1.drew
      exact hd.alloc (by have : W1.drew.heap.size = W1.heap.size := rfl; omega) _
/-- 'append' of several onto a row of one's own. -/
theorem offF_appends {P : Program} {S : TypeId} {by_ : Nat} (hK : Kind P S T k by_) (hf : Lay f k) {W : World} {v : Value} {l : List α} (h : OffF f k T W v l) (ys : List α) (cs : Array Value) (hcs : flatF f ys = cs.toList) (m : Nat) (hm : ys.length = m) (h0 : 0 < m) (hs : (l.length + m) * by_ ≤ 140737488355328) (hs2 : l.length + m ≤ 9223372036854775807) (ty : TypeId) :
    ∃ v' W', (Builtin.append_ #[S, S] ty #[v, .slice (some ⟨W.heap.size, 0, none⟩) m m]).run P (W.alloc (.cells cs T)) = .ok v' W' ∧ OffF f k T W' v' (l ++ ys) ∧ Chg (fun g => v.ownBlock = some g) W W' ∧ (∀ g, v'.ownBlock = some g → v.ownBlock = some g ∨ W.heap.size ≤ g) := by
  rcases h with ⟨rfl, rfl⟩ | ⟨g, pre, post, cap, rfl, hh, hp, h1, h2⟩
  · obtain ⟨W1, hW1⟩ : ∃ W1, W.alloc (.cells cs T) = W1 := ⟨_, rfl⟩
    have hb1 : Below W.heap.size W W1 := by rw [← hW1]; exact (Below.refl _ _).alloc (Nat.le_refl _) _
    have hs1 : W1.heap.size = W.heap.size + 1 := by rw [← hW1]; exact World.size_alloc ..
    have hR := (offF_lit (f := f) (k := k) (T := T) W ys cs hcs m hm (by simp only [maxLen]; simp at hs2; omega)).rw_ hf
    rw [hW1] at hR ⊢
    obtain ⟨g, cap', w', hr, ho, hb, hk, hat⟩ := appendF (P := P) hK hf (ownF_nil (f := f) (k := k) (T := T) W1 W.heap.size) (by omega) hR h0 (by simpa using hs) (by simpa using hs2) ty
    simp only [List.nil_append, List.length_nil, Nat.zero_add] at hr ho ⊢
    exact ⟨_, w', hr, ho.offF, Chg.of_below (hb1.trans hb), fun g' hg' => .inr (ho.ge hg')⟩
  · rcases sg_append hK hf (W := W) (g := g) (pre := pre) (post := post) (l := l) (cap := cap) ⟨hh, h1, by omega, h2⟩ ys cs hcs m hm h0 hs hs2 ty with ⟨hr, W', e1, e2, e3, e4⟩ | ⟨hr, W', cap', e1, ⟨post', e2, e3⟩, e4⟩
    · refine ⟨_, W', e1, .inr ⟨g, pre, post.drop (m * k), cap, by rw [List.length_append, hm], e2.1, ?_, by rw [List.length_append, hm]; exact hr, h2⟩, e4.mono (fun x _ e => by simp [Value.ownBlock, e]), fun g' hg' => .inl hg'⟩
      rw [List.length_drop, hp, List.length_append, hm, ← Nat.sub_sub, Nat.sub_mul (cap - l.length) m k]
    · refine ⟨_, W', e1, .inr ⟨W.heap.size + 1, [], post', cap', by rw [List.length_append, hm]; rfl, e2.1, by rw [e3, List.length_append, hm], e2.2.1, e2.2.2.2⟩, Chg.of_below e4, fun g' hg' => .inr ?_⟩
      simp [Value.ownBlock] at hg'
      omega
end
end Go.Proofs.Ytdmhajlhpieedaa

/-! The book's take: what it does to memory. -/
namespace Go.Proofs.Ytdmhajlhpieedaa
open Go.RowKit Go.Lib Go.Shelf
set_option maxRecDepth 100000

/-- A block of bytes of which only the places from o on, c of them, were changed. -/
def Seg (W W' : World) (g o c : Nat) : Prop := ∃ cur cur' : Array Value, W.heap[g]? = some (.cells cur 5) ∧ W'.heap[g]? = some (.cells cur' 5) ∧ cur'.size = cur.size ∧ ∀ j, j < o ∨ o + c ≤ j → cur'[j]? = cur[j]?
theorem Seg.refl {W : World} {g o c : Nat} {cur : Array Value} (h : W.heap[g]? = some (.cells cur 5)) : Seg W W g o c := ⟨cur, cur, h, h, rfl, fun _ _ => rfl⟩
theorem Seg.trans {A B C : World} {g o c : Nat} (h : Seg A B g o c) (k : Seg B C g o c) : Seg A C g o c := by
  obtain ⟨a, b, h1, h2, h3, h4⟩ := h
  obtain ⟨b', d, k1, k2, k3, k4⟩ := k
  rw [h2] at k1
  simp only [Option.some.injEq, Obj.cells.injEq, and_true] at k1
  subst k1
  exact ⟨a, d, h1, k2, k3.trans h3, fun j hj => (k4 j hj).trans (h4 j hj)⟩
theorem Seg.chg {A B C : World} {g o c : Nat} {D : Nat → Prop} (h : Seg A B g o c) (k : Chg D B C) (hd : ¬ D g) : Seg A C g o c := by
  obtain ⟨a, b, h1, h2, h3⟩ := h
  exact ⟨a, b, h1, k.block h2 hd, h3⟩
theorem Seg.set {A : World} {g o c i : Nat} {cur : Array Value} (h : A.heap[g]? = some (.cells cur 5)) (hi : i < c) (u : Value) : Seg A (A.setCell ⟨g, o + i, none⟩ u) g o c := by
  refine ⟨cur, _, h, heap_setCell_cells h _ u, by simp, fun j hj => ?_⟩
  rw [Array.getElem?_setIfInBounds_ne (by omega)]
theorem seg_rw {W W' : World} {g o c n cap : Nat} {a : Option Addr} {bs : List UInt8} {D : Nat → Prop} (h : Rw byU 1 W a n cap bs) (hs : Seg W W' g o c) (hC : Chg D W W') (hd : ∀ p, a = some p → (¬ D p.block) ∨ (p.block = g ∧ (n = 0 ∨ p.off + n ≤ o ∨ o + c ≤ p.off))) : Rw byU 1 W' a n cap bs := by
  refine ⟨h.len, h.room, fun h0 => ?_⟩
  obtain ⟨g', off, ha, hg, hc⟩ := h.cells h0
  refine ⟨g', off, ha, Nat.lt_of_lt_of_le hg hC.size, fun j x hj i v hv => ?_⟩
  rcases hd _ ha with h1 | ⟨h1, h2⟩
  · exact (hC.cell (p := ⟨g', off + j * 1 + i, none⟩) hg h1).trans (hc j x hj i v hv)
  · dsimp only at h1 h2
    subst h1
    obtain ⟨cur, cur', e1, e2, e3, e4⟩ := hs
    have h3 := hc j x hj i v hv
    have hjn : j < n := by
      have := (List.getElem?_eq_some_iff.1 hj).1
      rw [h.len] at this; exact this
    have hi : i = 0 := by
      rcases Nat.lt_or_ge i (byU x).length with h' | h'
      · simp [byU] at h'; exact h'
      · rw [List.getElem?_eq_none h'] at hv; cases hv
    simp only [World.cell?, e1] at h3
    simp only [World.cell?, e2]
    rw [e4 _ (by omega)]
    exact h3
/-- A slice of bytes that was handed out. -/
def Hnd (W : World) (a : Option Addr) (n cap : Nat) : Prop := (a = none ∧ n = 0 ∧ cap = 0) ∨ ∃ g pre post l, a = some ⟨g, pre.length, none⟩ ∧ l.length = n ∧ Sg byU 1 5 W g pre l post cap
theorem Hnd.ne {W : World} {a : Option Addr} {n cap : Nat} (h : Hnd W a n cap) {p : Addr} (hp : a = some p) : ∃ cur : Array Value, W.heap[p.block]? = some (.cells cur 5) := by
  rcases h with ⟨rfl, _⟩ | ⟨g, pre, post, l, rfl, _, h⟩
  · cases hp
  · cases hp
    exact ⟨_, h.1⟩
/-- While it is written full. -/
def Fil (W : World) (a : Option Addr) (n cap : Nat) (mk : UInt8) (i : Nat) (wr : World) : Prop := (a = none ∧ n = 0 ∧ cap = 0 ∧ wr = W) ∨ ∃ g pre post l, a = some ⟨g, pre.length, none⟩ ∧ l.length = n ∧ l.take i = List.replicate i mk ∧ Sg byU 1 5 wr g pre l post cap ∧ Chg (fun k => k = g) W wr ∧ Seg W wr g pre.length cap
theorem Hnd.fil {W : World} {a : Option Addr} {n cap : Nat} (h : Hnd W a n cap) (mk : UInt8) : Fil W a n cap mk 0 W := by
  rcases h with ⟨h1, h2, h3⟩ | ⟨g, pre, post, l, h1, h2, h3⟩
  · exact .inl ⟨h1, h2, h3, rfl⟩
  · exact .inr ⟨g, pre, post, l, h1, h2, by simp, h3, Chg.refl _ _, Seg.refl h3.1⟩
theorem Fil.step {W wr : World} {a : Option Addr} {n cap i : Nat} {mk : UInt8} (h : Fil W a n cap mk i wr) (hi : i < n) : ∃ g o u, a = some ⟨g, o, none⟩ ∧ wr.cell? ⟨g, o + i, none⟩ = some u ∧ wr.frozen? ⟨g, o + i, none⟩ = false ∧ Fil W a n cap mk (i + 1) (wr.setCell ⟨g, o + i, none⟩ (.int .u8 (mk.toNat : Int))) := by
  rcases h with ⟨_, h2, _⟩ | ⟨g, pre, post, l, h1, h2, h3, h4, h5, h6⟩
  · omega
  · obtain ⟨A, x, B, hl, hA⟩ : ∃ A x B, l = A ++ x :: B ∧ A.length = i := ⟨l.take i, l[i], l.drop (i + 1), by rw [List.getElem_cons_drop, List.take_append_drop], by rw [List.length_take]; omega⟩
    subst hl
    have h41 := h4.1
    have hAl : (flatF byU A).length = i := by rw [flatF_length layU, hA, Nat.mul_one]
    have e1 : pre ++ flatF byU (A ++ x :: B) ++ post = (pre ++ flatF byU A) ++ Value.int .u8 (x.toNat : Int) :: (flatF byU B ++ post) := by
      rw [flatF_append]; simp [flatF, byU, List.append_assoc]
    have e2 : pre ++ flatF byU (A ++ mk :: B) ++ post = (pre ++ flatF byU A) ++ Value.int .u8 (mk.toNat : Int) :: (flatF byU B ++ post) := by
      rw [flatF_append]; simp [flatF, byU, List.append_assoc]
    rw [e1] at h41
    have hlen : (pre ++ flatF byU A).length = pre.length + i := by rw [List.length_append, hAl]
    refine ⟨g, pre.length, .int .u8 (x.toNat : Int), h1, ?_, Lib.frozen_of_heap h41 _, .inr ⟨g, pre, post, A ++ mk :: B, h1, by simpa using h2, ?_, ⟨?_, by simpa using h4.2.1, by simpa using h4.2.2.1, h4.2.2.2⟩, h5.trans (Chg.set (D := fun k => k = g) (q := g) _ _ _ rfl), h6.trans (Seg.set h41 (by have := h4.2.1; omega) _)⟩⟩
    · simp only [World.cell?, h41]
      rw [List.getElem?_toArray, ← hlen, List.getElem?_append_right (Nat.le_refl _)]
      simp
    · have h3' : A = List.replicate i mk := by
        rw [List.take_append_of_le_length (by omega), List.take_of_length_le (by omega)] at h3
        exact h3
      rw [h3', List.replicate_succ']
      rw [show List.replicate i mk ++ mk :: B = (List.replicate i mk ++ [mk]) ++ B from by simp]
      rw [List.take_append_of_le_length (by simp), List.take_of_length_le (by simp)]
    · rw [heap_setCell_cells h41, e2]
      congr 2
      apply Array.ext'
      simp only [Array.toList_setIfInBounds]
      rw [← hlen]
      simp
theorem Fil.full {W wr : World} {a : Option Addr} {n cap : Nat} {mk : UInt8} (h : Fil W a n cap mk n wr) : (a = none ∧ n = 0 ∧ cap = 0 ∧ wr = W) ∨ ∃ g pre post, a = some ⟨g, pre.length, none⟩ ∧ Sg byU 1 5 wr g pre (List.replicate n mk) post cap ∧ Chg (fun k => k = g) W wr ∧ Seg W wr g pre.length cap := by
  rcases h with h | ⟨g, pre, post, l, h1, h2, h3, h4, h5, h6⟩
  · exact .inl h
  · rw [List.take_of_length_le (by omega)] at h3
    subst h3
    exact .inr ⟨g, pre, post, h1, h4, h5, h6⟩
/-- The block of a slice. -/
def blk (a : Option Addr) (k : Nat) : Prop := ∃ p, a = some p ∧ p.block = k
/-- 'append(b, mark, mark)' of bytes that are full of the mark. -/
theorem fil_append {W w1 V0 : World} {a : Option Addr} {n cap : Nat} {mk : UInt8} (h : Fil W a n cap mk n w1) (hV : V0.heap = w1.heap) (hC0 : Below w1.heap.size w1 V0) (hn : n + 2 ≤ 140737488355328) (ty : TypeId) :
    ∃ a' cap' V1, (Builtin.append_ #[34, 34] ty #[.slice a n cap, .slice (some ⟨V0.heap.size, 0, none⟩) 2 2]).run Try.prog (V0.alloc (.cells #[.int .u8 (mk.toNat : Int), .int .u8 (mk.toNat : Int)] 5)) = .ok (.slice a' (n + 2) cap') V1 ∧
      Rw byU 1 V1 a n cap (List.replicate n mk) ∧ Rw byU 1 V1 a' (n + 2) cap' (List.replicate (n + 2) mk) ∧ Chg (blk a) W V1 ∧ Chg (blk a) V0 V1 ∧ (∀ p, a = some p → Seg W V1 p.block p.off cap) ∧ (∀ p, a' = some p → (∃ cur : Array Value, V1.heap[p.block]? = some (.cells cur 5)) ∧ (a' = a ∧ n + 2 ≤ cap ∧ cap' = cap ∨ W.heap.size ≤ p.block)) := by
  have hsz : V0.heap.size = w1.heap.size := by rw [hV]
  have hcs : flatF byU [mk, mk] = (#[.int .u8 (mk.toNat : Int), .int .u8 (mk.toNat : Int)] : Array Value).toList := rfl
  have hrep : List.replicate n mk ++ [mk, mk] = List.replicate (n + 2) mk := by
    rw [show [mk, mk] = List.replicate 2 mk from rfl, List.replicate_append_replicate]
  rcases h.full with ⟨rfl, rfl, rfl, rfl⟩ | ⟨g, pre, post, rfl, h4, h5, h6⟩
  · obtain ⟨v', W', hr, ho, hCh, hb⟩ := offF_appends kindU layU (offF_nil (f := byU) (k := 1) (T := 5) V0) [mk, mk] _ hcs 2 rfl (by decide) (by simp) (by simp) ty
    obtain ⟨a', cap', e, _, _⟩ := ho.shape
    have e' : v' = .slice a' 2 cap' := e
    subst e'
    have hW' : Chg (blk none) V0 W' := hCh.mono (fun k _ e => by simp [Value.ownBlock] at e)
    refine ⟨a', cap', W', hr, rw_nil _, ho.rw_ layU, (Chg.of_below hC0).trans hW', hW', (fun p hp => by cases hp), fun p hp => ?_⟩
    subst hp
    rcases ho with ⟨e, _⟩ | ⟨g, pre, post, cap, e, hh, _⟩
    · cases e
    · simp only [Value.slice.injEq, Option.some.injEq] at e
      obtain ⟨rfl, _, rfl⟩ := e
      refine ⟨⟨_, hh⟩, .inr ?_⟩
      rcases hb g rfl with h1 | h1
      · simp [Value.ownBlock] at h1
      · show w1.heap.size ≤ g
        omega
  · have h4' : Sg byU 1 5 V0 g pre (List.replicate n mk) post cap := by
      unfold Sg at h4 ⊢
      rw [hV]; exact h4
    have hCW : Chg (blk (some ⟨g, pre.length, none⟩)) W w1 := h5.mono (fun k _ e => ⟨_, rfl, e.symm⟩)
    have h6' : Seg W V0 g pre.length cap := by
      obtain ⟨c1, c2, k1, k2, k3⟩ := h6
      exact ⟨c1, c2, k1, by rw [hV]; exact k2, k3⟩
    have hll : (List.replicate n mk).length = n := List.length_replicate ..
    have hap := sg_append kindU layU h4' [mk, mk] _ hcs 2 rfl (by decide) (by rw [hll]; omega) (by rw [hll]; omega) ty
    rw [hll, hrep] at hap
    rcases hap with ⟨hr, W', e1, e2, e3, e4⟩ | ⟨hr, W', cap', e1, ⟨post', e2, e3⟩, e4⟩
    · have hCV : Chg (blk (some ⟨g, pre.length, none⟩)) V0 W' := e4.mono (fun k _ e => ⟨_, rfl, e.symm⟩)
      refine ⟨_, _, W', e1, ?_, ?_, (hCW.trans (Chg.of_below hC0)).trans hCV, hCV, fun p hp => ?_, fun p hp => ?_⟩
      · have hR := e2.rw_ layU
        rw [List.length_replicate] at hR
        have := hR.room
        refine ⟨List.length_replicate .., ⟨by omega, this.2⟩, fun h0 => ?_⟩
        obtain ⟨g', off, ea, hg, hc⟩ := hR.cells (by omega)
        refine ⟨g', off, ea, hg, fun j x hj i v hv => hc j x ?_ i v hv⟩
        rw [List.getElem?_replicate] at hj ⊢
        split at hj
        · rw [if_pos (by omega)]; exact hj
        · cases hj
      · have hR := e2.rw_ layU
        rw [List.length_replicate] at hR
        exact hR
      · cases hp
        refine h6'.trans ⟨_, _, h4'.1, e2.1, ?_, fun j hj => ?_⟩
        · simp only [List.size_toArray, List.length_append, flatF_length layU, List.length_replicate, List.length_drop]
          omega
        · rw [List.getElem?_toArray, List.getElem?_toArray]
          rcases hj with hj | hj
          · rw [List.append_assoc, List.append_assoc, List.getElem?_append_left hj, List.getElem?_append_left hj]
          · rw [List.getElem?_append_right (by simp only [List.length_append, flatF_length layU, List.length_replicate]; omega), List.getElem?_append_right (by simp only [List.length_append, flatF_length layU, List.length_replicate]; omega), List.getElem?_drop]
            congr 1
            simp only [List.length_append, flatF_length layU, List.length_replicate]
            omega
      · cases hp
        exact ⟨⟨_, e2.1⟩, .inl ⟨rfl, hr, rfl⟩⟩
    · have hBV : Below V0.heap.size V0 W' := e4
      have hCV : Chg (blk (some ⟨g, pre.length, none⟩)) V0 W' := Chg.of_below e4
      have hgl : g < V0.heap.size := (Array.getElem?_eq_some_iff.1 h4'.1).1
      refine ⟨_, _, W', e1, ?_, ?_, (hCW.trans (Chg.of_below hC0)).trans hCV, hCV, fun p hp => ?_, fun p hp => ?_⟩
      · have hR := (h4'.rw_ layU).below hBV
        rw [List.length_replicate] at hR
        exact hR
      · have hR := e2.rw_ layU
        rw [List.length_replicate] at hR
        exact hR
      · cases hp
        exact h6'.chg (D := fun k => V0.heap.size ≤ k) (Chg.of_below e4) (by show ¬ V0.heap.size ≤ g; omega)
      · cases hp
        refine ⟨⟨_, e2.1⟩, .inr ?_⟩
        have := h5.size
        dsimp only
        omega
end Go.Proofs.Ytdmhajlhpieedaa

/-! The book, with the blocks that it owns; take. -/
namespace Go.Proofs.Ytdmhajlhpieedaa
open Go.RowKit Go.Lib Go.Shelf
set_option maxRecDepth 100000

/-- The book; C: its blocks. -/
structure Bk (C : Nat → Prop) (W : World) (h : Nat) (gv wv lv : Value) (gs : List Br) (ls : List Fs) : Prop where
  at_ : BkAt W h gv wv lv gs ls
  ch : C h
  cg : ∀ g, gv.ownBlock = some g → C g
  cw : ∀ g, wv.ownBlock = some g → C g
  cl : ∀ g, lv.ownBlock = some g → C g
  cb : ∀ b ∈ gs, ∀ p, b.a = some p → C p.block ∧ ∃ cur : Array Value, W.heap[p.block]? = some (.cells cur 5)
  cf : ∀ l ∈ ls, ∀ p, l.a = some p → C p.block ∧ ∃ cur : Array Value, W.heap[p.block]? = some (.cells cur 73)
  lt : ∀ g, C g → g < W.heap.size
theorem Rw.chgB {α : Type} {f : α → List Value} {k : Nat} {D : Nat → Prop} {W W' : World} {a : Option Addr} {n cap : Nat} {l : List α} (h : Rw f k W a n cap l) (hC : Chg D W W') (hd : ∀ p, a = some p → ¬ D p.block) : Rw f k W' a n cap l := h.chg hC (fun p hp => hd p hp)
theorem Bk.chg {C D : Nat → Prop} {W W' : World} {h : Nat} {gv wv lv : Value} {gs : List Br} {ls : List Fs} (hb : Bk C W h gv wv lv gs ls) (hC : Chg D W W') (hd : ∀ g, C g → ¬ D g) : Bk C W' h gv wv lv gs ls := by
  refine ⟨⟨hC.block hb.at_.box (hd h hb.ch), hb.at_.got.chg hC (fun g hg => hd g (hb.cg g hg)), hb.at_.want.chg hC (fun g hg => hd g (hb.cw g hg)), hb.at_.lists.chg hC (fun g hg => hd g (hb.cl g hg)), fun b hbb => (hb.at_.by_ b hbb).chgB hC (fun p hp => hd _ (hb.cb b hbb p hp).1), fun i l hl => (hb.at_.fl i l hl).chgB hC (fun p hp => hd _ (hb.cf l (List.mem_of_getElem? hl) p hp).1)⟩, hb.ch, hb.cg, hb.cw, hb.cl, fun b hbb p hp => ?_, fun l hl p hp => ?_, fun g hg => Nat.lt_of_lt_of_le (hb.lt g hg) hC.size⟩
  · obtain ⟨h1, cur, h2⟩ := hb.cb b hbb p hp
    exact ⟨h1, cur, hC.block h2 (hd _ h1)⟩
  · obtain ⟨h1, cur, h2⟩ := hb.cf l hl p hp
    exact ⟨h1, cur, hC.block h2 (hd _ h1)⟩
theorem Bk.below {C : Nat → Prop} {W W' : World} {h : Nat} {gv wv lv : Value} {gs : List Br} {ls : List Fs} (hb : Bk C W h gv wv lv gs ls) (hB : Below W.heap.size W W') : Bk C W' h gv wv lv gs ls := hb.chg (D := fun g => W.heap.size ≤ g) (Chg.of_below hB) (fun g hg e => by have := hb.lt g hg; omega)
/-- The mark of the n-th bytes. -/
def mkB (n : Nat) : UInt8 := UInt8.ofNat (n % 250 + 1)
theorem mkB_nat (n : Nat) : (mkB n).toNat = n % 250 + 1 := by
  unfold mkB
  rw [UInt8.toNat_ofNat_of_lt']
  simp only [UInt8.size]
  omega
theorem type_ne {W : World} {g g' : Nat} {c1 c2 : Array Value} {T1 T2 : TypeId} (h1 : W.heap[g]? = some (.cells c1 T1)) (h2 : W.heap[g']? = some (.cells c2 T2)) (hT : T1 ≠ T2) : g ≠ g' := fun e => by
  subst e
  rw [h1] at h2
  simp at h2
  exact hT h2.2
/-- What a take leaves. -/
def TakP (C : Nat → Prop) (W : World) (h : Nat) (lv : Value) (gs : List Br) (ls : List Fs) (a : Option Addr) (n cap : Nat) (W' : World) : Prop := ∃ gv' wv' b2, Bk (fun g => C g ∨ blk a g ∨ (W.heap.size ≤ g ∧ g < W'.heap.size)) W' h gv' wv' lv (gs ++ [⟨a, cap, List.replicate n (mkB gs.length)⟩, b2]) ls ∧ Chg (fun g => C g ∨ blk a g) W W' ∧
  (∀ p, a = some p → Seg W W' p.block p.off cap) ∧ (∀ p, b2.a = some p → (b2.a = a ∧ n + 2 ≤ cap) ∨ W.heap.size ≤ p.block)
theorem cat_mk (n : Nat) (m : UInt8) : (⟨(List.replicate n m).toArray⟩ : ByteArray) ++ ⟨#[m, m]⟩ = ⟨(List.replicate (n + 2) m).toArray⟩ := by
  have e : List.replicate (n + 2) m = List.replicate n m ++ [m, m] := by rw [show [m, m] = List.replicate 2 m from rfl, List.replicate_append_replicate]
  rw [e]
  apply ByteArray.ext
  simp [ByteArray.data_append]
/-- The memory of a take: region by region. -/
def TakM (C : Nat → Prop) (W : World) (h : Nat) (gv wv lv : Value) (gs : List Br) (ls : List Fs) (a : Option Addr) (n cap : Nat) (mb : UInt8) (mi : Int) (w1 : World) : Prop :=
    ∃ a' cap' V1 gv' V2, (∃ a3 n3 c3, gv' = .slice a3 n3 c3) ∧ (Builtin.append_ #[34, 34] 34 #[.slice a n cap, .slice (some ⟨w1.heap.size, 0, none⟩) 2 2]).run Try.prog (w1.drew.alloc (.cells #[.int .u8 mi, .int .u8 mi] 5)) = .ok (.slice a' (n + 2) cap') V1 ∧
      (Builtin.append_ #[57, 57] 57 #[gv, .slice (some ⟨V1.heap.size, 0, none⟩) 2 2]).run Try.prog (V1.alloc (.cells #[.slice a n cap, .slice a' (n + 2) cap'] 34)) = .ok gv' V2 ∧
      (w1.heap[h]? = some (.cells #[gv, wv, lv] 61) ∧ V1.heap[h]? = some (.cells #[gv, wv, lv] 61) ∧ V2.heap[h]? = some (.cells #[gv, wv, lv] 61)) ∧
      ∀ V3 V4, V2.setCell ⟨h, 0, none⟩ gv' = V3 → V3.drew.alloc (.cells #[.int .u8 mi, .int .u8 mi] 5) = V4 →
        ∃ wv' V5, (∃ a3 n3 c3, wv' = .slice a3 n3 c3) ∧ V3.heap[h]? = some (.cells #[gv', wv, lv] 61) ∧ Rw byU 1 V3 a n cap (List.replicate n mb) ∧ (Builtin.append_ #[58, 58] 58 #[wv, .slice (some ⟨V4.heap.size, 0, none⟩) 2 2]).run Try.prog (V4.alloc (.cells #[.string ⟨(List.replicate n mb).toArray⟩, .string ⟨(List.replicate (n + 2) mb).toArray⟩] 9)) = .ok wv' V5 ∧
          Rw byU 1 V4 a n cap (List.replicate n mb) ∧ Rw byU 1 V5 a n cap (List.replicate n mb) ∧ V4.heap[h]? = some (.cells #[gv', wv, lv] 61) ∧ V5.heap[h]? = some (.cells #[gv', wv, lv] 61) ∧
          Rw byU 1 V4 (some ⟨V3.heap.size, 0, none⟩) 2 2 [mb, mb] ∧ TakP C W h lv gs ls a n cap (V5.setCell ⟨h, 1, none⟩ wv')
set_option maxHeartbeats 2000000 in
theorem take_mem {C : Nat → Prop} {W w1 : World} {h : Nat} {gv wv lv : Value} {gs : List Br} {ls : List Fs} {a : Option Addr} {n cap : Nat} {mb : UInt8} (hmb : mkB gs.length = mb) (hb : Bk C W h gv wv lv gs ls) (hh : Hnd W a n cap) (hF : Fil W a n cap mb n w1) (hn : n + 2 ≤ 140737488355328) (hg : gs.length ≤ 1099511627776)
    (hd : ∀ b ∈ gs, ∀ p, b.a = some p → ∀ q, a = some q → p.block = q.block → b.bs.length = 0 ∨ p.off + b.bs.length ≤ q.off ∨ q.off + cap ≤ p.off) : TakM C W h gv wv lv gs ls a n cap mb (mb.toNat : Int) w1 := by
  have ta : ∀ k, blk a k → ∃ cur : Array Value, W.heap[k]? = some (.cells cur 5) := fun k hk => by
    obtain ⟨p, hp, rfl⟩ := hk
    exact hh.ne hp
  have tgW : ∀ {k : Nat}, gv.ownBlock = some k → ∃ cur : Array Value, W.heap[k]? = some (.cells cur 34) := fun hk => hb.at_.got.block hk
  have twW : ∀ {k : Nat}, wv.ownBlock = some k → ∃ cur : Array Value, W.heap[k]? = some (.cells cur 9) := fun hk => hb.at_.want.block hk
  obtain ⟨a', cap', V1, hap1, hR1, hR1', hC1, hC1', hS1, hA'⟩ := fil_append hF (V0 := w1.drew) rfl ((Below.refl _ _).drew) hn 34
  have nah : ¬ blk a h := fun e => by obtain ⟨c, hc⟩ := ta h e; exact type_ne hc hb.at_.box (by decide) rfl
  have hbx0 : w1.heap[h]? = some (.cells #[gv, wv, lv] 61) := by
    rcases hF.full with ⟨_, _, _, e⟩ | ⟨g, pre, post, e, _, h5, _⟩
    · rw [e]; exact hb.at_.box
    · exact h5.block hb.at_.box (fun k => nah ⟨_, e, k.symm⟩)
  have hbx1 := hC1.block hb.at_.box nah
  have hgot1 : OffF brv 1 34 V1 gv gs := hb.at_.got.chg hC1 (fun k hk e => by obtain ⟨c, hc⟩ := ta k e; obtain ⟨c2, hc2⟩ := tgW hk; exact type_ne hc hc2 (by decide) rfl)
  have twV1 : ∀ {k : Nat}, wv.ownBlock = some k → ∃ cur : Array Value, V1.heap[k]? = some (.cells cur 9) := fun {k} hk => by
    obtain ⟨c, hc⟩ := twW hk
    exact ⟨c, hC1.block hc (fun e => by obtain ⟨c2, hc2⟩ := ta k e; exact type_ne hc hc2 (by decide) rfl)⟩
  obtain ⟨b1, hb1⟩ : ∃ b1 : Br, ⟨a, cap, List.replicate n mb⟩ = b1 := ⟨_, rfl⟩
  obtain ⟨b2, hb2⟩ : ∃ b2 : Br, ⟨a', cap', List.replicate (n + 2) mb⟩ = b2 := ⟨_, rfl⟩
  obtain ⟨gv', V2, hap2, hgot2, hC2, hgb⟩ := offF_appends kindBr layBr hgot1 [b1, b2] #[.slice a n cap, .slice a' (n + 2) cap'] (by rw [← hb1, ← hb2]; simp [flatF, brv]) 2 rfl (by decide) (by omega) (by omega) 57
  have hbx2 := hC2.block hbx1 (fun e => by obtain ⟨c, hc⟩ := hgot1.block e; exact type_ne hc hbx1 (by decide) rfl)
  refine ⟨a', cap', V1, gv', V2, by obtain ⟨x, y, z, _⟩ := hgot2.shape; exact ⟨x, _, y, z⟩, hap1, hap2, ⟨hbx0, hbx1, hbx2⟩, fun V3 V4 hV3 hV4 => ?_⟩
  have hbx3 : V3.heap[h]? = some (.cells #[gv', wv, lv] 61) := by rw [← hV3]; exact heap_setCell_cells hbx2 0 gv'
  have hC3 : Chg (fun k => k = h) V2 V3 := by rw [← hV3]; exact Chg.set (D := fun k => k = h) (q := h) 0 _ _ rfl
  have hB4 : Below V3.heap.size V3 V4 := by rw [← hV4]; exact ((Below.refl V3.heap.size V3).drew).alloc (Nat.le_refl _) _
  have hbx4 := (hB4.block h (Array.getElem?_eq_some_iff.1 hbx3).1).trans hbx3
  have tgV1 : ∀ {k : Nat}, gv.ownBlock = some k → ∃ cur : Array Value, V1.heap[k]? = some (.cells cur 34) := fun hk => hgot1.block hk
  have hC14 : Chg (fun k => gv.ownBlock = some k ∨ k = h) V1 V4 := ((hC2.mono (fun k _ e => .inl e)).trans (hC3.mono (fun k _ e => .inr e))).trans (Chg.of_below hB4)
  have hC13 : Chg (fun k => gv.ownBlock = some k ∨ k = h) V1 V3 := (hC2.mono (fun k _ e => .inl e)).trans (hC3.mono (fun k _ e => .inr e))
  have hwant4 : OffF wtv 1 9 V4 wv gs := by
    have h1 : OffF wtv 1 9 V1 wv gs := hb.at_.want.chg hC1 (fun k hk e => by obtain ⟨c, hc⟩ := ta k e; obtain ⟨c2, hc2⟩ := twW hk; exact type_ne hc hc2 (by decide) rfl)
    refine h1.chg hC14 (fun k hk e => ?_)
    obtain ⟨c, hc⟩ := twV1 hk
    rcases e with e | e
    · obtain ⟨c2, hc2⟩ := tgV1 e; exact type_ne hc hc2 (by decide) rfl
    · exact type_ne hc hbx1 (by decide) e
  obtain ⟨wv', V5, hap3, hwant5, hC5, hwb⟩ := offF_appends kindSt laySt hwant4 [b1, b2] #[.string ⟨(List.replicate n mb).toArray⟩, .string ⟨(List.replicate (n + 2) mb).toArray⟩] (by rw [← hb1, ← hb2]; simp [flatF, wtv]) 2 rfl (by decide) (by omega) (by omega) 58
  have twV4 : ∀ {k : Nat}, wv.ownBlock = some k → ∃ cur : Array Value, V4.heap[k]? = some (.cells cur 9) := fun hk => hwant4.block hk
  have hbx5 := hC5.block hbx4 (fun e => by obtain ⟨c, hc⟩ := twV4 e; exact type_ne hc hbx4 (by decide) rfl)
  obtain ⟨V6, hV6⟩ : ∃ V6, V5.setCell ⟨h, 1, none⟩ wv' = V6 := ⟨_, rfl⟩
  have hbx6 : V6.heap[h]? = some (.cells #[gv', wv', lv] 61) := by rw [← hV6]; exact heap_setCell_cells hbx5 1 wv'
  have hC6 : Chg (fun k => k = h) V5 V6 := by rw [← hV6]; exact Chg.set (D := fun k => k = h) (q := h) 1 _ _ rfl
  -- from V1 on
  have hC16 : Chg (fun k => gv.ownBlock = some k ∨ wv.ownBlock = some k ∨ k = h) V1 V6 := ((hC14.mono (fun k _ e => e.imp id .inr)).trans (hC5.mono (fun k _ e => .inr (.inl e)))).trans (hC6.mono (fun k _ e => .inr (.inr e)))
  have hC15 : Chg (fun k => gv.ownBlock = some k ∨ wv.ownBlock = some k ∨ k = h) V1 V5 := (hC14.mono (fun k _ e => e.imp id .inr)).trans (hC5.mono (fun k _ e => .inr (.inl e)))
  have nU : ∀ {k : Nat} {cur : Array Value}, V1.heap[k]? = some (.cells cur 5) → ¬ (gv.ownBlock = some k ∨ wv.ownBlock = some k ∨ k = h) := fun {k cur} hc e => by
    rcases e with e | e | e
    · obtain ⟨c2, hc2⟩ := tgV1 e; exact type_ne hc hc2 (by decide) rfl
    · obtain ⟨c2, hc2⟩ := twV1 e; exact type_ne hc hc2 (by decide) rfl
    · exact type_ne hc hbx1 (by decide) e
  have ta1 : ∀ p, a = some p → ∃ cur : Array Value, V1.heap[p.block]? = some (.cells cur 5) := fun p hp => by
    obtain ⟨_, cur, _, h2, _⟩ := hS1 p hp
    exact ⟨cur, h2⟩
  have ra : ∀ p, a = some p → ¬ (gv.ownBlock = some p.block ∨ wv.ownBlock = some p.block ∨ p.block = h) := fun p hp => by
    obtain ⟨c, hc⟩ := ta1 p hp
    exact nU hc
  have hR3 := hR1.chgB hC13 (fun p hp e => ra p hp (e.imp id .inr))
  have hR4 := hR1.chgB hC14 (fun p hp e => ra p hp (e.imp id .inr))
  have hR5 := hR1.chgB hC15 (fun p hp => ra p hp)
  have hR6 := hR1.chgB hC16 (fun p hp => ra p hp)
  have hRM : Rw byU 1 V4 (some ⟨V3.heap.size, 0, none⟩) 2 2 [mb, mb] := by
    rw [← hV4]
    exact (offF_lit (f := byU) (k := 1) (T := 5) V3.drew [mb, mb] _ rfl 2 rfl (by decide)).rw_ layU
  refine ⟨wv', V5, by obtain ⟨x, y, z, _⟩ := hwant5.shape; exact ⟨x, _, y, z⟩, hbx3, hR3, hap3, hR4, hR5, hbx4, hbx5, hRM, ?_⟩
  rw [hV6]
  -- all of it
  have hS6 : ∀ p, a = some p → Seg W V6 p.block p.off cap := fun p hp => (hS1 p hp).chg hC16 (ra p hp)
  have hCW : Chg (fun k => blk a k ∨ gv.ownBlock = some k ∨ wv.ownBlock = some k ∨ k = h) W V6 := (hC1.mono (fun k _ e => .inl e)).trans (hC16.mono (fun k _ e => .inr e))
  have s1 := hC1.size
  have s2 := hC14.size
  have hgot6 : OffF brv 1 34 V6 gv' (gs ++ [b1, b2]) := by
    have hC25 : Chg (fun k => wv.ownBlock = some k ∨ k = h) V2 V6 := (((hC3.mono (fun k _ e => .inr e)).trans (Chg.of_below hB4)).trans (hC5.mono (fun k _ e => .inl e))).trans (hC6.mono (fun k _ e => .inr e))
    refine hgot2.chg hC25 (fun k hk e => ?_)
    obtain ⟨c, hc⟩ := hgot2.block hk
    rcases e with e | e
    · obtain ⟨c2, hc2⟩ := twV1 e
      have := hC2.block hc2 (fun e2 => by obtain ⟨c3, hc3⟩ := tgV1 e2; exact type_ne hc2 hc3 (by decide) rfl)
      exact type_ne hc this (by decide) rfl
    · exact type_ne hc hbx2 (by decide) e
  have hwant6 : OffF wtv 1 9 V6 wv' (gs ++ [b1, b2]) := hwant5.chg hC6 (fun k hk e => by obtain ⟨c, hc⟩ := hwant5.block hk; exact type_ne hc hbx5 (by decide) e)
  have nW : ∀ {k : Nat} {cur : Array Value} {T : TypeId}, W.heap[k]? = some (.cells cur T) → T ≠ 5 → T ≠ 34 → T ≠ 9 → T ≠ 61 → ¬ (blk a k ∨ gv.ownBlock = some k ∨ wv.ownBlock = some k ∨ k = h) := fun {k cur T} hc n1 n2 n3 n4 e => by
    rcases e with e | e | e | e
    · obtain ⟨c2, hc2⟩ := ta k e; exact type_ne hc hc2 n1 rfl
    · obtain ⟨c2, hc2⟩ := tgW e; exact type_ne hc hc2 n2 rfl
    · obtain ⟨c2, hc2⟩ := twW e; exact type_ne hc hc2 n3 rfl
    · exact type_ne hc hb.at_.box n4 e
  have nW8 : ∀ {k : Nat} {cur : Array Value}, W.heap[k]? = some (.cells cur 5) → ¬ (gv.ownBlock = some k ∨ wv.ownBlock = some k ∨ k = h) := fun {k cur} hc e => by
    rcases e with e | e | e
    · obtain ⟨c2, hc2⟩ := tgW e; exact type_ne hc hc2 (by decide) rfl
    · obtain ⟨c2, hc2⟩ := twW e; exact type_ne hc hc2 (by decide) rfl
    · exact type_ne hc hb.at_.box (by decide) e
  have tU6 : ∀ {k : Nat} {cur : Array Value}, W.heap[k]? = some (.cells cur 5) → ∃ cur' : Array Value, V6.heap[k]? = some (.cells cur' 5) := fun {k cur} hc => by
    by_cases hk : blk a k
    · obtain ⟨p, hp, rfl⟩ := hk
      obtain ⟨_, c', _, h2, _⟩ := hS6 p hp
      exact ⟨c', h2⟩
    · exact ⟨cur, hCW.block hc (fun e => e.elim hk (nW8 hc))⟩
  have hby : ∀ b ∈ gs, Rw byU 1 V6 b.a b.bs.length b.cap b.bs := fun b hbb => by
    have h1 := hb.at_.by_ b hbb
    rcases ha : a with _ | q
    · refine h1.chgB hCW (fun p hp e => ?_)
      obtain ⟨_, c, hc⟩ := hb.cb b hbb p hp
      rcases e with ⟨q, hq, _⟩ | e
      · rw [ha] at hq; cases hq
      · exact nW8 hc e
    · refine seg_rw h1 (hS6 q ha) hCW (fun p hp => ?_)
      obtain ⟨_, c, hc⟩ := hb.cb b hbb p hp
      by_cases hk : p.block = q.block
      · exact .inr ⟨hk, hd b hbb p hp q ha hk⟩
      · refine .inl (fun e => ?_)
        rcases e with ⟨q', hq, e⟩ | e
        · rw [ha] at hq; cases hq; exact hk e.symm
        · exact nW8 hc e
  have e1a : b1.a = a := by rw [← hb1]
  have e2a : b2.a = a' := by rw [← hb2]
  refine ⟨gv', wv', b2, ?_, hCW.mono (fun k _ e => ?_), hS6, fun p hp => ?_⟩
  · rw [hmb, hb1]
    refine ⟨⟨hbx6, hgot6, hwant6, hb.at_.lists.chg hCW (fun k hk => ?_), fun b hbb => ?_, fun i l hl => (hb.at_.fl i l hl).chgB hCW (fun p hp => ?_)⟩, .inl hb.ch, fun g hg' => ?_, fun g hg' => ?_, fun g hg' => .inl (hb.cl g hg'), fun b hbb p hp => ?_, fun l hl p hp => ?_, fun g hg' => ?_⟩
    · obtain ⟨c, hc⟩ := hb.at_.lists.block hk
      exact nW hc (by decide) (by decide) (by decide) (by decide)
    · rcases List.mem_append.1 hbb with h1 | h1
      · exact hby b h1
      · simp only [List.mem_cons, List.not_mem_nil, or_false] at h1
        rcases h1 with rfl | rfl
        · rw [← hb1]; simpa using hR6
        · rw [← hb2]
          have := hR1'.chgB hC16 (fun p hp => by obtain ⟨⟨c, hc⟩, _⟩ := hA' p hp; exact nU hc)
          simpa using this
    · obtain ⟨_, c, hc⟩ := hb.cf l (List.mem_of_getElem? hl) p hp
      exact nW hc (by decide) (by decide) (by decide) (by decide)
    · rcases hgb g hg' with h1 | h1
      · exact .inl (hb.cg g h1)
      · exact .inr (.inr ⟨by omega, hgot6.lt hg'⟩)
    · rcases hwb g hg' with h1 | h1
      · exact .inl (hb.cw g h1)
      · exact .inr (.inr ⟨by omega, hwant6.lt hg'⟩)
    · rcases List.mem_append.1 hbb with h1 | h1
      · obtain ⟨h2, c, hc⟩ := hb.cb b h1 p hp
        exact ⟨.inl h2, tU6 hc⟩
      · simp only [List.mem_cons, List.not_mem_nil, or_false] at h1
        rcases h1 with rfl | rfl
        · rw [e1a] at hp
          obtain ⟨c, hc⟩ := hh.ne hp
          exact ⟨.inr (.inl ⟨p, hp, rfl⟩), tU6 hc⟩
        · rw [e2a] at hp
          obtain ⟨⟨c, hc⟩, h3⟩ := hA' p hp
          have hc6 := hC16.block hc (nU hc)
          rcases h3 with ⟨h3, _⟩ | h3
          · exact ⟨.inr (.inl ⟨p, by rw [← h3]; exact hp, rfl⟩), _, hc6⟩
          · exact ⟨.inr (.inr ⟨h3, (Array.getElem?_eq_some_iff.1 hc6).1⟩), _, hc6⟩
    · obtain ⟨h2, c, hc⟩ := hb.cf l hl p hp
      exact ⟨.inl h2, c, hCW.block hc (nW hc (by decide) (by decide) (by decide) (by decide))⟩
    · rcases hg' with h1 | h1 | h1
      · exact Nat.lt_of_lt_of_le (hb.lt g h1) hCW.size
      · obtain ⟨c, hc⟩ := ta g h1
        exact Nat.lt_of_lt_of_le (Array.getElem?_eq_some_iff.1 hc).1 hCW.size
      · exact h1.2
  · rcases e with e | e | e | e
    · exact .inr e
    · exact .inl (hb.cg k e)
    · exact .inl (hb.cw k e)
    · subst e; exact .inl hb.ch
  · rw [e2a] at hp ⊢
    obtain ⟨_, h3⟩ := hA' p hp
    rcases h3 with ⟨h3, h4, _⟩ | h3
    · exact .inl ⟨h3, h4⟩
    · exact .inr h3
end Go.Proofs.Ytdmhajlhpieedaa
