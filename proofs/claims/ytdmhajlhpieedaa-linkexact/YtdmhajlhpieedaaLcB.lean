import Derived.Test.YtdmhajlhpieedaaLcA
/-! The link and the statement's list in memory; strings to bytes. -/
namespace Go.Proofs.Ytdmhajlhpieedaa
open Go.RowKit Go.Lib Go.Shelf
set_option maxRecDepth 100000

/-- '[]byte(s)' -/
theorem back_bytes (W : World) (l : List UInt8) (hl : l.length ≤ 4611686018427387904) : ∃ cap W', (convert 9 34 (.string ⟨l.toArray⟩)).run Try.prog W = .ok (.slice (some ⟨W.heap.size, 0, none⟩) l.length cap) W' ∧ Rw byU 1 W' (some ⟨W.heap.size, 0, none⟩) l.length cap l ∧ Below W.heap.size W W' ∧ W'.heap.size = W.heap.size + 1 ∧ (∀ j, j < l.length → W'.frozen? ⟨W.heap.size, j, none⟩ = false) ∧ l.length ≤ cap := by
  have hr := run_bytes_of_string (P := Try.prog) W 9 34 5 ⟨l.toArray⟩ Try.underlying9 Try.underlying34 Try.underlying5
  have hsz : (⟨l.toArray⟩ : ByteArray).size = l.length := by simp [ByteArray.size]
  rw [hsz] at hr
  have hbe : ∀ o : Obj, Below W.heap.size W (W.drew.alloc o) := fun o => (Below.refl W.heap.size W).drew.alloc (Nat.le_refl _) o
  have hge := grownCap_ge W l.length 0 5
  have hlt : ∀ o : Obj, (W.drew.alloc o).heap.size = W.heap.size + 1 := fun o => by rw [World.size_alloc]; rfl
  refine ⟨_, _, hr, ⟨rfl, ⟨hge, grownCap_le_maxLen _ _ _ _ (by simp only [maxLen]; omega)⟩, fun h0 => ⟨_, 0, rfl, by rw [hlt]; omega, fun j x hj i v hv => ?_⟩⟩, hbe _, hlt _, fun j hj => ?_, hge⟩
  · obtain ⟨hj1, hj2⟩ := List.getElem?_eq_some_iff.1 hj
    have hi : i = 0 := by have := (List.getElem?_eq_some_iff.1 hv).1; simp [byU] at this; omega
    subst hi
    simp [byU] at hv
    subst hv
    have hs2 : j < (⟨l.toArray⟩ : ByteArray).data.size := by simpa using hj1
    have := World.cell?_alloc_mark W.drew (bytesRow ⟨l.toArray⟩ (grownCap W l.length 0 5)) 5 ((bytesRow ⟨l.toArray⟩ (grownCap W l.length 0 5)).size, (bytesRow ⟨l.toArray⟩ (grownCap W l.length 0 5)).size + 1) j
    simp only [Nat.mul_one, Nat.zero_add, Nat.add_zero]
    rw [show W.heap.size = W.drew.heap.size from rfl, this, bytesRow_at _ _ _ hs2]
    simp [hj2]
  · have hh := heap_alloc_new W.drew (.cells (bytesRow ⟨l.toArray⟩ (grownCap W l.length 0 5)) 5 ((bytesRow ⟨l.toArray⟩ (grownCap W l.length 0 5)).size, (bytesRow ⟨l.toArray⟩ (grownCap W l.length 0 5)).size + 1))
    have hh2 : (W.drew.alloc (.cells (bytesRow ⟨l.toArray⟩ (grownCap W l.length 0 5)) 5 ((bytesRow ⟨l.toArray⟩ (grownCap W l.length 0 5)).size, (bytesRow ⟨l.toArray⟩ (grownCap W l.length 0 5)).size + 1))).heap[W.heap.size]? = _ := hh
    have hrs : l.length ≤ (bytesRow ⟨l.toArray⟩ (grownCap W l.length 0 5)).size := by
      simp [bytesRow]
    unfold World.frozen?
    rw [hh2]
    simp only
    simp
    omega
/-- A cell of the statement's list is written. -/
theorem own_setN {W : World} {B g n cap k j : Nat} {L : List Sn} {s s' : Sn} {u : Value} (h : OwnF snv 6 46 W B (.slice (some ⟨g, 0, none⟩) n cap) L) (hs : L[k]? = some s) (hj : j < 6) (he : snv s' = (snv s).set j u) :
    OwnF snv 6 46 (W.setCell ⟨g, k * 6 + j, none⟩ u) B (.slice (some ⟨g, 0, none⟩) n cap) (L.set k s') := by
  rcases h.2 with ⟨e, _⟩ | ⟨g', cap', cur, e, hB, hh, hn, hm, hsz, htk⟩
  · cases e
  · simp only [Value.slice.injEq, Option.some.injEq, Addr.mk.injEq, and_true] at e
    obtain ⟨rfl, rfl, rfl⟩ := e
    refine ⟨flatF_length layN _, .inr ⟨g, cap, _, by rw [List.length_set], hB, heap_setCell_cells hh _ _, by rw [List.length_set]; exact hn, hm, by simpa using hsz, ?_⟩⟩
    obtain ⟨A, C, rfl, hA⟩ := mid_of hs
    have e1 : (A ++ s :: C).set k s' = A ++ s' :: C := by subst hA; simp
    have e2 : flatF snv (A ++ s' :: C) = (flatF snv (A ++ s :: C)).set (k * 6 + j) u := by
      have hl := flatF_length layN A
      rw [flatF_append, flatF_append, List.set_append_right _ _ (by rw [hl, hA]; omega), hl, hA, show k * 6 + j - k * 6 = j by omega]
      congr 1
      simp only [flatF, List.flatMap_cons]
      rw [List.set_append_left _ _ (by rw [layN.len]; exact hj), he]
    rw [List.length_set, e1, e2, ← htk, Array.toList_setIfInBounds, List.take_set]
/-- The link and the list. -/
structure Bg (W0 : World) (W : World) (q : Nat) (S : Lk) (v : Value) (L : List Sn) : Prop where
  ex : ∃ K, St W0 K W q S ∧ (∀ g, v.ownBlock = some g → ¬ K g)
  own : OwnF snv 6 46 W W0.heap.size v L
section
variable {W0 W W' : World} {q : Nat} {S S' : Lk} {v : Value} {L : List Sn}
theorem Bg.bel (h : Bg W0 W q S v L) : Below W0.heap.size W0 W := by obtain ⟨K, h1, _⟩ := h.ex; exact h1.bel
theorem Bg.below (h : Bg W0 W q S v L) (hB : Below W.heap.size W W') : Bg W0 W' q S v L := by
  obtain ⟨K, h1, h2⟩ := h.ex
  exact ⟨⟨K, h1.below hB, h2⟩, h.own.below hB⟩
theorem bg_lft {K : Nat → Prop} (h1 : St W0 K W q S) (h2 : ∀ g, v.ownBlock = some g → ¬ K g) (ho : OwnF snv 6 46 W W0.heap.size v L) (hL : Lft K W q S' W') : Bg W0 W' q S' v L := by
  refine ⟨⟨_, h1.lft hL, fun g hg e => ?_⟩, ho.chg hL.2 h2⟩
  rcases e with e | e
  · exact h2 g hg e
  · have := ho.lt hg; omega
theorem Bg.len (h : Bg W0 W q S v L) : Calls Try.prog 11 #[.pointer (some ⟨q, 0, none⟩)] W fun e w' => e = .returned (.int .i64 (S.fl.length : Int)) ∧ w' = W := by
  obtain ⟨K, h1, _⟩ := h.ex; exact lenK h1.lnk
theorem Bg.next (h : Bg W0 W q S v L) : Calls Try.prog 12 #[.pointer (some ⟨q, 0, none⟩)] W fun e w' => e = .returned (.int .i64 (S.next : Int)) ∧ w' = W := by
  obtain ⟨K, h1, _⟩ := h.ex; exact nextK h1.lnk
theorem Bg.drop (h : Bg W0 W q S v L) (k : Int) : Calls Try.prog 17 #[.pointer (some ⟨q, 0, none⟩), .int .i64 k] W fun e w' => e = .returned (.int .i64 (dropE S k)) ∧ Bg W0 w' q (delS S k) v L := by
  obtain ⟨K, h1, h2⟩ := h.ex
  refine (dropK h1.lnk k).mono ?_
  rintro e w' ⟨e1, e2⟩
  exact ⟨e1, bg_lft h1 h2 h.own e2⟩
theorem Bg.copy (h : Bg W0 W q S v L) (k : Int) (hb : ∀ f ∈ S.fl, f.bs.length ≤ 281474976710656) (hn : S.next + 1 ≤ 1152921504606846976) : Calls Try.prog 16 #[.pointer (some ⟨q, 0, none⟩), .int .i64 k] W fun e w' => e = .returned (copyV S k) ∧ Bg W0 w' q (copyS S k) v L := by
  obtain ⟨K, h1, h2⟩ := h.ex
  refine (copyK h1.lnk k hb hn).mono ?_
  rintro e w' ⟨e1, e2⟩
  exact ⟨e1, bg_lft h1 h2 h.own e2⟩
theorem Bg.spoil (h : Bg W0 W q S v L) (k at_ : Int) (m : UInt8) : Calls Try.prog 14 #[.pointer (some ⟨q, 0, none⟩), .int .i64 k, .int .i64 at_, .int .u8 (m.toNat : Int)] W fun e w' => e = .returned (.int .i64 (turnE S k at_ m)) ∧ Bg W0 w' q (turnS S k at_ m) v L := by
  obtain ⟨K, h1, h2⟩ := h.ex
  refine (spoilK h1.lnk k at_ m).mono ?_
  rintro e w' ⟨e1, e2⟩
  exact ⟨e1, bg_lft h1 h2 h.own e2⟩
/-- A store into the list. -/
theorem Bg.set {g n cap k j : Nat} {s s' : Sn} {u : Value} (h : Bg W0 W q S (.slice (some ⟨g, 0, none⟩) n cap) L) (hs : L[k]? = some s) (hj : j < 6) (he : snv s' = (snv s).set j u) (hW : W.setCell ⟨g, k * 6 + j, none⟩ u = W') : Bg W0 W' q S (.slice (some ⟨g, 0, none⟩) n cap) (L.set k s') := by
  obtain ⟨K, h1, h2⟩ := h.ex
  have hC : Chg (fun k => k = g) W W' := by rw [← hW]; exact Chg.set (D := fun k => k = g) (q := g) _ _ _ rfl
  have hg : W0.heap.size ≤ g := h.own.ge rfl
  have hk : ¬ K g := h2 g rfl
  refine ⟨⟨K, ⟨h1.lnk.chg hC (fun x hx e => hk (e ▸ hx)), fun x hx => ⟨(h1.new x hx).1, Nat.lt_of_lt_of_le (h1.new x hx).2 hC.size⟩, h1.bel.trans (hC.below (fun x e => by omega) h1.bel.size)⟩, h2⟩, ?_⟩
  rw [← hW]
  exact own_setN h.own hs hj he
/-- An append of an element that was just written out. -/
theorem Bg.app (h : Bg W0 W q S v L) (s : Sn) (cs : Array Value) (hcs : snv s = cs.toList) (hl : L.length + 1 ≤ 100000) (ty : TypeId) : ∃ g c W', (Builtin.append_ #[47, 47] ty #[v, .slice (some ⟨W.heap.size, 0, none⟩) 1 1]).run Try.prog (W.alloc (.cells cs 46)) = .ok (.slice (some ⟨g, 0, none⟩) (L.length + 1) c) W' ∧ Bg W0 W' q S (.slice (some ⟨g, 0, none⟩) (L.length + 1) c) (L ++ [s]) ∧ Chg (fun k => v.ownBlock = some k) W W' := by
  obtain ⟨K, h1, h2⟩ := h.ex
  obtain ⟨g, c, W', hr, ho, hb, hk, hs, hat⟩ := appendF_one (P := Try.prog) kindN layN h.own h1.bel.size s cs hcs 46 (by omega) (by omega) ty
  have hC : Chg (fun k => v.ownBlock = some k) W W' := ⟨hb.mono (Nat.zero_le _), fun k hk1 hk2 => hk k hk1 hk2⟩
  refine ⟨g, c, W', hr, ⟨⟨K, ⟨h1.lnk.chg hC (fun x hx e => h2 x e hx), fun x hx => ⟨(h1.new x hx).1, Nat.lt_of_lt_of_le (h1.new x hx).2 hC.size⟩, h1.bel.trans hb⟩, fun x hx e => ?_⟩, ho⟩, hC⟩
  simp [Value.ownBlock] at hx
  subst hx
  rcases hat with h3 | h3
  · exact h2 _ h3 e
  · have := (h1.new _ e).2; omega
theorem Bg.shape (h : Bg W0 W q S v L) : ∃ a c, v = .slice a L.length c ∧ L.length ≤ c ∧ c ≤ maxLen := by
  obtain ⟨a, c, e⟩ := h.own.shape
  have := h.own
  rw [e] at this
  have hr := (this.rw_ layN).room
  exact ⟨a, c, e, hr.1, hr.2⟩
/-- An element of the list, read. -/
theorem Bg.at (h : Bg W0 W q S v L) {k : Nat} {s : Sn} (hs : L[k]? = some s) : ∃ g c, v = .slice (some ⟨g, 0, none⟩) L.length c ∧ k < L.length ∧ (W.cell? ⟨g, k * 6, none⟩ = some (.int .i64 s.fr) ∧ W.cell? ⟨g, k * 6 + 1, none⟩ = some (.int .i64 s.tt) ∧ W.cell? ⟨g, k * 6 + 2, none⟩ = some (.slice s.a s.n s.cap) ∧ W.cell? ⟨g, k * 6 + 3, none⟩ = some (.string ⟨s.bs.toArray⟩) ∧ W.cell? ⟨g, k * 6 + 4, none⟩ = some (.bool s.sp) ∧ W.cell? ⟨g, k * 6 + 5, none⟩ = some (.bool s.here)) ∧ (∀ j, W.frozen? ⟨g, j, none⟩ = false) ∧ W0.heap.size ≤ g ∧ ∃ cur : Array Value, W.heap[g]? = some (.cells cur 46) := by
  have hk : k < L.length := by
    rcases Nat.lt_or_ge k L.length with h' | h'
    · exact h'
    · rw [List.getElem?_eq_none h'] at hs; cases hs
  rcases h.own.2 with ⟨e, h0⟩ | ⟨g, cap, cur, e, hB, hh, hn, hm, hsz, htk⟩
  · rw [h0] at hk; omega
  · refine ⟨g, cap, e, hk, ?_, fun j => Lib.frozen_of_heap hh j, hB, cur, hh⟩
    have ho := h.own
    rw [e] at ho
    obtain ⟨g', off, x, e2, _, hx, hc⟩ := (ho.rw_ layN).at k hk
    cases e2
    rw [hs] at hx
    cases hx
    have c0 := hc 0 _ rfl
    have c1 := hc 1 _ rfl
    have c2 := hc 2 _ rfl
    have c3 := hc 3 _ rfl
    have c4 := hc 4 _ rfl
    have c5 := hc 5 _ rfl
    simp only [Nat.zero_add, Nat.add_zero] at c0 c1 c2 c3 c4 c5
    exact ⟨c0, c1, c2, c3, c4, c5⟩
end
end Go.Proofs.Ytdmhajlhpieedaa
