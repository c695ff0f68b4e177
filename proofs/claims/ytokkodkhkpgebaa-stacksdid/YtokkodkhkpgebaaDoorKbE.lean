import Derived.Test.YtokkodkhkpgebaaDoorKbD
/-! slices.Clone of ranges; turning; Effect. -/
namespace Go.Proofs.YtokkodkhkpgebaaDoor
open Go.RowKit Go.Lib
set_option maxRecDepth 100000

theorem kindRk : Kind Tryd.prog 68 132 2 16 := kind_of Tryd.underlying68 (z := .agg #[.int .i64 0, .int .i64 0]) (by kernel_rfl) rfl
theorem box9k {W : World} {b : Nat} {T : TypeId} {v0 v1 v2 v3 v4 v5 v6 v7 v8 : Value} (h : W.heap[b]? = some (.cells #[v0, v1, v2, v3, v4, v5, v6, v7, v8] T)) :
    W.cell? ⟨b, 0, none⟩ = some v0 ∧ W.cell? ⟨b, 1, none⟩ = some v1 ∧ W.cell? ⟨b, 2, none⟩ = some v2 ∧ W.cell? ⟨b, 3, none⟩ = some v3 ∧ W.cell? ⟨b, 4, none⟩ = some v4 ∧ W.cell? ⟨b, 5, none⟩ = some v5 ∧ W.cell? ⟨b, 6, none⟩ = some v6 ∧ W.cell? ⟨b, 7, none⟩ = some v7 ∧ W.cell? ⟨b, 8, none⟩ = some v8 := by
  simp only [Lib.cell_of_heap h]
  exact ⟨rfl, rfl, rfl, rfl, rfl, rfl, rfl, rfl, rfl⟩
theorem wr9k {W : World} {b : Nat} {T : TypeId} {v0 v1 v2 v3 v4 v5 v6 v7 v8 : Value} (h : W.heap[b]? = some (.cells #[v0, v1, v2, v3, v4, v5, v6, v7, v8] T)) :
    W.frozen? ⟨b, 0, none⟩ = false ∧ W.frozen? ⟨b, 1, none⟩ = false ∧ W.frozen? ⟨b, 2, none⟩ = false ∧ W.frozen? ⟨b, 3, none⟩ = false ∧ W.frozen? ⟨b, 4, none⟩ = false ∧ W.frozen? ⟨b, 5, none⟩ = false ∧ W.frozen? ⟨b, 6, none⟩ = false ∧ W.frozen? ⟨b, 7, none⟩ = false ∧ W.frozen? ⟨b, 8, none⟩ = false :=
  ⟨Lib.frozen_of_heap h 0, Lib.frozen_of_heap h 1, Lib.frozen_of_heap h 2, Lib.frozen_of_heap h 3, Lib.frozen_of_heap h 4, Lib.frozen_of_heap h 5, Lib.frozen_of_heap h 6, Lib.frozen_of_heap h 7, Lib.frozen_of_heap h 8⟩
theorem set9k {W : World} {b : Nat} {T : TypeId} {u0 u1 u2 u3 u4 u5 u6 u7 u8 v0 v1 v2 v3 v4 v5 v6 v7 v8 : Value} (h : W.heap[b]? = some (.cells #[u0, u1, u2, u3, u4, u5, u6, u7, u8] T)) :
    ∃ W9, ((((((((W.setCell ⟨b, 0, none⟩ v0).setCell ⟨b, 1, none⟩ v1).setCell ⟨b, 2, none⟩ v2).setCell ⟨b, 3, none⟩ v3).setCell ⟨b, 4, none⟩ v4).setCell ⟨b, 5, none⟩ v5).setCell ⟨b, 6, none⟩ v6).setCell ⟨b, 7, none⟩ v7).setCell ⟨b, 8, none⟩ v8 = W9 ∧ W9.heap[b]? = some (.cells #[v0, v1, v2, v3, v4, v5, v6, v7, v8] T) ∧ Chg (fun g => g = b) W W9 := by
  have h0 := (heap_setCell_same _ b 0 _ _ v0 h).trans (by simp; rfl)
  have h1 := (heap_setCell_same _ b 1 _ _ v1 h0).trans (by simp; rfl)
  have h2 := (heap_setCell_same _ b 2 _ _ v2 h1).trans (by simp; rfl)
  have h3 := (heap_setCell_same _ b 3 _ _ v3 h2).trans (by simp; rfl)
  have h4 := (heap_setCell_same _ b 4 _ _ v4 h3).trans (by simp; rfl)
  have h5 := (heap_setCell_same _ b 5 _ _ v5 h4).trans (by simp; rfl)
  have h6 := (heap_setCell_same _ b 6 _ _ v6 h5).trans (by simp; rfl)
  have h7 := (heap_setCell_same _ b 7 _ _ v7 h6).trans (by simp; rfl)
  have h8 := (heap_setCell_same _ b 8 _ _ v8 h7).trans (by simp; rfl)
  have hs : ∀ (i : Nat) (W : World) (u : Value), Chg (fun g => g = b) W (W.setCell ⟨b, i, none⟩ u) := fun i W u => Chg.set (D := fun g => g = b) (q := b) i W u rfl
  exact ⟨_, rfl, h8, (((((((((hs 0 _ _)).trans (hs 1 _ _)).trans (hs 2 _ _)).trans (hs 3 _ _)).trans (hs 4 _ _)).trans (hs 5 _ _)).trans (hs 6 _ _)).trans (hs 7 _ _)).trans (hs 8 _ _)⟩
set_option maxHeartbeats 1000000 in
theorem cloneRng_any {w : World} {a : Option Addr} {n cap : Nat} {L : List (Int × Int)} (hw : Rw idV 2 w a n cap L) (hn : n ≤ 1048576) :
    Calls Tryd.prog 84 #[.slice a n cap] w fun e w' => ∃ a' cap', e = .returned (.slice a' n cap') ∧ OwnF idV 2 132 w' w.heap.size (.slice a' n cap') L ∧ Below w.heap.size w w' := by
  have hl := hw.len
  cases a with
  | none =>
    obtain rfl : n = 0 := by
      rcases Nat.eq_zero_or_pos n with h | h
      · exact h
      · obtain ⟨g, off, e, _⟩ := hw.cells h; cases e
    obtain rfl : L = [] := List.eq_nil_of_length_eq_zero hl
    have en := fun w => run_eql_slice_nil none 0 cap Tryd.underlying68 w
    simp only [Option.isNone_none] at en
    clear hw
    go_enter Tryd.func84, Tryd.ntmps84
    go_wp2_with fail
    go_ret
    exact ⟨none, 0, rfl, ownF_nil _ _, Below.refl _ _⟩
  | some ad =>
    have hb0 : Below w.heap.size w (w.alloc (.cells #[] 132)) := (Below.refl _ _).alloc (Nat.le_refl _) _
    have ho0 : OwnF idV 2 132 (w.alloc (.cells #[] 132)) w.heap.size (.slice (some ⟨w.heap.size, 0, none⟩) 0 0) [] := ⟨rfl, .inr ⟨w.heap.size, 0, #[], rfl, Nat.le_refl _, heap_alloc_new _ _, Nat.le_refl _, by decide, rfl, rfl⟩⟩
    obtain ⟨a', cap', w', hr, ho, hb, _⟩ := appendI_all kindRk layI ho0 (by simp) (hw.below hb0) (by simp; omega) (by simp; omega) 68
    simp only [List.length_nil, List.nil_append, Nat.zero_add] at hr ho
    have hB := hb0.trans hb
    have en := fun w => run_eql_slice_nil (some ad) n cap Tryd.underlying68 w
    simp only [Option.isNone_some] at en
    clear ho0 hb hw
    go_enter Tryd.func84, Tryd.ntmps84
    go_wp2_with (at_builtin; refine wpList_append_hr rfl _ _ 68 rfl _ _ rfl rfl hr ?_)
    go_ret
    exact ⟨_, _, rfl, ho, hB⟩

/-- The effect of turning: an operation of that kind with these places. -/
def effV (k : Int) (v : Value) : Value := .agg #[.int .i64 0, .int .i64 0, .int .i64 k, .int .i64 0, .string ⟨#[]⟩, v, .int .i64 0, .int .i64 0, .bool false]
def turnK (kind : Int) (on : Bool) : Int := if on = (kind == 1) then 3 else 2
set_option maxHeartbeats 4000000 in
theorem turning_any {w : World} {h r : Nat} {oa na : Option Addr} {on oc nn nc : Nat} {tot : Int} {M : List ((Int × Int) × Int)} {E : List HE} (H : HisR w h r oa on oc na nn nc tot M E) {i : Nat} {e : HE} (he : E[i]? = some e) (hp : Rw idV 2 w e.pa e.pn e.pc e.pl) (hpn : e.pn ≤ 1048576) (fl : Bool) :
    Calls Tryd.prog 63 #[.pointer (some ⟨h, 0, none⟩), .int .i64 i, .bool fl] w fun e' w' => (∃ a' c', e' = .returned (effV (turnK e.kind fl) (.slice a' e.pn c')) ∧ OwnF idV 2 132 w' w.heap.size (.slice a' e.pn c') e.pl) ∧ Below w.heap.size w w' := by
  have hil : i < E.length := (List.getElem?_eq_some_iff.1 he).1
  have hfew := H.few
  obtain ⟨w1, hw1⟩ : ∃ w1, w.alloc (.cells #[.int .i64 0, .int .i64 0, .int .i64 0, .int .i64 0, .string ⟨#[]⟩, .slice none 0 0, .int .i64 0, .int .i64 0, .bool false] 70) = w1 := ⟨_, rfl⟩
  have k1 : Below w.heap.size w w1 := by rw [← hw1]; exact (Below.refl _ _).alloc (Nat.le_refl _) _
  have hz1 : w1.heap[w.heap.size]? = some (.cells #[.int .i64 0, .int .i64 0, .int .i64 0, .int .i64 0, .string ⟨#[]⟩, .slice none 0 0, .int .i64 0, .int .i64 0, .bool false] 70) := by rw [← hw1]; exact heap_alloc_new _ _
  have hlz := (Array.getElem?_eq_some_iff.1 hz1).1
  have H1 := H.below k1
  obtain ⟨g, off, rfl, hg, hck⟩ := H1.ops i e he
  obtain ⟨g2, off2, rfl, hg2, hon, hpc⟩ := H1.now i e he
  obtain ⟨b0, b1, b2, b3⟩ := box4 H1.hb.box
  have hlo := H1.len1
  have hln := H1.len2
  subst hlo
  subst hln
  have i0 : (0 : Int) ≤ (i : Int) := by omega
  have i1 : (i : Int) < (E.length : Int) := by omega
  have HC := cloneRng_any (hp.below k1) hpn
  obtain ⟨kd, hkd⟩ : ∃ kd, turnK e.kind fl = kd := ⟨_, rfl⟩
  rw [hkd]
  unfold turnK at hkd
  have hs1 := k1.size
  go_enter Tryd.func63, Tryd.ntmps63
  by_cases ht : fl = (e.kind == 1)
  · rw [if_pos ht] at hkd
    subst hkd
    have t1 : (fl == (e.kind == 1)) = true := by rw [ht]; simp
    clear ht
    go_wp2_with fail
    refine HC.mono ?_
    rintro e' w2 ⟨a2, c2, rfl, ho2, hb2⟩
    have hB2 : Below w.heap.size w w2 := k1.trans (hb2.mono hs1)
    have hz2 := (hb2.block _ hlz).trans hz1
    obtain ⟨z0, z1, z2, z3, z4, z5, z6, z7, z8⟩ := box9k hz2
    obtain ⟨f0, f1, f2, f3, f4, f5, f6, f7, f8⟩ := wr9k hz2
    obtain ⟨W9, e9, hx9, hK9⟩ := set9k (v0 := (.int .i64 0)) (v1 := (.int .i64 0)) (v2 := (.int .i64 3)) (v3 := (.int .i64 0)) (v4 := (.string ⟨#[]⟩)) (v5 := (.slice a2 e.pn c2)) (v6 := (.int .i64 0)) (v7 := (.int .i64 0)) (v8 := (.bool false)) hz2
    clear HC hb2 hz2 hon hck hpc
    go_wp2_with fail
    try rw [e9]
    obtain ⟨r0, r1, r2, r3, r4, r5, r6, r7, r8⟩ := box9k hx9
    refine bodyPost_ret (v := effV 3 (.slice a2 e.pn c2)) (by simp [results, Tryd.results63, go_sem, effV, r0, r1, r2, r3, r4, r5, r6, r7, r8]) rfl ?_
    exact ⟨⟨a2, c2, rfl, hK9.own (ho2.mono hs1) (fun q hq e => by have := ho2.ge hq; omega)⟩, hB2.trans (hK9.below (fun g hg => by omega) hB2.size)⟩
  · rw [if_neg ht] at hkd
    subst hkd
    have t1 : (fl == (e.kind == 1)) = false := beq_eq_false_iff_ne.2 ht
    clear ht
    go_wp2_with fail
    refine HC.mono ?_
    rintro e' w2 ⟨a2, c2, rfl, ho2, hb2⟩
    have hB2 : Below w.heap.size w w2 := k1.trans (hb2.mono hs1)
    have hz2 := (hb2.block _ hlz).trans hz1
    obtain ⟨z0, z1, z2, z3, z4, z5, z6, z7, z8⟩ := box9k hz2
    obtain ⟨f0, f1, f2, f3, f4, f5, f6, f7, f8⟩ := wr9k hz2
    obtain ⟨W9, e9, hx9, hK9⟩ := set9k (v0 := (.int .i64 0)) (v1 := (.int .i64 0)) (v2 := (.int .i64 2)) (v3 := (.int .i64 0)) (v4 := (.string ⟨#[]⟩)) (v5 := (.slice a2 e.pn c2)) (v6 := (.int .i64 0)) (v7 := (.int .i64 0)) (v8 := (.bool false)) hz2
    clear HC hb2 hz2 hon hck hpc
    go_wp2_with fail
    try rw [e9]
    obtain ⟨r0, r1, r2, r3, r4, r5, r6, r7, r8⟩ := box9k hx9
    refine bodyPost_ret (v := effV 2 (.slice a2 e.pn c2)) (by simp [results, Tryd.results63, go_sem, effV, r0, r1, r2, r3, r4, r5, r6, r7, r8]) rfl ?_
    exact ⟨⟨a2, c2, rfl, hK9.own (ho2.mono hs1) (fun q hq e => by have := ho2.ge hq; omega)⟩, hB2.trans (hK9.below (fun g hg => by omega) hB2.size)⟩

end Go.Proofs.YtokkodkhkpgebaaDoor
