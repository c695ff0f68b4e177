import Derived.Test.YtokkodkhkpgebaaDoorKbE
/-! Effect; the closure of flagged. -/
namespace Go.Proofs.YtokkodkhkpgebaaDoor
open Go.RowKit Go.Lib
set_option maxRecDepth 100000

def PlsOk (w : World) (E : List HE) : Prop := ∀ e ∈ E, Rw idV 2 w e.pa e.pn e.pc e.pl ∧ e.pn ≤ 1048576
theorem PlsOk.below {w w' : World} {E : List HE} (h : PlsOk w E) (hb : Below w.heap.size w w') : PlsOk w' E := fun e he => ⟨(h e he).1.below hb, (h e he).2⟩
/-- The history has an edit of this id, and its flag is b. -/
def OnAt (E : List HE) (x : Int × Int) (b : Bool) : Prop := ∃ i e, E.findIdx? (fun e => e.id == x) = some i ∧ E[i]? = some e ∧ ¬ e.kind = 4 ∧ e.on = b
set_option maxHeartbeats 4000000 in
theorem effect_any {w : World} {h r : Nat} {oa na : Option Addr} {on oc nn nc : Nat} {tot : Int} {M : List ((Int × Int) × Int)} {E : List HE} (H : HisR w h r oa on oc na nn nc tot M E) (HP : PlsOk w E) (x : Int × Int) (fl : Bool) :
    Calls Tryd.prog 42 #[.pointer (some ⟨h, 0, none⟩), idA x, .bool fl] w fun e' w' => (∃ k pa pn pc c, e' = .returned (.tuple #[effV k (.slice pa pn pc), .int .i64 c]) ∧ (c = 0 ↔ OnAt E x (!fl))) ∧ Below w.heap.size w w' := by
  obtain ⟨x1, x2⟩ := x
  have hfew := H.few
  obtain ⟨w0, hw0⟩ : ∃ w0, w.alloc (.cells #[.int .i64 x1, .int .i64 x2] 23) = w0 := ⟨_, rfl⟩
  have k0 : Below w.heap.size w w0 := by rw [← hw0]; exact (Below.refl _ _).alloc (Nat.le_refl _) _
  have hsz0 : w0.heap.size = w.heap.size + 1 := by rw [← hw0]; simp
  have hq0 : w0.heap[w.heap.size]? = some (.cells #[.int .i64 x1, .int .i64 x2] 23) := by rw [← hw0]; exact heap_alloc_new _ _
  obtain ⟨w1, hw1⟩ : ∃ w1, w0.alloc (.cells #[.int .i64 0, .int .i64 0, .int .i64 0, .int .i64 0, .string ⟨#[]⟩, .slice none 0 0, .int .i64 0, .int .i64 0, .bool false] 70) = w1 := ⟨_, rfl⟩
  have k01 : Below w0.heap.size w0 w1 := by rw [← hw1]; exact (Below.refl _ _).alloc (Nat.le_refl _) _
  have hz1 : w1.heap[w.heap.size + 1]? = some (.cells #[.int .i64 0, .int .i64 0, .int .i64 0, .int .i64 0, .string ⟨#[]⟩, .slice none 0 0, .int .i64 0, .int .i64 0, .bool false] 70) := by rw [← hw1, ← hsz0]; exact heap_alloc_new _ _
  have k1 : Below w.heap.size w w1 := k0.trans (k01.mono (by omega))
  have hq := (k01.block _ (by omega)).trans hq0
  obtain ⟨q0, q1⟩ := box2 hq
  have hlz := (Array.getElem?_eq_some_iff.1 hz1).1
  have H1 := H.below k1
  have HP1 := HP.below k1
  have HFE := findEdit_any H1 (x1, x2)
  have hs1 := k1.size
  simp only [idA] at HFE ⊢
  clear hq0 k01 hq
  go_enter Tryd.func42, Tryd.ntmps42
  go_wp2_with fail
  refine HFE.mono ?_
  rintro e' w2 ⟨⟨p, hE, rfl⟩, hb2⟩
  have hB2 : Below w.heap.size w w2 := k1.trans (hb2.mono hs1)
  have hz2 := (hb2.block _ hlz).trans hz1
  obtain ⟨z0, z1, z2, z3, z4, z5, z6, z7, z8⟩ := box9k hz2
  obtain ⟨f0, f1, f2, f3, f4, f5, f6, f7, f8⟩ := wr9k hz2
  have H2 := H1.below hb2
  clear HFE
  cases hE with
  | none hn =>
    have hno : ¬ OnAt E (x1, x2) (!fl) := fun ⟨i, e, h1, _⟩ => by rw [hn] at h1; cases h1
    simp only
    obtain ⟨W9, e9, hx9, hK9⟩ := set9k (v0 := (.int .i64 0)) (v1 := (.int .i64 0)) (v2 := (.int .i64 0)) (v3 := (.int .i64 0)) (v4 := (.string ⟨#[]⟩)) (v5 := (.slice none 0 0)) (v6 := (.int .i64 0)) (v7 := (.int .i64 0)) (v8 := (.bool false)) hz2
    go_wp2_with fail
    try rw [e9]
    obtain ⟨r0, r1, r2, r3, r4, r5, r6, r7, r8⟩ := box9k hx9
    refine bodyPost_ret (v := .tuple #[effV 0 (.slice none 0 0), .int .i64 60]) (by simp [results, Tryd.results42, go_sem, effV, r0, r1, r2, r3, r4, r5, r6, r7, r8]) rfl ?_
    exact ⟨⟨_, _, _, _, _, rfl, by simp [hno]⟩, hB2.trans (hK9.below (fun g hg => by omega) hB2.size)⟩
  | status i e hi he hk =>
    have hno : ¬ OnAt E (x1, x2) (!fl) := fun ⟨i', e', h1, h2, h3, _⟩ => by
      rw [hi] at h1; cases h1
      rw [he] at h2; cases h2
      exact h3 hk
    simp only
    obtain ⟨W9, e9, hx9, hK9⟩ := set9k (v0 := (.int .i64 0)) (v1 := (.int .i64 0)) (v2 := (.int .i64 0)) (v3 := (.int .i64 0)) (v4 := (.string ⟨#[]⟩)) (v5 := (.slice none 0 0)) (v6 := (.int .i64 0)) (v7 := (.int .i64 0)) (v8 := (.bool false)) hz2
    go_wp2_with fail
    try rw [e9]
    obtain ⟨r0, r1, r2, r3, r4, r5, r6, r7, r8⟩ := box9k hx9
    refine bodyPost_ret (v := .tuple #[effV 0 (.slice none 0 0), .int .i64 63]) (by simp [results, Tryd.results42, go_sem, effV, r0, r1, r2, r3, r4, r5, r6, r7, r8]) rfl ?_
    exact ⟨⟨_, _, _, _, _, rfl, by simp [hno]⟩, hB2.trans (hK9.below (fun g hg => by omega) hB2.size)⟩
  | edit i e hi he hk =>
    have hil : i < E.length := (List.getElem?_eq_some_iff.1 he).1
    have hoi : OnAt E (x1, x2) (!fl) ↔ e.on = !fl := ⟨fun ⟨i', e', h1, h2, _, h4⟩ => by
      rw [hi] at h1; cases h1
      rw [he] at h2; cases h2
      exact h4, fun h4 => ⟨i, e, hi, he, hk, h4⟩⟩
    obtain ⟨g2, off2, rfl, hg2, hon, hpc⟩ := H2.now i e he
    obtain ⟨b0, b1, b2, b3⟩ := box4 H2.hb.box
    have hln := H2.len2
    subst hln
    have i0 : (0 : Int) ≤ (i : Int) := by omega
    have i1 : (i : Int) < (E.length : Int) := by omega
    simp only
    by_cases hfl : e.on = fl
    · have t1 : (e.on == fl) = true := by simp [hfl]
      have hno : ¬ OnAt E (x1, x2) (!fl) := by rw [hoi, hfl]; cases fl <;> simp
      clear hpc
      obtain ⟨W9, e9, hx9, hK9⟩ := set9k (v0 := (.int .i64 0)) (v1 := (.int .i64 0)) (v2 := (.int .i64 0)) (v3 := (.int .i64 0)) (v4 := (.string ⟨#[]⟩)) (v5 := (.slice none 0 0)) (v6 := (.int .i64 0)) (v7 := (.int .i64 0)) (v8 := (.bool false)) hz2
      go_wp2_with fail
      try rw [e9]
      obtain ⟨r0, r1, r2, r3, r4, r5, r6, r7, r8⟩ := box9k hx9
      refine bodyPost_ret (v := .tuple #[effV 0 (.slice none 0 0), .int .i64 62]) (by simp [results, Tryd.results42, go_sem, effV, r0, r1, r2, r3, r4, r5, r6, r7, r8]) rfl ?_
      exact ⟨⟨_, _, _, _, _, rfl, by simp [hno]⟩, hB2.trans (hK9.below (fun g hg => by omega) hB2.size)⟩
    · have t1 : (e.on == fl) = false := beq_eq_false_iff_ne.2 hfl
      have hyes : OnAt E (x1, x2) (!fl) := by rw [hoi]; revert hfl; cases e.on <;> cases fl <;> simp
      have HT := turning_any H2 he ((HP1.below hb2) e (List.mem_of_getElem? he)).1 ((HP1.below hb2) e (List.mem_of_getElem? he)).2 fl
      clear hpc
      go_wp2_with fail
      refine HT.mono ?_
      rintro e' w3 ⟨⟨a3, c3, rfl, _⟩, hb3⟩
      have hB3 : Below w.heap.size w w3 := hB2.trans (hb3.mono hB2.size)
      have hl2 := (Array.getElem?_eq_some_iff.1 hz2).1
      have hz3 := (hb3.block _ hl2).trans hz2
      clear hz2 hB2 HT z0 z1 z2 z3 z4 z5 z6 z7 z8 f0 f1 f2 f3 f4 f5 f6 f7 f8
      have hz2 := hz3
      have hB2 := hB3
      clear hz3 hB3
      obtain ⟨z0, z1, z2, z3, z4, z5, z6, z7, z8⟩ := box9k hz2
      obtain ⟨f0, f1, f2, f3, f4, f5, f6, f7, f8⟩ := wr9k hz2
      generalize turnK e.kind fl = kd
      simp only [effV]
      obtain ⟨W9, e9, hx9, hK9⟩ := set9k (v0 := (.int .i64 0)) (v1 := (.int .i64 0)) (v2 := (.int .i64 kd)) (v3 := (.int .i64 0)) (v4 := (.string ⟨#[]⟩)) (v5 := (.slice a3 e.pn c3)) (v6 := (.int .i64 0)) (v7 := (.int .i64 0)) (v8 := (.bool false)) hz2
      go_wp2_with fail
      try rw [e9]
      obtain ⟨r0, r1, r2, r3, r4, r5, r6, r7, r8⟩ := box9k hx9
      refine bodyPost_ret (v := .tuple #[effV kd (.slice a3 e.pn c3), .int .i64 0]) (by simp [results, Tryd.results42, go_sem, effV, r0, r1, r2, r3, r4, r5, r6, r7, r8]) rfl ?_
      exact ⟨⟨_, _, _, _, _, rfl, by simp [hyes]⟩, hB2.trans (hK9.below (fun g hg => by omega) hB2.size)⟩
end Go.Proofs.YtokkodkhkpgebaaDoor
