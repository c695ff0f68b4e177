import Derived.Test.YtlebbffpbbjakaaDoorXbI
import Derived.Test.YtlebbffpbbjakaaDoorXbR
namespace Go.Proofs.YtlebbffpbbjakaaDoor
open Go.RowKit Go.Lib
set_option maxRecDepth 100000

/-- What is answered: the operation in memory of its own, and the error. -/
def Ans (w : World) (q : OpV × Int) (e : Ending) (w' : World) : Prop :=
  ∃ va vm vc, e = .returned (.tuple #[opVal q.1 (.slice va vm vc), .int .i64 q.2]) ∧ OwnF rangeV 2 85 w' w.heap.size (.slice va vm vc) q.1.l ∧ Below w.heap.size w w'

def xInclude (o o2 : OpV) (ear : Bool) : OpV × Int := if firstErr [o, o2] ≠ 0 then (op0, firstErr [o, o2]) else inclP o o2 ear
set_option maxHeartbeats 8000000 in
theorem Include_any {o o2 : OpV} {ear : Bool} {a : Option Addr} {m cap : Nat} {b : Option Addr} {m2 cap2 : Nat} {w : World} (hR : Sp.Rng w a m cap o.l) (hR2 : Sp.Rng w b m2 cap2 o2.l) (hs1 : o.s.size ≤ 281474976710656) (hs : o2.s.size ≤ 281474976710656) (hw : Bar w) :
    Calls Tryd.prog 20 #[opVal o (.slice a m cap), opVal o2 (.slice b m2 cap2), .bool ear] w fun e w' => Ans w (xInclude o o2 ear) e w' := by
  have HE : Hid (∀ (W : World) (g : Nat), Below w.heap.size w W → W.heap[g]? = some (.cells (opF (o, (a, m, cap)) ++ opF (o2, (b, m2, cap2))).toArray 42) → Calls Tryd.prog 33 #[.slice (some ⟨g, 0, none⟩) 2 2] W fun e w' => e = .returned (.int .i64 (firstErr [o, o2])) ∧ Below W.heap.size W w') := fun W g hb hg => ownErrors_any (L := [(o, (a, m, cap)), (o2, (b, m2, cap2))]) (two_ops hg) (fun x hx => by
    simp at hx
    rcases hx with rfl | rfl
    · exact ⟨hR.below hb, by simp only; omega⟩
    · exact ⟨hR2.below hb, by simp only; omega⟩) (hw.below hb)
  have HI : Hid (firstErr [o, o2] = 0 → ∀ (W : World), Below w.heap.size w W → Calls Tryd.prog 42 #[opVal o (.slice a m cap), opVal o2 (.slice b m2 cap2), .bool ear] W fun e w' => ∃ va vm vc, e = .returned (.tuple #[opVal (inclP o o2 ear).1 (.slice va vm vc), .int .i64 (inclP o o2 ear).2]) ∧ Sp.Rng w' va vm vc (inclP o o2 ear).1.l ∧ Below W.heap.size W w') := fun h0 W hb => by
    refine (included_any (hR.below hb) (by omega) (by omega) (hw.below hb) (right_of (first2 h0).1) (right_of (first2 h0).2)).mono ?_
    rintro e w1 ⟨va, vm, vc, rfl, hS, hb1⟩
    obtain ⟨xa, xm, xc, hx, hr⟩ := hS.rd ⟨_, _, _, rfl, hR.below hb⟩ hb1
    cases hx
    exact ⟨_, _, _, rfl, hr, hb1⟩
  have HA : Hid (firstErr [o, o2] = 0 → ∀ (W : World) (va : Option Addr) (vm vc : Nat), Sp.Rng W va vm vc (inclP o o2 ear).1.l → Calls Tryd.prog 45 #[opVal (inclP o o2 ear).1 (.slice va vm vc), .int .i64 (inclP o o2 ear).2] W fun e w' => ∃ ya yc, e = .returned (.tuple #[opVal (inclP o o2 ear).1 (.slice ya vm yc), .int .i64 (inclP o o2 ear).2]) ∧ OwnF rangeV 2 85 w' W.heap.size (.slice ya vm yc) (inclP o o2 ear).1.l ∧ Below W.heap.size W w') := fun h0 W va vm vc hr =>
    apart_any hr (by have h1 := hr.len; have h2 := inclP_few ear (o2 := o2) (right_of (first2 h0).1); omega) (by have := inclP_s o o2 ear; omega)
  obtain ⟨q, hq⟩ : ∃ q, xInclude o o2 ear = q := ⟨_, rfl⟩
  rw [hq]
  unfold xInclude at hq
  generalize firstErr [o, o2] = z at *
  generalize inclP o o2 ear = tq at *
  simp only [opF, List.cons_append, List.nil_append] at HE
  clear hR hR2 hs hs1 hw
  obtain ⟨⟨c3, n3, k3, p3, s3, l3, tc3, tn3, on3⟩, e3⟩ := tq
  unfold Ans
  obtain ⟨c, n, k, p, s, l, tc, tn, on⟩ := o
  obtain ⟨c2, n2, k2, p2, s2, l2, tc2, tn2, on2⟩ := o2
  simp only [opVal] at *
  obtain ⟨W0, hW0⟩ : ∃ W0, ((w.alloc (Obj.cells #[.int .i64 c, .int .i64 n, .int .i64 k, .int .i64 p, .string s, .slice a m cap, .int .i64 tc, .int .i64 tn, .bool on] 42)).alloc (Obj.cells #[.int .i64 c2, .int .i64 n2, .int .i64 k2, .int .i64 p2, .string s2, .slice b m2 cap2, .int .i64 tc2, .int .i64 tn2, .bool on2] 42)).alloc (Obj.cells #[.int .i64 0, .int .i64 0, .int .i64 0, .int .i64 0, .string ⟨#[]⟩, .slice none 0 0, .int .i64 0, .int .i64 0, .bool false] 42) = W0 := ⟨_, rfl⟩
  have hX : W0.heap[w.heap.size]? = some (Obj.cells #[.int .i64 c, .int .i64 n, .int .i64 k, .int .i64 p, .string s, .slice a m cap, .int .i64 tc, .int .i64 tn, .bool on] 42) := by rw [← hW0]; exact (Below.heap_alloc _ _ _ (by simp; omega)).trans ((Below.heap_alloc _ _ _ (by simp)).trans (alloc_last _ _ _ rfl))
  have hY : W0.heap[w.heap.size + 1]? = some (Obj.cells #[.int .i64 c2, .int .i64 n2, .int .i64 k2, .int .i64 p2, .string s2, .slice b m2 cap2, .int .i64 tc2, .int .i64 tn2, .bool on2] 42) := by rw [← hW0]; exact (Below.heap_alloc _ _ _ (by simp)).trans (alloc_last _ _ _ (by simp))
  have hZ : W0.heap[w.heap.size + 2]? = some (Obj.cells #[.int .i64 0, .int .i64 0, .int .i64 0, .int .i64 0, .string ⟨#[]⟩, .slice none 0 0, .int .i64 0, .int .i64 0, .bool false] 42) := by rw [← hW0]; exact alloc_last _ _ _ (by simp)
  have hB0 : Below w.heap.size w W0 := by rw [← hW0]; exact (((Below.refl w.heap.size w).alloc (Nat.le_refl _) _).alloc (by simp) _).alloc (by simp; omega) _
  have alt : w.heap.size < W0.heap.size := (Array.getElem?_eq_some_iff.1 hX).1
  have blt : w.heap.size + 1 < W0.heap.size := (Array.getElem?_eq_some_iff.1 hY).1
  have zlt : w.heap.size + 2 < W0.heap.size := (Array.getElem?_eq_some_iff.1 hZ).1
  obtain ⟨ak0, ak1, ak2, ak3, ak4, ak5, ak6, ak7, ak8⟩ := box9 hX
  obtain ⟨bk0, bk1, bk2, bk3, bk4, bk5, bk6, bk7, bk8⟩ := box9 hY
  obtain ⟨W1, hW1⟩ : ∃ W1, W0.alloc (Obj.cells #[.int .i64 c, .int .i64 n, .int .i64 k, .int .i64 p, .string s, .slice a m cap, .int .i64 tc, .int .i64 tn, .bool on, .int .i64 c2, .int .i64 n2, .int .i64 k2, .int .i64 p2, .string s2, .slice b m2 cap2, .int .i64 tc2, .int .i64 tn2, .bool on2] 42) = W1 := ⟨_, rfl⟩
  have hT : W1.heap[W0.heap.size]? = some (Obj.cells #[.int .i64 c, .int .i64 n, .int .i64 k, .int .i64 p, .string s, .slice a m cap, .int .i64 tc, .int .i64 tn, .bool on, .int .i64 c2, .int .i64 n2, .int .i64 k2, .int .i64 p2, .string s2, .slice b m2 cap2, .int .i64 tc2, .int .i64 tn2, .bool on2] 42) := by rw [← hW1]; exact alloc_last _ _ _ rfl
  have h01 : Below W0.heap.size W0 W1 := by rw [← hW1]; exact (Below.refl _ _).alloc (Nat.le_refl _) _
  go_enter Tryd.func20, Tryd.ntmps20
  go_wp2_with fail
  refine (HE.out W1 _ (hB0.trans (h01.mono hB0.size)) hT).mono ?_
  rintro e w1 ⟨rfl, hcur1⟩
  have hcur : Below W0.heap.size W0 w1 := h01.trans (hcur1.mono h01.size)
  have hB1 := hB0.trans (hcur.mono hB0.size)
  have hX1 := (hcur.block _ alt).trans hX
  have hY1 := (hcur.block _ blt).trans hY
  have hZ1 := (hcur.block _ zlt).trans hZ
  clear HE hcur1 hT h01 hcur hX hY hZ hB0 alt blt zlt hW0 hW1 ak0 ak1 ak2 ak3 ak4 ak5 ak6 ak7 ak8 bk0 bk1 bk2 bk3 bk4 bk5 bk6 bk7 bk8
  obtain ⟨ak0, ak1, ak2, ak3, ak4, ak5, ak6, ak7, ak8⟩ := box9 hX1
  obtain ⟨bk0, bk1, bk2, bk3, bk4, bk5, bk6, bk7, bk8⟩ := box9 hY1
  by_cases hz : z = 0
  · subst hz
    rw [if_neg (by simp)] at hq
    subst hq
    have HI2 := HI.out rfl w1 hB1
    have HA2 := HA.out rfl
    clear HI HA
    go_wp2_with fail
    refine HI2.mono ?_
    rintro e w2 ⟨va, vm, vc, rfl, hRd, hb2⟩
    have hB2 := hB1.trans (hb2.mono hB1.size)
    have hZ2 := (hb2.block _ (Array.getElem?_eq_some_iff.1 hZ1).1).trans hZ1
    have zlt : w.heap.size + 2 < w2.heap.size := (Array.getElem?_eq_some_iff.1 hZ2).1
    have HA3 := HA2 w2 va vm vc hRd
    clear HA2 hRd hb2 hB1 hZ1 hX1 hY1 HI2 ak0 ak1 ak2 ak3 ak4 ak5 ak6 ak7 ak8 bk0 bk1 bk2 bk3 bk4 bk5 bk6 bk7 bk8
    go_wp2_with fail
    refine HA3.mono ?_
    rintro e w3 ⟨ya, yc, rfl, hO, hb3⟩
    have hB3 := hB2.trans (hb3.mono hB2.size)
    have hZ3 := (hb3.block _ zlt).trans hZ2
    have HO : Hid (OwnF rangeV 2 85 w3 w2.heap.size (.slice ya vm yc) l3) := hO
    clear hO HA3 hb3 hB2 hZ2
    obtain ⟨W9, e9, hx9, hB9, hK9⟩ := store9 hZ3 hB3 (by omega) (.int .i64 c3) (.int .i64 n3) (.int .i64 k3) (.int .i64 p3) (.string s3) (.slice ya vm yc) (.int .i64 tc3) (.int .i64 tn3) (.bool on3)
    obtain ⟨d0, d1, d2, d3, d4, d5, d6, d7, d8⟩ := box9 hZ3
    obtain ⟨dz0, dz1, dz2, dz3, dz4, dz5, dz6, dz7, dz8⟩ := wr9 hZ3
    obtain ⟨r0, r1, r2, r3, r4, r5, r6, r7, r8⟩ := box9 hx9
    go_wp2_with fail
    try rw [e9]
    refine bodyPost_ret (v := .tuple #[.agg #[.int .i64 c3, .int .i64 n3, .int .i64 k3, .int .i64 p3, .string s3, .slice ya vm yc, .int .i64 tc3, .int .i64 tn3, .bool on3], .int .i64 e3]) (by simp [results, Tryd.results20, go_sem, r0, r1, r2, r3, r4, r5, r6, r7, r8]) rfl ⟨ya, vm, yc, rfl, (hK9.own HO.out zlt).mono (by omega), hB9⟩

  · rw [if_pos hz] at hq
    subst hq
    have t1 : (z == 0) = false := beq_eq_false_iff_ne.2 hz
    clear HI HA hz
    obtain ⟨W9, e9, hx9, hB9, hK9⟩ := store9 hZ1 hB1 (by omega) (.int .i64 0) (.int .i64 0) (.int .i64 0) (.int .i64 0) (.string ⟨#[]⟩) (.slice none 0 0) (.int .i64 0) (.int .i64 0) (.bool false)
    obtain ⟨d0, d1, d2, d3, d4, d5, d6, d7, d8⟩ := box9 hZ1
    obtain ⟨dz0, dz1, dz2, dz3, dz4, dz5, dz6, dz7, dz8⟩ := wr9 hZ1
    obtain ⟨r0, r1, r2, r3, r4, r5, r6, r7, r8⟩ := box9 hx9
    go_wp2_with fail
    try rw [e9]
    refine bodyPost_ret (v := .tuple #[.agg #[.int .i64 0, .int .i64 0, .int .i64 0, .int .i64 0, .string ⟨#[]⟩, .slice none 0 0, .int .i64 0, .int .i64 0, .bool false], .int .i64 z]) (by simp [results, Tryd.results20, go_sem, r0, r1, r2, r3, r4, r5, r6, r7, r8]) rfl ⟨none, 0, 0, rfl, ownF_nil _ _, hB9⟩

def xExclude (o o2 : OpV) : OpV × Int := if firstErr [o, o2] ≠ 0 then (op0, firstErr [o, o2]) else exclP o o2
set_option maxHeartbeats 8000000 in
theorem Exclude_any {o o2 : OpV} {a : Option Addr} {m cap : Nat} {b : Option Addr} {m2 cap2 : Nat} {w : World} (hR : Sp.Rng w a m cap o.l) (hR2 : Sp.Rng w b m2 cap2 o2.l) (hs1 : o.s.size ≤ 281474976710656) (hs : o2.s.size ≤ 281474976710656) (hw : Bar w) :
    Calls Tryd.prog 37 #[opVal o (.slice a m cap), opVal o2 (.slice b m2 cap2)] w fun e w' => Ans w (xExclude o o2) e w' := by
  have HE : Hid (∀ (W : World) (g : Nat), Below w.heap.size w W → W.heap[g]? = some (.cells (opF (o, (a, m, cap)) ++ opF (o2, (b, m2, cap2))).toArray 42) → Calls Tryd.prog 33 #[.slice (some ⟨g, 0, none⟩) 2 2] W fun e w' => e = .returned (.int .i64 (firstErr [o, o2])) ∧ Below W.heap.size W w') := fun W g hb hg => ownErrors_any (L := [(o, (a, m, cap)), (o2, (b, m2, cap2))]) (two_ops hg) (fun x hx => by
    simp at hx
    rcases hx with rfl | rfl
    · exact ⟨hR.below hb, by simp only; omega⟩
    · exact ⟨hR2.below hb, by simp only; omega⟩) (hw.below hb)
  have HI : Hid (firstErr [o, o2] = 0 → ∀ (W : World), Below w.heap.size w W → Calls Tryd.prog 53 #[opVal o (.slice a m cap), opVal o2 (.slice b m2 cap2)] W fun e w' => ∃ va vm vc, e = .returned (.tuple #[opVal (exclP o o2).1 (.slice va vm vc), .int .i64 (exclP o o2).2]) ∧ Sp.Rng w' va vm vc (exclP o o2).1.l ∧ Below W.heap.size W w') := fun h0 W hb => by
    refine (excluded_any (hR.below hb) (by omega) (hw.below hb) (right_of (first2 h0).1) (right_of (first2 h0).2)).mono ?_
    rintro e w1 ⟨va, vm, vc, rfl, hS, hb1⟩
    obtain ⟨xa, xm, xc, hx, hr⟩ := hS.rd ⟨_, _, _, rfl, hR.below hb⟩ hb1
    cases hx
    exact ⟨_, _, _, rfl, hr, hb1⟩
  have HA : Hid (firstErr [o, o2] = 0 → ∀ (W : World) (va : Option Addr) (vm vc : Nat), Sp.Rng W va vm vc (exclP o o2).1.l → Calls Tryd.prog 45 #[opVal (exclP o o2).1 (.slice va vm vc), .int .i64 (exclP o o2).2] W fun e w' => ∃ ya yc, e = .returned (.tuple #[opVal (exclP o o2).1 (.slice ya vm yc), .int .i64 (exclP o o2).2]) ∧ OwnF rangeV 2 85 w' W.heap.size (.slice ya vm yc) (exclP o o2).1.l ∧ Below W.heap.size W w') := fun h0 W va vm vc hr =>
    apart_any hr (by have h1 := hr.len; have h2 := exclP_few (o2 := o2) (right_of (first2 h0).1); omega) (by have := exclP_s o o2; omega)
  obtain ⟨q, hq⟩ : ∃ q, xExclude o o2 = q := ⟨_, rfl⟩
  rw [hq]
  unfold xExclude at hq
  generalize firstErr [o, o2] = z at *
  generalize exclP o o2 = tq at *
  simp only [opF, List.cons_append, List.nil_append] at HE
  clear hR hR2 hs hs1 hw
  obtain ⟨⟨c3, n3, k3, p3, s3, l3, tc3, tn3, on3⟩, e3⟩ := tq
  unfold Ans
  obtain ⟨c, n, k, p, s, l, tc, tn, on⟩ := o
  obtain ⟨c2, n2, k2, p2, s2, l2, tc2, tn2, on2⟩ := o2
  simp only [opVal] at *
  obtain ⟨W0, hW0⟩ : ∃ W0, ((w.alloc (Obj.cells #[.int .i64 c, .int .i64 n, .int .i64 k, .int .i64 p, .string s, .slice a m cap, .int .i64 tc, .int .i64 tn, .bool on] 42)).alloc (Obj.cells #[.int .i64 c2, .int .i64 n2, .int .i64 k2, .int .i64 p2, .string s2, .slice b m2 cap2, .int .i64 tc2, .int .i64 tn2, .bool on2] 42)).alloc (Obj.cells #[.int .i64 0, .int .i64 0, .int .i64 0, .int .i64 0, .string ⟨#[]⟩, .slice none 0 0, .int .i64 0, .int .i64 0, .bool false] 42) = W0 := ⟨_, rfl⟩
  have hX : W0.heap[w.heap.size]? = some (Obj.cells #[.int .i64 c, .int .i64 n, .int .i64 k, .int .i64 p, .string s, .slice a m cap, .int .i64 tc, .int .i64 tn, .bool on] 42) := by rw [← hW0]; exact (Below.heap_alloc _ _ _ (by simp; omega)).trans ((Below.heap_alloc _ _ _ (by simp)).trans (alloc_last _ _ _ rfl))
  have hY : W0.heap[w.heap.size + 1]? = some (Obj.cells #[.int .i64 c2, .int .i64 n2, .int .i64 k2, .int .i64 p2, .string s2, .slice b m2 cap2, .int .i64 tc2, .int .i64 tn2, .bool on2] 42) := by rw [← hW0]; exact (Below.heap_alloc _ _ _ (by simp)).trans (alloc_last _ _ _ (by simp))
  have hZ : W0.heap[w.heap.size + 2]? = some (Obj.cells #[.int .i64 0, .int .i64 0, .int .i64 0, .int .i64 0, .string ⟨#[]⟩, .slice none 0 0, .int .i64 0, .int .i64 0, .bool false] 42) := by rw [← hW0]; exact alloc_last _ _ _ (by simp)
  have hB0 : Below w.heap.size w W0 := by rw [← hW0]; exact (((Below.refl w.heap.size w).alloc (Nat.le_refl _) _).alloc (by simp) _).alloc (by simp; omega) _
  have alt : w.heap.size < W0.heap.size := (Array.getElem?_eq_some_iff.1 hX).1
  have blt : w.heap.size + 1 < W0.heap.size := (Array.getElem?_eq_some_iff.1 hY).1
  have zlt : w.heap.size + 2 < W0.heap.size := (Array.getElem?_eq_some_iff.1 hZ).1
  obtain ⟨ak0, ak1, ak2, ak3, ak4, ak5, ak6, ak7, ak8⟩ := box9 hX
  obtain ⟨bk0, bk1, bk2, bk3, bk4, bk5, bk6, bk7, bk8⟩ := box9 hY
  obtain ⟨W1, hW1⟩ : ∃ W1, W0.alloc (Obj.cells #[.int .i64 c, .int .i64 n, .int .i64 k, .int .i64 p, .string s, .slice a m cap, .int .i64 tc, .int .i64 tn, .bool on, .int .i64 c2, .int .i64 n2, .int .i64 k2, .int .i64 p2, .string s2, .slice b m2 cap2, .int .i64 tc2, .int .i64 tn2, .bool on2] 42) = W1 := ⟨_, rfl⟩
  have hT : W1.heap[W0.heap.size]? = some (Obj.cells #[.int .i64 c, .int .i64 n, .int .i64 k, .int .i64 p, .string s, .slice a m cap, .int .i64 tc, .int .i64 tn, .bool on, .int .i64 c2, .int .i64 n2, .int .i64 k2, .int .i64 p2, .string s2, .slice b m2 cap2, .int .i64 tc2, .int .i64 tn2, .bool on2] 42) := by rw [← hW1]; exact alloc_last _ _ _ rfl
  have h01 : Below W0.heap.size W0 W1 := by rw [← hW1]; exact (Below.refl _ _).alloc (Nat.le_refl _) _
  go_enter Tryd.func37, Tryd.ntmps37
  go_wp2_with fail
  refine (HE.out W1 _ (hB0.trans (h01.mono hB0.size)) hT).mono ?_
  rintro e w1 ⟨rfl, hcur1⟩
  have hcur : Below W0.heap.size W0 w1 := h01.trans (hcur1.mono h01.size)
  have hB1 := hB0.trans (hcur.mono hB0.size)
  have hX1 := (hcur.block _ alt).trans hX
  have hY1 := (hcur.block _ blt).trans hY
  have hZ1 := (hcur.block _ zlt).trans hZ
  clear HE hcur1 hT h01 hcur hX hY hZ hB0 alt blt zlt hW0 hW1 ak0 ak1 ak2 ak3 ak4 ak5 ak6 ak7 ak8 bk0 bk1 bk2 bk3 bk4 bk5 bk6 bk7 bk8
  obtain ⟨ak0, ak1, ak2, ak3, ak4, ak5, ak6, ak7, ak8⟩ := box9 hX1
  obtain ⟨bk0, bk1, bk2, bk3, bk4, bk5, bk6, bk7, bk8⟩ := box9 hY1
  by_cases hz : z = 0
  · subst hz
    rw [if_neg (by simp)] at hq
    subst hq
    have HI2 := HI.out rfl w1 hB1
    have HA2 := HA.out rfl
    clear HI HA
    go_wp2_with fail
    refine HI2.mono ?_
    rintro e w2 ⟨va, vm, vc, rfl, hRd, hb2⟩
    have hB2 := hB1.trans (hb2.mono hB1.size)
    have hZ2 := (hb2.block _ (Array.getElem?_eq_some_iff.1 hZ1).1).trans hZ1
    have zlt : w.heap.size + 2 < w2.heap.size := (Array.getElem?_eq_some_iff.1 hZ2).1
    have HA3 := HA2 w2 va vm vc hRd
    clear HA2 hRd hb2 hB1 hZ1 hX1 hY1 HI2 ak0 ak1 ak2 ak3 ak4 ak5 ak6 ak7 ak8 bk0 bk1 bk2 bk3 bk4 bk5 bk6 bk7 bk8
    go_wp2_with fail
    refine HA3.mono ?_
    rintro e w3 ⟨ya, yc, rfl, hO, hb3⟩
    have hB3 := hB2.trans (hb3.mono hB2.size)
    have hZ3 := (hb3.block _ zlt).trans hZ2
    have HO : Hid (OwnF rangeV 2 85 w3 w2.heap.size (.slice ya vm yc) l3) := hO
    clear hO HA3 hb3 hB2 hZ2
    obtain ⟨W9, e9, hx9, hB9, hK9⟩ := store9 hZ3 hB3 (by omega) (.int .i64 c3) (.int .i64 n3) (.int .i64 k3) (.int .i64 p3) (.string s3) (.slice ya vm yc) (.int .i64 tc3) (.int .i64 tn3) (.bool on3)
    obtain ⟨d0, d1, d2, d3, d4, d5, d6, d7, d8⟩ := box9 hZ3
    obtain ⟨dz0, dz1, dz2, dz3, dz4, dz5, dz6, dz7, dz8⟩ := wr9 hZ3
    obtain ⟨r0, r1, r2, r3, r4, r5, r6, r7, r8⟩ := box9 hx9
    go_wp2_with fail
    try rw [e9]
    refine bodyPost_ret (v := .tuple #[.agg #[.int .i64 c3, .int .i64 n3, .int .i64 k3, .int .i64 p3, .string s3, .slice ya vm yc, .int .i64 tc3, .int .i64 tn3, .bool on3], .int .i64 e3]) (by simp [results, Tryd.results37, go_sem, r0, r1, r2, r3, r4, r5, r6, r7, r8]) rfl ⟨ya, vm, yc, rfl, (hK9.own HO.out zlt).mono (by omega), hB9⟩

  · rw [if_pos hz] at hq
    subst hq
    have t1 : (z == 0) = false := beq_eq_false_iff_ne.2 hz
    clear HI HA hz
    obtain ⟨W9, e9, hx9, hB9, hK9⟩ := store9 hZ1 hB1 (by omega) (.int .i64 0) (.int .i64 0) (.int .i64 0) (.int .i64 0) (.string ⟨#[]⟩) (.slice none 0 0) (.int .i64 0) (.int .i64 0) (.bool false)
    obtain ⟨d0, d1, d2, d3, d4, d5, d6, d7, d8⟩ := box9 hZ1
    obtain ⟨dz0, dz1, dz2, dz3, dz4, dz5, dz6, dz7, dz8⟩ := wr9 hZ1
    obtain ⟨r0, r1, r2, r3, r4, r5, r6, r7, r8⟩ := box9 hx9
    go_wp2_with fail
    try rw [e9]
    refine bodyPost_ret (v := .tuple #[.agg #[.int .i64 0, .int .i64 0, .int .i64 0, .int .i64 0, .string ⟨#[]⟩, .slice none 0 0, .int .i64 0, .int .i64 0, .bool false], .int .i64 z]) (by simp [results, Tryd.results37, go_sem, r0, r1, r2, r3, r4, r5, r6, r7, r8]) rfl ⟨none, 0, 0, rfl, ownF_nil _ _, hB9⟩
end Go.Proofs.YtlebbffpbbjakaaDoor
