import Derived.Test.YtelcjhflopgojaaDoorMgA
import Derived.Test.YtelcjhflopgojaaDoorMgW
import Derived.Deep.RegionHeld3
import Derived.Deep.QuietTactic
import Derived.BigQuiet
/-! Follow. -/
namespace Go.Proofs.YtelcjhflopgojaaDoor
open Go.RowKit Go.Lib Sp
set_option maxRecDepth 100000

/-- wpAnyH_take, the slot written out. -/
theorem takeD {P : Program} {md : Region.Mode} {ops : Array Oper} {Q : Exit → Act → World → Prop} {S : World → Prop} {i : Nat} {oi : Oper} {d : Option Nat} {v : Value} {fuel : Nat} {listed : Array Bool} {a : Act} {w : World} (hi : ops[i]? = some oi) (hd : oi.dst = d)
    (hs : Region.noSelect ops = true) (hf : Region.free md ops listed i = true) (hr : (Region.ready md ops listed).contains i = true)
    (hQ : ∀ c a w, Q (.panic c) (a.put oi.dst v) w → Q (.panic c) a w) (hy : YieldsIf P ops S oi v a) (hS : S w)
    (h : wpAnyH P md ops Q S fuel (listed.setIfInBounds i true) (a.put d v) w) : wpAnyH P md ops Q S (fuel + 1) listed a w := by
  subst hd
  exact wpAnyH_take hi hs hf hr hQ hy hS h
theorem box9 {W : World} {b : Nat} {T : TypeId} {v0 v1 v2 v3 v4 v5 v6 v7 v8 : Value} (h : W.heap[b]? = some (.cells #[v0, v1, v2, v3, v4, v5, v6, v7, v8] T)) : W.cell? ⟨b, 0, none⟩ = some v0 ∧ W.cell? ⟨b, 1, none⟩ = some v1 ∧ W.cell? ⟨b, 2, none⟩ = some v2 ∧ W.cell? ⟨b, 3, none⟩ = some v3 ∧ W.cell? ⟨b, 4, none⟩ = some v4 ∧ W.cell? ⟨b, 5, none⟩ = some v5 ∧ W.cell? ⟨b, 6, none⟩ = some v6 ∧ W.cell? ⟨b, 7, none⟩ = some v7 ∧ W.cell? ⟨b, 8, none⟩ = some v8 := by
  simp only [Lib.cell_of_heap h]
  exact ⟨rfl, rfl, rfl, rfl, rfl, rfl, rfl, rfl, rfl⟩
/-- An operation that is none. -/
def zeroOp : OpV := ⟨0, 0, 0, 0, ⟨#[]⟩, [], 0, 0, false⟩
set_option maxHeartbeats 4000000 in
theorem follow_none {w : World} {p m cap : Nat} {a : Option Addr} {o : OpV} (hr : Rng w a m cap o.l) (he : eqP o zeroOp = true) :
    Calls Tryd.prog 7 #[.pointer (some ⟨p, 0, none⟩), opVal o (.slice a m cap)] w fun e w' => e = .returned (.int .i64 0) ∧ Below w.heap.size w w' := by
  obtain ⟨c, n, k, q, s, l, tc, tn, on⟩ := o
  simp only at *
  have hB0 : Below w.heap.size w (w.alloc (.cells #[.int .i64 c, .int .i64 n, .int .i64 k, .int .i64 q, .string s, .slice a m cap, .int .i64 tc, .int .i64 tn, .bool on] 37)) := below_alloc0 _ _
  have hx00 : (w.alloc (.cells #[.int .i64 c, .int .i64 n, .int .i64 k, .int .i64 q, .string s, .slice a m cap, .int .i64 tc, .int .i64 tn, .bool on] 37)).heap[w.heap.size]? = some (.cells #[.int .i64 c, .int .i64 n, .int .i64 k, .int .i64 q, .string s, .slice a m cap, .int .i64 tc, .int .i64 tn, .bool on] 37) := heap_alloc_new _ _
  have HEq : Hid (Calls Tryd.prog 12 #[.agg #[.int .i64 c, .int .i64 n, .int .i64 k, .int .i64 q, .string s, .slice a m cap, .int .i64 tc, .int .i64 tn, .bool on], .agg #[.int .i64 0, .int .i64 0, .int .i64 0, .int .i64 0, .string ⟨#[]⟩, .slice none 0 0, .int .i64 0, .int .i64 0, .bool false]] (w.alloc (.cells #[.int .i64 c, .int .i64 n, .int .i64 k, .int .i64 q, .string s, .slice a m cap, .int .i64 tc, .int .i64 tn, .bool on] 37)) fun e w' => e = .returned (.bool true) ∧ Below (w.alloc (.cells #[.int .i64 c, .int .i64 n, .int .i64 k, .int .i64 q, .string s, .slice a m cap, .int .i64 tc, .int .i64 tn, .bool on] 37)).heap.size (w.alloc (.cells #[.int .i64 c, .int .i64 n, .int .i64 k, .int .i64 q, .string s, .slice a m cap, .int .i64 tc, .int .i64 tn, .bool on] 37)) w') := by
    have hc := opEqual_any (o := ⟨c, n, k, q, s, l, tc, tn, on⟩) (x := zeroOp) (hr.below hB0) (rng_nil (w.alloc (.cells #[.int .i64 c, .int .i64 n, .int .i64 k, .int .i64 q, .string s, .slice a m cap, .int .i64 tc, .int .i64 tn, .bool on] 37)))
    rw [he] at hc
    exact hc
  have HB : Hid (Below w.heap.size w (w.alloc (.cells #[.int .i64 c, .int .i64 n, .int .i64 k, .int .i64 q, .string s, .slice a m cap, .int .i64 tc, .int .i64 tn, .bool on] 37))) := hB0
  simp only [opVal]
  clear hr he hB0 hx00
  go_enter Tryd.func7, Tryd.ntmps7
  go_wp2_with fail
  refine HEq.out.mono ?_
  rintro e w1 ⟨rfl, hb1⟩
  have HB1 : Hid (Below w.heap.size w w1) := HB.out.trans (hb1.mono HB.out.size)
  clear hb1
  go_wp2_with fail
  go_ret
  exact ⟨rfl, HB1.out⟩
set_option maxHeartbeats 8000000 in
theorem follow_two {w : World} {p b t ck m cap : Nat} {xs : List X} {a : Option Addr} {o : OpV} (h : BookAt w p b t xs ck) (hr : Rng w a m cap o.l) (hs : o.s.size ≤ 9223372036854775807) (hw : Bar w) (he : eqP o zeroOp = false) (hck : opCheck o t = 0) (hk : o.k = 2 ∨ o.k = 3) :
    Calls Tryd.prog 7 #[.pointer (some ⟨p, 0, none⟩), opVal o (.slice a m cap)] w fun e w' => e = .returned (.int .i64 0) ∧ Below w.heap.size w w' := by
  obtain ⟨c, n, k, q, s, l, tc, tn, on⟩ := o
  simp only at *
  have hB0 : Below w.heap.size w (w.alloc (.cells #[.int .i64 c, .int .i64 n, .int .i64 k, .int .i64 q, .string s, .slice a m cap, .int .i64 tc, .int .i64 tn, .bool on] 37)) := below_alloc0 _ _
  have hx00 : (w.alloc (.cells #[.int .i64 c, .int .i64 n, .int .i64 k, .int .i64 q, .string s, .slice a m cap, .int .i64 tc, .int .i64 tn, .bool on] 37)).heap[w.heap.size]? = some (.cells #[.int .i64 c, .int .i64 n, .int .i64 k, .int .i64 q, .string s, .slice a m cap, .int .i64 tc, .int .i64 tn, .bool on] 37) := heap_alloc_new _ _
  have HEq : Hid (Calls Tryd.prog 12 #[.agg #[.int .i64 c, .int .i64 n, .int .i64 k, .int .i64 q, .string s, .slice a m cap, .int .i64 tc, .int .i64 tn, .bool on], .agg #[.int .i64 0, .int .i64 0, .int .i64 0, .int .i64 0, .string ⟨#[]⟩, .slice none 0 0, .int .i64 0, .int .i64 0, .bool false]] (w.alloc (.cells #[.int .i64 c, .int .i64 n, .int .i64 k, .int .i64 q, .string s, .slice a m cap, .int .i64 tc, .int .i64 tn, .bool on] 37)) fun e w' => e = .returned (.bool false) ∧ Below (w.alloc (.cells #[.int .i64 c, .int .i64 n, .int .i64 k, .int .i64 q, .string s, .slice a m cap, .int .i64 tc, .int .i64 tn, .bool on] 37)).heap.size (w.alloc (.cells #[.int .i64 c, .int .i64 n, .int .i64 k, .int .i64 q, .string s, .slice a m cap, .int .i64 tc, .int .i64 tn, .bool on] 37)) w') := by
    have hc := opEqual_any (o := ⟨c, n, k, q, s, l, tc, tn, on⟩) (x := zeroOp) (hr.below hB0) (rng_nil (w.alloc (.cells #[.int .i64 c, .int .i64 n, .int .i64 k, .int .i64 q, .string s, .slice a m cap, .int .i64 tc, .int .i64 tn, .bool on] 37)))
    rw [he] at hc
    exact hc
  have HCk : Hid (∀ V, ∀ V0, Below w.heap.size w V0 → Below V0.heap.size V0 V → Calls Tryd.prog 13 #[.agg #[.int .i64 c, .int .i64 n, .int .i64 k, .int .i64 q, .string s, .slice a m cap, .int .i64 tc, .int .i64 tn, .bool on], .int .i64 (t : Int)] V fun e w' => e = .returned (.int .i64 0) ∧ Below V.heap.size V w') := fun V V0 h0 h1 => by
    have hbV := h0.trans (h1.mono h0.size)
    have hc := opCheck_any (o := ⟨c, n, k, q, s, l, tc, tn, on⟩) (total := (t : Int)) (hr.below hbV) hs (hw.below hbV)
    rw [hck] at hc
    exact hc
  have hp0 := (box2 h.box).1
  have hpl0 := h.lt (.inl rfl)
  obtain ⟨bx, hbx⟩ : ∃ bx, bx = w.heap.size := ⟨_, rfl⟩
  have hx0 : (w.alloc (.cells #[.int .i64 c, .int .i64 n, .int .i64 k, .int .i64 q, .string s, .slice a m cap, .int .i64 tc, .int .i64 tn, .bool on] 37)).heap[bx]? = some (.cells #[.int .i64 c, .int .i64 n, .int .i64 k, .int .i64 q, .string s, .slice a m cap, .int .i64 tc, .int .i64 tn, .bool on] 37) := by rw [hbx]; exact hx00
  have HH : Hid (Below w.heap.size w (w.alloc (.cells #[.int .i64 c, .int .i64 n, .int .i64 k, .int .i64 q, .string s, .slice a m cap, .int .i64 tc, .int .i64 tn, .bool on] 37)) ∧ BookAt w p b t xs ck) := ⟨hB0, h⟩
  simp only [opVal]
  clear hr he hck hx00 hs hw h
  go_enter Tryd.func7, Tryd.ntmps7
  go_wp2_with fail
  refine HEq.out.mono ?_
  rintro e w1 ⟨rfl, hb1⟩
  have hbx1 : w1.heap[bx]? = some (.cells #[.int .i64 c, .int .i64 n, .int .i64 k, .int .i64 q, .string s, .slice a m cap, .int .i64 tc, .int .i64 tn, .bool on] 37) := (hb1.block bx (by rw [hbx, World.size_alloc]; exact Nat.lt_succ_self _)).trans hx0
  obtain ⟨c0, c1, c2, c3, c4, c5, c6, c7, c8⟩ := box9 hbx1
  have hbw1 : Below w.heap.size w w1 := hB0.trans (hb1.mono hB0.size)
  have p0 : w1.cell? ⟨p, 0, none⟩ = some (.int .i64 (t : Int)) := (hbw1.cell (p := ⟨p, 0, none⟩) hpl0).trans hp0
  have hbl : bx < w1.drew.heap.size := (Array.getElem?_eq_some_iff.1 hbx1).1
  have hpl : p < w1.drew.heap.size := Nat.lt_of_lt_of_le hpl0 hbw1.size
  have HW1 : Hid (Below w.heap.size w w1) := hbw1
  have HCk1 : Hid (∀ V, Below w1.heap.size w1 V → Calls Tryd.prog 13 #[.agg #[.int .i64 c, .int .i64 n, .int .i64 k, .int .i64 q, .string s, .slice a m cap, .int .i64 tc, .int .i64 tn, .bool on], .int .i64 (t : Int)] V fun e w' => e = .returned (.int .i64 0) ∧ Below V.heap.size V w') := fun V hV => HCk.out V w1 HW1.out hV
  rw [← hbx]
  clear hbx hb1 hx0 hB0 hbx1 hbw1 hp0 HCk
  rename Hid (∀ V, Below w1.heap.size w1 V → _) => HCk
  go_upto_region 3 with fail
  refine wp_region_held_drew (S := (fun V => V.cell? ⟨bx, 0, none⟩ = some (.int .i64 c) ∧ V.cell? ⟨bx, 1, none⟩ = some (.int .i64 n) ∧ V.cell? ⟨bx, 2, none⟩ = some (.int .i64 k) ∧ V.cell? ⟨bx, 3, none⟩ = some (.int .i64 q) ∧ V.cell? ⟨bx, 4, none⟩ = some (.string s) ∧ V.cell? ⟨bx, 5, none⟩ = some (.slice a m cap) ∧ V.cell? ⟨bx, 6, none⟩ = some (.int .i64 tc) ∧ V.cell? ⟨bx, 7, none⟩ = some (.int .i64 tn) ∧ V.cell? ⟨bx, 8, none⟩ = some (.bool on) ∧ V.cell? ⟨p, 0, none⟩ = some (.int .i64 (t : Int)))) (by kernel_rfl) ?hS1 (fun hHeld => ?rest1)
  case hS1 => exact ⟨c0, c1, c2, c3, c4, c5, c6, c7, c8, p0⟩
  refine takeD (i := 0) (d := some 9) (v := ?vT2) rfl rfl (by kernel_rfl) (by kernel_rfl) (by kernel_rfl) (fun _ _ _ h => h) (Or.inl ⟨by rfl, ?hyT2⟩) (by assumption) ?rstT2
  case hyT2 => (intro w hSw; (try dsimp only at hSw); obtain ⟨k0, k1, k2, k3, k4, k5, k6, k7, k8, k9⟩ := hSw; go_simp; (try with_reducible rfl))
  try simp only [Act.put, List.setIfInBounds_toArray, List.set_cons_zero, List.set_cons_succ]
  refine takeD (i := 1) (d := some 10) (v := ?vT3) rfl rfl (by kernel_rfl) (by kernel_rfl) (by kernel_rfl) (fun _ _ _ h => h) (Or.inl ⟨by rfl, ?hyT3⟩) (by assumption) ?rstT3
  case hyT3 => (intro w hSw; (try dsimp only at hSw); obtain ⟨k0, k1, k2, k3, k4, k5, k6, k7, k8, k9⟩ := hSw; go_simp; (try with_reducible rfl))
  try simp only [Act.put, List.setIfInBounds_toArray, List.set_cons_zero, List.set_cons_succ]
  refine takeD (i := 2) (d := some 11) (v := ?vT4) rfl rfl (by kernel_rfl) (by kernel_rfl) (by kernel_rfl) (fun _ _ _ h => h) (Or.inl ⟨by rfl, ?hyT4⟩) (by assumption) ?rstT4
  case hyT4 => (intro w hSw; (try dsimp only at hSw); obtain ⟨k0, k1, k2, k3, k4, k5, k6, k7, k8, k9⟩ := hSw; go_simp; (try with_reducible rfl))
  try simp only [Act.put, List.setIfInBounds_toArray, List.set_cons_zero, List.set_cons_succ]
  refine takeD (i := 3) (d := some 12) (v := ?vT5) rfl rfl (by kernel_rfl) (by kernel_rfl) (by kernel_rfl) (fun _ _ _ h => h) (Or.inl ⟨by rfl, ?hyT5⟩) (by assumption) ?rstT5
  case hyT5 => (intro w hSw; (try dsimp only at hSw); obtain ⟨k0, k1, k2, k3, k4, k5, k6, k7, k8, k9⟩ := hSw; go_simp; (try with_reducible rfl))
  try simp only [Act.put, List.setIfInBounds_toArray, List.set_cons_zero, List.set_cons_succ]
  refine takeD (i := 4) (d := some 13) (v := ?vT6) rfl rfl (by kernel_rfl) (by kernel_rfl) (by kernel_rfl) (fun _ _ _ h => h) (Or.inl ⟨by rfl, ?hyT6⟩) (by assumption) ?rstT6
  case hyT6 => (intro w hSw; (try dsimp only at hSw); obtain ⟨k0, k1, k2, k3, k4, k5, k6, k7, k8, k9⟩ := hSw; go_simp; (try with_reducible rfl))
  try simp only [Act.put, List.setIfInBounds_toArray, List.set_cons_zero, List.set_cons_succ]
  refine wpAnyH_ready (rs := [5]) (by kernel_rfl) (by simp) ?_
  refine AllReadyH.cons rfl (fun K hK => ?_) AllReadyH.nil
  go_simp
  refine (HCk.out _ ?_).mono ?_
  case refine_1 => exact below_drewN (Below.refl _ _) 1
  rintro e w2 ⟨rfl, hb2⟩
  have hK0 := hHeld; clear hHeld
  refine hK.out _ _ ?hS7 (fun hHeld => ?rest7)
  case hS7 => (exact ⟨(hb2.cell (p := ⟨bx, 0, none⟩) hbl).trans hK0.1, (hb2.cell (p := ⟨bx, 1, none⟩) hbl).trans hK0.2.1, (hb2.cell (p := ⟨bx, 2, none⟩) hbl).trans hK0.2.2.1, (hb2.cell (p := ⟨bx, 3, none⟩) hbl).trans hK0.2.2.2.1, (hb2.cell (p := ⟨bx, 4, none⟩) hbl).trans hK0.2.2.2.2.1, (hb2.cell (p := ⟨bx, 5, none⟩) hbl).trans hK0.2.2.2.2.2.1, (hb2.cell (p := ⟨bx, 6, none⟩) hbl).trans hK0.2.2.2.2.2.2.1, (hb2.cell (p := ⟨bx, 7, none⟩) hbl).trans hK0.2.2.2.2.2.2.2.1, (hb2.cell (p := ⟨bx, 8, none⟩) hbl).trans hK0.2.2.2.2.2.2.2.2.1, (hb2.cell (p := ⟨p, 0, none⟩) hpl).trans hK0.2.2.2.2.2.2.2.2.2⟩)
  clear hK K
  try simp only [Act.put, List.setIfInBounds_toArray, List.set_cons_zero, List.set_cons_succ]
  refine takeD (i := 6) (d := some 5) (v := ?vT8) rfl rfl (by kernel_rfl) (by kernel_rfl) (by kernel_rfl) (fun _ _ _ h => h) (Or.inl ⟨by rfl, ?hyT8⟩) (by assumption) ?rstT8
  case hyT8 => (intro w hSw; (try dsimp only at hSw); go_simp; (try with_reducible rfl))
  try simp only [Act.put, List.setIfInBounds_toArray, List.set_cons_zero, List.set_cons_succ]
  refine wpAnyH_done (by kernel_rfl) ?_ _
  have HB2 : Hid (Below w.heap.size w w2) := HW1.out.trans (((Below.refl _ w1).drew.trans hb2).mono HW1.out.size)
  obtain ⟨j0, j1, j2, j3, j4, j5, j6, j7, j8, jp⟩ := hHeld
  clear c0 c1 c2 c3 c4 c5 c6 c7 c8 p0
  have r1 : (k == 4) = false := beq_eq_false_iff_ne.2 (by omega)
  have r2 : (k == 1) = false := beq_eq_false_iff_ne.2 (by omega)
  clear hk
  go_wp2_with fail
  go_ret
  exact ⟨rfl, HB2.out⟩
end Go.Proofs.YtelcjhflopgojaaDoor
