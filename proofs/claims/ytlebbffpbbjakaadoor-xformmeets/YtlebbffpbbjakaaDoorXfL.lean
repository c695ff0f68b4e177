import Derived.Test.YtlebbffpbbjakaaDoorXfPG
import Derived.Test.YtlebbffpbbjakaaDoorXfA
import Derived.Deep.RegionWith
namespace Go.Proofs.YtlebbffpbbjakaaDoor
open Go.RowKit Go.Lib
set_option maxRecDepth 100000

/-- Where Over stands: behind the first q operations. -/
structure Ov (o : OpV) (ear : Bool) (L : List OpV) (q : Nat) (oq : OpV) : Prop where
  val : overL o ear L = overL oq ear (L.drop q)
  ex : ∃ t, GoodO t oq ∧ RunG t (L.drop q) ∧ (∀ f ∈ L.drop q, Unlike oq f) ∧ t + 5 * (L.drop q).length ≤ 700
theorem ov_step {o : OpV} {ear : Bool} {L : List OpV} {q : Nat} {oq f : OpV} (h : Ov o ear L q oq) (hf : L[q]? = some f) :
    (inclP oq f ear).2 = 0 ∧ ownP oq = 0 ∧ ownP f = 0 ∧ Ov o ear L (q + 1) (inclP oq f ear).1 := by
  obtain ⟨t, g, r, u, b⟩ := h.ex
  have hv := h.val
  rw [drop_at hf] at r u b hv
  rw [List.length_cons] at b
  have hu := u f List.mem_cons_self
  have hw := r.1.wd
  have h1 := good_incl (by omega) g r.1 hu ear
  exact ⟨h1.1, g.own (by omega), r.1.own (by omega), hv, t + wdL f, h1.2.1, r.2, fun x hx => (u x (List.mem_cons_of_mem _ hx)).keep h1.2.2 (KeepO.refl x), by omega⟩
theorem ov_end {o : OpV} {ear : Bool} {L : List OpV} {oq : OpV} (h : Ov o ear L L.length oq) : overL o ear L = oq := by
  have := h.val
  rw [List.drop_of_length_le (Nat.le_refl _)] at this
  exact this

set_option maxHeartbeats 16000000 in
theorem Over_ok {o : OpV} {ear : Bool} {a : Option Addr} {m cap : Nat} {b : Option Addr} {n capb : Nat} {L : List OpM} {w : World} (hR : Rdy w (o, (a, m, cap))) (hL : Rw opF 9 w b n capb L) (rL : ∀ x ∈ L, Rdy w x) (hw : Bar w)
    {t : Nat} (gO : GoodO t o) (gL : RunG t (L.map (·.1))) (hu : ∀ f ∈ L.map (·.1), Unlike o f) (hbd : t + 5 * L.length ≤ 700) :
    Calls Tryd.prog 17 #[opVal o (.slice a m cap), .bool ear, .slice b n capb] w fun e w' => ∃ va vm vc, e = .returned (.tuple #[opVal (overL o ear (L.map (·.1))) (.slice va vm vc), .int .i64 0]) ∧ OwnF rangeV 2 85 w' w.heap.size (.slice va vm vc) (overL o ear (L.map (·.1))).l ∧ Below w.heap.size w w' := by
  have ln := hL.len
  have HE1 : Hid (∀ (W : World) (g : Nat), Below w.heap.size w W → W.heap[g]? = some (.cells (opF (o, (a, m, cap))).toArray 42) → Calls Tryd.prog 33 #[.slice (some ⟨g, 0, none⟩) 1 1] W fun e w' => e = .returned (.int .i64 0) ∧ Below W.heap.size W w') := fun W g hb hg => by
    have := ownErrors_any (L := [(o, (a, m, cap))]) (one_op hg) (fun x hx => by
      simp at hx
      subst hx
      exact ⟨hR.rng.below hb, by have := hR.size; simp only at this ⊢; omega⟩) (hw.below hb)
    rw [show errs [((o, (a, m, cap)) : OpM)] = 0 by show firstErr [o] = 0; rw [first1]; exact gO.own (by omega)] at this
    exact this
  have HE2 : Hid (∀ W, Below w.heap.size w W → Calls Tryd.prog 33 #[.slice b n capb] W fun e w' => e = .returned (.int .i64 0) ∧ Below W.heap.size W w') := fun W hb => by
    have := ownErrors_any (hL.below hb) (fun x hx => ⟨(rL x hx).rng.below hb, by have := (rL x hx).size; omega⟩) (hw.below hb)
    rw [show errs L = 0 from RunG.own gL (by rw [List.length_map]; omega)] at this
    exact this
  have HL : Hid (Rw opF 9 w b n capb L) := hL
  have HRL : Hid (∀ x ∈ L, Rdy w x) := rL
  have HRO : Hid (Rdy w (o, (a, m, cap))) := hR
  have HBar : Hid (∀ W, Below w.heap.size w W → Bar W) := fun W hb => hw.below hb
  have HOV : Hid (Ov o ear (L.map (·.1)) 0 o) := ⟨rfl, t, gO, gL, hu, by rw [List.drop_zero, List.length_map]; omega⟩
  have hn7 : n ≤ 700 := by omega
  obtain ⟨fin, hfin⟩ : ∃ fin, overL o ear (L.map (·.1)) = fin := ⟨_, rfl⟩
  rw [hfin]
  have HFIN : Hid (overL o ear (L.map (·.1)) = fin) := hfin
  clear hfin
  clear hR hL rL hw gO gL hu hbd
  simp only [opF] at HE1
  simp only [opVal]
  obtain ⟨W0, hW0⟩ : ∃ W0, (w.alloc (Obj.cells #[.int .i64 o.c, .int .i64 o.n, .int .i64 o.k, .int .i64 o.p, .string o.s, .slice a m cap, .int .i64 o.tc, .int .i64 o.tn, .bool o.on] 42)).alloc (Obj.cells #[.int .i64 0, .int .i64 0, .int .i64 0, .int .i64 0, .string ⟨#[]⟩, .slice none 0 0, .int .i64 0, .int .i64 0, .bool false] 42) = W0 := ⟨_, rfl⟩
  have hX : W0.heap[w.heap.size]? = some (Obj.cells #[.int .i64 o.c, .int .i64 o.n, .int .i64 o.k, .int .i64 o.p, .string o.s, .slice a m cap, .int .i64 o.tc, .int .i64 o.tn, .bool o.on] 42) := by rw [← hW0]; exact (Below.heap_alloc _ _ _ (by simp)).trans (alloc_last _ _ _ rfl)
  have hZ : W0.heap[w.heap.size + 1]? = some (Obj.cells #[.int .i64 0, .int .i64 0, .int .i64 0, .int .i64 0, .string ⟨#[]⟩, .slice none 0 0, .int .i64 0, .int .i64 0, .bool false] 42) := by rw [← hW0]; exact alloc_last _ _ _ (by simp)
  have hB0 : Below w.heap.size w W0 := by rw [← hW0]; exact ((Below.refl w.heap.size w).alloc (Nat.le_refl _) _).alloc (by simp) _
  have alt : w.heap.size < W0.heap.size := (Array.getElem?_eq_some_iff.1 hX).1
  have zlt : w.heap.size + 1 < W0.heap.size := (Array.getElem?_eq_some_iff.1 hZ).1
  obtain ⟨ak0, ak1, ak2, ak3, ak4, ak5, ak6, ak7, ak8⟩ := box9 hX
  obtain ⟨W1, hW1⟩ : ∃ W1, W0.alloc (Obj.cells #[.int .i64 o.c, .int .i64 o.n, .int .i64 o.k, .int .i64 o.p, .string o.s, .slice a m cap, .int .i64 o.tc, .int .i64 o.tn, .bool o.on] 42) = W1 := ⟨_, rfl⟩
  have hT : W1.heap[W0.heap.size]? = some (Obj.cells #[.int .i64 o.c, .int .i64 o.n, .int .i64 o.k, .int .i64 o.p, .string o.s, .slice a m cap, .int .i64 o.tc, .int .i64 o.tn, .bool o.on] 42) := by rw [← hW1]; exact alloc_last _ _ _ rfl
  have h01 : Below W0.heap.size W0 W1 := by rw [← hW1]; exact (Below.refl _ _).alloc (Nat.le_refl _) _
  go_enter Tryd.func17, Tryd.ntmps17
  go_wp2_with fail
  refine (HE1.out W1 _ (hB0.trans (h01.mono hB0.size)) hT).mono ?_
  rintro e w1 ⟨rfl, hc1⟩
  have hcur : Below W0.heap.size W0 w1 := h01.trans (hc1.mono h01.size)
  have hB1 := hB0.trans (hcur.mono hB0.size)
  have hX1 := (hcur.block _ alt).trans hX
  have hZ1 := (hcur.block _ zlt).trans hZ
  clear ak0 ak1 ak2 ak3 ak4 ak5 ak6 ak7 ak8 hX hZ hT h01 hc1 hW1 hW0 hcur hB0 alt zlt HE1
  go_wp2_with fail
  refine (HE2.out _ hB1).mono ?_
  rintro e w2 ⟨rfl, hc2⟩
  have hB2 := hB1.trans (hc2.mono hB1.size)
  have hX2 := (hc2.block _ (Array.getElem?_eq_some_iff.1 hX1).1).trans hX1
  have hZ2 := (hc2.block _ (Array.getElem?_eq_some_iff.1 hZ1).1).trans hZ1
  have HM0 : Hid (Ov o ear (L.map (·.1)) 0 o ∧ Rdy w2 (o, (a, m, cap)) ∧ Apt (some ⟨w.heap.size, 0, none⟩) ((o, (a, m, cap)) : OpM)) := ⟨HOV.out, HRO.out.below hB2, rng_apt HRO.out.rng (fun ad e => by cases e; exact Nat.le_refl _)⟩
  clear hX1 hZ1 hB1 hc2 HE2 HOV HRO
  go_wp2_with fail
  go_loopw [8, 9] (fun v8 v9 W => ∃ (q : Nat) (oq : OpV) (xa : Option Addr) (xm xc : Nat), v9 = .int .i64 (q : Int) ∧ v8 = .int .i64 0 ∧ q ≤ n ∧ W.heap[w.heap.size]? = some (Obj.cells #[.int .i64 oq.c, .int .i64 oq.n, .int .i64 oq.k, .int .i64 oq.p, .string oq.s, .slice xa xm xc, .int .i64 oq.tc, .int .i64 oq.tn, .bool oq.on] 42) ∧ W.heap[w.heap.size + 1]? = some (Obj.cells #[.int .i64 0, .int .i64 0, .int .i64 0, .int .i64 0, .string ⟨#[]⟩, .slice none 0 0, .int .i64 0, .int .i64 0, .bool false] 42) ∧ Below w.heap.size w W ∧ Hid (Ov o ear (L.map (·.1)) q oq ∧ Rdy W (oq, (xa, xm, xc)) ∧ Apt (some ⟨w.heap.size, 0, none⟩) ((oq, (xa, xm, xc)) : OpM))) (fun _ v9 _ => n - (RowKit.intOf v9).toNat)
  case atStart => exact ⟨0, o, a, m, cap, rfl, rfl, Nat.zero_le _, hX2, hZ2, hB2, HM0⟩
  case round =>
    clear hX2 hZ2 hB2 HM0
    obtain ⟨q, oq, xa, xm, xc, rfl, rfl, hqn, hX, hZ, hB, HM⟩ := hrel
    by_cases hq : q < n
    · obtain ⟨g, off, x, rfl, hg, hx, c0, c1, c2, c3, c4, c5, c6, c7, c8⟩ := HL.out.at9 hB q hq
      obtain ⟨hov, hrd, hap⟩ := HM.out
      obtain ⟨z, ox, of, hov2⟩ := ov_step hov (f := x.1) (by rw [List.getElem?_map, hx]; rfl)
      have rx := (HRL.out x (List.mem_of_getElem? hx)).below hB
      have HI : Hid (∀ W, Below wr.heap.size wr W → Calls Tryd.prog 42 #[opVal oq (.slice xa xm xc), opVal x.1 (.slice x.2.1 x.2.2.1 x.2.2.2), .bool ear] W fun e w' => ∃ va vm vc, e = .returned (.tuple #[opVal (inclP oq x.1 ear).1 (.slice va vm vc), .int .i64 0]) ∧ Src (.slice xa xm xc) oq.l W w' (.slice va vm vc) (inclP oq x.1 ear).1.l ∧ Below W.heap.size W w') := fun W hb => by
        have := included_any (ear := ear) (b := x.2.1) (m2 := x.2.2.1) (cap2 := x.2.2.2) (hrd.rng.below hb) (Nat.le_trans hrd.size (by decide)) (by have := rx.size; omega) (HBar.out W (hB.trans (hb.mono hB.size))) (right_of ox) (right_of of)
        rw [z] at this
        exact this
      have alt : w.heap.size < wr.heap.size := (Array.getElem?_eq_some_iff.1 hX).1
      have HST : Hid (∀ (w5 : World) (va : Option Addr) (vm vc : Nat), Below wr.heap.size wr w5 → Src (.slice xa xm xc) oq.l wr w5 (.slice va vm vc) (inclP oq x.1 ear).1.l → Rdy w5 ((inclP oq x.1 ear).1, (va, vm, vc)) ∧ Apt (some ⟨w.heap.size, 0, none⟩) (((inclP oq x.1 ear).1, (va, vm, vc)) : OpM)) := fun w5 va vm vc hb hs => by
        have := src_rdy (x := (oq, (xa, xm, xc))) hb ⟨hrd, hap, hap⟩ alt alt hs (by have := inclP_few ear (o2 := x.1) (right_of ox); omega) (Nat.le_trans (inclP_s oq x.1 ear) hrd.size)
        exact ⟨this.1, this.2.1⟩
      have HOV : Hid (Ov o ear (L.map (·.1)) (q + 1) (inclP oq x.1 ear).1) := hov2
      clear hov hrd hap z ox of hov2 rx hx
      generalize (inclP oq x.1 ear).1 = o5 at *
      obtain ⟨ak0, ak1, ak2, ak3, ak4, ak5, ak6, ak7, ak8⟩ := box9 hX
      obtain ⟨⟨xc_, xn, xk, xp, xs, xl, xtc, xtn, xon⟩, ya_, ym_, ycap⟩ := x
      simp only [opVal] at *
      have b1 : (q : Int) < (n : Int) := by omega
      have b0 : (0 : Int) ≤ (q : Int) := by omega
      go_wp2_with fail
      go_region_with (go_at_call 42; refine (HI.out _ ?_).mono ?_; (first | exact Below.refl _ _ | exact (Below.refl _ _).drew); rintro e5 w5 ⟨va, vm, vc, rfl, hs1, hb5⟩; (have hb6 : Below wr.heap.size wr w5 := (by first | exact hb5 | exact (Below.refl _ _).drew.trans hb5)); (have hrd5 := HST.out w5 va vm vc hb6 hs1); (have hX5 := (hb6.block _ alt).trans hX); (have hZ5 := (hb6.block _ (Array.getElem?_eq_some_iff.1 hZ).1).trans hZ); (have hB5 := hB.trans (hb6.mono hB.size)); obtain ⟨W9, e9, hx9, hB9, hK9⟩ := store9 hX5 hB5 (Nat.le_refl _) (.int .i64 o5.c) (.int .i64 o5.n) (.int .i64 o5.k) (.int .i64 o5.p) (.string o5.s) (.slice va vm vc) (.int .i64 o5.tc) (.int .i64 o5.tn) (.bool o5.on); obtain ⟨d0, d1, d2, d3, d4, d5, d6, d7, d8⟩ := box9 hX5; obtain ⟨dz0, dz1, dz2, dz3, dz4, dz5, dz6, dz7, dz8⟩ := wr9 hX5)
      all_goals
        have hZ9 := hK9.block hZ5 (by omega)
        have HM9 : Hid (Ov o ear (L.map (·.1)) (q + 1) o5 ∧ Rdy W9 (o5, (va, vm, vc)) ∧ Apt (some ⟨w.heap.size, 0, none⟩) ((o5, (va, vm, vc)) : OpM)) := ⟨HOV.out, hrd5.1.alt (Alt.of_but ⟨hB9.os.trans hB5.os.symm, hB9.tape.trans hB5.tape.symm, hB9.output.trans hB5.output.symm, Nat.le_of_eq hK9.1.symm, fun k hk => absurd hk (Nat.not_lt_zero _)⟩ hK9) hrd5.2, hrd5.2⟩
        clear hrd5 hX5 hZ5 ak0 ak1 ak2 ak3 ak4 ak5 ak6 ak7 ak8 c0 c1 c2 c3 c4 c5 c6 c7 c8 HI HST HOV
        go_wp2_with fail
        try rw [e9]
        go_roundw
        case rel => exact ⟨q + 1, o5, va, vm, vc, by go_num, rfl, by omega, hx9, hZ9, hB9, HM9⟩
        case measure => simp [RowKit.intOf]; omega
    · have hqn2 : n = q := by omega
      subst hqn2
      obtain ⟨hov, hrd, hap⟩ := HM.out
      have hval : overL o ear (L.map (·.1)) = oq := ov_end (by rw [List.length_map, ln]; exact hov)
      have HCl : Hid (Calls Tryd.prog 43 #[opVal oq (.slice xa xm xc)] wr fun e w' => ∃ a' cap', e = .returned (opVal oq (.slice a' xm cap')) ∧ OwnF rangeV 2 85 w' wr.heap.size (.slice a' xm cap') oq.l ∧ Below wr.heap.size wr w') := (opClone_any hrd.rng (by have h1 := hrd.rng.len; have h2 := hrd.few; simp only at h1 h2 ⊢; omega) hrd.size).mono fun e2 w5 ⟨a', cap', he, ho5, hb5⟩ => ⟨a', cap', he, ho5.mono (by omega), hb5⟩
      have hff : fin = oq := HFIN.out.symm.trans hval
      subst hff
      have b1 : decide ((n : Int) < (n : Int)) = false := decide_eq_false (by omega)
      obtain ⟨ak0, ak1, ak2, ak3, ak4, ak5, ak6, ak7, ak8⟩ := box9 hX
      have zlt : w.heap.size + 1 < wr.heap.size := (Array.getElem?_eq_some_iff.1 hZ).1
      clear hov hrd hap HM hval
      simp only [opVal] at *
      go_wp2_with fail
      refine HCl.out.mono ?_
      rintro e w5 ⟨ya, yc, rfl, hoy, hb5⟩
      have hB5 := hB.trans (hb5.mono hB.size)
      have hZ5 := (hb5.block _ zlt).trans hZ
      clear HCl ak0 ak1 ak2 ak3 ak4 ak5 ak6 ak7 ak8 hX
      obtain ⟨W9, e9, hx9, hB9, hK9⟩ := store9 hZ5 hB5 (by omega) (.int .i64 fin.c) (.int .i64 fin.n) (.int .i64 fin.k) (.int .i64 fin.p) (.string fin.s) (.slice ya xm yc) (.int .i64 fin.tc) (.int .i64 fin.tn) (.bool fin.on)
      obtain ⟨d0, d1, d2, d3, d4, d5, d6, d7, d8⟩ := box9 hZ5
      obtain ⟨dz0, dz1, dz2, dz3, dz4, dz5, dz6, dz7, dz8⟩ := wr9 hZ5
      obtain ⟨r0, r1, r2, r3, r4, r5, r6, r7, r8⟩ := box9 hx9
      go_wp2_with fail
      try rw [e9]
      refine bodyPost_ret (v := .tuple #[.agg #[.int .i64 fin.c, .int .i64 fin.n, .int .i64 fin.k, .int .i64 fin.p, .string fin.s, .slice ya xm yc, .int .i64 fin.tc, .int .i64 fin.tn, .bool fin.on], .int .i64 0]) (by simp [results, Tryd.results17, go_sem, r0, r1, r2, r3, r4, r5, r6, r7, r8]) rfl ⟨ya, xm, yc, rfl, (hK9.own hoy zlt).mono (by have := hB.size; omega), hB9⟩
end Go.Proofs.YtlebbffpbbjakaaDoor
