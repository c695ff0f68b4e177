import Derived.Test.YtlebbffpbbjakaaDoorXfM
import Derived.Test.YtlebbffpbbjakaaDoorXfJ
import Derived.Test.YtlebbffpbbjakaaDoorXfH
import Derived.Deep.RegionHeld3
import Derived.Deep.RegionWith
namespace Go.Proofs.YtlebbffpbbjakaaDoor
open Go.RowKit Go.Lib
set_option maxRecDepth 100000

theorem Hid.mk' {p : Prop} (h : p) : Hid p := h
theorem lit_own {W : World} {g B : Nat} {x : OpM} (h : W.heap[g]? = some (.cells (opF x).toArray 42)) (hB : B ≤ g) : OwnF opF 9 42 W B (.slice (some ⟨g, 0, none⟩) 1 1) [x] :=
  ⟨rfl, .inr ⟨g, 1, (opF x).toArray, rfl, hB, h, Nat.le_refl _, by decide, rfl, rfl⟩⟩
theorem good_of_made {k n : Int} {t : Nat} {o : OpV} (h : Made k n t o) (hid : isIdP k n = true) (h3 : k ≠ 3) : GoodO t o := ⟨by rw [h.id.1, h.id.2]; exact h, by rw [h.id.1, h.id.2]; exact hid, by rw [h.id.1]; exact h3⟩
theorem rdy_own {W : World} {B : Nat} {x : OpM} {t : Nat} (h : OwnF rangeV 2 85 W B (.slice x.2.1 x.2.2.1 x.2.2.2) x.1.l) (g : GoodO t x.1) (ht : t ≤ 900) : Rdy W x := ⟨rng_of_rw (h.rw_ layG), by have := made_few g; omega, by have := made_few g; omega⟩
theorem cross_one {W w7 : World} {o : OpV} {n : Nat} {ra : Option Addr} {ma rc : Nat} {L' : List OpM} {B B2 vm : Nat} {xa : Option Addr} {xc : Nat} (hw : Bar W) (ho : OwnF opF 9 42 w7 B (.slice ra ma rc) L') (hr : OwnRs w7 B L') (hx : OwnF rangeV 2 85 w7 B2 (.slice xa vm xc) o.l) (gO : GoodO n o) (gL : RunG n (L'.map (·.1))) (hu : ∀ f ∈ L'.map (·.1), Unlike o f) (hn : n ≤ 100) (hl : L'.length ≤ 12)
    (hb : Below w7.heap.size w7 W) (hg : W.heap[w7.heap.size]? = some (.cells (opF (o, (xa, vm, xc))).toArray 42)) :
    Calls Tryd.prog 9 #[.slice ra ma rc, .slice (some ⟨w7.heap.size, 0, none⟩) 1 1] W fun e w' => ∃ fa fc ya yc F' Y, e = .returned (.tuple #[.slice fa ma fc, .slice ya 1 yc, .int .i64 0]) ∧ OwnF opF 9 42 w' W.heap.size (.slice fa ma fc) F' ∧ Rw opF 9 w' ya 1 yc [Y] ∧ Y.1 = overL o true (L'.map (·.1)) ∧ Sp.Rng w' Y.2.1 Y.2.2.1 Y.2.2.2 Y.1.l ∧ Below W.heap.size W w' := by
  have hox : Rdy W (o, (xa, vm, xc)) := (rdy_own (x := (o, (xa, vm, xc))) hx gO (by omega)).below hb
  have e1 : ([((o, (xa, vm, xc)) : OpM)].map (·.1)) = [o] := rfl
  have g1 : RunG n ([((o, (xa, vm, xc)) : OpM)].map (·.1)) := by rw [e1]; exact And.intro gO trivial
  have r1 : ∀ x ∈ [((o, (xa, vm, xc)) : OpM)], Rdy W x := fun x h => by rw [List.mem_singleton] at h; subst h; exact hox
  have rl := rdys_below (rdy_of (t := n) hr gL (by omega)) hb
  have hl1 := lit_own hg (Nat.zero_le _)
  have hu1 : ∀ f ∈ L'.map (·.1), ∀ l ∈ ([((o, (xa, vm, xc)) : OpM)].map (·.1)), Unlike f l := fun f hf l hl => by
    rw [e1, List.mem_singleton] at hl
    subst hl
    exact (hu f hf).symm
  refine (Cross_ok (t := n) (ho.below hb) hl1 rl r1 hw gL g1 hu1 (by simp; omega)).mono ?_
  rintro e w' ⟨fa, fc, ya, yc, F', Y, rfl, h1, h2, _, h4, _, h6, h7⟩
  rw [e1, over_later] at h4
  obtain ⟨Y, rfl⟩ := List.length_eq_one_iff.1 (show Y.length = 1 by have := congrArg List.length h4; simpa only [List.length_map, List.length_singleton] using this)
  rw [List.map_cons, List.map_nil, List.cons.injEq] at h4
  exact ⟨fa, fc, ya, yc, F', Y, rfl, h1, h2.rw_ layO, h4.1, rng_of_rw ((h6 Y List.mem_cons_self).rw_ layG), h7⟩
theorem cross_two {W w7 : World} {o : OpV} {n : Nat} {ra : Option Addr} {ma rc g : Nat} {L' : List OpM} {B B2 vm : Nat} {xa : Option Addr} {xc : Nat} (hw : Bar W) (ho : OwnF opF 9 42 w7 B (.slice ra ma rc) L') (hr : OwnRs w7 B L') (hx : OwnF rangeV 2 85 w7 B2 (.slice xa vm xc) o.l) (gO : GoodO n o) (gL : RunG n (L'.map (·.1))) (hu : ∀ f ∈ L'.map (·.1), Unlike o f) (hn : n ≤ 100) (hl : L'.length ≤ 12)
    (hb : Below w7.heap.size w7 W) (hg : W.heap[g]? = some (.cells (opF (o, (xa, vm, xc))).toArray 42)) :
    Calls Tryd.prog 9 #[.slice (some ⟨g, 0, none⟩) 1 1, .slice ra ma rc] W fun e w' => ∃ fa fc ya yc Y F', e = .returned (.tuple #[.slice fa 1 fc, .slice ya ma yc, .int .i64 0]) ∧ Rw opF 9 w' fa 1 fc [Y] ∧ OwnF opF 9 42 w' W.heap.size (.slice ya ma yc) F' ∧ Y.1 = overL o false (L'.map (·.1)) ∧ Sp.Rng w' Y.2.1 Y.2.2.1 Y.2.2.2 Y.1.l ∧ Below W.heap.size W w' := by
  have hox : Rdy W (o, (xa, vm, xc)) := (rdy_own (x := (o, (xa, vm, xc))) hx gO (by omega)).below hb
  have e1 : ([((o, (xa, vm, xc)) : OpM)].map (·.1)) = [o] := rfl
  have g1 : RunG n ([((o, (xa, vm, xc)) : OpM)].map (·.1)) := by rw [e1]; exact And.intro gO trivial
  have r1 : ∀ x ∈ [((o, (xa, vm, xc)) : OpM)], Rdy W x := fun x h => by rw [List.mem_singleton] at h; subst h; exact hox
  have rl := rdys_below (rdy_of (t := n) hr gL (by omega)) hb
  have hl1 := lit_own hg (Nat.zero_le _)
  have hu1 : ∀ f ∈ ([((o, (xa, vm, xc)) : OpM)].map (·.1)), ∀ l ∈ L'.map (·.1), Unlike f l := fun f hf l hl => by
    rw [e1, List.mem_singleton] at hf
    subst hf
    exact hu l hl
  refine (Cross_ok (t := n) hl1 (ho.below hb) r1 rl hw g1 gL hu1 (by simp; omega)).mono ?_
  rintro e w' ⟨fa, fc, ya, yc, Y, F', rfl, h1, h2, h3, _, h5, _, h7⟩
  rw [e1, over_first] at h3
  obtain ⟨Y, rfl⟩ := List.length_eq_one_iff.1 (show Y.length = 1 by have := congrArg List.length h3; simpa only [List.length_map, List.length_singleton] using this)
  rw [List.map_cons, List.map_nil, List.cons.injEq] at h3
  exact ⟨fa, fc, ya, yc, Y, F', rfl, h1.rw_ layO, h2, h3.1, rng_of_rw ((h5 Y List.mem_cons_self).rw_ layG), h7⟩

theorem box7b {W : World} {b : Nat} {T : TypeId} {v0 v1 v2 v3 v4 v5 v6 : Value} (h : W.heap[b]? = some (.cells #[v0, v1, v2, v3, v4, v5, v6] T)) :
    W.cell? ⟨b, 0, none⟩ = some v0 ∧ W.cell? ⟨b, 1, none⟩ = some v1 ∧ W.cell? ⟨b, 2, none⟩ = some v2 ∧ W.cell? ⟨b, 3, none⟩ = some v3 ∧ W.cell? ⟨b, 4, none⟩ = some v4 ∧ W.cell? ⟨b, 5, none⟩ = some v5 ∧ W.cell? ⟨b, 6, none⟩ = some v6 := by
  simp only [Lib.cell_of_heap h]
  exact ⟨rfl, rfl, rfl, rfl, rfl, rfl, rfl⟩
set_option maxHeartbeats 16000000 in
theorem overIsCross_any (len i j : Int) (e : Bool) (a1 a2 a6 : Option Addr) (m1 m2 m6 cap1 cap2 cap6 : Nat) (w : World) (hB : Bar w) (hT : Txs w) {S1 S2 : List SpecM} (hS1 : Rw specF 5 w a1 m1 cap1 S1) (hO1 : OkSpecs w S1) (hS2 : Rw specF 5 w a2 m2 cap2 S2) (hO2 : OkSpecs w S2) :
    Calls Tryd.prog 4 #[.agg #[.int .i64 len, .slice a1 m1 cap1, .slice a2 m2 cap2, .int .i64 i, .int .i64 j, .bool e, .slice a6 m6 cap6]] w fun r w' => r = .returned (.bool true) ∧ Below w.heap.size w w' := by
  obtain ⟨n, hn⟩ : ∃ n : Nat, len % 30 = (n : Int) := ⟨(len % 30).toNat, by omega⟩
  have hn30 : n < 30 := by omega
  have HW1 : Hid (∀ W, Calls Tryd.prog 7 #[.int .i64 len, .int .i64 30] W fun e w' => e = .returned (.int .i64 (n : Int)) ∧ W = w') := fun W => by rw [← hn]; exact (within_any len 30 (by omega) (by omega) W).mono fun e w' h => ⟨h.1, h.2.symm⟩
  have HN : Hid (∀ W, Calls Tryd.prog 11 #[.int .i64 0] W fun r w' => r = .returned (.int .i64 0) ∧ W = w') := fun W => (num_any 0 W).mono fun e w' h => ⟨h.1, h.2.symm⟩
  have HR1 : Hid (∀ W, Below w.heap.size w W → Calls Tryd.prog 8 #[.slice a1 m1 cap1, .int .i64 1, .int .i64 (n : Int)] W fun e w' => ∃ va vm vc L, e = .returned (.slice va vm vc) ∧ OwnF opF 9 42 w' W.heap.size (.slice va vm vc) L ∧ OwnRs w' W.heap.size L ∧ RunOk 1 0 n (L.map (·.1)) ∧ L.length ≤ 12 ∧ Below W.heap.size W w') := fun W hb => run_any (hS1.below hb) (fun x hx => by obtain ⟨zs, hz⟩ := hO1 x hx; exact ⟨zs, hz.below hb⟩) (by omega) (hT.below hb)
  have HFi : Hid (∀ W, Below w.heap.size w W → Calls Tryd.prog 16 #[.slice a2 m2 cap2] W fun e w' => ∃ (kd at_ nn : Int) (pa : Option Addr) (pm pc : Nat) (on : Bool) (zs : List Int), e = .returned (.agg #[.int .i64 kd, .int .i64 at_, .int .i64 nn, .slice pa pm pc, .bool on]) ∧ Rw int1 1 W pa pm pc zs ∧ Below W.heap.size W w') := fun W hb => first_any (hS2.below hb) (fun x hx => by obtain ⟨zs, hz⟩ := hO2 x hx; exact ⟨zs, hz.below hb⟩)
  have HMd : Hid (∀ (W : World) (kd at_ nn : Int) (pa : Option Addr) (pm pc : Nat) (on : Bool) (zs : List Int), Below w.heap.size w W → Rw int1 1 W pa pm pc zs → Calls Tryd.prog 15 #[.agg #[.int .i64 kd, .int .i64 at_, .int .i64 nn, .slice pa pm pc, .bool on], .agg #[.int .i64 2, .int .i64 1], .int .i64 (n : Int)] W fun e w' => ∃ o va vm vc, e = .returned (opVal o (.slice va vm vc)) ∧ Made 2 1 n o ∧ OwnF rangeV 2 85 w' W.heap.size (.slice va vm vc) o.l ∧ Below W.heap.size W w') := fun W kd at_ nn pa pm pc on zs hb hz => made_any hz (by omega) (hT.below hb)
  have HBar : Hid (∀ W, Below w.heap.size w W → Bar W) := fun W hb => hB.below hb
  have HAw : Hid (∀ W, Below w.heap.size w W → Calls Tryd.prog 12 #[] W fun e w' => e = .returned (.bool true) ∧ Below W.heap.size W w') := fun W hb => awake_any W (hB.below hb)
  clear hn hT hS1 hO1 hS2 hO2 hB
  obtain ⟨W0, hW0⟩ : ∃ W0, w.alloc (Obj.cells #[.int .i64 len, .slice a1 m1 cap1, .slice a2 m2 cap2, .int .i64 i, .int .i64 j, .bool e, .slice a6 m6 cap6] 25) = W0 := ⟨_, rfl⟩
  have hX : W0.heap[w.heap.size]? = some (Obj.cells #[.int .i64 len, .slice a1 m1 cap1, .slice a2 m2 cap2, .int .i64 i, .int .i64 j, .bool e, .slice a6 m6 cap6] 25) := by rw [← hW0]; exact alloc_last _ _ _ rfl
  have hB0 : Below w.heap.size w W0 := by rw [← hW0]; exact (Below.refl w.heap.size w).alloc (Nat.le_refl _) _
  have alt : w.heap.size < W0.heap.size := (Array.getElem?_eq_some_iff.1 hX).1
  obtain ⟨k0, k1, k2, k3, k4, k5, k6⟩ := box7b hX
  go_enter Tryd.func4, Tryd.ntmps4
  go_wp2_with fail
  refine (HW1.out _).mono ?_
  rintro e2 w1 ⟨rfl, rfl⟩
  go_wp2_with fail
  refine (HR1.out _ hB0).mono ?_
  rintro e2 w2 ⟨la, ma, ca, LA, rfl, hoA, hrA, hokA, lnA, hb2⟩
  have hX2 := (hb2.block _ alt).trans hX
  have hB2 := hB0.trans (hb2.mono hB0.size)
  clear k0 k1 k2 k3 k4 k5 k6 hX hW0 hB0 alt HW1
  obtain ⟨k0, k1, k2, k3, k4, k5, k6⟩ := box7b hX2
  obtain ⟨gA, uA⟩ := runG_of (.inl rfl) _ 0 n hokA (by rw [List.length_map]; omega)
  have rA := rdy_of hrA gA (by omega)
  have wA := hoA.rw_ layO
  have maA := wA.len
  have HA2 : Hid (Rw opF 9 w2 la ma ca LA ∧ ∀ x ∈ LA, Rdy w2 x) := ⟨wA, rA⟩
  have HPA : Hid (RunG n (LA.map (·.1)) ∧ ∀ o ∈ (LA.map (·.1)), o.c = 1) := ⟨gA, uA⟩
  clear hoA hrA hokA rA wA hb2 gA uA
  go_wp2_with fail
  refine (HFi.out _ hB2).mono ?_
  rintro e2 w3 ⟨kd, at_, nn, pa, pm, pc, on, zs, rfl, hz, hb3⟩
  have hB3 := hB2.trans (hb3.mono hB2.size)
  have HMd2 := HMd.out w3 kd at_ nn pa pm pc on zs hB3 (hz.below hb3)
  clear k0 k1 k2 k3 k4 k5 k6 hX2 HMd HFi HR1 hz
  go_wp2_with fail
  refine HMd2.mono ?_
  rintro e2 w4 ⟨o, va, vm, vc, rfl, hmd, hoR, hb4⟩
  have hB4 := hB3.trans (hb4.mono hB3.size)
  have hb24 := hb3.trans (hb4.mono hb3.size)
  have gO : GoodO n o := good_of_made hmd (by decide) (by decide)
  simp only [opVal]
  go_upto_region 4 with fail
  obtain ⟨W5, hW5⟩ : ∃ W5, w4.alloc (Obj.cells #[.int .i64 o.c, .int .i64 o.n, .int .i64 o.k, .int .i64 o.p, .string o.s, .slice va vm vc, .int .i64 o.tc, .int .i64 o.tn, .bool o.on] 42) = W5 := ⟨_, rfl⟩
  have oX : W5.heap[w4.heap.size]? = some (Obj.cells #[.int .i64 o.c, .int .i64 o.n, .int .i64 o.k, .int .i64 o.p, .string o.s, .slice va vm vc, .int .i64 o.tc, .int .i64 o.tn, .bool o.on] 42) := by rw [← hW5]; exact alloc_last _ _ _ rfl
  have h45 : Below w4.heap.size w4 W5 := by rw [← hW5]; exact (Below.refl _ _).alloc (Nat.le_refl _) _
  rw [hW5]
  clear hW5
  have hB5 := hB4.trans (h45.mono hB4.size)
  have HU : Hid (∀ f ∈ (LA.map (·.1)), Unlike o f) := fun f hf h => by have h1 := HPA.out.2 f hf; have h2 := hmd.id.1; have := h.1; omega
  have HGO : Hid (GoodO n o) := gO
  have HRo : Hid (OwnF rangeV 2 85 W5 w3.heap.size (.slice va vm vc) o.l) := hoR.below h45
  have HA5 : Hid (Rw opF 9 W5 la ma ca LA ∧ ∀ x ∈ LA, Rdy W5 x) := ⟨HA2.out.1.below (hb24.trans (h45.mono hb24.size)), rdys_below HA2.out.2 (hb24.trans (h45.mono hb24.size))⟩
  have HCo : Hid (∀ W, Below W5.heap.size W5 W → Calls Tryd.prog 18 #[opVal o (.slice va vm vc)] W fun e w' => ∃ (xa : Option Addr) (xc : Nat), e = .returned (opVal o (.slice xa vm xc)) ∧ OwnF rangeV 2 85 w' W.heap.size (.slice xa vm xc) o.l ∧ Below W.heap.size W w') := fun W hb => (copy_any (rng_of_rw ((HRo.out.below hb).rw_ layG)) (by have := made_few HGO.out; have := ((HRo.out.below hb).rw_ layG).len; omega)).mono fun e2 w5 ⟨a', cap', he, ho5, hb5⟩ => ⟨a', cap', he, ho5.mono (by first | exact Nat.le_refl _ | omega), hb5⟩
  have HCR : Hid (∀ W, Below W5.heap.size W5 W → Calls Tryd.prog 10 #[.slice la ma ca] W fun e w' => ∃ ra rc L', e = .returned (.slice ra ma rc) ∧ OwnF opF 9 42 w' W.heap.size (.slice ra ma rc) L' ∧ (L'.map (·.1) = (LA.map (·.1)) ∧ OwnRs w' W.heap.size L') ∧ Below W.heap.size W w') := fun W hb => (copyRun_any (HA5.out.1.below hb) (rdys_below HA5.out.2 hb) (by omega)).mono fun e2 w5 ⟨ra, rc, L', he, h1, h2, h3, h4⟩ => ⟨ra, rc, L', he, h1, ⟨h2, h3⟩, h4⟩
  have HOv : Hid (∀ (ear : Bool) (W w6 : World) (xa : Option Addr) (xc : Nat) (ra : Option Addr) (rc B B2 : Nat) (L' : List OpM), Below W5.heap.size W5 W → Below w6.heap.size w6 W → OwnF rangeV 2 85 w6 B (.slice xa vm xc) o.l → OwnF opF 9 42 W B2 (.slice ra ma rc) L' → L'.map (·.1) = (LA.map (·.1)) → OwnRs W B2 L' → Calls Tryd.prog 17 #[opVal o (.slice xa vm xc), .bool ear, .slice ra ma rc] W fun e w' => ∃ ya ym yc, e = .returned (.tuple #[opVal (overL o ear (LA.map (·.1))) (.slice ya ym yc), .int .i64 0]) ∧ Sp.Rng w' ya ym yc (overL o ear (LA.map (·.1))).l ∧ Below W.heap.size W w') := fun ear W w6 xa xc ra rc B B2 L' hb h6 hx ho hm hr => by
    have hlm : L'.length = LA.length := by have := congrArg List.length hm; simpa using this
    have := Over_ok (ear := ear) (t := n) ((rdy_own (x := (o, (xa, vm, xc))) hx HGO.out (by omega)).below h6) (ho.rw_ layO) (rdy_of (t := n) hr (by rw [hm]; exact HPA.out.1) (by omega)) (HBar.out W (hB5.trans (hb.mono hB5.size))) HGO.out (by rw [hm]; exact HPA.out.1) (by rw [hm]; exact HU.out) (by omega)
    rw [hm] at this
    exact this.mono fun e2 w5 ⟨ya, ym, yc, he, ho5, hb5⟩ => ⟨ya, ym, yc, he, rng_of_rw (ho5.rw_ layG), hb5⟩
  have HX1 : Hid (∀ (W w7 : World) (xa : Option Addr) (xc : Nat) (ra : Option Addr) (rc B B2 : Nat) (L' : List OpM), Below W5.heap.size W5 W → OwnF opF 9 42 w7 B (.slice ra ma rc) L' → L'.map (·.1) = (LA.map (·.1)) → OwnRs w7 B L' → OwnF rangeV 2 85 w7 B2 (.slice xa vm xc) o.l → Below w7.heap.size w7 W → W.heap[w7.heap.size]? = some (Obj.cells #[.int .i64 o.c, .int .i64 o.n, .int .i64 o.k, .int .i64 o.p, .string o.s, .slice xa vm xc, .int .i64 o.tc, .int .i64 o.tn, .bool o.on] 42) → Calls Tryd.prog 9 #[.slice ra ma rc, .slice (some ⟨w7.heap.size, 0, none⟩) 1 1] W fun e w' => ∃ fa fc ya yc F' Y, e = .returned (.tuple #[.slice fa ma fc, .slice ya 1 yc, .int .i64 0]) ∧ OwnF opF 9 42 w' W.heap.size (.slice fa ma fc) F' ∧ Rw opF 9 w' ya 1 yc [Y] ∧ Y.1 = overL o true (LA.map (·.1)) ∧ Sp.Rng w' Y.2.1 Y.2.2.1 Y.2.2.2 Y.1.l ∧ Below W.heap.size W w') := fun W w7 xa xc ra rc B B2 L' hb ho hm hr hx h7 hg => by
    have hlm : L'.length = LA.length := by have := congrArg List.length hm; simpa using this
    have := cross_one (HBar.out W (hB5.trans (hb.mono hB5.size))) ho hr hx HGO.out (by rw [hm]; exact HPA.out.1) (by rw [hm]; exact HU.out) (by omega) (by omega) h7 hg
    rw [hm] at this
    exact this
  have HX2 : Hid (∀ (W w7 : World) (g : Nat) (xa : Option Addr) (xc : Nat) (ra : Option Addr) (rc B B2 : Nat) (L' : List OpM), Below W5.heap.size W5 W → OwnF opF 9 42 w7 B (.slice ra ma rc) L' → L'.map (·.1) = (LA.map (·.1)) → OwnRs w7 B L' → OwnF rangeV 2 85 w7 B2 (.slice xa vm xc) o.l → Below w7.heap.size w7 W → W.heap[g]? = some (Obj.cells #[.int .i64 o.c, .int .i64 o.n, .int .i64 o.k, .int .i64 o.p, .string o.s, .slice xa vm xc, .int .i64 o.tc, .int .i64 o.tn, .bool o.on] 42) → Calls Tryd.prog 9 #[.slice (some ⟨g, 0, none⟩) 1 1, .slice ra ma rc] W fun e w' => ∃ fa fc ya yc Y F', e = .returned (.tuple #[.slice fa 1 fc, .slice ya ma yc, .int .i64 0]) ∧ Rw opF 9 w' fa 1 fc [Y] ∧ OwnF opF 9 42 w' W.heap.size (.slice ya ma yc) F' ∧ Y.1 = overL o false (LA.map (·.1)) ∧ Sp.Rng w' Y.2.1 Y.2.2.1 Y.2.2.2 Y.1.l ∧ Below W.heap.size W w') := fun W w7 g xa xc ra rc B B2 L' hb ho hm hr hx h7 hg => by
    have hlm : L'.length = LA.length := by have := congrArg List.length hm; simpa using this
    have := cross_two (HBar.out W (hB5.trans (hb.mono hB5.size))) ho hr hx HGO.out (by rw [hm]; exact HPA.out.1) (by rw [hm]; exact HU.out) (by omega) (by omega) h7 hg
    rw [hm] at this
    exact this
  have HOT := Hid.mk' (HOv.out true)
  have HOF := Hid.mk' (HOv.out false)
  simp only [opVal] at HOT HOF
  generalize overL o true (LA.map (·.1)) = ox at *
  generalize overL o false (LA.map (·.1)) = oy at *
  have olt : w4.heap.size < W5.heap.size := (Array.getElem?_eq_some_iff.1 oX).1
  generalize w4.heap.size = go at *
  clear hmd hoR hb24 gO HA2 hb3 hb4 h45 HMd2 HU HGO HRo HA5 hB2 hB3 hB4
  simp only [opVal] at HCo HOv
  have HOt : Hid (∀ (W w6 : World) (xa : Option Addr) (xc : Nat) (ra : Option Addr) (rc B B2 : Nat) (L' : List OpM), Below W5.heap.size W5 W → Below w6.heap.size w6 W → OwnF rangeV 2 85 w6 B (.slice xa vm xc) o.l → OwnF opF 9 42 W B2 (.slice ra ma rc) L' → L'.map (·.1) = (LA.map (·.1)) → OwnRs W B2 L' → Calls Tryd.prog 17 #[.agg #[.int .i64 o.c, .int .i64 o.n, .int .i64 o.k, .int .i64 o.p, .string o.s, .slice xa vm xc, .int .i64 o.tc, .int .i64 o.tn, .bool o.on], .bool true, .slice ra ma rc] W fun e w' => ∃ ya ym yc, e = .returned (.tuple #[.agg #[.int .i64 ox.c, .int .i64 ox.n, .int .i64 ox.k, .int .i64 ox.p, .string ox.s, .slice ya ym yc, .int .i64 ox.tc, .int .i64 ox.tn, .bool ox.on], .int .i64 0]) ∧ Sp.Rng w' ya ym yc ox.l ∧ Below W.heap.size W w') := HOT.out
  have HOf : Hid (∀ (W w6 : World) (xa : Option Addr) (xc : Nat) (ra : Option Addr) (rc B B2 : Nat) (L' : List OpM), Below W5.heap.size W5 W → Below w6.heap.size w6 W → OwnF rangeV 2 85 w6 B (.slice xa vm xc) o.l → OwnF opF 9 42 W B2 (.slice ra ma rc) L' → L'.map (·.1) = (LA.map (·.1)) → OwnRs W B2 L' → Calls Tryd.prog 17 #[.agg #[.int .i64 o.c, .int .i64 o.n, .int .i64 o.k, .int .i64 o.p, .string o.s, .slice xa vm xc, .int .i64 o.tc, .int .i64 o.tn, .bool o.on], .bool false, .slice ra ma rc] W fun e w' => ∃ ya ym yc, e = .returned (.tuple #[.agg #[.int .i64 oy.c, .int .i64 oy.n, .int .i64 oy.k, .int .i64 oy.p, .string oy.s, .slice ya ym yc, .int .i64 oy.tc, .int .i64 oy.tn, .bool oy.on], .int .i64 0]) ∧ Sp.Rng w' ya ym yc oy.l ∧ Below W.heap.size W w') := HOF.out
  clear HOv HOT HOF
  obtain ⟨ok0, ok1, ok2, ok3, ok4, ok5, ok6, ok7, ok8⟩ := box9 oX
  go_wp2_with fail
  refine (HCo.out _ (Below.refl _ _)).mono ?_
  rintro e2 w6 ⟨xa, xc, rfl, hx6, h6⟩
  go_wp2_with fail
  refine (HCR.out _ h6).mono ?_
  rintro e2 w7 ⟨ra, rc, L7, rfl, ho7, ⟨hm7, hr7⟩, h7⟩
  have h57 := h6.trans (h7.mono h6.size)
  have HO7 := HOt.out w7 w6 xa xc ra rc _ _ L7 h57 h7 hx6 ho7 hm7 hr7
  clear hx6 ho7 hm7 hr7 h6 h7 HOt ok0 ok1 ok2 ok3 ok4 ok5 ok6 ok7 ok8
  go_wp2_with fail
  refine HO7.mono ?_
  rintro e2 w8 ⟨ya, ym, yc, rfl, hy8, h8⟩
  have h58 := h57.trans (h8.mono h57.size)
  clear HO7 h57 h8
  go_upto_region 5 with fail
  obtain ⟨W9, hW9⟩ : ∃ W9, w8.alloc (Obj.cells #[.int .i64 ox.c, .int .i64 ox.n, .int .i64 ox.k, .int .i64 ox.p, .string ox.s, .slice ya ym yc, .int .i64 ox.tc, .int .i64 ox.tn, .bool ox.on] 42) = W9 := ⟨_, rfl⟩
  have xX : W9.heap[w8.heap.size]? = some (Obj.cells #[.int .i64 ox.c, .int .i64 ox.n, .int .i64 ox.k, .int .i64 ox.p, .string ox.s, .slice ya ym yc, .int .i64 ox.tc, .int .i64 ox.tn, .bool ox.on] 42) := by rw [← hW9]; exact alloc_last _ _ _ rfl
  have h89 : Below w8.heap.size w8 W9 := by rw [← hW9]; exact (Below.refl _ _).alloc (Nat.le_refl _) _
  rw [hW9]
  clear hW9
  have hy9 := hy8.below h89
  have h59 := h58.trans (h89.mono h58.size)
  have xlt : w8.heap.size < W9.heap.size := (Array.getElem?_eq_some_iff.1 xX).1
  generalize w8.heap.size = gx at *
  have oX9 := (h59.block _ olt).trans oX
  obtain ⟨ok0, ok1, ok2, ok3, ok4, ok5, ok6, ok7, ok8⟩ := box9 oX9
  clear hy8 h58 h89
  go_cut [8, 9, 10] (fun v8 v9 v10 wx => ∃ (fa : Option Addr) (fc : Nat) (ya : Option Addr) (yc : Nat) (Y : OpM), v8 = .slice fa ma fc ∧ v9 = .slice ya 1 yc ∧ v10 = .int .i64 0 ∧ Hid (Rw opF 9 wx ya 1 yc [Y] ∧ Y.1 = ox ∧ Sp.Rng wx Y.2.1 Y.2.2.1 Y.2.2.2 Y.1.l) ∧ Below W9.heap.size W9 wx)
  case first =>
    go_region_with (first
      | (go_at_call 10; refine (HCR.out _ ?_).mono ?_; (first | exact h59 | exact h59.drew); rintro e2 w10 ⟨ra, rc, L10, rfl, ho10, ⟨hm10, hr10⟩, h10⟩; (have h9a : Below W9.heap.size W9 w10 := (by first | exact h10 | exact (Below.refl _ _).drew.trans h10)); (have oc0 := (h9a.cell (p := ⟨go, 0, none⟩) (Nat.lt_of_lt_of_le olt h59.size)).trans ok0); (have oc1 := (h9a.cell (p := ⟨go, 1, none⟩) (Nat.lt_of_lt_of_le olt h59.size)).trans ok1); (have oc2 := (h9a.cell (p := ⟨go, 2, none⟩) (Nat.lt_of_lt_of_le olt h59.size)).trans ok2); (have oc3 := (h9a.cell (p := ⟨go, 3, none⟩) (Nat.lt_of_lt_of_le olt h59.size)).trans ok3); (have oc4 := (h9a.cell (p := ⟨go, 4, none⟩) (Nat.lt_of_lt_of_le olt h59.size)).trans ok4); (have oc5 := (h9a.cell (p := ⟨go, 5, none⟩) (Nat.lt_of_lt_of_le olt h59.size)).trans ok5); (have oc6 := (h9a.cell (p := ⟨go, 6, none⟩) (Nat.lt_of_lt_of_le olt h59.size)).trans ok6); (have oc7 := (h9a.cell (p := ⟨go, 7, none⟩) (Nat.lt_of_lt_of_le olt h59.size)).trans ok7); (have oc8 := (h9a.cell (p := ⟨go, 8, none⟩) (Nat.lt_of_lt_of_le olt h59.size)).trans ok8))
      | (go_at_call 18; refine (HCo.out _ ?_).mono ?_; (first | exact h59.trans (h9a.mono h59.size) | exact (h59.trans (h9a.mono h59.size)).drew); rintro e2 w11 ⟨xa, xc, rfl, hx11, h11⟩; (have hab : Below w10.heap.size w10 w11 := (by first | exact h11 | exact (Below.refl _ _).drew.trans h11)); (have h9b : Below W9.heap.size W9 w11 := h9a.trans (hab.mono h9a.size)); (have hx11 : OwnF rangeV 2 85 w11 w10.heap.size (.slice xa vm xc) o.l := hx11))
      | (go_at_call 9; refine (HX1.out _ w11 xa xc ra rc _ _ L10 ?_ (ho10.below hab) hm10 (fun x hx => (hr10 x hx).below hab) hx11 ?_ ?_).mono ?_; (first | exact (h59.trans (h9b.mono h59.size)).alloc (h59.trans (h9b.mono h59.size)).size _ | exact ((h59.trans (h9b.mono h59.size)).alloc (h59.trans (h9b.mono h59.size)).size _).drew); (first | exact (Below.refl _ _).alloc (Nat.le_refl _) _ | exact ((Below.refl _ _).alloc (Nat.le_refl _) _).drew); (exact alloc_last _ _ _ rfl); rintro e2 w12 ⟨fa, fc, za, zc, F12, Y, rfl, _, hY, hYo, hYr, h12⟩; (have h9c : Below W9.heap.size W9 w12 := (by first | exact (h9b.alloc h9b.size _).trans (h12.mono (h9b.alloc h9b.size _).size) | exact (h9b.alloc h9b.size _).drew.trans (h12.mono (h9b.alloc h9b.size _).size)))))
    all_goals
      go_wp2_with fail
      go_meet
      case rel => exact ⟨fa, fc, za, zc, Y, rfl, rfl, rfl, ⟨hY, hYo, hYr⟩, h9c⟩
  case rest =>
    obtain ⟨W12, rfl⟩ : ∃ x, x = wc := ⟨_, rfl⟩
    obtain ⟨fa, fc, za, zc, Y, rfl, rfl, rfl, HY, h9c⟩ := hcut
    have h5c := h59.trans (h9c.mono h59.size)
    have oXc := (h5c.block _ olt).trans oX
    have xXc := (h9c.block _ xlt).trans xX
    have hyc := hy9.below h9c
    clear ok0 ok1 ok2 ok3 ok4 ok5 ok6 ok7 ok8 oX9 xX h9c h59 hy9 HX1
    obtain ⟨ok0, ok1, ok2, ok3, ok4, ok5, ok6, ok7, ok8⟩ := box9 oXc
    go_wp2_with fail
    refine (HCo.out _ h5c).mono ?_
    rintro e2 w13 ⟨xa, xc, rfl, hx13, h13⟩
    have h513 := h5c.trans (h13.mono h5c.size)
    go_wp2_with fail
    refine (HCR.out _ h513).mono ?_
    rintro e2 w14 ⟨ra, rc, L14, rfl, ho14, ⟨hm14, hr14⟩, h14⟩
    have h514 := h513.trans (h14.mono h513.size)
    have HO7 := HOf.out w14 w13 xa xc ra rc _ _ L14 h514 h14 hx13 ho14 hm14 hr14
    have hcd := h13.trans (h14.mono h13.size)
    clear hx13 ho14 hm14 hr14 h13 h14 HOf ok0 ok1 ok2 ok3 ok4 ok5 ok6 ok7 ok8 h513
    go_wp2_with fail
    refine HO7.mono ?_
    rintro e2 w15 ⟨ua, um, uc, rfl, hu15, h15⟩
    have h515 := h514.trans (h15.mono h514.size)
    have hce := hcd.trans (h15.mono hcd.size)
    clear HO7 h514 h15 hcd
    go_upto_region 7 with fail
    obtain ⟨W16, hW16⟩ : ∃ W16, w15.alloc (Obj.cells #[.int .i64 oy.c, .int .i64 oy.n, .int .i64 oy.k, .int .i64 oy.p, .string oy.s, .slice ua um uc, .int .i64 oy.tc, .int .i64 oy.tn, .bool oy.on] 42) = W16 := ⟨_, rfl⟩
    have yX : W16.heap[w15.heap.size]? = some (Obj.cells #[.int .i64 oy.c, .int .i64 oy.n, .int .i64 oy.k, .int .i64 oy.p, .string oy.s, .slice ua um uc, .int .i64 oy.tc, .int .i64 oy.tn, .bool oy.on] 42) := by rw [← hW16]; exact alloc_last _ _ _ rfl
    have h1516 : Below w15.heap.size w15 W16 := by rw [← hW16]; exact (Below.refl _ _).alloc (Nat.le_refl _) _
    rw [hW16]
    clear hW16
    have hu16 := hu15.below h1516
    have h516 := h515.trans (h1516.mono h515.size)
    have hcf := hce.trans (h1516.mono hce.size)
    have ylt : w15.heap.size < W16.heap.size := (Array.getElem?_eq_some_iff.1 yX).1
    generalize w15.heap.size = gy at *
    have oX16 := (h516.block _ olt).trans oX
    obtain ⟨ok0, ok1, ok2, ok3, ok4, ok5, ok6, ok7, ok8⟩ := box9 oX16
    clear hu15 h515 h1516 hce
    go_wp2_with fail
    refine (HCo.out _ h516).mono ?_
    rintro e2 w17 ⟨xa, xc, rfl, hx17, h17⟩
    have h517 := h516.trans (h17.mono h516.size)
    clear ok0 ok1 ok2 ok3 ok4 ok5 ok6 ok7 ok8
    obtain ⟨W18, hW18⟩ : ∃ W18, w17.alloc (Obj.cells #[.int .i64 o.c, .int .i64 o.n, .int .i64 o.k, .int .i64 o.p, .string o.s, .slice xa vm xc, .int .i64 o.tc, .int .i64 o.tn, .bool o.on] 42) = W18 := ⟨_, rfl⟩
    have lX : W18.heap[w17.heap.size]? = some (Obj.cells #[.int .i64 o.c, .int .i64 o.n, .int .i64 o.k, .int .i64 o.p, .string o.s, .slice xa vm xc, .int .i64 o.tc, .int .i64 o.tn, .bool o.on] 42) := by rw [← hW18]; exact alloc_last _ _ _ rfl
    have h1718 : Below w17.heap.size w17 W18 := by rw [← hW18]; exact (Below.refl _ _).alloc (Nat.le_refl _) _
    have h518 := h517.trans (h1718.mono h517.size)
    go_wp2_with fail
    try rw [hW18]
    refine (HCR.out _ h518).mono ?_
    rintro e2 w19 ⟨ra, rc, L19, rfl, ho19, ⟨hm19, hr19⟩, h19⟩
    have h519 := h518.trans (h19.mono h518.size)
    have h1719 := h1718.trans (h19.mono h1718.size)
    have HX3 := HX2.out w19 w19 w17.heap.size xa xc ra rc _ _ L19 h519 ho19 hm19 hr19 (hx17.below h1719) (Below.refl _ _) ((h19.block _ (Array.getElem?_eq_some_iff.1 lX).1).trans lX)
    have hcg := (hcf.trans (h17.mono hcf.size))
    have hch := hcg.trans (h1719.mono hcg.size)
    have h1619 := h17.trans (h1719.mono h17.size)
    clear hx17 ho19 hm19 hr19 h19 h1718 h1719 lX hW18 h518 h517 h17 hcg HX2 HCR HCo
    go_wp2_with fail
    refine HX3.mono ?_
    rintro e2 w20 ⟨qa, qc, sa, sc, Z, F20, rfl, hZ, _, hZo, hZr, h20⟩
    have h520 := h519.trans (h20.mono h519.size)
    have hci := hch.trans (h20.mono hch.size)
    have h1620 := h1619.trans (h20.mono h1619.size)
    clear HX3 h519 hch h1619 h20
    go_wp2_with fail
    refine (HN.out _).mono ?_
    rintro e2 w21 ⟨rfl, rfl⟩
    go_wp2_with fail
    refine (HN.out _).mono ?_
    rintro e2 w21 ⟨rfl, rfl⟩
    go_wp2_with fail
    refine (HN.out _).mono ?_
    rintro e2 w21 ⟨rfl, rfl⟩
    go_wp2_with fail
    refine (HN.out _).mono ?_
    rintro e2 w21 ⟨rfl, rfl⟩
    obtain ⟨hY, hYo, hYr⟩ := HY.out
    have hY2 := hY.below hci
    have hYr2 := hYr.below hci
    obtain ⟨Yo, Ya, Ym, Yc⟩ := Y
    obtain ⟨Zo, Za, Zm, Zc⟩ := Z
    simp only at hYo hZo hYr2 hZr
    subst hYo hZo
    obtain ⟨gl, ol, x1, rfl, hgl, hx1, lk0, lk1, lk2, lk3, lk4, lk5, lk6, lk7, lk8⟩ := hY2.at9 (Below.refl _ _) 0 (by omega)
    obtain ⟨gm, om, x2, rfl, hgm, hx2, mk0, mk1, mk2, mk3, mk4, mk5, mk6, mk7, mk8⟩ := hZ.at9 (Below.refl _ _) 0 (by omega)
    simp only [List.getElem?_cons_zero, Option.some.injEq] at hx1 hx2
    subst hx1 hx2
    simp only [Nat.zero_mul, Nat.add_zero] at lk0 lk1 lk2 lk3 lk4 lk5 lk6 lk7 lk8 mk0 mk1 mk2 mk3 mk4 mk5 mk6 mk7 mk8
    have xX20 := (hci.block _ (Array.getElem?_eq_some_iff.1 xXc).1).trans xXc
    have yX20 := (h1620.block _ ylt).trans yX
    have hB20 := hB5.trans (h520.mono hB5.size)
    have HSx : Hid (∀ W, Below w20.heap.size w20 W → Calls Tryd.prog 19 #[opVal Yo (.slice ya ym yc), opVal Yo (.slice Ya Ym Yc)] W fun e w' => e = .returned (.bool true) ∧ Below W.heap.size W w') := fun W hb => sameOp_true ((hyc.below hci).below hb) (hYr2.below hb)
    have HSy : Hid (∀ W, Below w20.heap.size w20 W → Calls Tryd.prog 19 #[opVal Zo (.slice ua um uc), opVal Zo (.slice Za Zm Zc)] W fun e w' => e = .returned (.bool true) ∧ Below W.heap.size W w') := fun W hb => sameOp_true ((hu16.below h1620).below hb) (hZr.below hb)
    have HA20 : Hid (∀ W, Below w20.heap.size w20 W → Calls Tryd.prog 12 #[] W fun e w' => e = .returned (.bool true) ∧ Below W.heap.size W w') := fun W hb => HAw.out W (hB20.trans (hb.mono hB20.size))
    simp only [opVal] at HSx HSy
    have xlt2 : gx < w20.heap.size := (Array.getElem?_eq_some_iff.1 xX20).1
    have ylt2 : gy < w20.heap.size := (Array.getElem?_eq_some_iff.1 yX20).1
    obtain ⟨xk0, xk1, xk2, xk3, xk4, xk5, xk6, xk7, xk8⟩ := box9 xX20
    obtain ⟨yk0, yk1, yk2, yk3, yk4, yk5, yk6, yk7, yk8⟩ := box9 yX20
    clear hY hYr hY2 hYr2 hZ hZr HY HAw hyc hu16 hci h1620 xXc yX xX20 yX20 h520 h5c h516 oXc oX16 oX hcf HN HBar HPA hB5
    go_wp2_with fail
    have hcur : Below w20.heap.size w20 w20 := Below.refl _ _
    go_region_held3 (fun W => W.cell? ⟨gx, 0, none⟩ = some (.int .i64 Yo.c) ∧ W.cell? ⟨gx, 1, none⟩ = some (.int .i64 Yo.n) ∧ W.cell? ⟨gx, 2, none⟩ = some (.int .i64 Yo.k) ∧ W.cell? ⟨gx, 3, none⟩ = some (.int .i64 Yo.p) ∧ W.cell? ⟨gx, 4, none⟩ = some (.string Yo.s) ∧ W.cell? ⟨gx, 5, none⟩ = some (.slice ya ym yc) ∧ W.cell? ⟨gx, 6, none⟩ = some (.int .i64 Yo.tc) ∧ W.cell? ⟨gx, 7, none⟩ = some (.int .i64 Yo.tn) ∧ W.cell? ⟨gx, 8, none⟩ = some (.bool Yo.on) ∧ W.cell? ⟨gy, 0, none⟩ = some (.int .i64 Zo.c) ∧ W.cell? ⟨gy, 1, none⟩ = some (.int .i64 Zo.n) ∧ W.cell? ⟨gy, 2, none⟩ = some (.int .i64 Zo.k) ∧ W.cell? ⟨gy, 3, none⟩ = some (.int .i64 Zo.p) ∧ W.cell? ⟨gy, 4, none⟩ = some (.string Zo.s) ∧ W.cell? ⟨gy, 5, none⟩ = some (.slice ua um uc) ∧ W.cell? ⟨gy, 6, none⟩ = some (.int .i64 Zo.tc) ∧ W.cell? ⟨gy, 7, none⟩ = some (.int .i64 Zo.tn) ∧ W.cell? ⟨gy, 8, none⟩ = some (.bool Zo.on) ∧ W.cell? ⟨gl, ol, none⟩ = some (.int .i64 Yo.c) ∧ W.cell? ⟨gl, ol + 1, none⟩ = some (.int .i64 Yo.n) ∧ W.cell? ⟨gl, ol + 2, none⟩ = some (.int .i64 Yo.k) ∧ W.cell? ⟨gl, ol + 3, none⟩ = some (.int .i64 Yo.p) ∧ W.cell? ⟨gl, ol + 4, none⟩ = some (.string Yo.s) ∧ W.cell? ⟨gl, ol + 5, none⟩ = some (.slice Ya Ym Yc) ∧ W.cell? ⟨gl, ol + 6, none⟩ = some (.int .i64 Yo.tc) ∧ W.cell? ⟨gl, ol + 7, none⟩ = some (.int .i64 Yo.tn) ∧ W.cell? ⟨gl, ol + 8, none⟩ = some (.bool Yo.on) ∧ W.cell? ⟨gm, om, none⟩ = some (.int .i64 Zo.c) ∧ W.cell? ⟨gm, om + 1, none⟩ = some (.int .i64 Zo.n) ∧ W.cell? ⟨gm, om + 2, none⟩ = some (.int .i64 Zo.k) ∧ W.cell? ⟨gm, om + 3, none⟩ = some (.int .i64 Zo.p) ∧ W.cell? ⟨gm, om + 4, none⟩ = some (.string Zo.s) ∧ W.cell? ⟨gm, om + 5, none⟩ = some (.slice Za Zm Zc) ∧ W.cell? ⟨gm, om + 6, none⟩ = some (.int .i64 Zo.tc) ∧ W.cell? ⟨gm, om + 7, none⟩ = some (.int .i64 Zo.tn) ∧ W.cell? ⟨gm, om + 8, none⟩ = some (.bool Zo.on)) (first | exact ⟨xk0, xk1, xk2, xk3, xk4, xk5, xk6, xk7, xk8, yk0, yk1, yk2, yk3, yk4, yk5, yk6, yk7, yk8, lk0, lk1, lk2, lk3, lk4, lk5, lk6, lk7, lk8, mk0, mk1, mk2, mk3, mk4, mk5, mk6, mk7, mk8⟩ | exact ⟨xe0, xe1, xe2, xe3, xe4, xe5, xe6, xe7, xe8, ye0, ye1, ye2, ye3, ye4, ye5, ye6, ye7, ye8, le0, le1, le2, le3, le4, le5, le6, le7, le8, me0, me1, me2, me3, me4, me5, me6, me7, me8⟩)
      (first | (go_at_call 12; refine (HA20.out _ ?_).mono ?_; (first | exact hcur | exact hcur.drew); rintro e3 w1 ⟨rfl, hb1⟩; have hcur : Below w20.heap.size w20 w1 := (by first | exact hcur.trans (hb1.mono hcur.size) | exact hcur.drew.trans (hb1.mono hcur.size)); have xe0 := (hcur.cell (p := ⟨gx, 0, none⟩) xlt2).trans xk0; have xe1 := (hcur.cell (p := ⟨gx, 1, none⟩) xlt2).trans xk1; have xe2 := (hcur.cell (p := ⟨gx, 2, none⟩) xlt2).trans xk2; have xe3 := (hcur.cell (p := ⟨gx, 3, none⟩) xlt2).trans xk3; have xe4 := (hcur.cell (p := ⟨gx, 4, none⟩) xlt2).trans xk4; have xe5 := (hcur.cell (p := ⟨gx, 5, none⟩) xlt2).trans xk5; have xe6 := (hcur.cell (p := ⟨gx, 6, none⟩) xlt2).trans xk6; have xe7 := (hcur.cell (p := ⟨gx, 7, none⟩) xlt2).trans xk7; have xe8 := (hcur.cell (p := ⟨gx, 8, none⟩) xlt2).trans xk8; have ye0 := (hcur.cell (p := ⟨gy, 0, none⟩) ylt2).trans yk0; have ye1 := (hcur.cell (p := ⟨gy, 1, none⟩) ylt2).trans yk1; have ye2 := (hcur.cell (p := ⟨gy, 2, none⟩) ylt2).trans yk2; have ye3 := (hcur.cell (p := ⟨gy, 3, none⟩) ylt2).trans yk3; have ye4 := (hcur.cell (p := ⟨gy, 4, none⟩) ylt2).trans yk4; have ye5 := (hcur.cell (p := ⟨gy, 5, none⟩) ylt2).trans yk5; have ye6 := (hcur.cell (p := ⟨gy, 6, none⟩) ylt2).trans yk6; have ye7 := (hcur.cell (p := ⟨gy, 7, none⟩) ylt2).trans yk7; have ye8 := (hcur.cell (p := ⟨gy, 8, none⟩) ylt2).trans yk8; have le0 := (hcur.cell (p := ⟨gl, ol, none⟩) hgl).trans lk0; have le1 := (hcur.cell (p := ⟨gl, ol + 1, none⟩) hgl).trans lk1; have le2 := (hcur.cell (p := ⟨gl, ol + 2, none⟩) hgl).trans lk2; have le3 := (hcur.cell (p := ⟨gl, ol + 3, none⟩) hgl).trans lk3; have le4 := (hcur.cell (p := ⟨gl, ol + 4, none⟩) hgl).trans lk4; have le5 := (hcur.cell (p := ⟨gl, ol + 5, none⟩) hgl).trans lk5; have le6 := (hcur.cell (p := ⟨gl, ol + 6, none⟩) hgl).trans lk6; have le7 := (hcur.cell (p := ⟨gl, ol + 7, none⟩) hgl).trans lk7; have le8 := (hcur.cell (p := ⟨gl, ol + 8, none⟩) hgl).trans lk8; have me0 := (hcur.cell (p := ⟨gm, om, none⟩) hgm).trans mk0; have me1 := (hcur.cell (p := ⟨gm, om + 1, none⟩) hgm).trans mk1; have me2 := (hcur.cell (p := ⟨gm, om + 2, none⟩) hgm).trans mk2; have me3 := (hcur.cell (p := ⟨gm, om + 3, none⟩) hgm).trans mk3; have me4 := (hcur.cell (p := ⟨gm, om + 4, none⟩) hgm).trans mk4; have me5 := (hcur.cell (p := ⟨gm, om + 5, none⟩) hgm).trans mk5; have me6 := (hcur.cell (p := ⟨gm, om + 6, none⟩) hgm).trans mk6; have me7 := (hcur.cell (p := ⟨gm, om + 7, none⟩) hgm).trans mk7; have me8 := (hcur.cell (p := ⟨gm, om + 8, none⟩) hgm).trans mk8) | (go_at_call 19; refine (HSx.out _ ?_).mono ?_; (first | exact hcur | exact hcur.drew); rintro e3 w1 ⟨rfl, hb1⟩; have hcur : Below w20.heap.size w20 w1 := (by first | exact hcur.trans (hb1.mono hcur.size) | exact hcur.drew.trans (hb1.mono hcur.size)); have xe0 := (hcur.cell (p := ⟨gx, 0, none⟩) xlt2).trans xk0; have xe1 := (hcur.cell (p := ⟨gx, 1, none⟩) xlt2).trans xk1; have xe2 := (hcur.cell (p := ⟨gx, 2, none⟩) xlt2).trans xk2; have xe3 := (hcur.cell (p := ⟨gx, 3, none⟩) xlt2).trans xk3; have xe4 := (hcur.cell (p := ⟨gx, 4, none⟩) xlt2).trans xk4; have xe5 := (hcur.cell (p := ⟨gx, 5, none⟩) xlt2).trans xk5; have xe6 := (hcur.cell (p := ⟨gx, 6, none⟩) xlt2).trans xk6; have xe7 := (hcur.cell (p := ⟨gx, 7, none⟩) xlt2).trans xk7; have xe8 := (hcur.cell (p := ⟨gx, 8, none⟩) xlt2).trans xk8; have ye0 := (hcur.cell (p := ⟨gy, 0, none⟩) ylt2).trans yk0; have ye1 := (hcur.cell (p := ⟨gy, 1, none⟩) ylt2).trans yk1; have ye2 := (hcur.cell (p := ⟨gy, 2, none⟩) ylt2).trans yk2; have ye3 := (hcur.cell (p := ⟨gy, 3, none⟩) ylt2).trans yk3; have ye4 := (hcur.cell (p := ⟨gy, 4, none⟩) ylt2).trans yk4; have ye5 := (hcur.cell (p := ⟨gy, 5, none⟩) ylt2).trans yk5; have ye6 := (hcur.cell (p := ⟨gy, 6, none⟩) ylt2).trans yk6; have ye7 := (hcur.cell (p := ⟨gy, 7, none⟩) ylt2).trans yk7; have ye8 := (hcur.cell (p := ⟨gy, 8, none⟩) ylt2).trans yk8; have le0 := (hcur.cell (p := ⟨gl, ol, none⟩) hgl).trans lk0; have le1 := (hcur.cell (p := ⟨gl, ol + 1, none⟩) hgl).trans lk1; have le2 := (hcur.cell (p := ⟨gl, ol + 2, none⟩) hgl).trans lk2; have le3 := (hcur.cell (p := ⟨gl, ol + 3, none⟩) hgl).trans lk3; have le4 := (hcur.cell (p := ⟨gl, ol + 4, none⟩) hgl).trans lk4; have le5 := (hcur.cell (p := ⟨gl, ol + 5, none⟩) hgl).trans lk5; have le6 := (hcur.cell (p := ⟨gl, ol + 6, none⟩) hgl).trans lk6; have le7 := (hcur.cell (p := ⟨gl, ol + 7, none⟩) hgl).trans lk7; have le8 := (hcur.cell (p := ⟨gl, ol + 8, none⟩) hgl).trans lk8; have me0 := (hcur.cell (p := ⟨gm, om, none⟩) hgm).trans mk0; have me1 := (hcur.cell (p := ⟨gm, om + 1, none⟩) hgm).trans mk1; have me2 := (hcur.cell (p := ⟨gm, om + 2, none⟩) hgm).trans mk2; have me3 := (hcur.cell (p := ⟨gm, om + 3, none⟩) hgm).trans mk3; have me4 := (hcur.cell (p := ⟨gm, om + 4, none⟩) hgm).trans mk4; have me5 := (hcur.cell (p := ⟨gm, om + 5, none⟩) hgm).trans mk5; have me6 := (hcur.cell (p := ⟨gm, om + 6, none⟩) hgm).trans mk6; have me7 := (hcur.cell (p := ⟨gm, om + 7, none⟩) hgm).trans mk7; have me8 := (hcur.cell (p := ⟨gm, om + 8, none⟩) hgm).trans mk8) | (go_at_call 19; refine (HSy.out _ ?_).mono ?_; (first | exact hcur | exact hcur.drew); rintro e3 w1 ⟨rfl, hb1⟩; have hcur : Below w20.heap.size w20 w1 := (by first | exact hcur.trans (hb1.mono hcur.size) | exact hcur.drew.trans (hb1.mono hcur.size)); have xe0 := (hcur.cell (p := ⟨gx, 0, none⟩) xlt2).trans xk0; have xe1 := (hcur.cell (p := ⟨gx, 1, none⟩) xlt2).trans xk1; have xe2 := (hcur.cell (p := ⟨gx, 2, none⟩) xlt2).trans xk2; have xe3 := (hcur.cell (p := ⟨gx, 3, none⟩) xlt2).trans xk3; have xe4 := (hcur.cell (p := ⟨gx, 4, none⟩) xlt2).trans xk4; have xe5 := (hcur.cell (p := ⟨gx, 5, none⟩) xlt2).trans xk5; have xe6 := (hcur.cell (p := ⟨gx, 6, none⟩) xlt2).trans xk6; have xe7 := (hcur.cell (p := ⟨gx, 7, none⟩) xlt2).trans xk7; have xe8 := (hcur.cell (p := ⟨gx, 8, none⟩) xlt2).trans xk8; have ye0 := (hcur.cell (p := ⟨gy, 0, none⟩) ylt2).trans yk0; have ye1 := (hcur.cell (p := ⟨gy, 1, none⟩) ylt2).trans yk1; have ye2 := (hcur.cell (p := ⟨gy, 2, none⟩) ylt2).trans yk2; have ye3 := (hcur.cell (p := ⟨gy, 3, none⟩) ylt2).trans yk3; have ye4 := (hcur.cell (p := ⟨gy, 4, none⟩) ylt2).trans yk4; have ye5 := (hcur.cell (p := ⟨gy, 5, none⟩) ylt2).trans yk5; have ye6 := (hcur.cell (p := ⟨gy, 6, none⟩) ylt2).trans yk6; have ye7 := (hcur.cell (p := ⟨gy, 7, none⟩) ylt2).trans yk7; have ye8 := (hcur.cell (p := ⟨gy, 8, none⟩) ylt2).trans yk8; have le0 := (hcur.cell (p := ⟨gl, ol, none⟩) hgl).trans lk0; have le1 := (hcur.cell (p := ⟨gl, ol + 1, none⟩) hgl).trans lk1; have le2 := (hcur.cell (p := ⟨gl, ol + 2, none⟩) hgl).trans lk2; have le3 := (hcur.cell (p := ⟨gl, ol + 3, none⟩) hgl).trans lk3; have le4 := (hcur.cell (p := ⟨gl, ol + 4, none⟩) hgl).trans lk4; have le5 := (hcur.cell (p := ⟨gl, ol + 5, none⟩) hgl).trans lk5; have le6 := (hcur.cell (p := ⟨gl, ol + 6, none⟩) hgl).trans lk6; have le7 := (hcur.cell (p := ⟨gl, ol + 7, none⟩) hgl).trans lk7; have le8 := (hcur.cell (p := ⟨gl, ol + 8, none⟩) hgl).trans lk8; have me0 := (hcur.cell (p := ⟨gm, om, none⟩) hgm).trans mk0; have me1 := (hcur.cell (p := ⟨gm, om + 1, none⟩) hgm).trans mk1; have me2 := (hcur.cell (p := ⟨gm, om + 2, none⟩) hgm).trans mk2; have me3 := (hcur.cell (p := ⟨gm, om + 3, none⟩) hgm).trans mk3; have me4 := (hcur.cell (p := ⟨gm, om + 4, none⟩) hgm).trans mk4; have me5 := (hcur.cell (p := ⟨gm, om + 5, none⟩) hgm).trans mk5; have me6 := (hcur.cell (p := ⟨gm, om + 6, none⟩) hgm).trans mk6; have me7 := (hcur.cell (p := ⟨gm, om + 7, none⟩) hgm).trans mk7; have me8 := (hcur.cell (p := ⟨gm, om + 8, none⟩) hgm).trans mk8))
    all_goals
      go_wp2_with fail
      go_ret
      exact ⟨rfl, by first | exact hB20.trans (hcur.mono hB20.size) | exact hB20.trans ((below_drewN hcur _).mono hB20.size) | exact hB20.trans (hcur.drew.mono hB20.size)⟩
end Go.Proofs.YtlebbffpbbjakaaDoor
