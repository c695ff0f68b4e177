import Derived.Test.YtlebbffpbbjakaaDoorXfSX
import Derived.Test.YtlebbffpbbjakaaDoorXfN
import Derived.Test.YtlebbffpbbjakaaDoorXfH
namespace Go.Proofs.YtlebbffpbbjakaaDoor
open Go.RowKit Go.Lib
set_option maxRecDepth 100000

theorem incl_call {w : World} {a b : OpV} {t : Nat} {ear : Bool} (hw : Bar w) (ht : t ≤ 700) (ga : GoodO t a) (gb : GoodO t b) (hu : Unlike a b) {am bm : Nat} : ∀ (W : World) (xa : Option Addr) (xc : Nat) (ya : Option Addr) (yc : Nat), Below w.heap.size w W → Sp.Rng W xa am xc a.l → Sp.Rng W ya bm yc b.l → Calls Tryd.prog 20 #[opVal a (.slice xa am xc), opVal b (.slice ya bm yc), .bool ear] W fun e w' => ∃ va vm vc, e = .returned (.tuple #[opVal (inclP a b ear).1 (.slice va vm vc), .int .i64 0]) ∧ OwnF rangeV 2 85 w' W.heap.size (.slice va vm vc) (inclP a b ear).1.l ∧ Below W.heap.size W w' := fun W xa xc ya yc hb h1 h2 => by
  obtain ⟨z, _, _⟩ := good_incl (by omega) ga gb hu ear
  have f1 := made_few ga
  have f2 := made_few gb
  refine (Include_any h1 h2 (by omega) (by omega) (hw.below hb)).mono ?_
  rintro e w1 ⟨va, vm, vc, rfl, ho, hb1⟩
  have hx : xInclude a b ear = ((inclP a b ear).1, 0) := by unfold xInclude; rw [if_neg (by simp [firstErr2 (ga.own (by omega)) (gb.own (by omega))]), ← z]
  rw [hx] at ho ⊢
  exact ⟨va, vm, vc, rfl, ho, hb1⟩
theorem meet_rows {R : List CellW} {t : Nat} {a b : OpV} (hRt : R.length = t) (hS : Small 0 R) (ht : t ≤ 100) (ga : GoodO t a) (gb : GoodO t b) (hu : Unlike a b) :
    foldV R [a, (inclP b a true).1] = foldV R [b, (inclP a b false).1] ∧ FoldOk R [a, (inclP b a true).1] ∧ FoldOk R [b, (inclP a b false).1] := by
  have h1 := good_incl (by omega) gb ga hu.symm true
  have h2 := good_incl (by omega) ga gb hu false
  subst hRt
  refine ⟨meet1 (by omega) ga.made gb.made hu, fold_okG _ R 0 (And.intro ga (And.intro h1.2.1 trivial)) (by omega) hS (by simp; omega) (by simp), fold_okG _ R 0 (And.intro gb (And.intro h2.2.1 trivial)) (by omega) hS (by simp; omega) (by simp)⟩

theorem box7c {W : World} {b : Nat} {T : TypeId} {v0 v1 v2 v3 v4 v5 v6 : Value} (h : W.heap[b]? = some (.cells #[v0, v1, v2, v3, v4, v5, v6] T)) :
    W.cell? ⟨b, 0, none⟩ = some v0 ∧ W.cell? ⟨b, 1, none⟩ = some v1 ∧ W.cell? ⟨b, 2, none⟩ = some v2 ∧ W.cell? ⟨b, 3, none⟩ = some v3 ∧ W.cell? ⟨b, 4, none⟩ = some v4 ∧ W.cell? ⟨b, 5, none⟩ = some v5 ∧ W.cell? ⟨b, 6, none⟩ = some v6 := by
  simp only [Lib.cell_of_heap h]
  exact ⟨rfl, rfl, rfl, rfl, rfl, rfl, rfl⟩
set_option maxHeartbeats 16000000 in
theorem meets_any (len i j : Int) (e : Bool) (a1 a2 a6 : Option Addr) (m1 m2 m6 cap1 cap2 cap6 : Nat) (w : World) (hB : Bar w) (hT : Txs w) {S1 S2 : List SpecM} (hS1 : Rw specF 5 w a1 m1 cap1 S1) (hO1 : OkSpecs w S1) (hS2 : Rw specF 5 w a2 m2 cap2 S2) (hO2 : OkSpecs w S2) :
    Calls Tryd.prog 5 #[.agg #[.int .i64 len, .slice a1 m1 cap1, .slice a2 m2 cap2, .int .i64 i, .int .i64 j, .bool e, .slice a6 m6 cap6]] w fun r w' => r = .returned (.bool true) ∧ Below w.heap.size w w' := by
  obtain ⟨n, hn⟩ : ∃ n : Nat, len % 30 = (n : Int) := ⟨(len % 30).toNat, by omega⟩
  have hn30 : n < 30 := by omega
  have HW1 : Hid (∀ W, Calls Tryd.prog 7 #[.int .i64 len, .int .i64 30] W fun e w' => e = .returned (.int .i64 (n : Int)) ∧ W = w') := fun W => by rw [← hn]; exact (within_any len 30 (by omega) (by omega) W).mono fun e w' h => ⟨h.1, h.2.symm⟩
  have HN : Hid (∀ W, Calls Tryd.prog 11 #[.int .i64 0] W fun r w' => r = .returned (.int .i64 0) ∧ W = w') := fun W => (num_any 0 W).mono fun e w' h => ⟨h.1, h.2.symm⟩
  have HF1 : Hid (∀ W, Below w.heap.size w W → Calls Tryd.prog 16 #[.slice a1 m1 cap1] W fun e w' => ∃ (kd at_ nn : Int) (pa : Option Addr) (pm pc : Nat) (on : Bool) (zs : List Int), e = .returned (.agg #[.int .i64 kd, .int .i64 at_, .int .i64 nn, .slice pa pm pc, .bool on]) ∧ Rw int1 1 W pa pm pc zs ∧ Below W.heap.size W w') := fun W hb => first_any (hS1.below hb) (fun x hx => by obtain ⟨zs, hz⟩ := hO1 x hx; exact ⟨zs, hz.below hb⟩)
  have HF2 : Hid (∀ W, Below w.heap.size w W → Calls Tryd.prog 16 #[.slice a2 m2 cap2] W fun e w' => ∃ (kd at_ nn : Int) (pa : Option Addr) (pm pc : Nat) (on : Bool) (zs : List Int), e = .returned (.agg #[.int .i64 kd, .int .i64 at_, .int .i64 nn, .slice pa pm pc, .bool on]) ∧ Rw int1 1 W pa pm pc zs ∧ Below W.heap.size W w') := fun W hb => first_any (hS2.below hb) (fun x hx => by obtain ⟨zs, hz⟩ := hO2 x hx; exact ⟨zs, hz.below hb⟩)
  have HM1 : Hid (∀ (W : World) (kd at_ nn : Int) (pa : Option Addr) (pm pc : Nat) (on : Bool) (zs : List Int), Below w.heap.size w W → Rw int1 1 W pa pm pc zs → Calls Tryd.prog 15 #[.agg #[.int .i64 kd, .int .i64 at_, .int .i64 nn, .slice pa pm pc, .bool on], .agg #[.int .i64 1, .int .i64 1], .int .i64 (n : Int)] W fun e w' => ∃ o va vm vc, e = .returned (opVal o (.slice va vm vc)) ∧ Made 1 1 n o ∧ OwnF rangeV 2 85 w' W.heap.size (.slice va vm vc) o.l ∧ Below W.heap.size W w') := fun W kd at_ nn pa pm pc on zs hb hz => made_any hz (by omega) (hT.below hb)
  have HM2 : Hid (∀ (W : World) (kd at_ nn : Int) (pa : Option Addr) (pm pc : Nat) (on : Bool) (zs : List Int), Below w.heap.size w W → Rw int1 1 W pa pm pc zs → Calls Tryd.prog 15 #[.agg #[.int .i64 kd, .int .i64 at_, .int .i64 nn, .slice pa pm pc, .bool on], .agg #[.int .i64 2, .int .i64 1], .int .i64 (n : Int)] W fun e w' => ∃ o va vm vc, e = .returned (opVal o (.slice va vm vc)) ∧ Made 2 1 n o ∧ OwnF rangeV 2 85 w' W.heap.size (.slice va vm vc) o.l ∧ Below W.heap.size W w') := fun W kd at_ nn pa pm pc on zs hb hz => made_any hz (by omega) (hT.below hb)
  have HM3 : Hid (∀ (d : Nat) (W : World) (kd at_ nn : Int) (pa : Option Addr) (pm pc : Nat) (on : Bool) (zs : List Int), d ≤ 5 → Below w.heap.size w W → Rw int1 1 W pa pm pc zs → Calls Tryd.prog 15 #[.agg #[.int .i64 kd, .int .i64 at_, .int .i64 nn, .slice pa pm pc, .bool on], .agg #[.int .i64 2, .int .i64 2], .int .i64 ((n : Int) + (d : Int))] W fun e w' => ∃ o va vm vc, e = .returned (opVal o (.slice va vm vc)) ∧ Made 2 2 (n + d) o ∧ OwnF rangeV 2 85 w' W.heap.size (.slice va vm vc) o.l ∧ Below W.heap.size W w') := fun d W kd at_ nn pa pm pc on zs hd hb hz => by
    have := made_any (c := 2) (n := 2) (kd := kd) (at_ := at_) (nn := nn) (on := on) (t := n + d) hz (by omega) (hT.below hb)
    rw [show ((n + d : Nat) : Int) = (n : Int) + (d : Int) by omega] at this
    exact this
  have HBar : Hid (∀ W, Below w.heap.size w W → Bar W) := fun W hb => hB.below hb
  have HAw : Hid (∀ W, Below w.heap.size w W → Calls Tryd.prog 12 #[] W fun e w' => e = .returned (.bool true) ∧ Below W.heap.size W w') := fun W hb => awake_any W (hB.below hb)
  obtain ⟨R, hRe⟩ : ∃ R : List CellW, ((List.range n).map fun i => (((0, 0), ((i : Nat) : Int), 0) : CellW)) = R := ⟨_, rfl⟩
  have hRl : R.length = n := by rw [← hRe]; simp
  have HR0 : Hid (∀ x ∈ R, x.1 = (0, 0)) := fun x hx => by
    rw [← hRe] at hx
    obtain ⟨k, _, rfl⟩ := List.mem_map.1 hx
    rfl
  have HSm : Hid (Small 0 R) := fun x hx => by
    rw [← hRe] at hx
    obtain ⟨k, _, rfl⟩ := List.mem_map.1 hx
    simp
  have HRow : Hid (∀ W, Calls Tryd.prog 14 #[.int .i64 (n : Int)] W fun e w' => ∃ (va : Option Addr) (vm vc : Nat), e = .returned (.slice va vm vc) ∧ Rw cellW 4 w' va vm vc R ∧ Below W.heap.size W w') := fun W => by
    refine (row_any n (by omega) W).mono ?_
    rintro e2 w1 ⟨v, rfl, ho, hb⟩
    rw [hRe] at ho
    obtain ⟨xa, xc, rfl⟩ := ho.shape
    exact ⟨_, _, _, rfl, ho.rw_ layW, hb⟩
  clear hn hT hS1 hO1 hS2 hO2 hB hRe
  obtain ⟨W0, hW0⟩ : ∃ W0, w.alloc (Obj.cells #[.int .i64 len, .slice a1 m1 cap1, .slice a2 m2 cap2, .int .i64 i, .int .i64 j, .bool e, .slice a6 m6 cap6] 25) = W0 := ⟨_, rfl⟩
  have hX : W0.heap[w.heap.size]? = some (Obj.cells #[.int .i64 len, .slice a1 m1 cap1, .slice a2 m2 cap2, .int .i64 i, .int .i64 j, .bool e, .slice a6 m6 cap6] 25) := by rw [← hW0]; exact alloc_last _ _ _ rfl
  have hB0 : Below w.heap.size w W0 := by rw [← hW0]; exact (Below.refl w.heap.size w).alloc (Nat.le_refl _) _
  have alt : w.heap.size < W0.heap.size := (Array.getElem?_eq_some_iff.1 hX).1
  obtain ⟨k0, k1, k2, k3, k4, k5, k6⟩ := box7c hX
  go_enter Tryd.func5, Tryd.ntmps5
  go_wp2_with fail
  refine (HW1.out _).mono ?_
  rintro e2 w1 ⟨rfl, rfl⟩
  go_wp2_with fail
  refine (HRow.out _).mono ?_
  rintro e2 w2 ⟨la, lm, lc, rfl, hrw, hb2⟩
  have hX2 := (hb2.block _ alt).trans hX
  have hB2 := hB0.trans (hb2.mono hB0.size)
  clear k0 k1 k2 k3 k4 k5 k6 hX hW0 hB0 alt HW1 hb2
  obtain ⟨k0, k1, k2, k3, k4, k5, k6⟩ := box7c hX2
  go_wp2_with fail
  refine (HF1.out _ hB2).mono ?_
  rintro e2 w3 ⟨kd, at_, nn, pa, pm, pc, on, zs, rfl, hz, hb3⟩
  have hB3 := hB2.trans (hb3.mono hB2.size)
  have HM := HM1.out w3 kd at_ nn pa pm pc on zs hB3 (hz.below hb3)
  go_wp2_with fail
  refine HM.mono ?_
  rintro e2 w4 ⟨a, va, vm, vc, rfl, hmd, hoA, hb4⟩
  have h24 := hb3.trans (hb4.mono hb3.size)
  have hB4 := hB3.trans (hb4.mono hB3.size)
  have gA : GoodO n a := good_of_made hmd (by decide) (by decide)
  have HcA : Hid (a.c = 1) := hmd.id.1
  simp only [opVal]
  go_upto_region 4 with fail
  obtain ⟨W1, hW1⟩ : ∃ W1, w4.alloc (Obj.cells #[.int .i64 a.c, .int .i64 a.n, .int .i64 a.k, .int .i64 a.p, .string a.s, .slice va vm vc, .int .i64 a.tc, .int .i64 a.tn, .bool a.on] 42) = W1 := ⟨_, rfl⟩
  have aX : W1.heap[w4.heap.size]? = some (Obj.cells #[.int .i64 a.c, .int .i64 a.n, .int .i64 a.k, .int .i64 a.p, .string a.s, .slice va vm vc, .int .i64 a.tc, .int .i64 a.tn, .bool a.on] 42) := by rw [← hW1]; exact alloc_last _ _ _ rfl
  have h41 : Below w4.heap.size w4 W1 := by rw [← hW1]; exact (Below.refl _ _).alloc (Nat.le_refl _) _
  rw [hW1]
  clear hW1
  have h21 := h24.trans (h41.mono h24.size)
  have hB1 := hB4.trans (h41.mono hB4.size)
  have hX1 := (h21.block _ (Array.getElem?_eq_some_iff.1 hX2).1).trans hX2
  have hrw1 := hrw.below h21
  have hoA1 := hoA.below h41
  clear k0 k1 k2 k3 k4 k5 k6 hX2 hrw hoA hb3 hb4 h24 h41 h21 hB2 hB3 hB4 HM HM1 HF1 hz hmd
  generalize w4.heap.size = ga at *
  obtain ⟨k0, k1, k2, k3, k4, k5, k6⟩ := box7c hX1
  go_wp2_with fail
  refine (HF2.out _ hB1).mono ?_
  rintro e2 w5 ⟨kd2, at2, nn2, pa2, pm2, pc2, on2, zs2, rfl, hz2, hb5⟩
  have hB5 := hB1.trans (hb5.mono hB1.size)
  have HM := HM2.out w5 kd2 at2 nn2 pa2 pm2 pc2 on2 zs2 hB5 (hz2.below hb5)
  go_wp2_with fail
  refine HM.mono ?_
  rintro e2 w6 ⟨b, ua, um, uc, rfl, hmd, hoB, hb6⟩
  have h16 := hb5.trans (hb6.mono hb5.size)
  have hB6 := hB5.trans (hb6.mono hB5.size)
  have gB : GoodO n b := good_of_made hmd (by decide) (by decide)
  have HcB : Hid (b.c = 2) := hmd.id.1
  simp only [opVal]
  go_upto_region 5 with fail
  obtain ⟨W2, hW2⟩ : ∃ W2, w6.alloc (Obj.cells #[.int .i64 b.c, .int .i64 b.n, .int .i64 b.k, .int .i64 b.p, .string b.s, .slice ua um uc, .int .i64 b.tc, .int .i64 b.tn, .bool b.on] 42) = W2 := ⟨_, rfl⟩
  have bX2 : W2.heap[w6.heap.size]? = some (Obj.cells #[.int .i64 b.c, .int .i64 b.n, .int .i64 b.k, .int .i64 b.p, .string b.s, .slice ua um uc, .int .i64 b.tc, .int .i64 b.tn, .bool b.on] 42) := by rw [← hW2]; exact alloc_last _ _ _ rfl
  have h62 : Below w6.heap.size w6 W2 := by rw [← hW2]; exact (Below.refl _ _).alloc (Nat.le_refl _) _
  rw [hW2]
  clear hW2
  have h12 := h16.trans (h62.mono h16.size)
  have hB2 := hB6.trans (h62.mono hB6.size)
  have hX2 := (h12.block _ (Array.getElem?_eq_some_iff.1 hX1).1).trans hX1
  have aX2 := (h12.block _ (Array.getElem?_eq_some_iff.1 aX).1).trans aX
  have hrw2 := hrw1.below h12
  have rA : Rdy W2 (a, (va, vm, vc)) := rdy_own (x := (a, (va, vm, vc))) (hoA1.below h12) gA (by omega)
  have rB : Rdy W2 (b, (ua, um, uc)) := rdy_own (x := (b, (ua, um, uc))) (hoB.below h62) gB (by omega)
  clear k0 k1 k2 k3 k4 k5 k6 hX1 aX hrw1 hoA1 hoB hb5 hb6 h16 h62 h12 hB1 hB5 hB6 HM HM2 hz2 hmd
  generalize w6.heap.size = gb at *
  have hu : Unlike a b := fun h => by have h1 := h.1; have h2 := HcA.out; have h3 := HcB.out; omega
  have alt : ga < W2.heap.size := (Array.getElem?_eq_some_iff.1 aX2).1
  have blt : gb < W2.heap.size := (Array.getElem?_eq_some_iff.1 bX2).1
  have HIb : Hid (∀ (W : World) (xa : Option Addr) (xc : Nat) (ya : Option Addr) (yc : Nat), Below w.heap.size w W → Sp.Rng W xa um xc b.l → Sp.Rng W ya vm yc a.l → Calls Tryd.prog 20 #[opVal b (.slice xa um xc), opVal a (.slice ya vm yc), .bool true] W fun e w' => ∃ va vm vc, e = .returned (.tuple #[opVal (inclP b a true).1 (.slice va vm vc), .int .i64 0]) ∧ OwnF rangeV 2 85 w' W.heap.size (.slice va vm vc) (inclP b a true).1.l ∧ Below W.heap.size W w') := incl_call (HBar.out w (Below.refl _ _)) (by omega) gB gA hu.symm
  have HIa : Hid (∀ (W : World) (xa : Option Addr) (xc : Nat) (ya : Option Addr) (yc : Nat), Below w.heap.size w W → Sp.Rng W xa vm xc a.l → Sp.Rng W ya um yc b.l → Calls Tryd.prog 20 #[opVal a (.slice xa vm xc), opVal b (.slice ya um yc), .bool false] W fun e w' => ∃ va vm vc, e = .returned (.tuple #[opVal (inclP a b false).1 (.slice va vm vc), .int .i64 0]) ∧ OwnF rangeV 2 85 w' W.heap.size (.slice va vm vc) (inclP a b false).1.l ∧ Below W.heap.size W w') := incl_call (HBar.out w (Below.refl _ _)) (by omega) gA gB hu
  have HCa : Hid (∀ W, Below W2.heap.size W2 W → Calls Tryd.prog 18 #[opVal a (.slice va vm vc)] W fun e w' => ∃ (xa : Option Addr) (xc : Nat), e = .returned (opVal a (.slice xa vm xc)) ∧ OwnF rangeV 2 85 w' W.heap.size (.slice xa vm xc) a.l ∧ Below W.heap.size W w') := fun W hb => (copy_any (rA.rng.below hb) (by have h1 := rA.rng.len; have h2 := rA.few; simp only at h1 h2 ⊢; omega)).mono fun e2 w5 ⟨a', cap', he, ho5, hb5⟩ => ⟨a', cap', he, ho5.mono (by first | exact Nat.le_refl _ | omega), hb5⟩
  have HCb : Hid (∀ W, Below W2.heap.size W2 W → Calls Tryd.prog 18 #[opVal b (.slice ua um uc)] W fun e w' => ∃ (xa : Option Addr) (xc : Nat), e = .returned (opVal b (.slice xa um xc)) ∧ OwnF rangeV 2 85 w' W.heap.size (.slice xa um xc) b.l ∧ Below W.heap.size W w') := fun W hb => (copy_any (rB.rng.below hb) (by have h1 := rB.rng.len; have h2 := rB.few; simp only at h1 h2 ⊢; omega)).mono fun e2 w5 ⟨a', cap', he, ho5, hb5⟩ => ⟨a', cap', he, ho5.mono (by first | exact Nat.le_refl _ | omega), hb5⟩
  have HMR : Hid _ := meet_rows hRl HSm.out (by omega) gA gB hu
  have HBk : Hid (∀ (W : World) (ear : Bool), Below W2.heap.size W2 W → Calls Tryd.prog 21 #[opVal a (.slice va vm vc), opVal b (.slice ua um uc), .bool ear] W fun e w' => e = .returned (.bool true) ∧ Below W.heap.size W w') := fun W ear hb => back_any (rA.below hb) (rB.below hb) (HBar.out W (hB2.trans (hb.mono hB2.size))) (by omega) gA gB hu
  have HBl : Hid (∀ (W : World) (ear : Bool), Below W2.heap.size W2 W → Calls Tryd.prog 21 #[opVal b (.slice ua um uc), opVal a (.slice va vm vc), .bool ear] W fun e w' => e = .returned (.bool true) ∧ Below W.heap.size W w') := fun W ear hb => back_any (rB.below hb) (rA.below hb) (HBar.out W (hB2.trans (hb.mono hB2.size))) (by omega) gB gA hu.symm
  have hwa := gA.wd
  have HWd : Hid (∀ W, Calls Tryd.prog 22 #[opVal a (.slice va vm vc)] W fun e w' => e = .returned (.int .i64 ((wdL a : Nat) : Int)) ∧ Below W.heap.size W w') := fun W => lawWidth_any (by have := made_few gA; omega)
  have HTu : Hid (∀ (W : World) (o : OpV) (xa : Option Addr) (xm xc : Nat), Below W2.heap.size W2 W → Made 2 2 (n + wdL a) o → Sp.Rng W xa xm xc o.l → Calls Tryd.prog 23 #[.slice la lm lc, opVal a (.slice va vm vc), opVal o (.slice xa xm xc)] W fun e w' => e = .returned (.bool true) ∧ Below W.heap.size W w') := fun W o xa xm xc hb hm hr => by
    have gO : GoodO (n + wdL a) o := good_of_made hm (by decide) (by decide)
    exact turned_any hRl HR0.out HSm.out (hrw2.below hb) (rA.below hb) ⟨hr, by have := made_few gO; simp only; omega, by have := made_few gO; simp only; omega⟩ (HBar.out W (hB2.trans (hb.mono hB2.size))) (by omega) gA gO (fun h => by have h1 := h.1; have h2 := HcA.out; have h3 := hm.id.1; omega)
  have HSR : Hid (∀ (W : World) (g h : Nat) (xa : Option Addr) (xm xc : Nat) (ya : Option Addr) (ym yc : Nat), Below W2.heap.size W2 W → Sp.Rng W xa xm xc (inclP b a true).1.l → Sp.Rng W ya ym yc (inclP a b false).1.l → W.heap[g]? = some (.cells (opF (a, (va, vm, vc)) ++ opF ((inclP b a true).1, (xa, xm, xc))).toArray 42) → W.heap[h]? = some (.cells (opF (b, (ua, um, uc)) ++ opF ((inclP a b false).1, (ya, ym, yc))).toArray 42) → Calls Tryd.prog 13 #[.slice la lm lc, .slice (some ⟨g, 0, none⟩) 2 2, .slice (some ⟨h, 0, none⟩) 2 2] W fun e w' => e = .returned (.bool true) ∧ Below W.heap.size W w') := fun W g h xa xm xc ya ym yc hb h1 h2 hg hh => by
    have i1 := (good_incl (by omega) gB gA hu.symm true).2.1
    have i2 := (good_incl (by omega) gA gB hu false).2.1
    have f1 := made_few i1
    have f2 := made_few i2
    have hwb := gB.wd
    obtain ⟨p1, p2⟩ := pair_ops hg (rA.below hb) (⟨h1, by simp only; omega, by simp only; omega⟩)
    obtain ⟨q1, q2⟩ := pair_ops hh (rB.below hb) (⟨h2, by simp only; omega, by simp only; omega⟩)
    obtain ⟨e1, e2, e3⟩ := HMR.out
    exact sameRows_any (hrw2.below hb) p1 p2 q1 q2 e2 e3 e1
  clear HMR rA rB gA gB hu HcA HcB HR0 HSm hRl hrw2
  generalize (inclP b a true).1 = x at *
  generalize (inclP a b false).1 = y at *
  simp only [opVal, opF, List.cons_append, List.nil_append] at *
  obtain ⟨d, hd⟩ : ∃ d, wdL a = d := ⟨_, rfl⟩
  rw [hd] at HWd HTu hwa
  clear hd
  have aX := aX2
  have bX := bX2
  obtain ⟨ak0, ak1, ak2, ak3, ak4, ak5, ak6, ak7, ak8⟩ := box9 aX
  obtain ⟨bk0, bk1, bk2, bk3, bk4, bk5, bk6, bk7, bk8⟩ := box9 bX
  go_cut [7, 8] (fun v7 v8 wx => ∃ (g : Nat) (qa : Option Addr) (qm qc : Nat), v7 = .pointer (some ⟨g, 0, none⟩) ∧ v8 = .int .i64 0 ∧ wx.heap[g]? = some (Obj.cells #[.int .i64 x.c, .int .i64 x.n, .int .i64 x.k, .int .i64 x.p, .string x.s, .slice qa qm qc, .int .i64 x.tc, .int .i64 x.tn, .bool x.on] 42) ∧ Sp.Rng wx qa qm qc x.l ∧ Below W2.heap.size W2 wx)
  case first =>
    have hcur : Below W2.heap.size W2 W2 := Below.refl _ _
    go_region_held3 (fun W => W.cell? ⟨ga, 0, none⟩ = some (.int .i64 a.c) ∧ W.cell? ⟨ga, 1, none⟩ = some (.int .i64 a.n) ∧ W.cell? ⟨ga, 2, none⟩ = some (.int .i64 a.k) ∧ W.cell? ⟨ga, 3, none⟩ = some (.int .i64 a.p) ∧ W.cell? ⟨ga, 4, none⟩ = some (.string a.s) ∧ W.cell? ⟨ga, 5, none⟩ = some (.slice va vm vc) ∧ W.cell? ⟨ga, 6, none⟩ = some (.int .i64 a.tc) ∧ W.cell? ⟨ga, 7, none⟩ = some (.int .i64 a.tn) ∧ W.cell? ⟨ga, 8, none⟩ = some (.bool a.on) ∧ W.cell? ⟨gb, 0, none⟩ = some (.int .i64 b.c) ∧ W.cell? ⟨gb, 1, none⟩ = some (.int .i64 b.n) ∧ W.cell? ⟨gb, 2, none⟩ = some (.int .i64 b.k) ∧ W.cell? ⟨gb, 3, none⟩ = some (.int .i64 b.p) ∧ W.cell? ⟨gb, 4, none⟩ = some (.string b.s) ∧ W.cell? ⟨gb, 5, none⟩ = some (.slice ua um uc) ∧ W.cell? ⟨gb, 6, none⟩ = some (.int .i64 b.tc) ∧ W.cell? ⟨gb, 7, none⟩ = some (.int .i64 b.tn) ∧ W.cell? ⟨gb, 8, none⟩ = some (.bool b.on)) (first | exact ⟨ax0, ax1, ax2, ax3, ax4, ax5, ax6, ax7, ax8, bx0, bx1, bx2, bx3, bx4, bx5, bx6, bx7, bx8⟩ | exact ⟨ak0, ak1, ak2, ak3, ak4, ak5, ak6, ak7, ak8, bk0, bk1, bk2, bk3, bk4, bk5, bk6, bk7, bk8⟩ | exact ⟨ae0, ae1, ae2, ae3, ae4, ae5, ae6, ae7, ae8, be0, be1, be2, be3, be4, be5, be6, be7, be8⟩ | exact ⟨cell_al ak0 _, cell_al ak1 _, cell_al ak2 _, cell_al ak3 _, cell_al ak4 _, cell_al ak5 _, cell_al ak6 _, cell_al ak7 _, cell_al ak8 _, cell_al bk0 _, cell_al bk1 _, cell_al bk2 _, cell_al bk3 _, cell_al bk4 _, cell_al bk5 _, cell_al bk6 _, cell_al bk7 _, cell_al bk8 _⟩ | exact ⟨cell_al ae0 _, cell_al ae1 _, cell_al ae2 _, cell_al ae3 _, cell_al ae4 _, cell_al ae5 _, cell_al ae6 _, cell_al ae7 _, cell_al ae8 _, cell_al be0 _, cell_al be1 _, cell_al be2 _, cell_al be3 _, cell_al be4 _, cell_al be5 _, cell_al be6 _, cell_al be7 _, cell_al be8 _⟩)
      (first
        | (go_at_call 18; refine (HCb.out _ ?_).mono ?_; (first | exact hcur | exact hcur.drew | exact hcur.alloc hcur.size _ | exact (hcur.alloc hcur.size _).drew | exact (hcur.drew).alloc hcur.drew.size _); rintro e2 w1 ⟨xa, xc, rfl, hx1, hb1⟩; (try have hz9 := (hb1.block _ (Array.getElem?_eq_some_iff.1 hz9).1).trans hz9); (first | (have hz9 : w1.heap[W2.heap.size]? = some (Obj.cells #[.int .i64 0, .int .i64 0, .int .i64 0, .int .i64 0, .string ⟨#[]⟩, .slice none 0 0, .int .i64 0, .int .i64 0, .bool false] 42) := (hb1.block _ (by simp)).trans (alloc_last _ (Obj.cells #[.int .i64 0, .int .i64 0, .int .i64 0, .int .i64 0, .string ⟨#[]⟩, .slice none 0 0, .int .i64 0, .int .i64 0, .bool false] 42) _ rfl); have hz7 := Nat.le_refl W2.heap.size) | (have hz9 := (hb1.block _ (by simp)).trans (alloc_last _ (Obj.cells #[.int .i64 0, .int .i64 0, .int .i64 0, .int .i64 0, .string ⟨#[]⟩, .slice none 0 0, .int .i64 0, .int .i64 0, .bool false] 42) _ rfl); have hz7 := hcur.size) | skip); have hcur : Below W2.heap.size W2 w1 := (by first | exact hcur.trans (hb1.mono hcur.size) | exact hcur.drew.trans (hb1.mono hcur.drew.size) | exact (hcur.alloc hcur.size _).trans (hb1.mono (hcur.alloc hcur.size _).size) | exact (hcur.drew.alloc hcur.drew.size _).trans (hb1.mono (hcur.drew.alloc hcur.drew.size _).size)); have rx1 := rng_of_rw (hx1.rw_ layG); have ae0 := (hcur.cell (p := ⟨ga, 0, none⟩) alt).trans ak0; have ae1 := (hcur.cell (p := ⟨ga, 1, none⟩) alt).trans ak1; have ae2 := (hcur.cell (p := ⟨ga, 2, none⟩) alt).trans ak2; have ae3 := (hcur.cell (p := ⟨ga, 3, none⟩) alt).trans ak3; have ae4 := (hcur.cell (p := ⟨ga, 4, none⟩) alt).trans ak4; have ae5 := (hcur.cell (p := ⟨ga, 5, none⟩) alt).trans ak5; have ae6 := (hcur.cell (p := ⟨ga, 6, none⟩) alt).trans ak6; have ae7 := (hcur.cell (p := ⟨ga, 7, none⟩) alt).trans ak7; have ae8 := (hcur.cell (p := ⟨ga, 8, none⟩) alt).trans ak8; have be0 := (hcur.cell (p := ⟨gb, 0, none⟩) blt).trans bk0; have be1 := (hcur.cell (p := ⟨gb, 1, none⟩) blt).trans bk1; have be2 := (hcur.cell (p := ⟨gb, 2, none⟩) blt).trans bk2; have be3 := (hcur.cell (p := ⟨gb, 3, none⟩) blt).trans bk3; have be4 := (hcur.cell (p := ⟨gb, 4, none⟩) blt).trans bk4; have be5 := (hcur.cell (p := ⟨gb, 5, none⟩) blt).trans bk5; have be6 := (hcur.cell (p := ⟨gb, 6, none⟩) blt).trans bk6; have be7 := (hcur.cell (p := ⟨gb, 7, none⟩) blt).trans bk7; have be8 := (hcur.cell (p := ⟨gb, 8, none⟩) blt).trans bk8)
        | (go_at_call 18; refine (HCa.out _ ?_).mono ?_; (first | exact hcur | exact hcur.drew | exact hcur.alloc hcur.size _ | exact (hcur.alloc hcur.size _).drew | exact (hcur.drew).alloc hcur.drew.size _); rintro e2 w1 ⟨ya, yc, rfl, hy1, hb1⟩; (try have hz9 := (hb1.block _ (Array.getElem?_eq_some_iff.1 hz9).1).trans hz9); (first | (have hz9 : w1.heap[W2.heap.size]? = some (Obj.cells #[.int .i64 0, .int .i64 0, .int .i64 0, .int .i64 0, .string ⟨#[]⟩, .slice none 0 0, .int .i64 0, .int .i64 0, .bool false] 42) := (hb1.block _ (by simp)).trans (alloc_last _ (Obj.cells #[.int .i64 0, .int .i64 0, .int .i64 0, .int .i64 0, .string ⟨#[]⟩, .slice none 0 0, .int .i64 0, .int .i64 0, .bool false] 42) _ rfl); have hz7 := Nat.le_refl W2.heap.size) | (have hz9 := (hb1.block _ (by simp)).trans (alloc_last _ (Obj.cells #[.int .i64 0, .int .i64 0, .int .i64 0, .int .i64 0, .string ⟨#[]⟩, .slice none 0 0, .int .i64 0, .int .i64 0, .bool false] 42) _ rfl); have hz7 := hcur.size) | skip); have hcur : Below W2.heap.size W2 w1 := (by first | exact hcur.trans (hb1.mono hcur.size) | exact hcur.drew.trans (hb1.mono hcur.drew.size) | exact (hcur.alloc hcur.size _).trans (hb1.mono (hcur.alloc hcur.size _).size) | exact (hcur.drew.alloc hcur.drew.size _).trans (hb1.mono (hcur.drew.alloc hcur.drew.size _).size)); (have rx2 : Sp.Rng w1 xa um xc b.l := (by first | exact rx1.below hb1 | exact rx1.below ((Below.refl _ _).drew.trans hb1) | exact rx1.below (((Below.refl _ _).alloc (Nat.le_refl _) _).trans (hb1.mono (by simp))) | exact rx1.below ((((Below.refl _ _).alloc (Nat.le_refl _) _).drew).trans (hb1.mono (by simp))))); clear rx1; have rx1 := rx2; clear rx2; have ry1 := rng_of_rw (hy1.rw_ layG); have ae0 := (hcur.cell (p := ⟨ga, 0, none⟩) alt).trans ak0; have ae1 := (hcur.cell (p := ⟨ga, 1, none⟩) alt).trans ak1; have ae2 := (hcur.cell (p := ⟨ga, 2, none⟩) alt).trans ak2; have ae3 := (hcur.cell (p := ⟨ga, 3, none⟩) alt).trans ak3; have ae4 := (hcur.cell (p := ⟨ga, 4, none⟩) alt).trans ak4; have ae5 := (hcur.cell (p := ⟨ga, 5, none⟩) alt).trans ak5; have ae6 := (hcur.cell (p := ⟨ga, 6, none⟩) alt).trans ak6; have ae7 := (hcur.cell (p := ⟨ga, 7, none⟩) alt).trans ak7; have ae8 := (hcur.cell (p := ⟨ga, 8, none⟩) alt).trans ak8; have be0 := (hcur.cell (p := ⟨gb, 0, none⟩) blt).trans bk0; have be1 := (hcur.cell (p := ⟨gb, 1, none⟩) blt).trans bk1; have be2 := (hcur.cell (p := ⟨gb, 2, none⟩) blt).trans bk2; have be3 := (hcur.cell (p := ⟨gb, 3, none⟩) blt).trans bk3; have be4 := (hcur.cell (p := ⟨gb, 4, none⟩) blt).trans bk4; have be5 := (hcur.cell (p := ⟨gb, 5, none⟩) blt).trans bk5; have be6 := (hcur.cell (p := ⟨gb, 6, none⟩) blt).trans bk6; have be7 := (hcur.cell (p := ⟨gb, 7, none⟩) blt).trans bk7; have be8 := (hcur.cell (p := ⟨gb, 8, none⟩) blt).trans bk8)
        | (go_at_call 20; refine (HIb.out _ xa xc ya yc ?_ ?_ ?_).mono ?_; (first | exact hB2.trans (hcur.mono hB2.size) | exact hB2.trans (hcur.drew.mono hB2.size) | exact hB2.trans ((hcur.alloc hcur.size _).mono hB2.size) | exact hB2.trans ((hcur.drew.alloc hcur.drew.size _).mono hB2.size)); (first | exact rx1 | exact rx1.below (Below.refl _ _).drew | exact rx1.below ((Below.refl _ _).alloc (Nat.le_refl _) _) | exact rx1.below (((Below.refl _ _).drew).alloc (Nat.le_refl _) _) | exact rx1.below (((Below.refl _ _).alloc (Nat.le_refl _) _).drew)); (first | exact ry1 | exact ry1.below (Below.refl _ _).drew | exact ry1.below ((Below.refl _ _).alloc (Nat.le_refl _) _) | exact ry1.below (((Below.refl _ _).drew).alloc (Nat.le_refl _) _) | exact ry1.below (((Below.refl _ _).alloc (Nat.le_refl _) _).drew)); rintro e2 w1 ⟨qa, qm, qc, rfl, hv3, hb1⟩; (try have hz9 := (hb1.block _ (Array.getElem?_eq_some_iff.1 hz9).1).trans hz9); (first | (have hz9 : w1.heap[W2.heap.size]? = some (Obj.cells #[.int .i64 0, .int .i64 0, .int .i64 0, .int .i64 0, .string ⟨#[]⟩, .slice none 0 0, .int .i64 0, .int .i64 0, .bool false] 42) := (hb1.block _ (by simp)).trans (alloc_last _ (Obj.cells #[.int .i64 0, .int .i64 0, .int .i64 0, .int .i64 0, .string ⟨#[]⟩, .slice none 0 0, .int .i64 0, .int .i64 0, .bool false] 42) _ rfl); have hz7 := Nat.le_refl W2.heap.size) | (have hz9 := (hb1.block _ (by simp)).trans (alloc_last _ (Obj.cells #[.int .i64 0, .int .i64 0, .int .i64 0, .int .i64 0, .string ⟨#[]⟩, .slice none 0 0, .int .i64 0, .int .i64 0, .bool false] 42) _ rfl); have hz7 := hcur.size) | skip); have hcur : Below W2.heap.size W2 w1 := (by first | exact hcur.trans (hb1.mono hcur.size) | exact hcur.drew.trans (hb1.mono hcur.drew.size) | exact (hcur.alloc hcur.size _).trans (hb1.mono (hcur.alloc hcur.size _).size) | exact (hcur.drew.alloc hcur.drew.size _).trans (hb1.mono (hcur.drew.alloc hcur.drew.size _).size)); have ae0 := (hcur.cell (p := ⟨ga, 0, none⟩) alt).trans ak0; have ae1 := (hcur.cell (p := ⟨ga, 1, none⟩) alt).trans ak1; have ae2 := (hcur.cell (p := ⟨ga, 2, none⟩) alt).trans ak2; have ae3 := (hcur.cell (p := ⟨ga, 3, none⟩) alt).trans ak3; have ae4 := (hcur.cell (p := ⟨ga, 4, none⟩) alt).trans ak4; have ae5 := (hcur.cell (p := ⟨ga, 5, none⟩) alt).trans ak5; have ae6 := (hcur.cell (p := ⟨ga, 6, none⟩) alt).trans ak6; have ae7 := (hcur.cell (p := ⟨ga, 7, none⟩) alt).trans ak7; have ae8 := (hcur.cell (p := ⟨ga, 8, none⟩) alt).trans ak8; have be0 := (hcur.cell (p := ⟨gb, 0, none⟩) blt).trans bk0; have be1 := (hcur.cell (p := ⟨gb, 1, none⟩) blt).trans bk1; have be2 := (hcur.cell (p := ⟨gb, 2, none⟩) blt).trans bk2; have be3 := (hcur.cell (p := ⟨gb, 3, none⟩) blt).trans bk3; have be4 := (hcur.cell (p := ⟨gb, 4, none⟩) blt).trans bk4; have be5 := (hcur.cell (p := ⟨gb, 5, none⟩) blt).trans bk5; have be6 := (hcur.cell (p := ⟨gb, 6, none⟩) blt).trans bk6; have be7 := (hcur.cell (p := ⟨gb, 7, none⟩) blt).trans bk7; have be8 := (hcur.cell (p := ⟨gb, 8, none⟩) blt).trans bk8; have aX1 := (hcur.block _ alt).trans aX; have bX1 := (hcur.block _ blt).trans bX; (try (have hs9 := store9 hz9 hcur hz7 (.int .i64 x.c) (.int .i64 x.n) (.int .i64 x.k) (.int .i64 x.p) (.string x.s) (.slice qa qm qc) (.int .i64 x.tc) (.int .i64 x.tn) (.bool x.on); obtain ⟨W9, e9', hx9, hB9, hK9⟩ := hs9; have e9 := e9'; clear e9'; obtain ⟨d0, d1, d2, d3, d4, d5, d6, d7, d8⟩ := box9 hz9; obtain ⟨dz0, dz1, dz2, dz3, dz4, dz5, dz6, dz7, dz8⟩ := wr9 hz9; obtain ⟨ax0, ax1, ax2, ax3, ax4, ax5, ax6, ax7, ax8⟩ := box9 (hK9.block aX1 (Nat.ne_of_lt (Nat.lt_of_lt_of_le alt hz7))); obtain ⟨bx0, bx1, bx2, bx3, bx4, bx5, bx6, bx7, bx8⟩ := box9 (hK9.block bX1 (Nat.ne_of_lt (Nat.lt_of_lt_of_le blt hz7)))))))
    all_goals
      try rw [e9]
      go_wp2_with fail
      go_meet
      case rel => first | exact ⟨_, qa, qm, qc, rfl, rfl, hx9, rng_of_rw ((own_but hv3 hz9 hK9).rw_ layG), hB9⟩ | exact ⟨_, qa, qm, qc, rfl, rfl, alloc_last _ _ _ rfl, rng_of_rw ((hv3.below ((Below.refl _ _).alloc (Nat.le_refl _) _)).rw_ layG), hcur.alloc hcur.size _⟩
  case rest =>
    obtain ⟨W3, rfl⟩ : ∃ x, x = wc := ⟨_, rfl⟩
    obtain ⟨gx, qa, qm, qc, rfl, rfl, xX, rx, h23⟩ := hcut
    have aX3 := (h23.block _ alt).trans aX
    have bX3 := (h23.block _ blt).trans bX
    have hB3 := hB2.trans (h23.mono hB2.size)
    have s23 := h23.size
    clear ak0 ak1 ak2 ak3 ak4 ak5 ak6 ak7 ak8 bk0 bk1 bk2 bk3 bk4 bk5 bk6 bk7 bk8 aX bX HIb
    have aX := aX3
    have bX := bX3
    clear aX3 bX3
    have alt3 : ga < W3.heap.size := (Array.getElem?_eq_some_iff.1 aX).1
    have blt3 : gb < W3.heap.size := (Array.getElem?_eq_some_iff.1 bX).1
    have xlt : gx < W3.heap.size := (Array.getElem?_eq_some_iff.1 xX).1
    clear alt blt
    have alt := alt3
    have blt := blt3
    clear alt3 blt3
    obtain ⟨ak0, ak1, ak2, ak3, ak4, ak5, ak6, ak7, ak8⟩ := box9 aX
    obtain ⟨bk0, bk1, bk2, bk3, bk4, bk5, bk6, bk7, bk8⟩ := box9 bX
    have HCa3 : Hid (∀ W, Below W3.heap.size W3 W → _) := fun W hb => HCa.out W (h23.trans (hb.mono h23.size))
    have HCb3 : Hid (∀ W, Below W3.heap.size W3 W → _) := fun W hb => HCb.out W (h23.trans (hb.mono h23.size))
    clear HCa HCb
    go_wp2_with fail
    go_cut [9, 10] (fun v9 v10 wx => ∃ (g : Nat) (qa : Option Addr) (qm qc : Nat), v9 = .pointer (some ⟨g, 0, none⟩) ∧ v10 = .int .i64 0 ∧ wx.heap[g]? = some (Obj.cells #[.int .i64 y.c, .int .i64 y.n, .int .i64 y.k, .int .i64 y.p, .string y.s, .slice qa qm qc, .int .i64 y.tc, .int .i64 y.tn, .bool y.on] 42) ∧ Sp.Rng wx qa qm qc y.l ∧ Below W3.heap.size W3 wx)
    case first =>
      clear xX rx
      have hcur : Below W3.heap.size W3 W3 := Below.refl _ _
      go_region_held3 (fun W => W.cell? ⟨ga, 0, none⟩ = some (.int .i64 a.c) ∧ W.cell? ⟨ga, 1, none⟩ = some (.int .i64 a.n) ∧ W.cell? ⟨ga, 2, none⟩ = some (.int .i64 a.k) ∧ W.cell? ⟨ga, 3, none⟩ = some (.int .i64 a.p) ∧ W.cell? ⟨ga, 4, none⟩ = some (.string a.s) ∧ W.cell? ⟨ga, 5, none⟩ = some (.slice va vm vc) ∧ W.cell? ⟨ga, 6, none⟩ = some (.int .i64 a.tc) ∧ W.cell? ⟨ga, 7, none⟩ = some (.int .i64 a.tn) ∧ W.cell? ⟨ga, 8, none⟩ = some (.bool a.on) ∧ W.cell? ⟨gb, 0, none⟩ = some (.int .i64 b.c) ∧ W.cell? ⟨gb, 1, none⟩ = some (.int .i64 b.n) ∧ W.cell? ⟨gb, 2, none⟩ = some (.int .i64 b.k) ∧ W.cell? ⟨gb, 3, none⟩ = some (.int .i64 b.p) ∧ W.cell? ⟨gb, 4, none⟩ = some (.string b.s) ∧ W.cell? ⟨gb, 5, none⟩ = some (.slice ua um uc) ∧ W.cell? ⟨gb, 6, none⟩ = some (.int .i64 b.tc) ∧ W.cell? ⟨gb, 7, none⟩ = some (.int .i64 b.tn) ∧ W.cell? ⟨gb, 8, none⟩ = some (.bool b.on)) (first | exact ⟨ax0, ax1, ax2, ax3, ax4, ax5, ax6, ax7, ax8, bx0, bx1, bx2, bx3, bx4, bx5, bx6, bx7, bx8⟩ | exact ⟨ak0, ak1, ak2, ak3, ak4, ak5, ak6, ak7, ak8, bk0, bk1, bk2, bk3, bk4, bk5, bk6, bk7, bk8⟩ | exact ⟨ae0, ae1, ae2, ae3, ae4, ae5, ae6, ae7, ae8, be0, be1, be2, be3, be4, be5, be6, be7, be8⟩ | exact ⟨cell_al ak0 _, cell_al ak1 _, cell_al ak2 _, cell_al ak3 _, cell_al ak4 _, cell_al ak5 _, cell_al ak6 _, cell_al ak7 _, cell_al ak8 _, cell_al bk0 _, cell_al bk1 _, cell_al bk2 _, cell_al bk3 _, cell_al bk4 _, cell_al bk5 _, cell_al bk6 _, cell_al bk7 _, cell_al bk8 _⟩ | exact ⟨cell_al ae0 _, cell_al ae1 _, cell_al ae2 _, cell_al ae3 _, cell_al ae4 _, cell_al ae5 _, cell_al ae6 _, cell_al ae7 _, cell_al ae8 _, cell_al be0 _, cell_al be1 _, cell_al be2 _, cell_al be3 _, cell_al be4 _, cell_al be5 _, cell_al be6 _, cell_al be7 _, cell_al be8 _⟩)
        (first
          | (go_at_call 18; refine (HCa3.out _ ?_).mono ?_; (first | exact hcur | exact hcur.drew | exact hcur.alloc hcur.size _ | exact (hcur.alloc hcur.size _).drew | exact (hcur.drew).alloc hcur.drew.size _); rintro e2 w1 ⟨xa, xc, rfl, hx1, hb1⟩; (try have hz9 := (hb1.block _ (Array.getElem?_eq_some_iff.1 hz9).1).trans hz9); (first | (have hz9 : w1.heap[W3.heap.size]? = some (Obj.cells #[.int .i64 0, .int .i64 0, .int .i64 0, .int .i64 0, .string ⟨#[]⟩, .slice none 0 0, .int .i64 0, .int .i64 0, .bool false] 42) := (hb1.block _ (by simp)).trans (alloc_last _ (Obj.cells #[.int .i64 0, .int .i64 0, .int .i64 0, .int .i64 0, .string ⟨#[]⟩, .slice none 0 0, .int .i64 0, .int .i64 0, .bool false] 42) _ rfl); have hz7 := Nat.le_refl W3.heap.size) | (have hz9 := (hb1.block _ (by simp)).trans (alloc_last _ (Obj.cells #[.int .i64 0, .int .i64 0, .int .i64 0, .int .i64 0, .string ⟨#[]⟩, .slice none 0 0, .int .i64 0, .int .i64 0, .bool false] 42) _ rfl); have hz7 := hcur.size) | skip); have hcur : Below W3.heap.size W3 w1 := (by first | exact hcur.trans (hb1.mono hcur.size) | exact hcur.drew.trans (hb1.mono hcur.drew.size) | exact (hcur.alloc hcur.size _).trans (hb1.mono (hcur.alloc hcur.size _).size) | exact (hcur.drew.alloc hcur.drew.size _).trans (hb1.mono (hcur.drew.alloc hcur.drew.size _).size)); have rx1 := rng_of_rw (hx1.rw_ layG); have ae0 := (hcur.cell (p := ⟨ga, 0, none⟩) alt).trans ak0; have ae1 := (hcur.cell (p := ⟨ga, 1, none⟩) alt).trans ak1; have ae2 := (hcur.cell (p := ⟨ga, 2, none⟩) alt).trans ak2; have ae3 := (hcur.cell (p := ⟨ga, 3, none⟩) alt).trans ak3; have ae4 := (hcur.cell (p := ⟨ga, 4, none⟩) alt).trans ak4; have ae5 := (hcur.cell (p := ⟨ga, 5, none⟩) alt).trans ak5; have ae6 := (hcur.cell (p := ⟨ga, 6, none⟩) alt).trans ak6; have ae7 := (hcur.cell (p := ⟨ga, 7, none⟩) alt).trans ak7; have ae8 := (hcur.cell (p := ⟨ga, 8, none⟩) alt).trans ak8; have be0 := (hcur.cell (p := ⟨gb, 0, none⟩) blt).trans bk0; have be1 := (hcur.cell (p := ⟨gb, 1, none⟩) blt).trans bk1; have be2 := (hcur.cell (p := ⟨gb, 2, none⟩) blt).trans bk2; have be3 := (hcur.cell (p := ⟨gb, 3, none⟩) blt).trans bk3; have be4 := (hcur.cell (p := ⟨gb, 4, none⟩) blt).trans bk4; have be5 := (hcur.cell (p := ⟨gb, 5, none⟩) blt).trans bk5; have be6 := (hcur.cell (p := ⟨gb, 6, none⟩) blt).trans bk6; have be7 := (hcur.cell (p := ⟨gb, 7, none⟩) blt).trans bk7; have be8 := (hcur.cell (p := ⟨gb, 8, none⟩) blt).trans bk8)
          | (go_at_call 18; refine (HCb3.out _ ?_).mono ?_; (first | exact hcur | exact hcur.drew | exact hcur.alloc hcur.size _ | exact (hcur.alloc hcur.size _).drew | exact (hcur.drew).alloc hcur.drew.size _); rintro e2 w1 ⟨ya, yc, rfl, hy1, hb1⟩; (try have hz9 := (hb1.block _ (Array.getElem?_eq_some_iff.1 hz9).1).trans hz9); (first | (have hz9 : w1.heap[W3.heap.size]? = some (Obj.cells #[.int .i64 0, .int .i64 0, .int .i64 0, .int .i64 0, .string ⟨#[]⟩, .slice none 0 0, .int .i64 0, .int .i64 0, .bool false] 42) := (hb1.block _ (by simp)).trans (alloc_last _ (Obj.cells #[.int .i64 0, .int .i64 0, .int .i64 0, .int .i64 0, .string ⟨#[]⟩, .slice none 0 0, .int .i64 0, .int .i64 0, .bool false] 42) _ rfl); have hz7 := Nat.le_refl W3.heap.size) | (have hz9 := (hb1.block _ (by simp)).trans (alloc_last _ (Obj.cells #[.int .i64 0, .int .i64 0, .int .i64 0, .int .i64 0, .string ⟨#[]⟩, .slice none 0 0, .int .i64 0, .int .i64 0, .bool false] 42) _ rfl); have hz7 := hcur.size) | skip); have hcur : Below W3.heap.size W3 w1 := (by first | exact hcur.trans (hb1.mono hcur.size) | exact hcur.drew.trans (hb1.mono hcur.drew.size) | exact (hcur.alloc hcur.size _).trans (hb1.mono (hcur.alloc hcur.size _).size) | exact (hcur.drew.alloc hcur.drew.size _).trans (hb1.mono (hcur.drew.alloc hcur.drew.size _).size)); (have rx2 : Sp.Rng w1 xa vm xc a.l := (by first | exact rx1.below hb1 | exact rx1.below ((Below.refl _ _).drew.trans hb1) | exact rx1.below (((Below.refl _ _).alloc (Nat.le_refl _) _).trans (hb1.mono (by simp))) | exact rx1.below ((((Below.refl _ _).alloc (Nat.le_refl _) _).drew).trans (hb1.mono (by simp))))); clear rx1; have rx1 := rx2; clear rx2; have ry1 := rng_of_rw (hy1.rw_ layG); have ae0 := (hcur.cell (p := ⟨ga, 0, none⟩) alt).trans ak0; have ae1 := (hcur.cell (p := ⟨ga, 1, none⟩) alt).trans ak1; have ae2 := (hcur.cell (p := ⟨ga, 2, none⟩) alt).trans ak2; have ae3 := (hcur.cell (p := ⟨ga, 3, none⟩) alt).trans ak3; have ae4 := (hcur.cell (p := ⟨ga, 4, none⟩) alt).trans ak4; have ae5 := (hcur.cell (p := ⟨ga, 5, none⟩) alt).trans ak5; have ae6 := (hcur.cell (p := ⟨ga, 6, none⟩) alt).trans ak6; have ae7 := (hcur.cell (p := ⟨ga, 7, none⟩) alt).trans ak7; have ae8 := (hcur.cell (p := ⟨ga, 8, none⟩) alt).trans ak8; have be0 := (hcur.cell (p := ⟨gb, 0, none⟩) blt).trans bk0; have be1 := (hcur.cell (p := ⟨gb, 1, none⟩) blt).trans bk1; have be2 := (hcur.cell (p := ⟨gb, 2, none⟩) blt).trans bk2; have be3 := (hcur.cell (p := ⟨gb, 3, none⟩) blt).trans bk3; have be4 := (hcur.cell (p := ⟨gb, 4, none⟩) blt).trans bk4; have be5 := (hcur.cell (p := ⟨gb, 5, none⟩) blt).trans bk5; have be6 := (hcur.cell (p := ⟨gb, 6, none⟩) blt).trans bk6; have be7 := (hcur.cell (p := ⟨gb, 7, none⟩) blt).trans bk7; have be8 := (hcur.cell (p := ⟨gb, 8, none⟩) blt).trans bk8)
          | (go_at_call 20; refine (HIa.out _ xa xc ya yc ?_ ?_ ?_).mono ?_; (first | exact hB3.trans (hcur.mono hB3.size) | exact hB3.trans (hcur.drew.mono hB3.size) | exact hB3.trans ((hcur.alloc hcur.size _).mono hB3.size) | exact hB3.trans ((hcur.drew.alloc hcur.drew.size _).mono hB3.size)); (first | exact rx1 | exact rx1.below (Below.refl _ _).drew | exact rx1.below ((Below.refl _ _).alloc (Nat.le_refl _) _) | exact rx1.below (((Below.refl _ _).drew).alloc (Nat.le_refl _) _) | exact rx1.below (((Below.refl _ _).alloc (Nat.le_refl _) _).drew)); (first | exact ry1 | exact ry1.below (Below.refl _ _).drew | exact ry1.below ((Below.refl _ _).alloc (Nat.le_refl _) _) | exact ry1.below (((Below.refl _ _).drew).alloc (Nat.le_refl _) _) | exact ry1.below (((Below.refl _ _).alloc (Nat.le_refl _) _).drew)); rintro e2 w1 ⟨sa, sm, sc, rfl, hv3, hb1⟩; (try have hz9 := (hb1.block _ (Array.getElem?_eq_some_iff.1 hz9).1).trans hz9); (first | (have hz9 : w1.heap[W3.heap.size]? = some (Obj.cells #[.int .i64 0, .int .i64 0, .int .i64 0, .int .i64 0, .string ⟨#[]⟩, .slice none 0 0, .int .i64 0, .int .i64 0, .bool false] 42) := (hb1.block _ (by simp)).trans (alloc_last _ (Obj.cells #[.int .i64 0, .int .i64 0, .int .i64 0, .int .i64 0, .string ⟨#[]⟩, .slice none 0 0, .int .i64 0, .int .i64 0, .bool false] 42) _ rfl); have hz7 := Nat.le_refl W3.heap.size) | (have hz9 := (hb1.block _ (by simp)).trans (alloc_last _ (Obj.cells #[.int .i64 0, .int .i64 0, .int .i64 0, .int .i64 0, .string ⟨#[]⟩, .slice none 0 0, .int .i64 0, .int .i64 0, .bool false] 42) _ rfl); have hz7 := hcur.size) | skip); have hcur : Below W3.heap.size W3 w1 := (by first | exact hcur.trans (hb1.mono hcur.size) | exact hcur.drew.trans (hb1.mono hcur.drew.size) | exact (hcur.alloc hcur.size _).trans (hb1.mono (hcur.alloc hcur.size _).size) | exact (hcur.drew.alloc hcur.drew.size _).trans (hb1.mono (hcur.drew.alloc hcur.drew.size _).size)); have ae0 := (hcur.cell (p := ⟨ga, 0, none⟩) alt).trans ak0; have ae1 := (hcur.cell (p := ⟨ga, 1, none⟩) alt).trans ak1; have ae2 := (hcur.cell (p := ⟨ga, 2, none⟩) alt).trans ak2; have ae3 := (hcur.cell (p := ⟨ga, 3, none⟩) alt).trans ak3; have ae4 := (hcur.cell (p := ⟨ga, 4, none⟩) alt).trans ak4; have ae5 := (hcur.cell (p := ⟨ga, 5, none⟩) alt).trans ak5; have ae6 := (hcur.cell (p := ⟨ga, 6, none⟩) alt).trans ak6; have ae7 := (hcur.cell (p := ⟨ga, 7, none⟩) alt).trans ak7; have ae8 := (hcur.cell (p := ⟨ga, 8, none⟩) alt).trans ak8; have be0 := (hcur.cell (p := ⟨gb, 0, none⟩) blt).trans bk0; have be1 := (hcur.cell (p := ⟨gb, 1, none⟩) blt).trans bk1; have be2 := (hcur.cell (p := ⟨gb, 2, none⟩) blt).trans bk2; have be3 := (hcur.cell (p := ⟨gb, 3, none⟩) blt).trans bk3; have be4 := (hcur.cell (p := ⟨gb, 4, none⟩) blt).trans bk4; have be5 := (hcur.cell (p := ⟨gb, 5, none⟩) blt).trans bk5; have be6 := (hcur.cell (p := ⟨gb, 6, none⟩) blt).trans bk6; have be7 := (hcur.cell (p := ⟨gb, 7, none⟩) blt).trans bk7; have be8 := (hcur.cell (p := ⟨gb, 8, none⟩) blt).trans bk8; have aX1 := (hcur.block _ alt).trans aX; have bX1 := (hcur.block _ blt).trans bX; (try (have hs9 := store9 hz9 hcur hz7 (.int .i64 y.c) (.int .i64 y.n) (.int .i64 y.k) (.int .i64 y.p) (.string y.s) (.slice sa sm sc) (.int .i64 y.tc) (.int .i64 y.tn) (.bool y.on); obtain ⟨W9, e9', hx9, hB9, hK9⟩ := hs9; have e9 := e9'; clear e9'; obtain ⟨d0, d1, d2, d3, d4, d5, d6, d7, d8⟩ := box9 hz9; obtain ⟨dz0, dz1, dz2, dz3, dz4, dz5, dz6, dz7, dz8⟩ := wr9 hz9; obtain ⟨ax0, ax1, ax2, ax3, ax4, ax5, ax6, ax7, ax8⟩ := box9 (hK9.block aX1 (Nat.ne_of_lt (Nat.lt_of_lt_of_le alt hz7))); obtain ⟨bx0, bx1, bx2, bx3, bx4, bx5, bx6, bx7, bx8⟩ := box9 (hK9.block bX1 (Nat.ne_of_lt (Nat.lt_of_lt_of_le blt hz7)))))))
      all_goals
        try rw [e9]
        go_wp2_with fail
        go_meet
        case rel => first | exact ⟨_, sa, sm, sc, rfl, rfl, hx9, rng_of_rw ((own_but hv3 hz9 hK9).rw_ layG), hB9⟩ | exact ⟨_, sa, sm, sc, rfl, rfl, alloc_last _ _ _ rfl, rng_of_rw ((hv3.below ((Below.refl _ _).alloc (Nat.le_refl _) _)).rw_ layG), hcur.alloc hcur.size _⟩
    case rest =>
      obtain ⟨W4, rfl⟩ : ∃ x, x = wc := ⟨_, rfl⟩
      obtain ⟨gy, sa, sm, sc, rfl, rfl, yX, ry, h34⟩ := hcut
      have h24 := h23.trans (h34.mono h23.size)
      have hB4 := hB3.trans (h34.mono hB3.size)
      have aX4 := (h34.block _ alt).trans aX
      have bX4 := (h34.block _ blt).trans bX
      have xX4 := (h34.block _ xlt).trans xX
      have tX4 := (h24.block _ (Array.getElem?_eq_some_iff.1 hX2).1).trans hX2
      have rx4 := rx.below h34
      clear ak0 ak1 ak2 ak3 ak4 ak5 ak6 ak7 ak8 bk0 bk1 bk2 bk3 bk4 bk5 bk6 bk7 bk8 aX bX xX rx HIa HCa3 HCb3 h23 h34 hB3 s23 alt blt xlt aX2 bX2
      go_wp2_with fail
      refine (HN.out _).mono ?_
      rintro e2 w5 ⟨rfl, rfl⟩
      go_wp2_with fail
      refine (HN.out _).mono ?_
      rintro e2 w5 ⟨rfl, rfl⟩
      go_wp2_with fail
      refine (HAw.out _ hB4).mono ?_
      rintro e2 w5 ⟨rfl, hb5⟩
      have h25 := h24.trans (hb5.mono h24.size)
      have hB5 := hB4.trans (hb5.mono hB4.size)
      have aX5 := (hb5.block _ (Array.getElem?_eq_some_iff.1 aX4).1).trans aX4
      have bX5 := (hb5.block _ (Array.getElem?_eq_some_iff.1 bX4).1).trans bX4
      have xX5 := (hb5.block _ (Array.getElem?_eq_some_iff.1 xX4).1).trans xX4
      have yX5 := (hb5.block _ (Array.getElem?_eq_some_iff.1 yX).1).trans yX
      have tX5 := (hb5.block _ (Array.getElem?_eq_some_iff.1 tX4).1).trans tX4
      have rx5 := rx4.below hb5
      have ry5 := ry.below hb5
      clear aX4 bX4 xX4 yX tX4 rx4 ry hb5 hB4 h24 HAw HN
      obtain ⟨ak0, ak1, ak2, ak3, ak4, ak5, ak6, ak7, ak8⟩ := box9 aX5
      obtain ⟨bk0, bk1, bk2, bk3, bk4, bk5, bk6, bk7, bk8⟩ := box9 bX5
      obtain ⟨xk0, xk1, xk2, xk3, xk4, xk5, xk6, xk7, xk8⟩ := box9 xX5
      obtain ⟨yk0, yk1, yk2, yk3, yk4, yk5, yk6, yk7, yk8⟩ := box9 yX5
      obtain ⟨W6, hW6⟩ : ∃ W6, w5.alloc (Obj.cells #[.int .i64 a.c, .int .i64 a.n, .int .i64 a.k, .int .i64 a.p, .string a.s, .slice va vm vc, .int .i64 a.tc, .int .i64 a.tn, .bool a.on, .int .i64 x.c, .int .i64 x.n, .int .i64 x.k, .int .i64 x.p, .string x.s, .slice qa qm qc, .int .i64 x.tc, .int .i64 x.tn, .bool x.on] 42) = W6 := ⟨_, rfl⟩
      have l0 : W6.heap[w5.heap.size]? = some (Obj.cells #[.int .i64 a.c, .int .i64 a.n, .int .i64 a.k, .int .i64 a.p, .string a.s, .slice va vm vc, .int .i64 a.tc, .int .i64 a.tn, .bool a.on, .int .i64 x.c, .int .i64 x.n, .int .i64 x.k, .int .i64 x.p, .string x.s, .slice qa qm qc, .int .i64 x.tc, .int .i64 x.tn, .bool x.on] 42) := by rw [← hW6]; exact alloc_last _ _ _ rfl
      have h56 : Below w5.heap.size w5 W6 := by rw [← hW6]; exact (Below.refl _ _).alloc (Nat.le_refl _) _
      have s56 : W6.heap.size = w5.heap.size + 1 := by rw [← hW6]; simp
      obtain ⟨bl0, bl1, bl2, bl3, bl4, bl5, bl6, bl7, bl8⟩ := box9 ((h56.block _ (Array.getElem?_eq_some_iff.1 bX5).1).trans bX5)
      obtain ⟨yl0, yl1, yl2, yl3, yl4, yl5, yl6, yl7, yl8⟩ := box9 ((h56.block _ (Array.getElem?_eq_some_iff.1 yX5).1).trans yX5)
      obtain ⟨W7, hW7⟩ : ∃ W7, W6.alloc (Obj.cells #[.int .i64 b.c, .int .i64 b.n, .int .i64 b.k, .int .i64 b.p, .string b.s, .slice ua um uc, .int .i64 b.tc, .int .i64 b.tn, .bool b.on, .int .i64 y.c, .int .i64 y.n, .int .i64 y.k, .int .i64 y.p, .string y.s, .slice sa sm sc, .int .i64 y.tc, .int .i64 y.tn, .bool y.on] 42) = W7 := ⟨_, rfl⟩
      have l1 : W7.heap[w5.heap.size]? = some (Obj.cells #[.int .i64 a.c, .int .i64 a.n, .int .i64 a.k, .int .i64 a.p, .string a.s, .slice va vm vc, .int .i64 a.tc, .int .i64 a.tn, .bool a.on, .int .i64 x.c, .int .i64 x.n, .int .i64 x.k, .int .i64 x.p, .string x.s, .slice qa qm qc, .int .i64 x.tc, .int .i64 x.tn, .bool x.on] 42) := by rw [← hW7]; exact (Below.heap_alloc _ _ _ (by omega)).trans l0
      have l2 : W7.heap[w5.heap.size + 1]? = some (Obj.cells #[.int .i64 b.c, .int .i64 b.n, .int .i64 b.k, .int .i64 b.p, .string b.s, .slice ua um uc, .int .i64 b.tc, .int .i64 b.tn, .bool b.on, .int .i64 y.c, .int .i64 y.n, .int .i64 y.k, .int .i64 y.p, .string y.s, .slice sa sm sc, .int .i64 y.tc, .int .i64 y.tn, .bool y.on] 42) := by rw [← hW7]; exact alloc_last _ _ _ s56.symm
      have h57 : Below w5.heap.size w5 W7 := by rw [← hW7]; exact h56.alloc (by omega) _
      have h27 := h25.trans (h57.mono h25.size)
      have HSR2 := HSR.out W7 _ _ qa qm qc sa sm sc h27 (rx5.below h57) (ry5.below h57) l1 l2
      clear HSR
      go_wp2_with fail
      try rw [hW7]
      refine HSR2.mono ?_
      rintro e2 w8 ⟨rfl, hb8⟩
      have h58 := h57.trans (hb8.mono h57.size)
      have h28 := h25.trans (h58.mono h25.size)
      have hB8 := hB5.trans (h58.mono hB5.size)
      have aX8 := (h58.block _ (Array.getElem?_eq_some_iff.1 aX5).1).trans aX5
      have bX8 := (h58.block _ (Array.getElem?_eq_some_iff.1 bX5).1).trans bX5
      have tX8 := (h58.block _ (Array.getElem?_eq_some_iff.1 tX5).1).trans tX5
      clear ak0 ak1 ak2 ak3 ak4 ak5 ak6 ak7 ak8 bk0 bk1 bk2 bk3 bk4 bk5 bk6 bk7 bk8 xk0 xk1 xk2 xk3 xk4 xk5 xk6 xk7 xk8 yk0 yk1 yk2 yk3 yk4 yk5 yk6 yk7 yk8 bl0 bl1 bl2 bl3 bl4 bl5 bl6 bl7 bl8 yl0 yl1 yl2 yl3 yl4 yl5 yl6 yl7 yl8 aX5 bX5 xX5 yX5 tX5 rx5 ry5 l0 l1 l2 hW6 hW7 h56 s56 h57 h58 hb8 HSR2 h27 h25 hB5
      obtain ⟨ak0, ak1, ak2, ak3, ak4, ak5, ak6, ak7, ak8⟩ := box9 aX8
      obtain ⟨bk0, bk1, bk2, bk3, bk4, bk5, bk6, bk7, bk8⟩ := box9 bX8
      go_wp2_with fail
      refine (HBk.out _ true h28).mono ?_
      rintro e2 w9 ⟨rfl, hb9⟩
      have h29 := h28.trans (hb9.mono h28.size)
      have hB9 := hB8.trans (hb9.mono hB8.size)
      have aX9 := (hb9.block _ (Array.getElem?_eq_some_iff.1 aX8).1).trans aX8
      have bX9 := (hb9.block _ (Array.getElem?_eq_some_iff.1 bX8).1).trans bX8
      have tX9 := (hb9.block _ (Array.getElem?_eq_some_iff.1 tX8).1).trans tX8
      clear ak0 ak1 ak2 ak3 ak4 ak5 ak6 ak7 ak8 bk0 bk1 bk2 bk3 bk4 bk5 bk6 bk7 bk8 aX8 bX8 tX8 h28 hB8 hb9
      obtain ⟨ak0, ak1, ak2, ak3, ak4, ak5, ak6, ak7, ak8⟩ := box9 aX9
      obtain ⟨bk0, bk1, bk2, bk3, bk4, bk5, bk6, bk7, bk8⟩ := box9 bX9
      go_wp2_with fail
      refine (HBk.out _ false h29).mono ?_
      rintro e2 w10 ⟨rfl, hb10⟩
      have h210 := h29.trans (hb10.mono h29.size)
      have hB10 := hB9.trans (hb10.mono hB9.size)
      have aX10 := (hb10.block _ (Array.getElem?_eq_some_iff.1 aX9).1).trans aX9
      have bX10 := (hb10.block _ (Array.getElem?_eq_some_iff.1 bX9).1).trans bX9
      have tX10 := (hb10.block _ (Array.getElem?_eq_some_iff.1 tX9).1).trans tX9
      clear ak0 ak1 ak2 ak3 ak4 ak5 ak6 ak7 ak8 bk0 bk1 bk2 bk3 bk4 bk5 bk6 bk7 bk8 aX9 bX9 tX9 h29 hB9 hb10
      obtain ⟨ak0, ak1, ak2, ak3, ak4, ak5, ak6, ak7, ak8⟩ := box9 aX10
      obtain ⟨bk0, bk1, bk2, bk3, bk4, bk5, bk6, bk7, bk8⟩ := box9 bX10
      go_wp2_with fail
      refine (HBl.out _ true h210).mono ?_
      rintro e2 w11 ⟨rfl, hb11⟩
      have h211 := h210.trans (hb11.mono h210.size)
      have hB11 := hB10.trans (hb11.mono hB10.size)
      have aX11 := (hb11.block _ (Array.getElem?_eq_some_iff.1 aX10).1).trans aX10
      have bX11 := (hb11.block _ (Array.getElem?_eq_some_iff.1 bX10).1).trans bX10
      have tX11 := (hb11.block _ (Array.getElem?_eq_some_iff.1 tX10).1).trans tX10
      clear ak0 ak1 ak2 ak3 ak4 ak5 ak6 ak7 ak8 bk0 bk1 bk2 bk3 bk4 bk5 bk6 bk7 bk8 aX10 bX10 tX10 h210 hB10 hb11
      obtain ⟨ak0, ak1, ak2, ak3, ak4, ak5, ak6, ak7, ak8⟩ := box9 aX11
      obtain ⟨bk0, bk1, bk2, bk3, bk4, bk5, bk6, bk7, bk8⟩ := box9 bX11
      go_wp2_with fail
      refine (HBl.out _ false h211).mono ?_
      rintro e2 w12 ⟨rfl, hb12⟩
      have h212 := h211.trans (hb12.mono h211.size)
      have hB12 := hB11.trans (hb12.mono hB11.size)
      have aX12 := (hb12.block _ (Array.getElem?_eq_some_iff.1 aX11).1).trans aX11
      have bX12 := (hb12.block _ (Array.getElem?_eq_some_iff.1 bX11).1).trans bX11
      have tX12 := (hb12.block _ (Array.getElem?_eq_some_iff.1 tX11).1).trans tX11
      clear ak0 ak1 ak2 ak3 ak4 ak5 ak6 ak7 ak8 bk0 bk1 bk2 bk3 bk4 bk5 bk6 bk7 bk8 aX11 bX11 tX11 h211 hB11 hb12
      have ew : IntKind.i64.wrap ((n : Int) + (d : Int)) = (n : Int) + (d : Int) := IntWalk.i64_in _ (by omega)
      have hDa : d ≤ 5 := hwa
      have alt : ga < w12.heap.size := (Array.getElem?_eq_some_iff.1 aX12).1
      have tlt : w.heap.size < w12.heap.size := (Array.getElem?_eq_some_iff.1 tX12).1
      obtain ⟨ak0, ak1, ak2, ak3, ak4, ak5, ak6, ak7, ak8⟩ := box9 aX12
      obtain ⟨k0, k1, k2, k3, k4, k5, k6⟩ := box7c tX12
      clear HBk HBl bX12
      go_wp2_with fail
      go_cut [12] (fun v12 wx => ∃ (g : Nat) (o : OpV) (oa : Option Addr) (om oc : Nat), v12 = .pointer (some ⟨g, 0, none⟩) ∧ Hid (Made 2 2 (n + d) o) ∧ wx.heap[g]? = some (Obj.cells #[.int .i64 o.c, .int .i64 o.n, .int .i64 o.k, .int .i64 o.p, .string o.s, .slice oa om oc, .int .i64 o.tc, .int .i64 o.tn, .bool o.on] 42) ∧ Sp.Rng wx oa om oc o.l ∧ Below w12.heap.size w12 wx)
      case first =>
        clear HTu
        have hcur : Below w12.heap.size w12 w12 := Below.refl _ _
        go_region_held3 (fun W => ∀ p : Addr, p.block < w12.heap.size → W.cell? p = w12.cell? p) ((intro p hp; refine Below.cell (B := w12.heap.size) ?_ hp; (repeat (first | with_reducible exact hcur | with_reducible exact hB9 | (with_reducible refine Below.drew ?_) | (with_reducible refine Below.alloc ?_ ?_ _) | (with_reducible refine Below.setCell ?_ ?_ _) | exact hz7 | exact hcur.size | (have hq := hcur.size; simp; omega)))))
          (first
            | (go_at_call 16; refine (HF2.out _ ?_).mono ?_; (first | exact hB12.trans (hcur.mono hB12.size) | exact hB12.trans (hcur.drew.mono hB12.size) | exact hB12.trans ((hcur.alloc hcur.size _).mono hB12.size) | exact hB12.trans ((hcur.drew.alloc hcur.drew.size _).mono hB12.size)); rintro e2 w1 ⟨kd, at_, nn, pa, pm, pc, on, zs, rfl, hz0, hb1⟩; (try have hz9 := (hb1.block _ (Array.getElem?_eq_some_iff.1 hz9).1).trans hz9); (first | (have hz9 : w1.heap[w12.heap.size]? = some (Obj.cells #[.int .i64 0, .int .i64 0, .int .i64 0, .int .i64 0, .string ⟨#[]⟩, .slice none 0 0, .int .i64 0, .int .i64 0, .bool false] 42) := (hb1.block _ (by simp)).trans (alloc_last _ (Obj.cells #[.int .i64 0, .int .i64 0, .int .i64 0, .int .i64 0, .string ⟨#[]⟩, .slice none 0 0, .int .i64 0, .int .i64 0, .bool false] 42) _ rfl); have hz7 := Nat.le_refl w12.heap.size) | (have hz9 := (hb1.block _ (by simp)).trans (alloc_last _ (Obj.cells #[.int .i64 0, .int .i64 0, .int .i64 0, .int .i64 0, .string ⟨#[]⟩, .slice none 0 0, .int .i64 0, .int .i64 0, .bool false] 42) _ rfl); have hz7 := hcur.size) | skip); have hcur : Below w12.heap.size w12 w1 := (by first | exact hcur.trans (hb1.mono hcur.size) | exact hcur.drew.trans (hb1.mono hcur.drew.size) | exact (hcur.alloc hcur.size _).trans (hb1.mono (hcur.alloc hcur.size _).size) | exact (hcur.drew.alloc hcur.drew.size _).trans (hb1.mono (hcur.drew.alloc hcur.drew.size _).size)); have hzs := hz0.below hb1; clear hz0)
            | (go_at_call 22; refine (HWd.out _).mono ?_; rintro e2 w1 ⟨rfl, hb1⟩; (try have hz9 := (hb1.block _ (Array.getElem?_eq_some_iff.1 hz9).1).trans hz9); (first | (have hz9 : w1.heap[w12.heap.size]? = some (Obj.cells #[.int .i64 0, .int .i64 0, .int .i64 0, .int .i64 0, .string ⟨#[]⟩, .slice none 0 0, .int .i64 0, .int .i64 0, .bool false] 42) := (hb1.block _ (by simp)).trans (alloc_last _ (Obj.cells #[.int .i64 0, .int .i64 0, .int .i64 0, .int .i64 0, .string ⟨#[]⟩, .slice none 0 0, .int .i64 0, .int .i64 0, .bool false] 42) _ rfl); have hz7 := Nat.le_refl w12.heap.size) | (have hz9 := (hb1.block _ (by simp)).trans (alloc_last _ (Obj.cells #[.int .i64 0, .int .i64 0, .int .i64 0, .int .i64 0, .string ⟨#[]⟩, .slice none 0 0, .int .i64 0, .int .i64 0, .bool false] 42) _ rfl); have hz7 := hcur.size) | skip); have hcur : Below w12.heap.size w12 w1 := (by first | exact hcur.trans (hb1.mono hcur.size) | exact hcur.drew.trans (hb1.mono hcur.drew.size) | exact (hcur.alloc hcur.size _).trans (hb1.mono (hcur.alloc hcur.size _).size) | exact (hcur.drew.alloc hcur.drew.size _).trans (hb1.mono (hcur.drew.alloc hcur.drew.size _).size)); (have hzs2 : Rw int1 1 w1 pa pm pc zs := (by first | exact hzs.below hb1 | exact hzs.below ((Below.refl _ _).drew.trans hb1) | exact hzs.below (((Below.refl _ _).alloc (Nat.le_refl _) _).trans (hb1.mono (by simp))) | exact hzs.below ((((Below.refl _ _).alloc (Nat.le_refl _) _).drew).trans (hb1.mono (by simp))))); clear hzs; have hzs := hzs2; clear hzs2; )
            | (go_at_call 15; refine (HM3.out d _ kd at_ nn pa pm pc on zs hDa ?_ ?_).mono ?_; (first | exact hB12.trans (hcur.mono hB12.size) | exact hB12.trans (hcur.drew.mono hB12.size) | exact hB12.trans ((hcur.alloc hcur.size _).mono hB12.size) | exact hB12.trans ((hcur.drew.alloc hcur.drew.size _).mono hB12.size)); (first | exact hzs | exact hzs.below (Below.refl _ _).drew | exact hzs.below ((Below.refl _ _).alloc (Nat.le_refl _) _) | exact hzs.below (((Below.refl _ _).drew).alloc (Nat.le_refl _) _) | exact hzs.below (((Below.refl _ _).alloc (Nat.le_refl _) _).drew)); rintro e2 w1 ⟨o, oa, om, oc, rfl, hmd, hv3, hb1⟩; (try have hz9 := (hb1.block _ (Array.getElem?_eq_some_iff.1 hz9).1).trans hz9); (first | (have hz9 : w1.heap[w12.heap.size]? = some (Obj.cells #[.int .i64 0, .int .i64 0, .int .i64 0, .int .i64 0, .string ⟨#[]⟩, .slice none 0 0, .int .i64 0, .int .i64 0, .bool false] 42) := (hb1.block _ (by simp)).trans (alloc_last _ (Obj.cells #[.int .i64 0, .int .i64 0, .int .i64 0, .int .i64 0, .string ⟨#[]⟩, .slice none 0 0, .int .i64 0, .int .i64 0, .bool false] 42) _ rfl); have hz7 := Nat.le_refl w12.heap.size) | (have hz9 := (hb1.block _ (by simp)).trans (alloc_last _ (Obj.cells #[.int .i64 0, .int .i64 0, .int .i64 0, .int .i64 0, .string ⟨#[]⟩, .slice none 0 0, .int .i64 0, .int .i64 0, .bool false] 42) _ rfl); have hz7 := hcur.size) | skip); have hcur : Below w12.heap.size w12 w1 := (by first | exact hcur.trans (hb1.mono hcur.size) | exact hcur.drew.trans (hb1.mono hcur.drew.size) | exact (hcur.alloc hcur.size _).trans (hb1.mono (hcur.alloc hcur.size _).size) | exact (hcur.drew.alloc hcur.drew.size _).trans (hb1.mono (hcur.drew.alloc hcur.drew.size _).size)); have HMo : Hid (Made 2 2 (n + d) o) := hmd; clear hmd; (try (have hs9 := store9 hz9 hcur hz7 (.int .i64 o.c) (.int .i64 o.n) (.int .i64 o.k) (.int .i64 o.p) (.string o.s) (.slice oa om oc) (.int .i64 o.tc) (.int .i64 o.tn) (.bool o.on); obtain ⟨W9, e9', hx9, hB9, hK9⟩ := hs9; have e9 := e9'; clear e9'; obtain ⟨d0, d1, d2, d3, d4, d5, d6, d7, d8⟩ := box9 hz9; obtain ⟨dz0, dz1, dz2, dz3, dz4, dz5, dz6, dz7, dz8⟩ := wr9 hz9))))
        all_goals
          try rw [e9]
          go_wp2_with fail
          go_meet
          case rel => first | exact ⟨_, o, oa, om, oc, rfl, HMo, hx9, rng_of_rw ((own_but hv3 hz9 hK9).rw_ layG), hB9⟩ | exact ⟨_, o, oa, om, oc, rfl, HMo, alloc_last _ _ _ rfl, rng_of_rw ((hv3.below ((Below.refl _ _).alloc (Nat.le_refl _) _)).rw_ layG), hcur.alloc hcur.size _⟩
      case rest =>
        obtain ⟨W13, rfl⟩ : ∃ x, x = wc := ⟨_, rfl⟩
        obtain ⟨go, o, oa, om, oc, rfl, HMo, oX, ro, h13⟩ := hcut
        have h213 := h212.trans (h13.mono h212.size)
        have hB13 := hB12.trans (h13.mono hB12.size)
        have aX13 := (h13.block _ alt).trans aX12
        clear ak0 ak1 ak2 ak3 ak4 ak5 ak6 ak7 ak8 k0 k1 k2 k3 k4 k5 k6
        obtain ⟨ak0, ak1, ak2, ak3, ak4, ak5, ak6, ak7, ak8⟩ := box9 aX13
        obtain ⟨ok0, ok1, ok2, ok3, ok4, ok5, ok6, ok7, ok8⟩ := box9 oX
        have HT2 := HTu.out W13 o oa om oc h213 HMo.out ro
        clear HTu
        go_wp2_with fail
        refine HT2.mono ?_
        rintro e2 w14 ⟨rfl, hb14⟩
        go_wp2_with fail
        go_ret
        exact ⟨rfl, hB13.trans (hb14.mono hB13.size)⟩
end Go.Proofs.YtlebbffpbbjakaaDoor
