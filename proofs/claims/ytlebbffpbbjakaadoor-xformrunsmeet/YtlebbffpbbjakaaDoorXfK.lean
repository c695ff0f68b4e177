import Derived.Test.YtlebbffpbbjakaaDoorXfI
import Derived.Test.YtlebbffpbbjakaaDoorXfJ
import Derived.Test.YtlebbffpbbjakaaDoorXfH
import Derived.BigQuiet
namespace Go.Proofs.YtlebbffpbbjakaaDoor
open Go.RowKit Go.Lib
set_option maxRecDepth 100000

theorem run_eqHead (w : World) (a b k : Int) : (Op.equalIn 10000 39 (.agg #[.int .i64 a, .int .i64 b, .int .i64 k]) (.agg #[.int .i64 a, .int .i64 b, .int .i64 k])).run Tryd.prog w = .ok true w := by
  show (Op.equalIn (9999 + 1) _ _ _).run _ _ = _
  rw [run_equalIn_struct w 9999 39 _ _ (by kernel_rfl) (by kernel_rfl)]
  simp only [Program.fieldsOf, Tryd.underlying39]
  simp [Op.eqFields, part, Tryd.isAgg37, Tryd.sizeOf37, Tryd.isAgg36, Tryd.sizeOf36, run_eqID2, run_equalIn_int w _ _ _ _ _ _ Tryd.underlying37, Sem.run_bind, Result.andThen_ok, Sem.run_ite]
theorem box7'' {W : World} {b : Nat} {T : TypeId} {v0 v1 v2 v3 v4 v5 v6 : Value} (h : W.heap[b]? = some (.cells #[v0, v1, v2, v3, v4, v5, v6] T)) :
    W.cell? ⟨b, 0, none⟩ = some v0 ∧ W.cell? ⟨b, 1, none⟩ = some v1 ∧ W.cell? ⟨b, 2, none⟩ = some v2 ∧ W.cell? ⟨b, 3, none⟩ = some v3 ∧ W.cell? ⟨b, 4, none⟩ = some v4 ∧ W.cell? ⟨b, 5, none⟩ = some v5 ∧ W.cell? ⟨b, 6, none⟩ = some v6 := by
  simp only [Lib.cell_of_heap h]
  exact ⟨rfl, rfl, rfl, rfl, rfl, rfl, rfl⟩
theorem kept_at {A B : List OpM} (h : Kept (A.map (·.1)) (B.map (·.1))) (q : Nat) (x y : OpM) (hx : A[q]? = some x) (hy : B[q]? = some y) : KeepO x.1 y.1 := h.at q x.1 y.1 (by rw [List.getElem?_map, hx]; rfl) (by rw [List.getElem?_map, hy]; rfl)
set_option maxHeartbeats 16000000 in
theorem runsMeet_any (len i j : Int) (e : Bool) (a1 a2 a6 : Option Addr) (m1 m2 m6 cap1 cap2 cap6 : Nat) (w : World) (hB : Bar w) (hT : Txs w) {S1 S2 : List SpecM} (hS1 : Rw specF 5 w a1 m1 cap1 S1) (hO1 : OkSpecs w S1) (hS2 : Rw specF 5 w a2 m2 cap2 S2) (hO2 : OkSpecs w S2) :
    Calls Tryd.prog 3 #[.agg #[.int .i64 len, .slice a1 m1 cap1, .slice a2 m2 cap2, .int .i64 i, .int .i64 j, .bool e, .slice a6 m6 cap6]] w fun r w' => r = .returned (.bool true) ∧ Below w.heap.size w w' := by
  have HG : Tryd.prog.eqGuardType Tryd.prog.depth 36 = false := by kernel_rfl
  have HG2 : Tryd.prog.eqGuardType Tryd.prog.depth 39 = false := by kernel_rfl
  obtain ⟨n, hn⟩ : ∃ n : Nat, len % 30 = (n : Int) := ⟨(len % 30).toNat, by omega⟩
  have hn30 : n < 30 := by omega
  have HW1 : Hid (∀ W, Calls Tryd.prog 7 #[.int .i64 len, .int .i64 30] W fun e w' => e = .returned (.int .i64 (n : Int)) ∧ W = w') := fun W => by rw [← hn]; exact (within_any len 30 (by omega) (by omega) W).mono fun e w' h => ⟨h.1, h.2.symm⟩
  have HN : Hid (∀ W, Calls Tryd.prog 11 #[.int .i64 0] W fun r w' => r = .returned (.int .i64 0) ∧ W = w') := fun W => (num_any 0 W).mono fun e w' h => ⟨h.1, h.2.symm⟩
  have HR1 : Hid (∀ W, Below w.heap.size w W → Calls Tryd.prog 8 #[.slice a1 m1 cap1, .int .i64 1, .int .i64 (n : Int)] W fun e w' => ∃ va vm vc L, e = .returned (.slice va vm vc) ∧ OwnF opF 9 42 w' W.heap.size (.slice va vm vc) L ∧ OwnRs w' W.heap.size L ∧ RunOk 1 0 n (L.map (·.1)) ∧ L.length ≤ 12 ∧ Below W.heap.size W w') := fun W hb => run_any (hS1.below hb) (fun x hx => by obtain ⟨zs, hz⟩ := hO1 x hx; exact ⟨zs, hz.below hb⟩) (by omega) (hT.below hb)
  have HR2 : Hid (∀ W, Below w.heap.size w W → Calls Tryd.prog 8 #[.slice a2 m2 cap2, .int .i64 2, .int .i64 (n : Int)] W fun e w' => ∃ va vm vc L, e = .returned (.slice va vm vc) ∧ OwnF opF 9 42 w' W.heap.size (.slice va vm vc) L ∧ OwnRs w' W.heap.size L ∧ RunOk 2 0 n (L.map (·.1)) ∧ L.length ≤ 12 ∧ Below W.heap.size W w') := fun W hb => run_any (hS2.below hb) (fun x hx => by obtain ⟨zs, hz⟩ := hO2 x hx; exact ⟨zs, hz.below hb⟩) (by omega) (hT.below hb)
  have HBar : Hid (∀ W, Below w.heap.size w W → Bar W) := fun W hb => hB.below hb
  have HAw : Hid (∀ W, Below w.heap.size w W → Calls Tryd.prog 12 #[] W fun e w' => e = .returned (.bool true) ∧ Below W.heap.size W w') := fun W hb => awake_any W (hB.below hb)
  obtain ⟨R, hRe⟩ : ∃ R : List CellW, ((List.range n).map fun i => (((0, 0), ((i : Nat) : Int), 0) : CellW)) = R := ⟨_, rfl⟩
  have hRl : R.length = n := by rw [← hRe]; simp
  have HSm : Hid (Small 0 R) := fun x hx => by
    rw [← hRe] at hx
    obtain ⟨k, _, rfl⟩ := List.mem_map.1 hx
    simp
  have HRow : Hid (∀ W, Calls Tryd.prog 14 #[.int .i64 (n : Int)] W fun e w' => ∃ (va : Option Addr) (vm vc : Nat), e = .returned (.slice va vm vc) ∧ Rw cellW 4 w' va vm vc R ∧ Below W.heap.size W w') := fun W => by
    refine (row_any n (by omega) W).mono ?_
    rintro e2 w1 ⟨v, rfl, ho, hb⟩
    rw [hRe] at ho
    obtain ⟨xa, xc, rfl⟩ := ho.shape
    exact ⟨_, _, _, rfl, ho.rw_ layW, hb⟩
  clear hn hT hS1 hO1 hS2 hO2 hB hRe
  obtain ⟨W0, hW0⟩ : ∃ W0, w.alloc (Obj.cells #[.int .i64 len, .slice a1 m1 cap1, .slice a2 m2 cap2, .int .i64 i, .int .i64 j, .bool e, .slice a6 m6 cap6] 25) = W0 := ⟨_, rfl⟩
  have hX : W0.heap[w.heap.size]? = some (Obj.cells #[.int .i64 len, .slice a1 m1 cap1, .slice a2 m2 cap2, .int .i64 i, .int .i64 j, .bool e, .slice a6 m6 cap6] 25) := by rw [← hW0]; exact alloc_last _ _ _ rfl
  have hB0 : Below w.heap.size w W0 := by rw [← hW0]; exact (Below.refl w.heap.size w).alloc (Nat.le_refl _) _
  have alt : w.heap.size < W0.heap.size := (Array.getElem?_eq_some_iff.1 hX).1
  obtain ⟨k0, k1, k2, k3, k4, k5, k6⟩ := box7'' hX
  go_enter Tryd.func3, Tryd.ntmps3
  go_wp2_with fail
  refine (HW1.out _).mono ?_
  rintro e2 w1 ⟨rfl, rfl⟩
  go_wp2_with fail
  refine (HR1.out _ hB0).mono ?_
  rintro e2 w2 ⟨la, ma, ca, LA, rfl, hoA, hrA, hokA, lnA, hb2⟩
  have hX2 := (hb2.block _ alt).trans hX
  have hB2 := hB0.trans (hb2.mono hB0.size)
  clear k0 k1 k2 k3 k4 k5 k6 hX hW0 hB0 alt HW1
  obtain ⟨k0, k1, k2, k3, k4, k5, k6⟩ := box7'' hX2
  obtain ⟨gA, uA⟩ := runG_of (.inl rfl) _ 0 n hokA (by rw [List.length_map]; omega)
  have rA := rdy_of hrA gA (by omega)
  have wA := hoA.rw_ layO
  have maA := wA.len
  have HA2 : Hid (Rw opF 9 w2 la ma ca LA ∧ ∀ x ∈ LA, Rdy w2 x) := ⟨wA, rA⟩
  clear hoA hrA hokA rA wA hb2
  go_wp2_with fail
  refine (HR2.out _ hB2).mono ?_
  rintro e2 w3 ⟨lb, mb, cb, LB, rfl, hoB, hrB, hokB, lnB, hb3⟩
  have hB3 := hB2.trans (hb3.mono hB2.size)
  obtain ⟨gB, uB⟩ := runG_of (.inr rfl) _ 0 n hokB (by rw [List.length_map]; omega)
  have rB := rdy_of hrB gB (by omega)
  have wB := hoB.rw_ layO
  have mbB := wB.len
  have HA3 : Hid (Rw opF 9 w3 la ma ca LA ∧ ∀ x ∈ LA, Rdy w3 x) := ⟨HA2.out.1.below hb3, rdys_below HA2.out.2 hb3⟩
  have HB3 : Hid (Rw opF 9 w3 lb mb cb LB ∧ ∀ x ∈ LB, Rdy w3 x) := ⟨wB, rB⟩
  have HPu : Hid (RunG n (LA.map (·.1)) ∧ RunG n (LB.map (·.1)) ∧ ∀ f ∈ LA.map (·.1), ∀ l ∈ LB.map (·.1), Unlike f l) := ⟨gA, gB, fun f hf l hl h => by have h1 := uA f hf; have h2 := uB l hl; have := h.1; omega⟩
  have HCR : Hid (∀ (W : World) (a : Option Addr) (m cap : Nat) (L : List OpM), Rw opF 9 W a m cap L → (∀ x ∈ L, Rdy W x) → m ≤ 1000 → Calls Tryd.prog 10 #[.slice a m cap] W fun e w' => ∃ va vc L', e = .returned (.slice va m vc) ∧ OwnF opF 9 42 w' W.heap.size (.slice va m vc) L' ∧ L'.map (·.1) = L.map (·.1) ∧ OwnRs w' W.heap.size L' ∧ Below W.heap.size W w') := fun W a m cap L h1 h2 h3 => copyRun_any h1 h2 h3
  clear hoB hrB hokB rB wB hb3 HA2 gA gB uA uB k0 k1 k2 k3 k4 k5 k6 hX2 HR1 HR2
  go_wp2_with fail
  refine (HCR.out _ la ma ca LA HA3.out.1 HA3.out.2 (by omega)).mono ?_
  rintro e2 w4 ⟨va, vc, LA', rfl, hoA, hmA, hrA, hb4⟩
  have hB4 := hB3.trans (hb4.mono hB3.size)
  have HA4 : Hid (Rw opF 9 w4 la ma ca LA ∧ ∀ x ∈ LA, Rdy w4 x) := ⟨HA3.out.1.below hb4, rdys_below HA3.out.2 hb4⟩
  have HB4 : Hid (Rw opF 9 w4 lb mb cb LB ∧ ∀ x ∈ LB, Rdy w4 x) := ⟨HB3.out.1.below hb4, rdys_below HB3.out.2 hb4⟩
  have HF4 : Hid (OwnF opF 9 42 w4 w3.heap.size (.slice va ma vc) LA' ∧ LA'.map (·.1) = LA.map (·.1) ∧ OwnRs w4 w3.heap.size LA') := ⟨hoA, hmA, hrA⟩
  clear hoA hmA hrA hb4 HA3 HB3
  go_wp2_with fail
  refine (HCR.out _ lb mb cb LB HB4.out.1 HB4.out.2 (by omega)).mono ?_
  rintro e2 w5 ⟨ua, uc, LB', rfl, hoB, hmB, hrB, hb5⟩
  have hB5 := hB4.trans (hb5.mono hB4.size)
  have HA5 : Hid (Rw opF 9 w5 la ma ca LA ∧ ∀ x ∈ LA, Rdy w5 x) := ⟨HA4.out.1.below hb5, rdys_below HA4.out.2 hb5⟩
  have HB5 : Hid (Rw opF 9 w5 lb mb cb LB ∧ ∀ x ∈ LB, Rdy w5 x) := ⟨HB4.out.1.below hb5, rdys_below HB4.out.2 hb5⟩
  have HX : Hid (Calls Tryd.prog 9 #[.slice va ma vc, .slice ua mb uc] w5 fun e w' => ∃ a1 c1 a2 c2 F' L', e = .returned (.tuple #[.slice a1 ma c1, .slice a2 mb c2, .int .i64 0]) ∧ OwnF opF 9 42 w' w5.heap.size (.slice a1 ma c1) F' ∧ OwnF opF 9 42 w' w5.heap.size (.slice a2 mb c2) L' ∧ F'.map (·.1) = (crossAll (LA.map (·.1)) (LB.map (·.1))).1 ∧ L'.map (·.1) = (crossAll (LA.map (·.1)) (LB.map (·.1))).2 ∧ OwnRs w' w5.heap.size F' ∧ OwnRs w' w5.heap.size L' ∧ Below w5.heap.size w5 w') := by
    obtain ⟨ho4, hm4, hr4⟩ := HF4.out
    obtain ⟨g1, g2, hu⟩ := HPu.out
    have l1 : LA'.length = LA.length := by have := congrArg List.length hm4; simpa using this
    have l2 : LB'.length = LB.length := by have := congrArg List.length hmB; simpa using this
    have := Cross_ok (t := n) (ho4.below hb5) hoB (rdys_below (rdy_of (t := n) hr4 (by rw [hm4]; exact g1) (by omega)) hb5) (rdy_of (t := n) hrB (by rw [hmB]; exact g2) (by omega)) (HBar.out w5 hB5) (by rw [hm4]; exact g1) (by rw [hmB]; exact g2) (by rw [hm4, hmB]; exact hu) (by omega)
    rw [hm4, hmB] at this
    exact this
  clear hoB hmB hrB hb5 HA4 HB4 HF4
  go_wp2_with fail
  refine HX.out.mono ?_
  rintro e2 w6 ⟨xa, xc, ya, yc, FA, FB, rfl, hoF, hoL, hmF, hmL, hrF, hrL, hb6⟩
  have hB6 := hB5.trans (hb6.mono hB5.size)
  have HA6 : Hid (Rw opF 9 w6 la ma ca LA ∧ ∀ x ∈ LA, Rdy w6 x) := ⟨HA5.out.1.below hb6, rdys_below HA5.out.2 hb6⟩
  have HB6 : Hid (Rw opF 9 w6 lb mb cb LB ∧ ∀ x ∈ LB, Rdy w6 x) := ⟨HB5.out.1.below hb6, rdys_below HB5.out.2 hb6⟩
  obtain ⟨p1, p2, p3, p4, p5⟩ := all_ok HPu.out.1 HPu.out.2.1 HPu.out.2.2 (by rw [List.length_map, List.length_map]; omega)
  rw [← hmF] at p1 p3 p5
  rw [← hmL] at p2 p4 p5
  have lF : FA.length = LA.length := by have := p3.len; rw [List.length_map, List.length_map] at this; exact this.symm
  have lL : FB.length = LB.length := by have := p4.len; rw [List.length_map, List.length_map] at this; exact this.symm
  have eA := endT_le HPu.out.1
  have eB := endT_le HPu.out.2.1
  rw [List.length_map] at eA eB
  have HF6 : Hid (Rw opF 9 w6 xa ma xc FA ∧ ∀ x ∈ FA, Rdy w6 x) := ⟨hoF.rw_ layO, rdy_of hrF p1 (by omega)⟩
  have HL6 : Hid (Rw opF 9 w6 ya mb yc FB ∧ ∀ x ∈ FB, Rdy w6 x) := ⟨hoL.rw_ layO, rdy_of hrL p2 (by omega)⟩
  have HKA : Hid (∀ (q : Nat) (x y : OpM), LA[q]? = some x → FA[q]? = some y → KeepO x.1 y.1) := fun q x y => kept_at p3 q x y
  have HKB : Hid (∀ (q : Nat) (x y : OpM), LB[q]? = some x → FB[q]? = some y → KeepO x.1 y.1) := fun q x y => kept_at p4 q x y
  have HEQ : Hid (foldV R (LA.map (·.1) ++ FB.map (·.1)) = foldV R (LB.map (·.1) ++ FA.map (·.1)) ∧ FoldOk R (LA.map (·.1) ++ FB.map (·.1)) ∧ FoldOk R (LB.map (·.1) ++ FA.map (·.1))) := ⟨p5 R hRl, fold_okG _ R 0 (by rw [hRl]; exact HPu.out.1.append p2) (by omega) HSm.out (by rw [List.length_append, List.length_map, List.length_map]; omega) (by rw [List.length_append, List.length_map, List.length_map]; omega), fold_okG _ R 0 (by rw [hRl]; exact HPu.out.2.1.append p1) (by omega) HSm.out (by rw [List.length_append, List.length_map, List.length_map]; omega) (by rw [List.length_append, List.length_map, List.length_map]; omega)⟩
  have HPA : Hid (RunG n (LA.map (·.1))) := HPu.out.1
  have HPB : Hid (RunG n (LB.map (·.1))) := HPu.out.2.1
  clear hoF hoL hmF hmL hrF hrL hb6 p1 p2 p3 p4 p5 eA eB HX HA5 HB5 HSm HPu
  go_wp2_with fail
  refine (HN.out _).mono ?_
  rintro e2 w7 ⟨rfl, rfl⟩
  go_wp2_with fail
  refine (HAw.out _ hB6).mono ?_
  rintro e2 w7 ⟨rfl, hb7⟩
  have HA6' : Hid (Rw opF 9 w6 la ma ca LA) := HA6.out.1
  have HB6' : Hid (Rw opF 9 w6 lb mb cb LB) := HB6.out.1
  have HF6' : Hid (Rw opF 9 w6 xa ma xc FA) := HF6.out.1
  have HL6' : Hid (Rw opF 9 w6 ya mb yc FB) := HL6.out.1
  have h1000 : ma ≤ 12 := by omega
  have h1001 : mb ≤ 12 := by omega
  clear HN HAw
  go_wp2_with fail
  go_loopw [9] (fun vi W => ∃ q : Nat, vi = .int .i64 (q : Int) ∧ q ≤ ma ∧ Below w6.heap.size w6 W) (fun vi _ => ma - (RowKit.intOf vi).toNat)
  case atStart => exact ⟨0, rfl, Nat.zero_le _, hb7⟩
  case round =>
    obtain ⟨q, rfl, hq, hb⟩ := hrel
    by_cases hlt : q < ma
    · obtain ⟨g0, o0, x, ex, hg0, hx, c0, c1, c2, c3, c4, c5, c6, c7, c8⟩ := HA6'.out.at9 hb q hlt
      obtain ⟨g1, o1, y, ey, hg1, hy, d0, d1, d2, d3, d4, d5, d6, d7, d8⟩ := HF6'.out.at9 hb q hlt
      have hk := HKA.out q x y hx hy
      obtain ⟨⟨xc_, xn, xk, xp, xs, xl, xtc, xtn, xon⟩, xa_, xm_, xcap⟩ := x
      obtain ⟨⟨yc_, yn, yk, yp, ys, yl, ytc, ytn, yon⟩, ya_, ym_, ycap⟩ := y
      obtain ⟨k1, k2, k3, k4, k5, k6, k7⟩ := hk
      simp only at k1 k2 k3 k4 k5 k6 k7 c0 c1 c2 c3 c4 c5 c6 c7 c8 d0 d1 d2 d3 d4 d5 d6 d7 d8
      subst k1 k2 k3 k4 k5 k6 k7
      have b1 : (q : Int) < (ma : Int) := by omega
      have b0 : (0 : Int) ≤ (q : Int) := by omega
      have eqh : ∀ W, (Op.equalIn 10000 39 (.agg #[.int .i64 yc_, .int .i64 yn, .int .i64 yk]) (.agg #[.int .i64 yc_, .int .i64 yn, .int .i64 yk])).run Tryd.prog W = .ok true W := fun W => run_eqHead W _ _ _
      have eqt : ∀ W, (Op.equalIn 10000 36 (.agg #[.int .i64 ytc, .int .i64 ytn]) (.agg #[.int .i64 ytc, .int .i64 ytn])).run Tryd.prog W = .ok true W := fun W => by rw [run_eqID]; simp
      clear hx hy hg0 hg1
      subst ex ey
      go_wp2_with fail
      go_quiet (fail)
      go_wp2_with fail
      go_roundw
      case rel => exact ⟨q + 1, by go_num, by omega, below_drewN hb _⟩
      case measure => simp [RowKit.intOf]; omega
    · have hql : ma = q := by omega
      subst hql
      have b1 : decide ((ma : Int) < (ma : Int)) = false := decide_eq_false (by omega)
      have hbA := hb
      go_wp2_with fail
      go_loopw [10] (fun vi W => ∃ q : Nat, vi = .int .i64 (q : Int) ∧ q ≤ mb ∧ Below w6.heap.size w6 W) (fun vi _ => mb - (RowKit.intOf vi).toNat)
      case atStart => exact ⟨0, rfl, Nat.zero_le _, hbA⟩
      case round =>
        obtain ⟨q, rfl, hq, hb⟩ := hrel
        by_cases hlt : q < mb
        · obtain ⟨g0, o0, x, ex, hg0, hx, c0, c1, c2, c3, c4, c5, c6, c7, c8⟩ := HB6'.out.at9 hb q hlt
          obtain ⟨g1, o1, y, ey, hg1, hy, d0, d1, d2, d3, d4, d5, d6, d7, d8⟩ := HL6'.out.at9 hb q hlt
          have hk := HKB.out q x y hx hy
          obtain ⟨⟨xc_, xn, xk, xp, xs, xl, xtc, xtn, xon⟩, xa_, xm_, xcap⟩ := x
          obtain ⟨⟨yc_, yn, yk, yp, ys, yl, ytc, ytn, yon⟩, ya_, ym_, ycap⟩ := y
          obtain ⟨k1, k2, k3, k4, k5, k6, k7⟩ := hk
          simp only at k1 k2 k3 k4 k5 k6 k7 c0 c1 c2 c3 c4 c5 c6 c7 c8 d0 d1 d2 d3 d4 d5 d6 d7 d8
          subst k1 k2 k3 k4 k5 k6 k7
          have b1 : (q : Int) < (mb : Int) := by omega
          have b0 : (0 : Int) ≤ (q : Int) := by omega
          have eqh : ∀ W, (Op.equalIn 10000 39 (.agg #[.int .i64 yc_, .int .i64 yn, .int .i64 yk]) (.agg #[.int .i64 yc_, .int .i64 yn, .int .i64 yk])).run Tryd.prog W = .ok true W := fun W => run_eqHead W _ _ _
          have eqt : ∀ W, (Op.equalIn 10000 36 (.agg #[.int .i64 ytc, .int .i64 ytn]) (.agg #[.int .i64 ytc, .int .i64 ytn])).run Tryd.prog W = .ok true W := fun W => by rw [run_eqID]; simp
          clear hx hy hg0 hg1
          subst ex ey
          go_wp2_with fail
          go_quiet (fail)
          go_wp2_with fail
          go_roundw
          case rel => exact ⟨q + 1, by go_num, by omega, below_drewN hb _⟩
          case measure => simp [RowKit.intOf]; omega
        · have hql : mb = q := by omega
          subst hql
          have b1 : decide ((mb : Int) < (mb : Int)) = false := decide_eq_false (by omega)
          have hA6 := HA6.out
          have hB6' := HB6.out
          have hF6 := HF6.out
          have hL6 := HL6.out
          clear HA6 HB6 HF6 HL6 HA6' HB6' HF6' HL6' HKA HKB hbA
          have HP : Hid (∀ W, Below w6.heap.size w6 W → (Rw opF 9 W la ma ca LA ∧ ∀ x ∈ LA, Rdy W x) ∧ (Rw opF 9 W lb mb cb LB ∧ ∀ x ∈ LB, Rdy W x) ∧ (Rw opF 9 W xa ma xc FA ∧ ∀ x ∈ FA, Rdy W x) ∧ (Rw opF 9 W ya mb yc FB ∧ ∀ x ∈ FB, Rdy W x)) := fun W h => ⟨⟨hA6.1.below h, rdys_below hA6.2 h⟩, ⟨hB6'.1.below h, rdys_below hB6'.2 h⟩, ⟨hF6.1.below h, rdys_below hF6.2 h⟩, ⟨hL6.1.below h, rdys_below hL6.2 h⟩⟩
          clear hA6 hB6' hF6 hL6 hb7
          go_wp2_with fail
          refine (HRow.out _).mono ?_
          rintro e2 w8 ⟨ra, rm, rc, rfl, hrw, h8⟩
          have hb8 := hb.trans (h8.mono hb.size)
          go_wp2_with fail
          refine (HCR.out _ la ma ca LA (HP.out _ hb8).1.1 (HP.out _ hb8).1.2 (by omega)).mono ?_
          rintro e2 w9 ⟨pa, pc, LX, rfl, hoX, hmX, hrX, h9⟩
          have lX := (hoX.rw_ layO).len
          obtain ⟨za, zc, w10, hr10, hw10, hd10, h10⟩ := append_run hoX hrX h9 (HP.out _ hb8).2.2.2.1 (HP.out _ hb8).2.2.2.2 (fun x hx => by
            have h1 := RunG.few HPA.out (by rw [List.length_map]; omega) x.1 (by rw [← hmX]; exact List.mem_map_of_mem hx)
            exact ⟨rng_of_rw ((hrX x hx).rw_ layG), by omega, by omega⟩) (by omega)
          rw [lX] at hr10 hw10
          have hb10 := hb8.trans (h10.mono hb8.size)
          have hrw10 := hrw.below h10
          have HX10 : Hid (Rw opF 9 w10 za (ma + mb) zc (LX ++ FB) ∧ (∀ x ∈ LX ++ FB, Rdy w10 x) ∧ LX.map (·.1) = LA.map (·.1)) := ⟨hw10, hd10, hmX⟩
          clear hoX hmX hrX h9 hrw h8 h10 hw10 hd10 hb hb8
          go_wp2_with (at_builtin; refine wpList_append_hr rfl _ _ 27 rfl _ _ rfl rfl hr10 ?_)
          refine (HCR.out _ lb mb cb LB (HP.out _ hb10).2.1.1 (HP.out _ hb10).2.1.2 (by omega)).mono ?_
          rintro e2 w11 ⟨sa, sc, LY, rfl, hoY, hmY, hrY, h11⟩
          have lY := (hoY.rw_ layO).len
          obtain ⟨ta, tc, w12, hr12, hw12, hd12, h12⟩ := append_run hoY hrY h11 (HP.out _ hb10).2.2.1.1 (HP.out _ hb10).2.2.1.2 (fun x hx => by
            have h1 := RunG.few HPB.out (by rw [List.length_map]; omega) x.1 (by rw [← hmY]; exact List.mem_map_of_mem hx)
            exact ⟨rng_of_rw ((hrY x hx).rw_ layG), by omega, by omega⟩) (by omega)
          rw [lY] at hr12 hw12
          have HS : Hid (Calls Tryd.prog 13 #[.slice ra rm rc, .slice za (ma + mb) zc, .slice ta (mb + ma) tc] w12 fun e w' => e = .returned (.bool true) ∧ Below w12.heap.size w12 w') := by
            obtain ⟨x1, x2, x3⟩ := HX10.out
            obtain ⟨q1, q2, q3⟩ := HEQ.out
            exact sameRows_any (hrw10.below h12) (x1.below h12) (rdys_below x2 h12) hw12 hd12 (by rw [List.map_append, x3]; exact q2) (by rw [List.map_append, hmY]; exact q3) (by rw [List.map_append, x3, List.map_append, hmY]; exact q1)
          have hb12 := hb10.trans (h12.mono hb10.size)
          have hB12 := hB6.trans (hb12.mono hB6.size)
          clear hoY hmY hrY h11 hw12 hd12 h12 hb12 hb10 HX10 HEQ HP HCR hr10
          go_wp2_with (at_builtin; refine wpList_append_hr rfl _ _ 27 rfl _ _ rfl rfl hr12 ?_)
          refine HS.out.mono ?_
          rintro e2 w13 ⟨rfl, h13⟩
          go_wp2_with fail
          go_ret
          exact ⟨rfl, hB12.trans (h13.mono hB12.size)⟩
end Go.Proofs.YtlebbffpbbjakaaDoor
