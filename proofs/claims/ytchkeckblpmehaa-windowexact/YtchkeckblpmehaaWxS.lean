import Derived.Test.YtchkeckblpmehaaWxR
/-! WindowExact. -/
namespace Go.Proofs.Ytchkeckblpmehaa
open Go.RowKit Go.Lib
set_option maxRecDepth 100000
structure StR where
  k : Int
  wh : Int
  N : Int
  V : Int
def stV (o : StR) : List Value := [.int .i64 o.k, .int .i64 o.wh, .int .i64 o.N, .int .i64 o.V]
theorem laySt : Lay stV 4 := ⟨fun _ => rfl, by decide, fun x u hu => by simp [stV] at hu; rcases hu with rfl | rfl | rfl | rfl <;> rfl⟩
theorem openedP (n s : Int) (h0 : 0 ≤ n) (h1 : n ≤ 1048576) (h2 : 1 ≤ s) (h3 : s ≤ 1048576) (B : Nat) (w : World) (hB : B ≤ w.heap.size) : Calls Try.prog 4 #[.agg #[.int .i64 n, .int .i64 s]] w fun e w' => ∃ p : Pa, e = .returned (.tuple #[.pointer (some ⟨p.q, 0, none⟩), .pointer (some ⟨p.r, 0, none⟩), .bool true]) ∧ PaAt B w' p ∧ (∀ g, PaB p g → w.heap.size ≤ g ∧ g < w'.heap.size) ∧ msz p.S ≤ 1048576 ∧ Below w.heap.size w w' := by
  refine Calls.mono (opened_ok n s h0 h1 h2 h3 w) ?_
  rintro e w' ⟨q, b, r, he, k1, k2, k3, _, _, k4, k5, k6⟩
  have hp : PaAt B w' ⟨q, b, r, .slice none 0 0, ⟨n, s, []⟩⟩ := pair_new k4 k5 (Nat.le_trans hB k6.size)
  refine ⟨⟨q, b, r, .slice none 0 0, ⟨n, s, []⟩⟩, he, hp, fun g hg => ⟨?_, hp.lt hg⟩, by simp [msz]; omega, k6⟩
  rcases hg with (rfl | rfl) | (rfl | hg)
  · exact k1
  · exact k2
  · exact k3
  · simp [Value.ownBlock] at hg
/-- The state at the beginning. -/
theorem js_new {B : Nat} {w W : World} {p : Pa} {o : Option Pa} {qh : Nat} (h0 : PaAt B W p) (h1 : ∀ p', o = some p' → PaAt B W p' ∧ (∀ g, PaB p g → ¬ PaB p' g) ∧ (∀ g, PaB p' g → B ≤ g) ∧ msz p'.S ≤ 1048576) (hge : ∀ g, PaB p g → B ≤ g) (hs : msz p.S ≤ 1048576) (hq : W.heap[qh]? = some (.cells #[.slice none 0 0, .slice none 0 0] 28)) (hqB : B ≤ qh) (hb : Below B w W) (hB : B ≤ W.heap.size) : JS B w W p o qh (.slice none 0 0) (.slice none 0 0) [] 0 := by
  refine ⟨h0, fun p' hp => ⟨(h1 p' hp).1, (h1 p' hp).2.1, (h1 p' hp).2.2.1, by have := (h1 p' hp).2.2.2; omega⟩, hge, ⟨hq, ownF_nil _ _, ownF_nil _ _, fun g hg => ?_, fun x hx => ?_, hB⟩, fun g hg => ?_, by omega, by simp, fun x hx => ?_, hb, hB⟩
  · simp [Value.ownBlock] at hg
  · cases hx
  · rcases hg with rfl | hg | hg | ⟨x, hx, _⟩
    · exact hqB
    · simp [Value.ownBlock] at hg
    · simp [Value.ownBlock] at hg
    · cases hx
  · cases hx
set_option maxHeartbeats 4000000 in
theorem windowExact_gg {w : World} (n0 s0 n1 s1 : Int) {a : Option Addr} {n cap : Nat} {ops : List StR} (hr : Rw stV 4 w a n cap ops) (hN : ∀ o ∈ ops, o.N ≤ 9223372036854775807) (hn : n ≤ 4398046511104)
    (a0 : 0 ≤ n0) (a1 : n0 ≤ 1048576) (a2 : 1 ≤ s0) (a3 : s0 ≤ 1048576) (b0 : 0 ≤ n1) (b1 : n1 ≤ 1048576) (b2 : 1 ≤ s1) (b3 : s1 ≤ 1048576) :
    Calls Try.prog 3 #[.agg #[.int .i64 n0, .int .i64 s0], .agg #[.int .i64 n1, .int .i64 s1], .slice a n cap] w fun e w' => e = .returned (.bool true) ∧ Below w.heap.size w w' := by
  have HR : Hid (Rw stV 4 w a n cap ops ∧ (∀ o ∈ ops, o.N ≤ 9223372036854775807) ∧ n ≤ 4398046511104) := ⟨hr, hN, hn⟩
  have hnc : (n : Int) ≤ 4398046511104 := by omega
  obtain ⟨B, hB⟩ : ∃ B, w.heap.size = B := ⟨_, rfl⟩
  have HA : Hid (∀ w : World, B ≤ w.heap.size → Calls Try.prog 4 #[.agg #[.int .i64 n0, .int .i64 s0]] w fun e w' => ∃ p : Pa, e = .returned (.tuple #[.pointer (some ⟨p.q, 0, none⟩), .pointer (some ⟨p.r, 0, none⟩), .bool true]) ∧ PaAt B w' p ∧ (∀ g, PaB p g → w.heap.size ≤ g ∧ g < w'.heap.size) ∧ msz p.S ≤ 1048576 ∧ Below w.heap.size w w') := fun w hw => openedP n0 s0 a0 a1 a2 a3 B w hw
  have HC : Hid (∀ w : World, B ≤ w.heap.size → Calls Try.prog 4 #[.agg #[.int .i64 n1, .int .i64 s1]] w fun e w' => ∃ p : Pa, e = .returned (.tuple #[.pointer (some ⟨p.q, 0, none⟩), .pointer (some ⟨p.r, 0, none⟩), .bool true]) ∧ PaAt B w' p ∧ (∀ g, PaB p g → w.heap.size ≤ g ∧ g < w'.heap.size) ∧ msz p.S ≤ 1048576 ∧ Below w.heap.size w w') := fun w hw => openedP n1 s1 b0 b1 b2 b3 B w hw
  have HX : Hid (∀ w : World, B ≤ w.heap.size → Calls Try.prog 4 #[.agg #[.int .i64 1, .int .i64 4]] w fun e w' => ∃ p : Pa, e = .returned (.tuple #[.pointer (some ⟨p.q, 0, none⟩), .pointer (some ⟨p.r, 0, none⟩), .bool true]) ∧ PaAt B w' p ∧ (∀ g, PaB p g → w.heap.size ≤ g ∧ g < w'.heap.size) ∧ msz p.S ≤ 1048576 ∧ Below w.heap.size w w') := fun w hw => openedP 1 4 (by decide) (by decide) (by decide) (by decide) B w hw
  clear hr hN hn a0 a1 a2 a3 b0 b1 b2 b3
  obtain ⟨V, hV⟩ : ∃ V, ((w.alloc (.cells #[.int .i64 n0, .int .i64 s0] 23)).alloc (.cells #[.int .i64 n1, .int .i64 s1] 23)).alloc (.cells #[.slice none 0 0, .slice none 0 0] 28) = V := ⟨_, rfl⟩
  obtain ⟨qh, hqh⟩ : ∃ qh, B + 1 + 1 = qh := ⟨_, rfl⟩
  have HV : Hid (Below B w V ∧ V.heap[B + 1]? = some (.cells #[.int .i64 n1, .int .i64 s1] 23) ∧ V.heap[qh]? = some (.cells #[.slice none 0 0, .slice none 0 0] 28) ∧ V.heap.size = B + 3 ∧ w.heap.size = B ∧ V.heap[B]? = some (.cells #[.int .i64 n0, .int .i64 s0] 23) ∧ qh = B + 2) := by
    subst hqh
    subst hB
    generalize hA1 : w.alloc (.cells #[.int .i64 n0, .int .i64 s0] 23) = A1 at hV
    have z1 : A1.heap.size = w.heap.size + 1 := by rw [← hA1]; simp
    have m1 : A1.heap[w.heap.size]? = some (.cells #[.int .i64 n0, .int .i64 s0] 23) := by rw [← hA1]; exact heap_alloc_new _ _
    generalize hA2 : A1.alloc (.cells #[.int .i64 n1, .int .i64 s1] 23) = A2 at hV
    have z2 : A2.heap.size = w.heap.size + 2 := by rw [← hA2]; simp [z1]
    have n2 : A2.heap[w.heap.size + 1]? = some (.cells #[.int .i64 n1, .int .i64 s1] 23) := by rw [← hA2, ← z1]; exact heap_alloc_new _ _
    have n3 : V.heap[w.heap.size + 1 + 1]? = some (.cells #[.slice none 0 0, .slice none 0 0] 28) := by
      rw [← hV]
      have := heap_alloc_new A2 (.cells #[.slice none 0 0, .slice none 0 0] 28)
      rwa [z2] at this
    have b1 : Below w.heap.size w A1 := by rw [← hA1]; exact (Below.refl _ _).alloc (Nat.le_refl _) _
    have b2 : Below A1.heap.size A1 A2 := by rw [← hA2]; exact (Below.refl _ _).alloc (Nat.le_refl _) _
    have b3 : Below A2.heap.size A2 V := by rw [← hV]; exact (Below.refl _ _).alloc (Nat.le_refl _) _
    exact ⟨(b1.trans (b2.mono (by omega))).trans (b3.mono (by omega)), (b3.block _ (by omega)).trans n2, n3, by rw [← hV]; simp [z2], rfl, (b3.block _ (by omega)).trans ((b2.block _ (by omega)).trans m1), rfl⟩
  obtain ⟨u0, u1⟩ := box2 HV.out.2.2.2.2.2.1
  have hVs : V.heap.size = B + 3 := HV.out.2.2.2.1
  go_enter Try.func3, Try.ntmps3
  go_wp2_with fail
  refine Calls.mono (HA.out V (by have := HV.out.2.2.2.1; omega)) ?_
  rintro e W1 ⟨pa, rfl, k1, k2, k3, k4⟩
  have H1 : Hid (PaAt B W1 pa ∧ (∀ g, PaB pa g → V.heap.size ≤ g ∧ g < W1.heap.size) ∧ msz pa.S ≤ 1048576 ∧ Below V.heap.size V W1) := ⟨k1, k2, k3, k4⟩
  clear k1 k2 k3
  obtain ⟨x0, x1⟩ := box2 ((k4.block _ (by omega)).trans HV.out.2.1)
  clear k4 u0 u1 hVs
  go_wp2_with fail
  refine Calls.mono (HC.out W1 (by have h1 := HV.out.2.2.2.1; have h2 := H1.out.2.2.2.size; omega)) ?_
  rintro e W2 ⟨pb, rfl, k1, k2, k3, k4⟩
  have H2 : Hid (PaAt B W2 pb ∧ (∀ g, PaB pb g → W1.heap.size ≤ g ∧ g < W2.heap.size) ∧ msz pb.S ≤ 1048576 ∧ Below W1.heap.size W1 W2) := ⟨k1, k2, k3, k4⟩
  clear k1 k2 k3 k4 x0 x1
  go_wp2_with fail
  refine Calls.mono (HX.out W2 (by have h1 := HV.out.2.2.2.1; have h2 := H1.out.2.2.2.size; have h3 := H2.out.2.2.2.size; omega)) ?_
  rintro e W3 ⟨px, rfl, k1, k2, k3, k4⟩
  have HJ : Hid (JS B w W3 pa (some pb) qh (.slice none 0 0) (.slice none 0 0) [] 0) := by
    obtain ⟨hv1, _, hv3, hv4, hv5, _, hv6⟩ := HV.out
    have c1 := H1.out.2.2.2
    have c2 := H2.out.2.2.2
    have d1 := c1.size
    have d2 := c2.size
    have d3 := k4.size
    have c3 : Below W1.heap.size W1 W3 := c2.trans (k4.mono d2)
    have c4 : Below V.heap.size V W3 := c1.trans (c3.mono d1)
    refine js_new ?_ ?_ ?_ ?_ ((c4.block _ (by omega)).trans hv3) (by omega) (hv1.trans (c4.mono (by omega))) (by omega)
    · exact H1.out.1.chg (D := fun _ => False) (Chg.of_below c3) (fun _ _ f => f)
    · rintro p' hp
      cases hp
      refine ⟨H2.out.1.chg (D := fun _ => False) (Chg.of_below k4) (fun _ _ f => f), fun g hg hg' => ?_, fun g hg => ?_, H2.out.2.2.1⟩
      · have e1 := H1.out.2.1 g hg
        have e2 := H2.out.2.1 g hg'
        omega
      · have e2 := H2.out.2.1 g hg
        omega
    · intro g hg
      have e1 := H1.out.2.1 g hg
      omega
    · exact H1.out.2.2.1
  clear k1 k2 k3 k4
  go_wp2_with fail
  go_loopw [17] (fun vi wr => ∃ i : Nat, i ≤ n ∧ i ≤ 100 ∧ vi = .int .i64 (i : Int) ∧ Hid (∃ v S v1 S1 va vb ps, JS B w wr ⟨pa.q, pa.b, pa.r, v, S⟩ (some ⟨pb.q, pb.b, pb.r, v1, S1⟩) qh va vb ps i)) (fun vi _ => 100 - (RowKit.intOf vi).toNat)
  case atStart => exact ⟨0, Nat.zero_le _, by omega, rfl, ⟨_, _, _, _, _, _, _, HJ.out⟩⟩
  case round =>
    obtain ⟨i, hi, hi2, rfl, hS⟩ := hrel
    by_cases hc : i < n ∧ i < 100
    · obtain ⟨hlt, hlt0⟩ := hc
      have hlt2 : (i : Int) < (n : Int) := by omega
      have hlt3 : (i : Int) < 100 := by omega
      have gi : IntKind.i64.wrap ((i : Int) + 1) = ((i + 1 : Nat) : Int) := by rw [IntWalk.i64_in _ (by omega)]; omega
      obtain ⟨v, S, v1, S1, va, vb, ps, hJ⟩ := hS.out
      have HJ2 : Hid (JS B w wr ⟨pa.q, pa.b, pa.r, v, S⟩ (some ⟨pb.q, pb.b, pb.r, v1, S1⟩) qh va vb ps i) := hJ
      have hb2 : Below w.heap.size w wr := by rw [hB]; exact hJ.below
      obtain ⟨g, off, ob, hoa, hgl, hoi, hcell⟩ := (HR.out.1.below hb2).at i hlt
      subst hoa
      have o0 := hcell 0 _ rfl
      have o1 := hcell 1 _ rfl
      have o2 := hcell 2 _ rfl
      have o3 := hcell 3 _ rfl
      rw [Nat.add_zero] at o0
      have hbN := HR.out.2.1 ob (List.mem_of_getElem? hoi)
      have HI : Hid (i ≤ 100 ∧ ob.N ≤ 9223372036854775807) := ⟨hi2, hbN⟩
      obtain ⟨ok, owh, oN, oV⟩ := ob
      simp only at o0 o1 o2 o3
      clear hcell hgl hoi hbN hJ hb2 hS
      cases hp : (owh.tmod 2 == 0) with
      | true =>
        go_wp2_with fail
        refine Calls.mono (HJ2.out.plays (by have := HI.out.1; omega) ok owh oN oV HI.out.2) ?_
        rintro e W5 ⟨rfl, v5, S5, va5, vb5, ps5, k5⟩
        have K5 : Hid (JS B w W5 ⟨pa.q, pa.b, pa.r, v5, S5⟩ (some ⟨pb.q, pb.b, pb.r, v1, S1⟩) qh va5 vb5 ps5 (i + 1)) := k5
        clear k5
        go_wp2_with fail
        refine Calls.mono (K5.out.hold (by omega)) ?_
        rintro e W6 ⟨rfl, k6, hk6⟩
        subst hk6
        have K6 : Hid (∃ v S v1 S1 va vb ps, JS B w (W5.drewN k6) ⟨pa.q, pa.b, pa.r, v, S⟩ (some ⟨pb.q, pb.b, pb.r, v1, S1⟩) qh va vb ps (i + 1)) := ⟨v5, S5, v1, S1, va5, vb5, ps5, K5.out.drewN k6⟩
        go_wp2_with fail
        go_roundw
        case rel => exact ⟨i + 1, by omega, by omega, by first | rfl | go_num, K6.out⟩
        case measure => simp [RowKit.intOf]; omega
      | false =>
        go_wp2_with fail
        refine Calls.mono (HJ2.out.swap.plays (by have := HI.out.1; omega) ok owh oN oV HI.out.2) ?_
        rintro e W5 ⟨rfl, v5, S5, va5, vb5, ps5, k5⟩
        have K5 : Hid (JS B w W5 ⟨pa.q, pa.b, pa.r, v, S⟩ (some ⟨pb.q, pb.b, pb.r, v5, S5⟩) qh va5 vb5 ps5 (i + 1)) := k5.swap
        clear k5
        go_wp2_with fail
        refine Calls.mono (K5.out.hold (by omega)) ?_
        rintro e W6 ⟨rfl, k6, hk6⟩
        subst hk6
        have K6 : Hid (∃ v S v1 S1 va vb ps, JS B w (W5.drewN k6) ⟨pa.q, pa.b, pa.r, v, S⟩ (some ⟨pb.q, pb.b, pb.r, v1, S1⟩) qh va vb ps (i + 1)) := ⟨v, S, v5, S5, va5, vb5, ps5, K5.out.drewN k6⟩
        go_wp2_with fail
        go_roundw
        case rel => exact ⟨i + 1, by omega, by omega, by first | rfl | go_num, K6.out⟩
        case measure => simp [RowKit.intOf]; omega
    · obtain ⟨v, S, v1, S1, va, vb, ps, hJ⟩ := hS.out
      have HJ2 : Hid (JS B w wr ⟨pa.q, pa.b, pa.r, v, S⟩ (some ⟨pb.q, pb.b, pb.r, v1, S1⟩) qh va vb ps i) := hJ
      have g1 : (¬ (i : Int) < (n : Int)) ∨ ((i : Int) < (n : Int) ∧ ¬ (i : Int) < 100) := by omega
      have HI : Hid (i ≤ 100) := hi2
      clear hS hJ hc hi2
      rcases g1 with g1 | ⟨g1, g2⟩
      · go_wp2_with fail
        refine Calls.mono (HJ2.out.swap.told (by have := HI.out; omega)) ?_
        rintro e W5 ⟨rfl, va5, vb5, ps5, k5⟩
        have K5 : Hid (JS B w W5 ⟨pa.q, pa.b, pa.r, v, S⟩ (some ⟨pb.q, pb.b, pb.r, v1, S1⟩) qh va5 vb5 ps5 (i + 1)) := k5.swap
        clear k5
        go_wp2_with fail
        refine Calls.mono (K5.out.told (by have := HI.out; omega)) ?_
        rintro e W6 ⟨rfl, va6, vb6, ps6, k6⟩
        have K6 : Hid (JS B w W6 ⟨pa.q, pa.b, pa.r, v, S⟩ (some ⟨pb.q, pb.b, pb.r, v1, S1⟩) qh va6 vb6 ps6 (i + 1 + 1)) := k6
        clear k6
        go_wp2_with fail
        refine Calls.mono (K6.out.hold (by have := HI.out; omega)) ?_
        rintro e W7 ⟨rfl, k7, hk7⟩
        subst hk7
        have HE : Hid (Below w.heap.size w (W6.drewN k7)) := by rw [HV.out.2.2.2.2.1]; exact (K6.out.drewN k7).below
        go_wp2_with fail
        go_ret
        exact ⟨rfl, HE.out⟩
      · go_wp2_with fail
        refine Calls.mono (HJ2.out.swap.told (by have := HI.out; omega)) ?_
        rintro e W5 ⟨rfl, va5, vb5, ps5, k5⟩
        have K5 : Hid (JS B w W5 ⟨pa.q, pa.b, pa.r, v, S⟩ (some ⟨pb.q, pb.b, pb.r, v1, S1⟩) qh va5 vb5 ps5 (i + 1)) := k5.swap
        clear k5
        go_wp2_with fail
        refine Calls.mono (K5.out.told (by have := HI.out; omega)) ?_
        rintro e W6 ⟨rfl, va6, vb6, ps6, k6⟩
        have K6 : Hid (JS B w W6 ⟨pa.q, pa.b, pa.r, v, S⟩ (some ⟨pb.q, pb.b, pb.r, v1, S1⟩) qh va6 vb6 ps6 (i + 1 + 1)) := k6
        clear k6
        go_wp2_with fail
        refine Calls.mono (K6.out.hold (by have := HI.out; omega)) ?_
        rintro e W7 ⟨rfl, k7, hk7⟩
        subst hk7
        have HE : Hid (Below w.heap.size w (W6.drewN k7)) := by rw [HV.out.2.2.2.2.1]; exact (K6.out.drewN k7).below
        go_wp2_with fail
        go_ret
        exact ⟨rfl, HE.out⟩
set_option maxHeartbeats 4000000 in
theorem windowExact_gb {w : World} (n0 s0 n1 s1 : Int) {a : Option Addr} {n cap : Nat} {ops : List StR} (hr : Rw stV 4 w a n cap ops) (hN : ∀ o ∈ ops, o.N ≤ 9223372036854775807) (hn : n ≤ 4398046511104)
    (a0 : 0 ≤ n0) (a1 : n0 ≤ 1048576) (a2 : 1 ≤ s0) (a3 : s0 ≤ 1048576) (bb : n1 < 0 ∨ 1048576 < n1 ∨ s1 < 1 ∨ 1048576 < s1) :
    Calls Try.prog 3 #[.agg #[.int .i64 n0, .int .i64 s0], .agg #[.int .i64 n1, .int .i64 s1], .slice a n cap] w fun e w' => e = .returned (.bool true) ∧ Below w.heap.size w w' := by
  have HR : Hid (Rw stV 4 w a n cap ops ∧ (∀ o ∈ ops, o.N ≤ 9223372036854775807) ∧ n ≤ 4398046511104) := ⟨hr, hN, hn⟩
  have hnc : (n : Int) ≤ 4398046511104 := by omega
  obtain ⟨B, hB⟩ : ∃ B, w.heap.size = B := ⟨_, rfl⟩
  have HA : Hid (∀ w : World, B ≤ w.heap.size → Calls Try.prog 4 #[.agg #[.int .i64 n0, .int .i64 s0]] w fun e w' => ∃ p : Pa, e = .returned (.tuple #[.pointer (some ⟨p.q, 0, none⟩), .pointer (some ⟨p.r, 0, none⟩), .bool true]) ∧ PaAt B w' p ∧ (∀ g, PaB p g → w.heap.size ≤ g ∧ g < w'.heap.size) ∧ msz p.S ≤ 1048576 ∧ Below w.heap.size w w') := fun w hw => openedP n0 s0 a0 a1 a2 a3 B w hw
  have HC : Hid (∀ w : World, B ≤ w.heap.size → Calls Try.prog 4 #[.agg #[.int .i64 n1, .int .i64 s1]] w fun e w' => e = .returned (.tuple #[.pointer none, .pointer none, .bool true]) ∧ Below w.heap.size w w') := fun w hw => opened_bad n1 s1 bb w
  have HX : Hid (∀ w : World, B ≤ w.heap.size → Calls Try.prog 4 #[.agg #[.int .i64 1, .int .i64 4]] w fun e w' => ∃ p : Pa, e = .returned (.tuple #[.pointer (some ⟨p.q, 0, none⟩), .pointer (some ⟨p.r, 0, none⟩), .bool true]) ∧ PaAt B w' p ∧ (∀ g, PaB p g → w.heap.size ≤ g ∧ g < w'.heap.size) ∧ msz p.S ≤ 1048576 ∧ Below w.heap.size w w') := fun w hw => openedP 1 4 (by decide) (by decide) (by decide) (by decide) B w hw
  clear hr hN hn a0 a1 a2 a3 bb
  obtain ⟨V, hV⟩ : ∃ V, ((w.alloc (.cells #[.int .i64 n0, .int .i64 s0] 23)).alloc (.cells #[.int .i64 n1, .int .i64 s1] 23)).alloc (.cells #[.slice none 0 0, .slice none 0 0] 28) = V := ⟨_, rfl⟩
  obtain ⟨qh, hqh⟩ : ∃ qh, B + 1 + 1 = qh := ⟨_, rfl⟩
  have HV : Hid (Below B w V ∧ V.heap[B + 1]? = some (.cells #[.int .i64 n1, .int .i64 s1] 23) ∧ V.heap[qh]? = some (.cells #[.slice none 0 0, .slice none 0 0] 28) ∧ V.heap.size = B + 3 ∧ w.heap.size = B ∧ V.heap[B]? = some (.cells #[.int .i64 n0, .int .i64 s0] 23) ∧ qh = B + 2) := by
    subst hqh
    subst hB
    generalize hA1 : w.alloc (.cells #[.int .i64 n0, .int .i64 s0] 23) = A1 at hV
    have z1 : A1.heap.size = w.heap.size + 1 := by rw [← hA1]; simp
    have m1 : A1.heap[w.heap.size]? = some (.cells #[.int .i64 n0, .int .i64 s0] 23) := by rw [← hA1]; exact heap_alloc_new _ _
    generalize hA2 : A1.alloc (.cells #[.int .i64 n1, .int .i64 s1] 23) = A2 at hV
    have z2 : A2.heap.size = w.heap.size + 2 := by rw [← hA2]; simp [z1]
    have n2 : A2.heap[w.heap.size + 1]? = some (.cells #[.int .i64 n1, .int .i64 s1] 23) := by rw [← hA2, ← z1]; exact heap_alloc_new _ _
    have n3 : V.heap[w.heap.size + 1 + 1]? = some (.cells #[.slice none 0 0, .slice none 0 0] 28) := by
      rw [← hV]
      have := heap_alloc_new A2 (.cells #[.slice none 0 0, .slice none 0 0] 28)
      rwa [z2] at this
    have b1 : Below w.heap.size w A1 := by rw [← hA1]; exact (Below.refl _ _).alloc (Nat.le_refl _) _
    have b2 : Below A1.heap.size A1 A2 := by rw [← hA2]; exact (Below.refl _ _).alloc (Nat.le_refl _) _
    have b3 : Below A2.heap.size A2 V := by rw [← hV]; exact (Below.refl _ _).alloc (Nat.le_refl _) _
    exact ⟨(b1.trans (b2.mono (by omega))).trans (b3.mono (by omega)), (b3.block _ (by omega)).trans n2, n3, by rw [← hV]; simp [z2], rfl, (b3.block _ (by omega)).trans ((b2.block _ (by omega)).trans m1), rfl⟩
  obtain ⟨u0, u1⟩ := box2 HV.out.2.2.2.2.2.1
  have hVs : V.heap.size = B + 3 := HV.out.2.2.2.1
  go_enter Try.func3, Try.ntmps3
  go_wp2_with fail
  refine Calls.mono (HA.out V (by have := HV.out.2.2.2.1; omega)) ?_
  rintro e W1 ⟨pa, rfl, k1, k2, k3, k4⟩
  have H1 : Hid (PaAt B W1 pa ∧ (∀ g, PaB pa g → V.heap.size ≤ g ∧ g < W1.heap.size) ∧ msz pa.S ≤ 1048576 ∧ Below V.heap.size V W1) := ⟨k1, k2, k3, k4⟩
  clear k1 k2 k3
  obtain ⟨x0, x1⟩ := box2 ((k4.block _ (by omega)).trans HV.out.2.1)
  clear k4 u0 u1 hVs
  go_wp2_with fail
  refine Calls.mono (HC.out W1 (by have h1 := HV.out.2.2.2.1; have h2 := H1.out.2.2.2.size; omega)) ?_
  rintro e W2 ⟨rfl, k4⟩
  have H2 : Hid (Below W1.heap.size W1 W2) := k4
  clear k4 x0 x1
  go_wp2_with fail
  refine Calls.mono (HX.out W2 (by have h1 := HV.out.2.2.2.1; have h2 := H1.out.2.2.2.size; have h3 := H2.out.size; omega)) ?_
  rintro e W3 ⟨px, rfl, k1, k2, k3, k4⟩
  have HJ : Hid (JS B w W3 pa none qh (.slice none 0 0) (.slice none 0 0) [] 0) := by
    obtain ⟨hv1, _, hv3, hv4, hv5, _, hv6⟩ := HV.out
    have c1 := H1.out.2.2.2
    have c2 := H2.out
    have d1 := c1.size
    have d2 := c2.size
    have d3 := k4.size
    have c3 : Below W1.heap.size W1 W3 := c2.trans (k4.mono d2)
    have c4 : Below V.heap.size V W3 := c1.trans (c3.mono d1)
    refine js_new ?_ ?_ ?_ ?_ ((c4.block _ (by omega)).trans hv3) (by omega) (hv1.trans (c4.mono (by omega))) (by omega)
    · exact H1.out.1.chg (D := fun _ => False) (Chg.of_below c3) (fun _ _ f => f)
    · intro p' hp
      cases hp
    · intro g hg
      have e1 := H1.out.2.1 g hg
      omega
    · exact H1.out.2.2.1
  clear k1 k2 k3 k4
  go_wp2_with fail
  go_loopw [17] (fun vi wr => ∃ i : Nat, i ≤ n ∧ i ≤ 100 ∧ vi = .int .i64 (i : Int) ∧ Hid (∃ v S va vb ps, JS B w wr ⟨pa.q, pa.b, pa.r, v, S⟩ none qh va vb ps i)) (fun vi _ => 100 - (RowKit.intOf vi).toNat)
  case atStart => exact ⟨0, Nat.zero_le _, by omega, rfl, ⟨_, _, _, _, _, HJ.out⟩⟩
  case round =>
    obtain ⟨i, hi, hi2, rfl, hS⟩ := hrel
    by_cases hc : i < n ∧ i < 100
    · obtain ⟨hlt, hlt0⟩ := hc
      have hlt2 : (i : Int) < (n : Int) := by omega
      have hlt3 : (i : Int) < 100 := by omega
      have gi : IntKind.i64.wrap ((i : Int) + 1) = ((i + 1 : Nat) : Int) := by rw [IntWalk.i64_in _ (by omega)]; omega
      obtain ⟨v, S, va, vb, ps, hJ⟩ := hS.out
      have HJ2 : Hid (JS B w wr ⟨pa.q, pa.b, pa.r, v, S⟩ none qh va vb ps i) := hJ
      have hb2 : Below w.heap.size w wr := by rw [hB]; exact hJ.below
      obtain ⟨g, off, ob, hoa, hgl, hoi, hcell⟩ := (HR.out.1.below hb2).at i hlt
      subst hoa
      have o0 := hcell 0 _ rfl
      have o1 := hcell 1 _ rfl
      have o2 := hcell 2 _ rfl
      have o3 := hcell 3 _ rfl
      rw [Nat.add_zero] at o0
      have hbN := HR.out.2.1 ob (List.mem_of_getElem? hoi)
      have HI : Hid (i ≤ 100 ∧ ob.N ≤ 9223372036854775807) := ⟨hi2, hbN⟩
      obtain ⟨ok, owh, oN, oV⟩ := ob
      simp only at o0 o1 o2 o3
      clear hcell hgl hoi hbN hJ hb2 hS
      cases hp : (owh.tmod 2 == 0) with
      | true =>
        go_wp2_with fail
        refine Calls.mono (HJ2.out.plays (by have := HI.out.1; omega) ok owh oN oV HI.out.2) ?_
        rintro e W5 ⟨rfl, v5, S5, va5, vb5, ps5, k5⟩
        have K5 : Hid (JS B w W5 ⟨pa.q, pa.b, pa.r, v5, S5⟩ none qh va5 vb5 ps5 (i + 1)) := k5
        clear k5
        go_wp2_with fail
        refine Calls.mono (K5.out.hold (by omega)) ?_
        rintro e W6 ⟨rfl, k6, hk6⟩
        subst hk6
        have K6 : Hid (∃ v S va vb ps, JS B w (W5.drewN k6) ⟨pa.q, pa.b, pa.r, v, S⟩ none qh va vb ps (i + 1)) := ⟨v5, S5, va5, vb5, ps5, K5.out.drewN k6⟩
        go_wp2_with fail
        go_roundw
        case rel => exact ⟨i + 1, by omega, by omega, by first | rfl | go_num, K6.out⟩
        case measure => simp [RowKit.intOf]; omega
      | false =>
        obtain ⟨W5, hW5⟩ : ∃ W5, W5 = wr := ⟨_, rfl⟩
        have K5 : Hid (JS B w W5 ⟨pa.q, pa.b, pa.r, v, S⟩ none qh va vb ps (i + 1)) := by rw [hW5]; exact HJ2.out.mono (by omega)
        rw [← hW5] at o0 o1 o2 o3 HJ2
        rw [← hW5]
        clear hW5
        go_wp2_with fail
        refine Calls.mono (K5.out.hold (by omega)) ?_
        rintro e W6 ⟨rfl, k6, hk6⟩
        subst hk6
        have K6 : Hid (∃ v S va vb ps, JS B w (W5.drewN k6) ⟨pa.q, pa.b, pa.r, v, S⟩ none qh va vb ps (i + 1)) := ⟨v, S, va, vb, ps, K5.out.drewN k6⟩
        go_wp2_with fail
        go_roundw
        case rel => exact ⟨i + 1, by omega, by omega, by first | rfl | go_num, K6.out⟩
        case measure => simp [RowKit.intOf]; omega
    · obtain ⟨v, S, va, vb, ps, hJ⟩ := hS.out
      have HJ2 : Hid (JS B w wr ⟨pa.q, pa.b, pa.r, v, S⟩ none qh va vb ps i) := hJ
      have g1 : (¬ (i : Int) < (n : Int)) ∨ ((i : Int) < (n : Int) ∧ ¬ (i : Int) < 100) := by omega
      have HI : Hid (i ≤ 100) := hi2
      clear hS hJ hc hi2
      rcases g1 with g1 | ⟨g1, g2⟩
      · go_wp2_with fail
        refine Calls.mono (HJ2.out.told (by have := HI.out; omega)) ?_
        rintro e W6 ⟨rfl, va6, vb6, ps6, k6⟩
        have K6 : Hid (JS B w W6 ⟨pa.q, pa.b, pa.r, v, S⟩ none qh va6 vb6 ps6 (i + 1)) := k6
        clear k6
        go_wp2_with fail
        refine Calls.mono (K6.out.hold (by have := HI.out; omega)) ?_
        rintro e W7 ⟨rfl, k7, hk7⟩
        subst hk7
        have HE : Hid (Below w.heap.size w (W6.drewN k7)) := by rw [HV.out.2.2.2.2.1]; exact (K6.out.drewN k7).below
        go_wp2_with fail
        go_ret
        exact ⟨rfl, HE.out⟩
      · go_wp2_with fail
        refine Calls.mono (HJ2.out.told (by have := HI.out; omega)) ?_
        rintro e W6 ⟨rfl, va6, vb6, ps6, k6⟩
        have K6 : Hid (JS B w W6 ⟨pa.q, pa.b, pa.r, v, S⟩ none qh va6 vb6 ps6 (i + 1)) := k6
        clear k6
        go_wp2_with fail
        refine Calls.mono (K6.out.hold (by have := HI.out; omega)) ?_
        rintro e W7 ⟨rfl, k7, hk7⟩
        subst hk7
        have HE : Hid (Below w.heap.size w (W6.drewN k7)) := by rw [HV.out.2.2.2.2.1]; exact (K6.out.drewN k7).below
        go_wp2_with fail
        go_ret
        exact ⟨rfl, HE.out⟩
set_option maxHeartbeats 4000000 in
theorem windowExact_bg {w : World} (n0 s0 n1 s1 : Int) {a : Option Addr} {n cap : Nat} {ops : List StR} (hr : Rw stV 4 w a n cap ops) (hN : ∀ o ∈ ops, o.N ≤ 9223372036854775807) (hn : n ≤ 4398046511104)
    (ab : n0 < 0 ∨ 1048576 < n0 ∨ s0 < 1 ∨ 1048576 < s0) (b0 : 0 ≤ n1) (b1 : n1 ≤ 1048576) (b2 : 1 ≤ s1) (b3 : s1 ≤ 1048576) :
    Calls Try.prog 3 #[.agg #[.int .i64 n0, .int .i64 s0], .agg #[.int .i64 n1, .int .i64 s1], .slice a n cap] w fun e w' => e = .returned (.bool true) ∧ Below w.heap.size w w' := by
  have HR : Hid (Rw stV 4 w a n cap ops ∧ (∀ o ∈ ops, o.N ≤ 9223372036854775807) ∧ n ≤ 4398046511104) := ⟨hr, hN, hn⟩
  have hnc : (n : Int) ≤ 4398046511104 := by omega
  obtain ⟨B, hB⟩ : ∃ B, w.heap.size = B := ⟨_, rfl⟩
  have HA : Hid (∀ w : World, B ≤ w.heap.size → Calls Try.prog 4 #[.agg #[.int .i64 n0, .int .i64 s0]] w fun e w' => e = .returned (.tuple #[.pointer none, .pointer none, .bool true]) ∧ Below w.heap.size w w') := fun w hw => opened_bad n0 s0 ab w
  have HC : Hid (∀ w : World, B ≤ w.heap.size → Calls Try.prog 4 #[.agg #[.int .i64 n1, .int .i64 s1]] w fun e w' => ∃ p : Pa, e = .returned (.tuple #[.pointer (some ⟨p.q, 0, none⟩), .pointer (some ⟨p.r, 0, none⟩), .bool true]) ∧ PaAt B w' p ∧ (∀ g, PaB p g → w.heap.size ≤ g ∧ g < w'.heap.size) ∧ msz p.S ≤ 1048576 ∧ Below w.heap.size w w') := fun w hw => openedP n1 s1 b0 b1 b2 b3 B w hw
  have HX : Hid (∀ w : World, B ≤ w.heap.size → Calls Try.prog 4 #[.agg #[.int .i64 1, .int .i64 4]] w fun e w' => ∃ p : Pa, e = .returned (.tuple #[.pointer (some ⟨p.q, 0, none⟩), .pointer (some ⟨p.r, 0, none⟩), .bool true]) ∧ PaAt B w' p ∧ (∀ g, PaB p g → w.heap.size ≤ g ∧ g < w'.heap.size) ∧ msz p.S ≤ 1048576 ∧ Below w.heap.size w w') := fun w hw => openedP 1 4 (by decide) (by decide) (by decide) (by decide) B w hw
  clear hr hN hn ab b0 b1 b2 b3
  obtain ⟨V, hV⟩ : ∃ V, ((w.alloc (.cells #[.int .i64 n0, .int .i64 s0] 23)).alloc (.cells #[.int .i64 n1, .int .i64 s1] 23)).alloc (.cells #[.slice none 0 0, .slice none 0 0] 28) = V := ⟨_, rfl⟩
  obtain ⟨qh, hqh⟩ : ∃ qh, B + 1 + 1 = qh := ⟨_, rfl⟩
  have HV : Hid (Below B w V ∧ V.heap[B + 1]? = some (.cells #[.int .i64 n1, .int .i64 s1] 23) ∧ V.heap[qh]? = some (.cells #[.slice none 0 0, .slice none 0 0] 28) ∧ V.heap.size = B + 3 ∧ w.heap.size = B ∧ V.heap[B]? = some (.cells #[.int .i64 n0, .int .i64 s0] 23) ∧ qh = B + 2) := by
    subst hqh
    subst hB
    generalize hA1 : w.alloc (.cells #[.int .i64 n0, .int .i64 s0] 23) = A1 at hV
    have z1 : A1.heap.size = w.heap.size + 1 := by rw [← hA1]; simp
    have m1 : A1.heap[w.heap.size]? = some (.cells #[.int .i64 n0, .int .i64 s0] 23) := by rw [← hA1]; exact heap_alloc_new _ _
    generalize hA2 : A1.alloc (.cells #[.int .i64 n1, .int .i64 s1] 23) = A2 at hV
    have z2 : A2.heap.size = w.heap.size + 2 := by rw [← hA2]; simp [z1]
    have n2 : A2.heap[w.heap.size + 1]? = some (.cells #[.int .i64 n1, .int .i64 s1] 23) := by rw [← hA2, ← z1]; exact heap_alloc_new _ _
    have n3 : V.heap[w.heap.size + 1 + 1]? = some (.cells #[.slice none 0 0, .slice none 0 0] 28) := by
      rw [← hV]
      have := heap_alloc_new A2 (.cells #[.slice none 0 0, .slice none 0 0] 28)
      rwa [z2] at this
    have b1 : Below w.heap.size w A1 := by rw [← hA1]; exact (Below.refl _ _).alloc (Nat.le_refl _) _
    have b2 : Below A1.heap.size A1 A2 := by rw [← hA2]; exact (Below.refl _ _).alloc (Nat.le_refl _) _
    have b3 : Below A2.heap.size A2 V := by rw [← hV]; exact (Below.refl _ _).alloc (Nat.le_refl _) _
    exact ⟨(b1.trans (b2.mono (by omega))).trans (b3.mono (by omega)), (b3.block _ (by omega)).trans n2, n3, by rw [← hV]; simp [z2], rfl, (b3.block _ (by omega)).trans ((b2.block _ (by omega)).trans m1), rfl⟩
  obtain ⟨u0, u1⟩ := box2 HV.out.2.2.2.2.2.1
  have hVs : V.heap.size = B + 3 := HV.out.2.2.2.1
  go_enter Try.func3, Try.ntmps3
  go_wp2_with fail
  refine Calls.mono (HA.out V (by have := HV.out.2.2.2.1; omega)) ?_
  rintro e W1 ⟨rfl, k4⟩
  have H1 : Hid (Below V.heap.size V W1) := k4
  obtain ⟨x0, x1⟩ := box2 ((k4.block _ (by omega)).trans HV.out.2.1)
  clear k4 u0 u1 hVs
  go_wp2_with fail
  refine Calls.mono (HC.out W1 (by have h1 := HV.out.2.2.2.1; have h2 := H1.out.size; omega)) ?_
  rintro e W2 ⟨pb, rfl, k1, k2, k3, k4⟩
  have H2 : Hid (PaAt B W2 pb ∧ (∀ g, PaB pb g → W1.heap.size ≤ g ∧ g < W2.heap.size) ∧ msz pb.S ≤ 1048576 ∧ Below W1.heap.size W1 W2) := ⟨k1, k2, k3, k4⟩
  clear k1 k2 k3 k4 x0 x1
  go_wp2_with fail
  refine Calls.mono (HX.out W2 (by have h1 := HV.out.2.2.2.1; have h2 := H1.out.size; have h3 := H2.out.2.2.2.size; omega)) ?_
  rintro e W3 ⟨px, rfl, k1, k2, k3, k4⟩
  have HJ : Hid (JS B w W3 px (some pb) qh (.slice none 0 0) (.slice none 0 0) [] 0) := by
    obtain ⟨hv1, _, hv3, hv4, hv5, _, hv6⟩ := HV.out
    have c1 := H1.out
    have c2 := H2.out.2.2.2
    have d1 := c1.size
    have d2 := c2.size
    have d3 := k4.size
    have c3 : Below W1.heap.size W1 W3 := c2.trans (k4.mono d2)
    have c4 : Below V.heap.size V W3 := c1.trans (c3.mono d1)
    refine js_new ?_ ?_ ?_ ?_ ((c4.block _ (by omega)).trans hv3) (by omega) (hv1.trans (c4.mono (by omega))) (by omega)
    · exact k1
    · rintro p' hp
      cases hp
      refine ⟨H2.out.1.chg (D := fun _ => False) (Chg.of_below k4) (fun _ _ f => f), fun g hg hg' => ?_, fun g hg => ?_, H2.out.2.2.1⟩
      · have e1 := k2 g hg
        have e2 := H2.out.2.1 g hg'
        omega
      · have e2 := H2.out.2.1 g hg
        omega
    · intro g hg
      have e1 := k2 g hg
      omega
    · exact k3
  clear k1 k2 k3 k4
  go_wp2_with fail
  go_loopw [17] (fun vi wr => ∃ i : Nat, i ≤ n ∧ i ≤ 100 ∧ vi = .int .i64 (i : Int) ∧ Hid (∃ v S v1 S1 va vb ps, JS B w wr ⟨px.q, px.b, px.r, v, S⟩ (some ⟨pb.q, pb.b, pb.r, v1, S1⟩) qh va vb ps i)) (fun vi _ => 100 - (RowKit.intOf vi).toNat)
  case atStart => exact ⟨0, Nat.zero_le _, by omega, rfl, ⟨_, _, _, _, _, _, _, HJ.out⟩⟩
  case round =>
    obtain ⟨i, hi, hi2, rfl, hS⟩ := hrel
    by_cases hc : i < n ∧ i < 100
    · obtain ⟨hlt, hlt0⟩ := hc
      have hlt2 : (i : Int) < (n : Int) := by omega
      have hlt3 : (i : Int) < 100 := by omega
      have gi : IntKind.i64.wrap ((i : Int) + 1) = ((i + 1 : Nat) : Int) := by rw [IntWalk.i64_in _ (by omega)]; omega
      obtain ⟨v, S, v1, S1, va, vb, ps, hJ⟩ := hS.out
      have HJ2 : Hid (JS B w wr ⟨px.q, px.b, px.r, v, S⟩ (some ⟨pb.q, pb.b, pb.r, v1, S1⟩) qh va vb ps i) := hJ
      have hb2 : Below w.heap.size w wr := by rw [hB]; exact hJ.below
      obtain ⟨g, off, ob, hoa, hgl, hoi, hcell⟩ := (HR.out.1.below hb2).at i hlt
      subst hoa
      have o0 := hcell 0 _ rfl
      have o1 := hcell 1 _ rfl
      have o2 := hcell 2 _ rfl
      have o3 := hcell 3 _ rfl
      rw [Nat.add_zero] at o0
      have hbN := HR.out.2.1 ob (List.mem_of_getElem? hoi)
      have HI : Hid (i ≤ 100 ∧ ob.N ≤ 9223372036854775807) := ⟨hi2, hbN⟩
      obtain ⟨ok, owh, oN, oV⟩ := ob
      simp only at o0 o1 o2 o3
      clear hcell hgl hoi hbN hJ hb2 hS
      cases hp : (owh.tmod 2 == 0) with
      | true =>
        go_wp2_with fail
        refine Calls.mono (HJ2.out.plays (by have := HI.out.1; omega) ok owh oN oV HI.out.2) ?_
        rintro e W5 ⟨rfl, v5, S5, va5, vb5, ps5, k5⟩
        have K5 : Hid (JS B w W5 ⟨px.q, px.b, px.r, v5, S5⟩ (some ⟨pb.q, pb.b, pb.r, v1, S1⟩) qh va5 vb5 ps5 (i + 1)) := k5
        clear k5
        go_wp2_with fail
        refine Calls.mono (K5.out.hold (by omega)) ?_
        rintro e W6 ⟨rfl, k6, hk6⟩
        subst hk6
        have K6 : Hid (∃ v S v1 S1 va vb ps, JS B w (W5.drewN k6) ⟨px.q, px.b, px.r, v, S⟩ (some ⟨pb.q, pb.b, pb.r, v1, S1⟩) qh va vb ps (i + 1)) := ⟨v5, S5, v1, S1, va5, vb5, ps5, K5.out.drewN k6⟩
        go_wp2_with fail
        go_roundw
        case rel => exact ⟨i + 1, by omega, by omega, by first | rfl | go_num, K6.out⟩
        case measure => simp [RowKit.intOf]; omega
      | false =>
        go_wp2_with fail
        refine Calls.mono (HJ2.out.swap.plays (by have := HI.out.1; omega) ok owh oN oV HI.out.2) ?_
        rintro e W5 ⟨rfl, v5, S5, va5, vb5, ps5, k5⟩
        have K5 : Hid (JS B w W5 ⟨px.q, px.b, px.r, v, S⟩ (some ⟨pb.q, pb.b, pb.r, v5, S5⟩) qh va5 vb5 ps5 (i + 1)) := k5.swap
        clear k5
        go_wp2_with fail
        refine Calls.mono (K5.out.hold (by omega)) ?_
        rintro e W6 ⟨rfl, k6, hk6⟩
        subst hk6
        have K6 : Hid (∃ v S v1 S1 va vb ps, JS B w (W5.drewN k6) ⟨px.q, px.b, px.r, v, S⟩ (some ⟨pb.q, pb.b, pb.r, v1, S1⟩) qh va vb ps (i + 1)) := ⟨v, S, v5, S5, va5, vb5, ps5, K5.out.drewN k6⟩
        go_wp2_with fail
        go_roundw
        case rel => exact ⟨i + 1, by omega, by omega, by first | rfl | go_num, K6.out⟩
        case measure => simp [RowKit.intOf]; omega
    · obtain ⟨v, S, v1, S1, va, vb, ps, hJ⟩ := hS.out
      have HJ2 : Hid (JS B w wr ⟨px.q, px.b, px.r, v, S⟩ (some ⟨pb.q, pb.b, pb.r, v1, S1⟩) qh va vb ps i) := hJ
      have g1 : (¬ (i : Int) < (n : Int)) ∨ ((i : Int) < (n : Int) ∧ ¬ (i : Int) < 100) := by omega
      have HI : Hid (i ≤ 100) := hi2
      clear hS hJ hc hi2
      rcases g1 with g1 | ⟨g1, g2⟩
      · go_wp2_with fail
        refine Calls.mono (HJ2.out.swap.told (by have := HI.out; omega)) ?_
        rintro e W5 ⟨rfl, va5, vb5, ps5, k5⟩
        have K5 : Hid (JS B w W5 ⟨px.q, px.b, px.r, v, S⟩ (some ⟨pb.q, pb.b, pb.r, v1, S1⟩) qh va5 vb5 ps5 (i + 1)) := k5.swap
        clear k5
        go_wp2_with fail
        refine Calls.mono (K5.out.told (by have := HI.out; omega)) ?_
        rintro e W6 ⟨rfl, va6, vb6, ps6, k6⟩
        have K6 : Hid (JS B w W6 ⟨px.q, px.b, px.r, v, S⟩ (some ⟨pb.q, pb.b, pb.r, v1, S1⟩) qh va6 vb6 ps6 (i + 1 + 1)) := k6
        clear k6
        go_wp2_with fail
        refine Calls.mono (K6.out.hold (by have := HI.out; omega)) ?_
        rintro e W7 ⟨rfl, k7, hk7⟩
        subst hk7
        have HE : Hid (Below w.heap.size w (W6.drewN k7)) := by rw [HV.out.2.2.2.2.1]; exact (K6.out.drewN k7).below
        go_wp2_with fail
        go_ret
        exact ⟨rfl, HE.out⟩
      · go_wp2_with fail
        refine Calls.mono (HJ2.out.swap.told (by have := HI.out; omega)) ?_
        rintro e W5 ⟨rfl, va5, vb5, ps5, k5⟩
        have K5 : Hid (JS B w W5 ⟨px.q, px.b, px.r, v, S⟩ (some ⟨pb.q, pb.b, pb.r, v1, S1⟩) qh va5 vb5 ps5 (i + 1)) := k5.swap
        clear k5
        go_wp2_with fail
        refine Calls.mono (K5.out.told (by have := HI.out; omega)) ?_
        rintro e W6 ⟨rfl, va6, vb6, ps6, k6⟩
        have K6 : Hid (JS B w W6 ⟨px.q, px.b, px.r, v, S⟩ (some ⟨pb.q, pb.b, pb.r, v1, S1⟩) qh va6 vb6 ps6 (i + 1 + 1)) := k6
        clear k6
        go_wp2_with fail
        refine Calls.mono (K6.out.hold (by have := HI.out; omega)) ?_
        rintro e W7 ⟨rfl, k7, hk7⟩
        subst hk7
        have HE : Hid (Below w.heap.size w (W6.drewN k7)) := by rw [HV.out.2.2.2.2.1]; exact (K6.out.drewN k7).below
        go_wp2_with fail
        go_ret
        exact ⟨rfl, HE.out⟩
set_option maxHeartbeats 4000000 in
theorem windowExact_bb {w : World} (n0 s0 n1 s1 : Int) {a : Option Addr} {n cap : Nat} {ops : List StR} (hr : Rw stV 4 w a n cap ops) (hN : ∀ o ∈ ops, o.N ≤ 9223372036854775807) (hn : n ≤ 4398046511104)
    (ab : n0 < 0 ∨ 1048576 < n0 ∨ s0 < 1 ∨ 1048576 < s0) (bb : n1 < 0 ∨ 1048576 < n1 ∨ s1 < 1 ∨ 1048576 < s1) :
    Calls Try.prog 3 #[.agg #[.int .i64 n0, .int .i64 s0], .agg #[.int .i64 n1, .int .i64 s1], .slice a n cap] w fun e w' => e = .returned (.bool true) ∧ Below w.heap.size w w' := by
  have HR : Hid (Rw stV 4 w a n cap ops ∧ (∀ o ∈ ops, o.N ≤ 9223372036854775807) ∧ n ≤ 4398046511104) := ⟨hr, hN, hn⟩
  have hnc : (n : Int) ≤ 4398046511104 := by omega
  obtain ⟨B, hB⟩ : ∃ B, w.heap.size = B := ⟨_, rfl⟩
  have HA : Hid (∀ w : World, B ≤ w.heap.size → Calls Try.prog 4 #[.agg #[.int .i64 n0, .int .i64 s0]] w fun e w' => e = .returned (.tuple #[.pointer none, .pointer none, .bool true]) ∧ Below w.heap.size w w') := fun w hw => opened_bad n0 s0 ab w
  have HC : Hid (∀ w : World, B ≤ w.heap.size → Calls Try.prog 4 #[.agg #[.int .i64 n1, .int .i64 s1]] w fun e w' => e = .returned (.tuple #[.pointer none, .pointer none, .bool true]) ∧ Below w.heap.size w w') := fun w hw => opened_bad n1 s1 bb w
  have HX : Hid (∀ w : World, B ≤ w.heap.size → Calls Try.prog 4 #[.agg #[.int .i64 1, .int .i64 4]] w fun e w' => ∃ p : Pa, e = .returned (.tuple #[.pointer (some ⟨p.q, 0, none⟩), .pointer (some ⟨p.r, 0, none⟩), .bool true]) ∧ PaAt B w' p ∧ (∀ g, PaB p g → w.heap.size ≤ g ∧ g < w'.heap.size) ∧ msz p.S ≤ 1048576 ∧ Below w.heap.size w w') := fun w hw => openedP 1 4 (by decide) (by decide) (by decide) (by decide) B w hw
  clear hr hN hn ab bb
  obtain ⟨V, hV⟩ : ∃ V, ((w.alloc (.cells #[.int .i64 n0, .int .i64 s0] 23)).alloc (.cells #[.int .i64 n1, .int .i64 s1] 23)).alloc (.cells #[.slice none 0 0, .slice none 0 0] 28) = V := ⟨_, rfl⟩
  obtain ⟨qh, hqh⟩ : ∃ qh, B + 1 + 1 = qh := ⟨_, rfl⟩
  have HV : Hid (Below B w V ∧ V.heap[B + 1]? = some (.cells #[.int .i64 n1, .int .i64 s1] 23) ∧ V.heap[qh]? = some (.cells #[.slice none 0 0, .slice none 0 0] 28) ∧ V.heap.size = B + 3 ∧ w.heap.size = B ∧ V.heap[B]? = some (.cells #[.int .i64 n0, .int .i64 s0] 23) ∧ qh = B + 2) := by
    subst hqh
    subst hB
    generalize hA1 : w.alloc (.cells #[.int .i64 n0, .int .i64 s0] 23) = A1 at hV
    have z1 : A1.heap.size = w.heap.size + 1 := by rw [← hA1]; simp
    have m1 : A1.heap[w.heap.size]? = some (.cells #[.int .i64 n0, .int .i64 s0] 23) := by rw [← hA1]; exact heap_alloc_new _ _
    generalize hA2 : A1.alloc (.cells #[.int .i64 n1, .int .i64 s1] 23) = A2 at hV
    have z2 : A2.heap.size = w.heap.size + 2 := by rw [← hA2]; simp [z1]
    have n2 : A2.heap[w.heap.size + 1]? = some (.cells #[.int .i64 n1, .int .i64 s1] 23) := by rw [← hA2, ← z1]; exact heap_alloc_new _ _
    have n3 : V.heap[w.heap.size + 1 + 1]? = some (.cells #[.slice none 0 0, .slice none 0 0] 28) := by
      rw [← hV]
      have := heap_alloc_new A2 (.cells #[.slice none 0 0, .slice none 0 0] 28)
      rwa [z2] at this
    have b1 : Below w.heap.size w A1 := by rw [← hA1]; exact (Below.refl _ _).alloc (Nat.le_refl _) _
    have b2 : Below A1.heap.size A1 A2 := by rw [← hA2]; exact (Below.refl _ _).alloc (Nat.le_refl _) _
    have b3 : Below A2.heap.size A2 V := by rw [← hV]; exact (Below.refl _ _).alloc (Nat.le_refl _) _
    exact ⟨(b1.trans (b2.mono (by omega))).trans (b3.mono (by omega)), (b3.block _ (by omega)).trans n2, n3, by rw [← hV]; simp [z2], rfl, (b3.block _ (by omega)).trans ((b2.block _ (by omega)).trans m1), rfl⟩
  obtain ⟨u0, u1⟩ := box2 HV.out.2.2.2.2.2.1
  have hVs : V.heap.size = B + 3 := HV.out.2.2.2.1
  go_enter Try.func3, Try.ntmps3
  go_wp2_with fail
  refine Calls.mono (HA.out V (by have := HV.out.2.2.2.1; omega)) ?_
  rintro e W1 ⟨rfl, k4⟩
  have H1 : Hid (Below V.heap.size V W1) := k4
  obtain ⟨x0, x1⟩ := box2 ((k4.block _ (by omega)).trans HV.out.2.1)
  clear k4 u0 u1 hVs
  go_wp2_with fail
  refine Calls.mono (HC.out W1 (by have h1 := HV.out.2.2.2.1; have h2 := H1.out.size; omega)) ?_
  rintro e W2 ⟨rfl, k4⟩
  have H2 : Hid (Below W1.heap.size W1 W2) := k4
  clear k4 x0 x1
  go_wp2_with fail
  refine Calls.mono (HX.out W2 (by have h1 := HV.out.2.2.2.1; have h2 := H1.out.size; have h3 := H2.out.size; omega)) ?_
  rintro e W3 ⟨px, rfl, k1, k2, k3, k4⟩
  have HJ : Hid (JS B w W3 px none qh (.slice none 0 0) (.slice none 0 0) [] 0) := by
    obtain ⟨hv1, _, hv3, hv4, hv5, _, hv6⟩ := HV.out
    have c1 := H1.out
    have c2 := H2.out
    have d1 := c1.size
    have d2 := c2.size
    have d3 := k4.size
    have c3 : Below W1.heap.size W1 W3 := c2.trans (k4.mono d2)
    have c4 : Below V.heap.size V W3 := c1.trans (c3.mono d1)
    refine js_new ?_ ?_ ?_ ?_ ((c4.block _ (by omega)).trans hv3) (by omega) (hv1.trans (c4.mono (by omega))) (by omega)
    · exact k1
    · intro p' hp
      cases hp
    · intro g hg
      have e1 := k2 g hg
      omega
    · exact k3
  clear k1 k2 k3 k4
  go_wp2_with fail
  go_loopw [17] (fun vi wr => ∃ i : Nat, i ≤ n ∧ i ≤ 100 ∧ vi = .int .i64 (i : Int) ∧ Hid (∃ v S va vb ps, JS B w wr ⟨px.q, px.b, px.r, v, S⟩ none qh va vb ps i)) (fun vi _ => 100 - (RowKit.intOf vi).toNat)
  case atStart => exact ⟨0, Nat.zero_le _, by omega, rfl, ⟨_, _, _, _, _, HJ.out⟩⟩
  case round =>
    obtain ⟨i, hi, hi2, rfl, hS⟩ := hrel
    by_cases hc : i < n ∧ i < 100
    · obtain ⟨hlt, hlt0⟩ := hc
      have hlt2 : (i : Int) < (n : Int) := by omega
      have hlt3 : (i : Int) < 100 := by omega
      have gi : IntKind.i64.wrap ((i : Int) + 1) = ((i + 1 : Nat) : Int) := by rw [IntWalk.i64_in _ (by omega)]; omega
      obtain ⟨v, S, va, vb, ps, hJ⟩ := hS.out
      have HJ2 : Hid (JS B w wr ⟨px.q, px.b, px.r, v, S⟩ none qh va vb ps i) := hJ
      have hb2 : Below w.heap.size w wr := by rw [hB]; exact hJ.below
      obtain ⟨g, off, ob, hoa, hgl, hoi, hcell⟩ := (HR.out.1.below hb2).at i hlt
      subst hoa
      have o0 := hcell 0 _ rfl
      have o1 := hcell 1 _ rfl
      have o2 := hcell 2 _ rfl
      have o3 := hcell 3 _ rfl
      rw [Nat.add_zero] at o0
      have hbN := HR.out.2.1 ob (List.mem_of_getElem? hoi)
      have HI : Hid (i ≤ 100 ∧ ob.N ≤ 9223372036854775807) := ⟨hi2, hbN⟩
      obtain ⟨ok, owh, oN, oV⟩ := ob
      simp only at o0 o1 o2 o3
      clear hcell hgl hoi hbN hJ hb2 hS
      cases hp : (owh.tmod 2 == 0) with
      | true =>
        go_wp2_with fail
        refine Calls.mono (HJ2.out.plays (by have := HI.out.1; omega) ok owh oN oV HI.out.2) ?_
        rintro e W5 ⟨rfl, v5, S5, va5, vb5, ps5, k5⟩
        have K5 : Hid (JS B w W5 ⟨px.q, px.b, px.r, v5, S5⟩ none qh va5 vb5 ps5 (i + 1)) := k5
        clear k5
        go_wp2_with fail
        refine Calls.mono (K5.out.hold (by omega)) ?_
        rintro e W6 ⟨rfl, k6, hk6⟩
        subst hk6
        have K6 : Hid (∃ v S va vb ps, JS B w (W5.drewN k6) ⟨px.q, px.b, px.r, v, S⟩ none qh va vb ps (i + 1)) := ⟨v5, S5, va5, vb5, ps5, K5.out.drewN k6⟩
        go_wp2_with fail
        go_roundw
        case rel => exact ⟨i + 1, by omega, by omega, by first | rfl | go_num, K6.out⟩
        case measure => simp [RowKit.intOf]; omega
      | false =>
        obtain ⟨W5, hW5⟩ : ∃ W5, W5 = wr := ⟨_, rfl⟩
        have K5 : Hid (JS B w W5 ⟨px.q, px.b, px.r, v, S⟩ none qh va vb ps (i + 1)) := by rw [hW5]; exact HJ2.out.mono (by omega)
        rw [← hW5] at o0 o1 o2 o3 HJ2
        rw [← hW5]
        clear hW5
        go_wp2_with fail
        refine Calls.mono (K5.out.hold (by omega)) ?_
        rintro e W6 ⟨rfl, k6, hk6⟩
        subst hk6
        have K6 : Hid (∃ v S va vb ps, JS B w (W5.drewN k6) ⟨px.q, px.b, px.r, v, S⟩ none qh va vb ps (i + 1)) := ⟨v, S, va, vb, ps, K5.out.drewN k6⟩
        go_wp2_with fail
        go_roundw
        case rel => exact ⟨i + 1, by omega, by omega, by first | rfl | go_num, K6.out⟩
        case measure => simp [RowKit.intOf]; omega
    · obtain ⟨v, S, va, vb, ps, hJ⟩ := hS.out
      have HJ2 : Hid (JS B w wr ⟨px.q, px.b, px.r, v, S⟩ none qh va vb ps i) := hJ
      have g1 : (¬ (i : Int) < (n : Int)) ∨ ((i : Int) < (n : Int) ∧ ¬ (i : Int) < 100) := by omega
      have HI : Hid (i ≤ 100) := hi2
      clear hS hJ hc hi2
      rcases g1 with g1 | ⟨g1, g2⟩
      · go_wp2_with fail
        refine Calls.mono (HJ2.out.told (by have := HI.out; omega)) ?_
        rintro e W6 ⟨rfl, va6, vb6, ps6, k6⟩
        have K6 : Hid (JS B w W6 ⟨px.q, px.b, px.r, v, S⟩ none qh va6 vb6 ps6 (i + 1)) := k6
        clear k6
        go_wp2_with fail
        refine Calls.mono (K6.out.hold (by have := HI.out; omega)) ?_
        rintro e W7 ⟨rfl, k7, hk7⟩
        subst hk7
        have HE : Hid (Below w.heap.size w (W6.drewN k7)) := by rw [HV.out.2.2.2.2.1]; exact (K6.out.drewN k7).below
        go_wp2_with fail
        go_ret
        exact ⟨rfl, HE.out⟩
      · go_wp2_with fail
        refine Calls.mono (HJ2.out.told (by have := HI.out; omega)) ?_
        rintro e W6 ⟨rfl, va6, vb6, ps6, k6⟩
        have K6 : Hid (JS B w W6 ⟨px.q, px.b, px.r, v, S⟩ none qh va6 vb6 ps6 (i + 1)) := k6
        clear k6
        go_wp2_with fail
        refine Calls.mono (K6.out.hold (by have := HI.out; omega)) ?_
        rintro e W7 ⟨rfl, k7, hk7⟩
        subst hk7
        have HE : Hid (Below w.heap.size w (W6.drewN k7)) := by rw [HV.out.2.2.2.2.1]; exact (K6.out.drewN k7).below
        go_wp2_with fail
        go_ret
        exact ⟨rfl, HE.out⟩
end Go.Proofs.Ytchkeckblpmehaa
