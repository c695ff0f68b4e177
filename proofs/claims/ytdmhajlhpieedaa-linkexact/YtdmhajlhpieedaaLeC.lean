import Derived.Test.YtdmhajlhpieedaaLeB
/-! LinkExact. -/
namespace Go.Proofs.Ytdmhajlhpieedaa
open Go.RowKit Go.Lib Go.Shelf
set_option maxRecDepth 100000

theorem tmod2 (x : Int) : -1 ≤ x.tmod 2 ∧ x.tmod 2 ≤ 1 := by
  rcases Int.le_total 0 x with h | h
  · rw [Int.tmod_eq_emod_of_nonneg h]; omega
  · have h1 := Int.neg_tmod x 2
    rw [Int.tmod_eq_emod_of_nonneg (by omega)] at h1
    omega
/-- opened of a room that may be, and of one that may not. -/
def OpY (e : Ending) (w w' : World) : Prop := ∃ q r, e = .returned (.tuple #[.pointer (some ⟨q, 0, none⟩), .pointer (some ⟨r, 0, none⟩), .bool true]) ∧ w.heap.size ≤ q ∧ w.heap.size ≤ r ∧ (∃ n m, Duo (fun g => g = q) (fun g => g = r) w' q r (lk0 n m)) ∧ Below w.heap.size w w'
def OpN (e : Ending) (w w' : World) : Prop := e = .returned (.tuple #[.pointer none, .pointer none, .bool true]) ∧ Below w.heap.size w w'
theorem op_yes {n m : Int} (h : 1 ≤ n ∧ n ≤ 9 ∧ 0 ≤ m ∧ m ≤ 1048576) (w : World) : Calls Try.prog 9 #[.agg #[.int .i64 n, .int .i64 m]] w fun e w' => OpY e w w' := by
  obtain ⟨k, rfl⟩ : ∃ k : Nat, n = (k : Int) := ⟨n.toNat, by omega⟩
  obtain ⟨j, rfl⟩ : ∃ j : Nat, m = (j : Int) := ⟨m.toNat, by omega⟩
  refine (opened_duo k j (by omega) (by omega) (by omega) w).mono ?_
  rintro e w' ⟨q, r, e1, e2, e3, e4, e5⟩
  exact ⟨q, r, e1, e2, e3, ⟨_, _, e4⟩, e5⟩
theorem op_no {n m : Int} (h : ¬ (1 ≤ n ∧ n ≤ 9 ∧ 0 ≤ m ∧ m ≤ 1048576)) (w : World) : Calls Try.prog 9 #[.agg #[.int .i64 n, .int .i64 m]] w fun e w' => OpN e w w' := by
  exact opened_bad n m (by omega) w
set_option maxHeartbeats 16000000 in
theorem exact_yy {W : World} {na ma nb mb : Int} {a : Option Addr} {n c : Nat} {ss : List Sp} (hS : Rw stv 6 W a n c ss) (hin : ∀ s ∈ ss, StepIn W 1048576 s) (hA : ∀ w, Calls Try.prog 9 #[.agg #[.int .i64 na, .int .i64 ma]] w fun e w' => OpY e w w') (hB : ∀ w, Calls Try.prog 9 #[.agg #[.int .i64 nb, .int .i64 mb]] w fun e w' => OpY e w w') : Calls Try.prog 8 #[.agg #[.int .i64 na, .int .i64 ma], .agg #[.int .i64 nb, .int .i64 mb], .slice a n c] W fun e w' => e = .returned (.bool true) ∧ Below W.heap.size W w' := by
  have HA : Hid (∀ w, Calls Try.prog 9 #[.agg #[.int .i64 na, .int .i64 ma]] w fun e w' => OpY e w w') := hA
  have HBo : Hid (∀ w, Calls Try.prog 9 #[.agg #[.int .i64 nb, .int .i64 mb]] w fun e w' => OpY e w w') := hB
  have H1 : Hid (∀ w, Calls Try.prog 9 #[.agg #[.int .i64 9, .int .i64 1048576]] w fun e w' => OpY e w w') := fun w => op_yes (by omega) w
  have H2 : Hid (∀ w, Calls Try.prog 9 #[.agg #[.int .i64 2, .int .i64 3]] w fun e w' => OpY e w w') := fun w => op_yes (by omega) w
  have HSC : Hid (Rw stv 6 W a n c ss ∧ ∀ s ∈ ss, StepIn W 1048576 s) := ⟨hS, hin⟩
  obtain ⟨A1, hA1⟩ : ∃ A1, W.alloc (.cells #[.int .i64 na, .int .i64 ma] 27) = A1 := ⟨_, rfl⟩
  obtain ⟨A2, hA2⟩ : ∃ A2, A1.alloc (.cells #[.int .i64 nb, .int .i64 mb] 27) = A2 := ⟨_, rfl⟩
  obtain ⟨A3, hA3⟩ : ∃ A3, A2.alloc (.cells #[.slice none 0 0, .slice none 0 0, .slice none 0 0] 61) = A3 := ⟨_, rfl⟩
  have s1 : A1.heap.size = W.heap.size + 1 := by rw [← hA1]; exact World.size_alloc ..
  have s2 : A2.heap.size = W.heap.size + 2 := by rw [← hA2, World.size_alloc, s1]
  have s3 : A3.heap.size = W.heap.size + 3 := by rw [← hA3, World.size_alloc, s2]
  have bl1 : Below W.heap.size W A1 := by rw [← hA1]; exact (Below.refl _ _).alloc (Nat.le_refl _) _
  have bl2 : Below A1.heap.size A1 A2 := by rw [← hA2]; exact (Below.refl _ _).alloc (Nat.le_refl _) _
  have bl3 : Below A2.heap.size A2 A3 := by rw [← hA3]; exact (Below.refl _ _).alloc (Nat.le_refl _) _
  have x1 : A3.heap[W.heap.size]? = some (.cells #[.int .i64 na, .int .i64 ma] 27) := (bl3.block _ (by omega)).trans ((bl2.block _ (by omega)).trans (by rw [← hA1]; exact heap_alloc_new W _))
  have x2 : A3.heap[W.heap.size + 1]? = some (.cells #[.int .i64 nb, .int .i64 mb] 27) := (bl3.block _ (by omega)).trans (by rw [← hA2, ← s1]; exact heap_alloc_new A1 _)
  have x3 : A3.heap[W.heap.size + 2]? = some (.cells #[.slice none 0 0, .slice none 0 0, .slice none 0 0] 61) := by rw [← hA3, ← s2]; exact heap_alloc_new A2 _
  obtain ⟨hb, hhb⟩ : ∃ hb, W.heap.size + 2 = hb := ⟨_, rfl⟩
  have HX : Hid (∀ w, Below A3.heap.size A3 w → w.heap[W.heap.size]? = some (.cells #[.int .i64 na, .int .i64 ma] 27) ∧ w.heap[W.heap.size + 1]? = some (.cells #[.int .i64 nb, .int .i64 mb] 27) ∧ w.heap[hb]? = some (.cells #[.slice none 0 0, .slice none 0 0, .slice none 0 0] 61)) := fun w hB => ⟨(hB.block _ (by omega)).trans x1, (hB.block _ (by omega)).trans x2, (hB.block _ (by omega)).trans (by rw [← hhb]; exact x3)⟩
  have HH0 : Hid (hb < A3.heap.size ∧ W.heap.size ≤ hb ∧ Below W.heap.size W A3) := ⟨by omega, by omega, (bl1.trans (bl2.mono bl1.size)).trans (bl3.mono (by omega))⟩
  clear hS hin hA hB s3 bl1 bl2 bl3 x1 x2 x3
  go_enter Try.func8, Try.ntmps8
  go_wp2_with fail
  refine (H1.out A3).mono ?_
  rintro e w1 ⟨q1, r1, rfl, _, _, _, hB1⟩
  obtain ⟨y1, y2, y3⟩ := HX.out w1 hB1
  obtain ⟨ca0, ca1⟩ := box2 y1
  clear y1 y2 y3
  go_wp2_with fail
  refine (HA.out w1).mono ?_
  rintro e w2 ⟨qa, ra, rfl, a1, a2, ⟨na', ma', a3⟩, hB2⟩
  have hB12 : Below A3.heap.size A3 w2 := hB1.trans (hB2.mono hB1.size)
  obtain ⟨y1, y2, y3⟩ := HX.out w2 hB12
  obtain ⟨cb0, cb1⟩ := box2 y2
  clear y1 y2 y3 ca0 ca1
  have HW2 : Hid (Below A3.heap.size A3 w2 ∧ Below A3.heap.size A3 w1 ∧ Below w1.heap.size w1 w2 ∧ w1.heap.size ≤ qa ∧ w1.heap.size ≤ ra ∧ Duo (fun g => g = qa) (fun g => g = ra) w2 qa ra (lk0 na' ma')) := ⟨hB12, hB1, hB2, a1, a2, a3⟩
  clear hB12 hB1 hB2 a1 a2 a3
  go_wp2_with fail
  refine (HBo.out w2).mono ?_
  rintro e w3 ⟨qb, rb, rfl, b1, b2, ⟨nb', mb', b3⟩, hB3⟩
  clear cb0 cb1
  have HW3 : Hid (Below w2.heap.size w2 w3 ∧ w2.heap.size ≤ qb ∧ w2.heap.size ≤ rb ∧ Duo (fun g => g = qb) (fun g => g = rb) w3 qb rb (lk0 nb' mb')) := ⟨hB3, b1, b2, b3⟩
  clear hB3 b1 b2 b3
  go_wp2_with fail
  refine (H2.out w3).mono ?_
  rintro e w4 ⟨q2, r2, rfl, c1, c2, ⟨n2', m2', c3⟩, hB4⟩
  obtain ⟨hA2, hA1, h12, a1, a2, a3⟩ := HW2.out
  obtain ⟨h23, b1, b2, b3⟩ := HW3.out
  have s1 := hA1.size
  have s2 := h12.size
  have s3 := h23.size
  have s4 := hB4.size
  have hA4 : Below A3.heap.size A3 w4 := hA2.trans ((h23.trans (hB4.mono h23.size)).mono hA2.size)
  obtain ⟨_, _, hbx⟩ := HX.out w4 hA4
  have k2q := c3.kl _ rfl
  have k2r := c3.jl _ rfl
  have hh := HH0.out
  have kaq := a3.kl _ rfl
  have kar := a3.jl _ rfl
  have a4 := (a3.below h23).below hB4
  have kbq := b3.kl _ rfl
  have kbr := b3.jl _ rfl
  have b4 := b3.below hB4
  have HS0 : Hid (St2 W hb qa ra (some (qb, rb)) 0 w4) := St2.start hbx hh.2.1 a4 (by omega) (by omega) (HH0.out.2.2.trans (hA4.mono HH0.out.2.2.size)) (fun x y e => by
    simp only [Option.some.injEq, Prod.mk.injEq] at e
    obtain ⟨rfl, rfl⟩ := e
    exact ⟨⟨_, _, b4⟩, by omega, by omega, by omega, by omega, by omega, by omega⟩)
  clear hA2 hA1 h12 h23 s1 s2 s3 s4 hA4 hbx k2q k2r hh c1 c2 c3 hB4 a1 a2 a3 a4 kaq kar b1 b2 b3 b4 kbq kbr HW2 HW3 HX HA HBo H1 H2 HH0
  go_wp2_with fail
  go_loopw [20, 21] (fun v20 _ wr => ∃ i : Nat, v20 = .int .i64 (i : Int) ∧ i ≤ 80 ∧ Hid (St2 W hb qa ra (some (qb, rb)) i wr)) (fun v20 _ _ => 80 - (RowKit.intOf v20).toNat)
  case atStart => exact ⟨0, rfl, by omega, HS0.out⟩
  case round =>
    obtain ⟨i, rfl, hi, HI⟩ := hrel
    by_cases hlt : i < n ∧ i < 80
    · obtain ⟨h1, h2⟩ := hlt
      have j1 : (i : Int) < (n : Int) := by omega
      have j2 : (i : Int) < 80 := by omega
      have hBw : Below W.heap.size W wr := by obtain ⟨_, _, _, _, _, _, _, _, _, _, _, _, hB, _⟩ := HI.out; exact hB
      obtain ⟨g, off, s, ea, _, hsi, hc⟩ := (HSC.out.1.below hBw).at i h1
      have c0 := hc 0 _ rfl
      have c1 := hc 1 _ rfl
      have c2 := hc 2 _ rfl
      have c3 := hc 3 _ rfl
      have c4 := hc 4 _ rfl
      have c5 := hc 5 _ rfl
      simp only [Nat.add_zero] at c0
      subst ea
      have hin := HSC.out.2 s (List.mem_of_getElem? hsi)
      have ei : IntKind.i64.wrap ((i : Int) + 1) = (i : Int) + 1 := IntWalk.i64_in _ (by omega)
      obtain ⟨e2, he2⟩ : ∃ e2 : Int, s.which.tmod 2 = e2 := ⟨_, rfl⟩
      have hr2 : -1 ≤ e2 ∧ e2 ≤ 1 := by rw [← he2]; exact tmod2 _
      have hw2 : IntKind.i64.wrap e2 = e2 := IntWalk.i64_in _ (by omega)
      have HP0 := HI.out.play s hin (by omega)
      have HP1 := HI.out.swap.play s hin (by omega)
      unfold Sp.val at HP0 HP1
      obtain ⟨mk, hmk⟩ : ∃ mk : Int, (s.mask.toNat : Int) = mk := ⟨_, rfl⟩
      rw [hmk] at c4 HP0 HP1
      clear hBw hsi hc hin hmk
      by_cases hev : e2 = 0
      · rw [hev] at he2 hw2
        clear hr2 hev HI HP1
        go_wp2_with fail
        refine HP0.mono ?_
        rintro e w5 ⟨rfl, hT⟩
        have HS1 : Hid (St2 W hb qa ra (some (qb, rb)) (i + 1) w5) := hT
        have HHo := HS1.out.hold (by omega)
        clear hT HP0
        go_wp2_with fail
        refine HHo.mono ?_
        rintro e w6 ⟨rfl, hT⟩
        have HS2 : Hid (St2 W hb qa ra (some (qb, rb)) (i + 1) w6) := hT
        clear hT HHo HS1
        go_wp2_with fail
        exact ⟨⟨i + 1, by simp, by omega, HS2.out⟩, by simp [RowKit.intOf]; omega⟩
      · have hn2 : (e2 == 0) = false := beq_eq_false_iff_ne.2 hev
        clear hr2 hev HI HP0
        go_wp2_with fail
        refine HP1.mono ?_
        rintro e w5 ⟨rfl, hT⟩
        have HS1 : Hid (St2 W hb qa ra (some (qb, rb)) (i + 1) w5) := hT.swap
        have HHo := HS1.out.hold (by omega)
        clear hT HP1
        go_wp2_with fail
        refine HHo.mono ?_
        rintro e w6 ⟨rfl, hT⟩
        have HS2 : Hid (St2 W hb qa ra (some (qb, rb)) (i + 1) w6) := hT
        clear hT HHo HS1
        go_wp2_with fail
        exact ⟨⟨i + 1, by simp, by omega, HS2.out⟩, by simp [RowKit.intOf]; omega⟩
    · by_cases hlt2 : i < n
      · have j1 : (i : Int) < (n : Int) := by omega
        have j2 : ¬ (i : Int) < 80 := by omega
        have HL := HI.out.fl (by omega)
        clear HI
        go_wp2_with fail
        refine HL.mono ?_
        rintro e w7 ⟨rfl, hT⟩
        have HL2 := hT.swap.fl (by omega)
        clear hT HL
        go_wp2_with fail
        refine HL2.mono ?_
        rintro e w8 ⟨rfl, hT⟩
        have HH := hT.hold (by omega)
        clear hT HL2
        go_wp2_with fail
        refine HH.mono ?_
        rintro e w9 ⟨rfl, hT⟩
        have HB : Hid (Below W.heap.size W w9) := by obtain ⟨_, _, _, _, _, _, _, _, _, _, _, _, hB, _⟩ := hT; exact hB
        clear hT HH
        go_wp2_with fail
        go_ret
        exact ⟨rfl, HB.out⟩
      · have j1 : ¬ (i : Int) < (n : Int) := by omega
        have HL := HI.out.fl (by omega)
        clear HI
        go_wp2_with fail
        refine HL.mono ?_
        rintro e w7 ⟨rfl, hT⟩
        have HL2 := hT.swap.fl (by omega)
        clear hT HL
        go_wp2_with fail
        refine HL2.mono ?_
        rintro e w8 ⟨rfl, hT⟩
        have HH := hT.hold (by omega)
        clear hT HL2
        go_wp2_with fail
        refine HH.mono ?_
        rintro e w9 ⟨rfl, hT⟩
        have HB : Hid (Below W.heap.size W w9) := by obtain ⟨_, _, _, _, _, _, _, _, _, _, _, _, hB, _⟩ := hT; exact hB
        clear hT HH
        go_wp2_with fail
        go_ret
        exact ⟨rfl, HB.out⟩
set_option maxHeartbeats 16000000 in
theorem exact_yn {W : World} {na ma nb mb : Int} {a : Option Addr} {n c : Nat} {ss : List Sp} (hS : Rw stv 6 W a n c ss) (hin : ∀ s ∈ ss, StepIn W 1048576 s) (hA : ∀ w, Calls Try.prog 9 #[.agg #[.int .i64 na, .int .i64 ma]] w fun e w' => OpY e w w') (hB : ∀ w, Calls Try.prog 9 #[.agg #[.int .i64 nb, .int .i64 mb]] w fun e w' => OpN e w w') : Calls Try.prog 8 #[.agg #[.int .i64 na, .int .i64 ma], .agg #[.int .i64 nb, .int .i64 mb], .slice a n c] W fun e w' => e = .returned (.bool true) ∧ Below W.heap.size W w' := by
  have HA : Hid (∀ w, Calls Try.prog 9 #[.agg #[.int .i64 na, .int .i64 ma]] w fun e w' => OpY e w w') := hA
  have HBo : Hid (∀ w, Calls Try.prog 9 #[.agg #[.int .i64 nb, .int .i64 mb]] w fun e w' => OpN e w w') := hB
  have H1 : Hid (∀ w, Calls Try.prog 9 #[.agg #[.int .i64 9, .int .i64 1048576]] w fun e w' => OpY e w w') := fun w => op_yes (by omega) w
  have H2 : Hid (∀ w, Calls Try.prog 9 #[.agg #[.int .i64 2, .int .i64 3]] w fun e w' => OpY e w w') := fun w => op_yes (by omega) w
  have HSC : Hid (Rw stv 6 W a n c ss ∧ ∀ s ∈ ss, StepIn W 1048576 s) := ⟨hS, hin⟩
  obtain ⟨A1, hA1⟩ : ∃ A1, W.alloc (.cells #[.int .i64 na, .int .i64 ma] 27) = A1 := ⟨_, rfl⟩
  obtain ⟨A2, hA2⟩ : ∃ A2, A1.alloc (.cells #[.int .i64 nb, .int .i64 mb] 27) = A2 := ⟨_, rfl⟩
  obtain ⟨A3, hA3⟩ : ∃ A3, A2.alloc (.cells #[.slice none 0 0, .slice none 0 0, .slice none 0 0] 61) = A3 := ⟨_, rfl⟩
  have s1 : A1.heap.size = W.heap.size + 1 := by rw [← hA1]; exact World.size_alloc ..
  have s2 : A2.heap.size = W.heap.size + 2 := by rw [← hA2, World.size_alloc, s1]
  have s3 : A3.heap.size = W.heap.size + 3 := by rw [← hA3, World.size_alloc, s2]
  have bl1 : Below W.heap.size W A1 := by rw [← hA1]; exact (Below.refl _ _).alloc (Nat.le_refl _) _
  have bl2 : Below A1.heap.size A1 A2 := by rw [← hA2]; exact (Below.refl _ _).alloc (Nat.le_refl _) _
  have bl3 : Below A2.heap.size A2 A3 := by rw [← hA3]; exact (Below.refl _ _).alloc (Nat.le_refl _) _
  have x1 : A3.heap[W.heap.size]? = some (.cells #[.int .i64 na, .int .i64 ma] 27) := (bl3.block _ (by omega)).trans ((bl2.block _ (by omega)).trans (by rw [← hA1]; exact heap_alloc_new W _))
  have x2 : A3.heap[W.heap.size + 1]? = some (.cells #[.int .i64 nb, .int .i64 mb] 27) := (bl3.block _ (by omega)).trans (by rw [← hA2, ← s1]; exact heap_alloc_new A1 _)
  have x3 : A3.heap[W.heap.size + 2]? = some (.cells #[.slice none 0 0, .slice none 0 0, .slice none 0 0] 61) := by rw [← hA3, ← s2]; exact heap_alloc_new A2 _
  obtain ⟨hb, hhb⟩ : ∃ hb, W.heap.size + 2 = hb := ⟨_, rfl⟩
  have HX : Hid (∀ w, Below A3.heap.size A3 w → w.heap[W.heap.size]? = some (.cells #[.int .i64 na, .int .i64 ma] 27) ∧ w.heap[W.heap.size + 1]? = some (.cells #[.int .i64 nb, .int .i64 mb] 27) ∧ w.heap[hb]? = some (.cells #[.slice none 0 0, .slice none 0 0, .slice none 0 0] 61)) := fun w hB => ⟨(hB.block _ (by omega)).trans x1, (hB.block _ (by omega)).trans x2, (hB.block _ (by omega)).trans (by rw [← hhb]; exact x3)⟩
  have HH0 : Hid (hb < A3.heap.size ∧ W.heap.size ≤ hb ∧ Below W.heap.size W A3) := ⟨by omega, by omega, (bl1.trans (bl2.mono bl1.size)).trans (bl3.mono (by omega))⟩
  clear hS hin hA hB s3 bl1 bl2 bl3 x1 x2 x3
  go_enter Try.func8, Try.ntmps8
  go_wp2_with fail
  refine (H1.out A3).mono ?_
  rintro e w1 ⟨q1, r1, rfl, _, _, _, hB1⟩
  obtain ⟨y1, y2, y3⟩ := HX.out w1 hB1
  obtain ⟨ca0, ca1⟩ := box2 y1
  clear y1 y2 y3
  go_wp2_with fail
  refine (HA.out w1).mono ?_
  rintro e w2 ⟨qa, ra, rfl, a1, a2, ⟨na', ma', a3⟩, hB2⟩
  have hB12 : Below A3.heap.size A3 w2 := hB1.trans (hB2.mono hB1.size)
  obtain ⟨y1, y2, y3⟩ := HX.out w2 hB12
  obtain ⟨cb0, cb1⟩ := box2 y2
  clear y1 y2 y3 ca0 ca1
  have HW2 : Hid (Below A3.heap.size A3 w2 ∧ Below A3.heap.size A3 w1 ∧ Below w1.heap.size w1 w2 ∧ w1.heap.size ≤ qa ∧ w1.heap.size ≤ ra ∧ Duo (fun g => g = qa) (fun g => g = ra) w2 qa ra (lk0 na' ma')) := ⟨hB12, hB1, hB2, a1, a2, a3⟩
  clear hB12 hB1 hB2 a1 a2 a3
  go_wp2_with fail
  refine (HBo.out w2).mono ?_
  rintro e w3 ⟨rfl, hB3⟩
  clear cb0 cb1
  have HW3 : Hid (Below w2.heap.size w2 w3) := hB3
  clear hB3
  go_wp2_with fail
  refine (H2.out w3).mono ?_
  rintro e w4 ⟨q2, r2, rfl, c1, c2, ⟨n2', m2', c3⟩, hB4⟩
  obtain ⟨hA2, hA1, h12, a1, a2, a3⟩ := HW2.out
  have h23 := HW3.out
  have s1 := hA1.size
  have s2 := h12.size
  have s3 := h23.size
  have s4 := hB4.size
  have hA4 : Below A3.heap.size A3 w4 := hA2.trans ((h23.trans (hB4.mono h23.size)).mono hA2.size)
  obtain ⟨_, _, hbx⟩ := HX.out w4 hA4
  have k2q := c3.kl _ rfl
  have k2r := c3.jl _ rfl
  have hh := HH0.out
  have kaq := a3.kl _ rfl
  have kar := a3.jl _ rfl
  have a4 := (a3.below h23).below hB4
  have HS0 : Hid (St2 W hb qa ra (none) 0 w4) := St2.start hbx hh.2.1 a4 (by omega) (by omega) (HH0.out.2.2.trans (hA4.mono HH0.out.2.2.size)) (fun x y e => by cases e)
  clear hA2 hA1 h12 h23 s1 s2 s3 s4 hA4 hbx k2q k2r hh c1 c2 c3 hB4 a1 a2 a3 a4 kaq kar HW2 HW3 HX HA HBo H1 H2 HH0
  go_wp2_with fail
  go_loopw [20, 21] (fun v20 _ wr => ∃ i : Nat, v20 = .int .i64 (i : Int) ∧ i ≤ 80 ∧ Hid (St2 W hb qa ra (none) i wr)) (fun v20 _ _ => 80 - (RowKit.intOf v20).toNat)
  case atStart => exact ⟨0, rfl, by omega, HS0.out⟩
  case round =>
    obtain ⟨i, rfl, hi, HI⟩ := hrel
    by_cases hlt : i < n ∧ i < 80
    · obtain ⟨h1, h2⟩ := hlt
      have j1 : (i : Int) < (n : Int) := by omega
      have j2 : (i : Int) < 80 := by omega
      have hBw : Below W.heap.size W wr := by obtain ⟨_, _, _, _, _, _, _, _, _, _, _, _, hB, _⟩ := HI.out; exact hB
      obtain ⟨g, off, s, ea, _, hsi, hc⟩ := (HSC.out.1.below hBw).at i h1
      have c0 := hc 0 _ rfl
      have c1 := hc 1 _ rfl
      have c2 := hc 2 _ rfl
      have c3 := hc 3 _ rfl
      have c4 := hc 4 _ rfl
      have c5 := hc 5 _ rfl
      simp only [Nat.add_zero] at c0
      subst ea
      have hin := HSC.out.2 s (List.mem_of_getElem? hsi)
      have ei : IntKind.i64.wrap ((i : Int) + 1) = (i : Int) + 1 := IntWalk.i64_in _ (by omega)
      obtain ⟨e2, he2⟩ : ∃ e2 : Int, s.which.tmod 2 = e2 := ⟨_, rfl⟩
      have hr2 : -1 ≤ e2 ∧ e2 ≤ 1 := by rw [← he2]; exact tmod2 _
      have hw2 : IntKind.i64.wrap e2 = e2 := IntWalk.i64_in _ (by omega)
      have HP0 := HI.out.play s hin (by omega)
      unfold Sp.val at HP0
      obtain ⟨mk, hmk⟩ : ∃ mk : Int, (s.mask.toNat : Int) = mk := ⟨_, rfl⟩
      rw [hmk] at c4 HP0
      clear hBw hsi hc hin hmk
      by_cases hev : e2 = 0
      · rw [hev] at he2 hw2
        clear hr2 hev HI
        go_wp2_with fail
        refine HP0.mono ?_
        rintro e w5 ⟨rfl, hT⟩
        have HS1 : Hid (St2 W hb qa ra (none) (i + 1) w5) := hT
        have HHo := HS1.out.hold (by omega)
        clear hT HP0
        go_wp2_with fail
        refine HHo.mono ?_
        rintro e w6 ⟨rfl, hT⟩
        have HS2 : Hid (St2 W hb qa ra (none) (i + 1) w6) := hT
        clear hT HHo HS1
        go_wp2_with fail
        exact ⟨⟨i + 1, by simp, by omega, HS2.out⟩, by simp [RowKit.intOf]; omega⟩
      · have hn2 : (e2 == 0) = false := beq_eq_false_iff_ne.2 hev
        have HS1 : Hid (St2 W hb qa ra (none) (i + 1) wr) := HI.out.mono (by omega)
        have HHo := HS1.out.hold (by omega)
        clear hr2 hev HI HP0
        go_wp2_with fail
        refine HHo.mono ?_
        rintro e w6 ⟨rfl, hT⟩
        have HS2 : Hid (St2 W hb qa ra (none) (i + 1) w6) := hT
        clear hT HHo HS1
        go_wp2_with fail
        exact ⟨⟨i + 1, by simp, by omega, HS2.out⟩, by simp [RowKit.intOf]; omega⟩
    · by_cases hlt2 : i < n
      · have j1 : (i : Int) < (n : Int) := by omega
        have j2 : ¬ (i : Int) < 80 := by omega
        have HL := HI.out.fl (by omega)
        clear HI
        go_wp2_with fail
        refine HL.mono ?_
        rintro e w7 ⟨rfl, hT⟩
        have HH := hT.hold (by omega)
        clear hT HL
        go_wp2_with fail
        refine HH.mono ?_
        rintro e w9 ⟨rfl, hT⟩
        have HB : Hid (Below W.heap.size W w9) := by obtain ⟨_, _, _, _, _, _, _, _, _, _, _, _, hB, _⟩ := hT; exact hB
        clear hT HH
        go_wp2_with fail
        go_ret
        exact ⟨rfl, HB.out⟩
      · have j1 : ¬ (i : Int) < (n : Int) := by omega
        have HL := HI.out.fl (by omega)
        clear HI
        go_wp2_with fail
        refine HL.mono ?_
        rintro e w7 ⟨rfl, hT⟩
        have HH := hT.hold (by omega)
        clear hT HL
        go_wp2_with fail
        refine HH.mono ?_
        rintro e w9 ⟨rfl, hT⟩
        have HB : Hid (Below W.heap.size W w9) := by obtain ⟨_, _, _, _, _, _, _, _, _, _, _, _, hB, _⟩ := hT; exact hB
        clear hT HH
        go_wp2_with fail
        go_ret
        exact ⟨rfl, HB.out⟩
set_option maxHeartbeats 16000000 in
theorem exact_ny {W : World} {na ma nb mb : Int} {a : Option Addr} {n c : Nat} {ss : List Sp} (hS : Rw stv 6 W a n c ss) (hin : ∀ s ∈ ss, StepIn W 1048576 s) (hA : ∀ w, Calls Try.prog 9 #[.agg #[.int .i64 na, .int .i64 ma]] w fun e w' => OpN e w w') (hB : ∀ w, Calls Try.prog 9 #[.agg #[.int .i64 nb, .int .i64 mb]] w fun e w' => OpY e w w') : Calls Try.prog 8 #[.agg #[.int .i64 na, .int .i64 ma], .agg #[.int .i64 nb, .int .i64 mb], .slice a n c] W fun e w' => e = .returned (.bool true) ∧ Below W.heap.size W w' := by
  have HA : Hid (∀ w, Calls Try.prog 9 #[.agg #[.int .i64 na, .int .i64 ma]] w fun e w' => OpN e w w') := hA
  have HBo : Hid (∀ w, Calls Try.prog 9 #[.agg #[.int .i64 nb, .int .i64 mb]] w fun e w' => OpY e w w') := hB
  have H1 : Hid (∀ w, Calls Try.prog 9 #[.agg #[.int .i64 9, .int .i64 1048576]] w fun e w' => OpY e w w') := fun w => op_yes (by omega) w
  have H2 : Hid (∀ w, Calls Try.prog 9 #[.agg #[.int .i64 2, .int .i64 3]] w fun e w' => OpY e w w') := fun w => op_yes (by omega) w
  have HSC : Hid (Rw stv 6 W a n c ss ∧ ∀ s ∈ ss, StepIn W 1048576 s) := ⟨hS, hin⟩
  obtain ⟨A1, hA1⟩ : ∃ A1, W.alloc (.cells #[.int .i64 na, .int .i64 ma] 27) = A1 := ⟨_, rfl⟩
  obtain ⟨A2, hA2⟩ : ∃ A2, A1.alloc (.cells #[.int .i64 nb, .int .i64 mb] 27) = A2 := ⟨_, rfl⟩
  obtain ⟨A3, hA3⟩ : ∃ A3, A2.alloc (.cells #[.slice none 0 0, .slice none 0 0, .slice none 0 0] 61) = A3 := ⟨_, rfl⟩
  have s1 : A1.heap.size = W.heap.size + 1 := by rw [← hA1]; exact World.size_alloc ..
  have s2 : A2.heap.size = W.heap.size + 2 := by rw [← hA2, World.size_alloc, s1]
  have s3 : A3.heap.size = W.heap.size + 3 := by rw [← hA3, World.size_alloc, s2]
  have bl1 : Below W.heap.size W A1 := by rw [← hA1]; exact (Below.refl _ _).alloc (Nat.le_refl _) _
  have bl2 : Below A1.heap.size A1 A2 := by rw [← hA2]; exact (Below.refl _ _).alloc (Nat.le_refl _) _
  have bl3 : Below A2.heap.size A2 A3 := by rw [← hA3]; exact (Below.refl _ _).alloc (Nat.le_refl _) _
  have x1 : A3.heap[W.heap.size]? = some (.cells #[.int .i64 na, .int .i64 ma] 27) := (bl3.block _ (by omega)).trans ((bl2.block _ (by omega)).trans (by rw [← hA1]; exact heap_alloc_new W _))
  have x2 : A3.heap[W.heap.size + 1]? = some (.cells #[.int .i64 nb, .int .i64 mb] 27) := (bl3.block _ (by omega)).trans (by rw [← hA2, ← s1]; exact heap_alloc_new A1 _)
  have x3 : A3.heap[W.heap.size + 2]? = some (.cells #[.slice none 0 0, .slice none 0 0, .slice none 0 0] 61) := by rw [← hA3, ← s2]; exact heap_alloc_new A2 _
  obtain ⟨hb, hhb⟩ : ∃ hb, W.heap.size + 2 = hb := ⟨_, rfl⟩
  have HX : Hid (∀ w, Below A3.heap.size A3 w → w.heap[W.heap.size]? = some (.cells #[.int .i64 na, .int .i64 ma] 27) ∧ w.heap[W.heap.size + 1]? = some (.cells #[.int .i64 nb, .int .i64 mb] 27) ∧ w.heap[hb]? = some (.cells #[.slice none 0 0, .slice none 0 0, .slice none 0 0] 61)) := fun w hB => ⟨(hB.block _ (by omega)).trans x1, (hB.block _ (by omega)).trans x2, (hB.block _ (by omega)).trans (by rw [← hhb]; exact x3)⟩
  have HH0 : Hid (hb < A3.heap.size ∧ W.heap.size ≤ hb ∧ Below W.heap.size W A3) := ⟨by omega, by omega, (bl1.trans (bl2.mono bl1.size)).trans (bl3.mono (by omega))⟩
  clear hS hin hA hB s3 bl1 bl2 bl3 x1 x2 x3
  go_enter Try.func8, Try.ntmps8
  go_wp2_with fail
  refine (H1.out A3).mono ?_
  rintro e w1 ⟨q1, r1, rfl, _, _, _, hB1⟩
  obtain ⟨y1, y2, y3⟩ := HX.out w1 hB1
  obtain ⟨ca0, ca1⟩ := box2 y1
  clear y1 y2 y3
  go_wp2_with fail
  refine (HA.out w1).mono ?_
  rintro e w2 ⟨rfl, hB2⟩
  have hB12 : Below A3.heap.size A3 w2 := hB1.trans (hB2.mono hB1.size)
  obtain ⟨y1, y2, y3⟩ := HX.out w2 hB12
  obtain ⟨cb0, cb1⟩ := box2 y2
  clear y1 y2 y3 ca0 ca1
  have HW2 : Hid (Below A3.heap.size A3 w2 ∧ Below A3.heap.size A3 w1 ∧ Below w1.heap.size w1 w2) := ⟨hB12, hB1, hB2⟩
  clear hB12 hB1 hB2
  go_wp2_with fail
  refine (HBo.out w2).mono ?_
  rintro e w3 ⟨qb, rb, rfl, b1, b2, ⟨nb', mb', b3⟩, hB3⟩
  clear cb0 cb1
  have HW3 : Hid (Below w2.heap.size w2 w3 ∧ w2.heap.size ≤ qb ∧ w2.heap.size ≤ rb ∧ Duo (fun g => g = qb) (fun g => g = rb) w3 qb rb (lk0 nb' mb')) := ⟨hB3, b1, b2, b3⟩
  clear hB3 b1 b2 b3
  go_wp2_with fail
  refine (H2.out w3).mono ?_
  rintro e w4 ⟨q2, r2, rfl, c1, c2, ⟨n2', m2', c3⟩, hB4⟩
  obtain ⟨hA2, hA1, h12⟩ := HW2.out
  obtain ⟨h23, b1, b2, b3⟩ := HW3.out
  have s1 := hA1.size
  have s2 := h12.size
  have s3 := h23.size
  have s4 := hB4.size
  have hA4 : Below A3.heap.size A3 w4 := hA2.trans ((h23.trans (hB4.mono h23.size)).mono hA2.size)
  obtain ⟨_, _, hbx⟩ := HX.out w4 hA4
  have k2q := c3.kl _ rfl
  have k2r := c3.jl _ rfl
  have hh := HH0.out
  have kbq := b3.kl _ rfl
  have kbr := b3.jl _ rfl
  have b4 := b3.below hB4
  have HS0 : Hid (St2 W hb q2 r2 (some (qb, rb)) 0 w4) := St2.start hbx hh.2.1 c3 (by omega) (by omega) (HH0.out.2.2.trans (hA4.mono HH0.out.2.2.size)) (fun x y e => by
    simp only [Option.some.injEq, Prod.mk.injEq] at e
    obtain ⟨rfl, rfl⟩ := e
    exact ⟨⟨_, _, b4⟩, by omega, by omega, by omega, by omega, by omega, by omega⟩)
  clear hA2 hA1 h12 h23 s1 s2 s3 s4 hA4 hbx k2q k2r hh c1 c2 c3 hB4 b1 b2 b3 b4 kbq kbr HW2 HW3 HX HA HBo H1 H2 HH0
  go_wp2_with fail
  go_loopw [20, 21] (fun v20 _ wr => ∃ i : Nat, v20 = .int .i64 (i : Int) ∧ i ≤ 80 ∧ Hid (St2 W hb q2 r2 (some (qb, rb)) i wr)) (fun v20 _ _ => 80 - (RowKit.intOf v20).toNat)
  case atStart => exact ⟨0, rfl, by omega, HS0.out⟩
  case round =>
    obtain ⟨i, rfl, hi, HI⟩ := hrel
    by_cases hlt : i < n ∧ i < 80
    · obtain ⟨h1, h2⟩ := hlt
      have j1 : (i : Int) < (n : Int) := by omega
      have j2 : (i : Int) < 80 := by omega
      have hBw : Below W.heap.size W wr := by obtain ⟨_, _, _, _, _, _, _, _, _, _, _, _, hB, _⟩ := HI.out; exact hB
      obtain ⟨g, off, s, ea, _, hsi, hc⟩ := (HSC.out.1.below hBw).at i h1
      have c0 := hc 0 _ rfl
      have c1 := hc 1 _ rfl
      have c2 := hc 2 _ rfl
      have c3 := hc 3 _ rfl
      have c4 := hc 4 _ rfl
      have c5 := hc 5 _ rfl
      simp only [Nat.add_zero] at c0
      subst ea
      have hin := HSC.out.2 s (List.mem_of_getElem? hsi)
      have ei : IntKind.i64.wrap ((i : Int) + 1) = (i : Int) + 1 := IntWalk.i64_in _ (by omega)
      obtain ⟨e2, he2⟩ : ∃ e2 : Int, s.which.tmod 2 = e2 := ⟨_, rfl⟩
      have hr2 : -1 ≤ e2 ∧ e2 ≤ 1 := by rw [← he2]; exact tmod2 _
      have hw2 : IntKind.i64.wrap e2 = e2 := IntWalk.i64_in _ (by omega)
      have HP0 := HI.out.play s hin (by omega)
      have HP1 := HI.out.swap.play s hin (by omega)
      unfold Sp.val at HP0 HP1
      obtain ⟨mk, hmk⟩ : ∃ mk : Int, (s.mask.toNat : Int) = mk := ⟨_, rfl⟩
      rw [hmk] at c4 HP0 HP1
      clear hBw hsi hc hin hmk
      by_cases hev : e2 = 0
      · rw [hev] at he2 hw2
        clear hr2 hev HI HP1
        go_wp2_with fail
        refine HP0.mono ?_
        rintro e w5 ⟨rfl, hT⟩
        have HS1 : Hid (St2 W hb q2 r2 (some (qb, rb)) (i + 1) w5) := hT
        have HHo := HS1.out.hold (by omega)
        clear hT HP0
        go_wp2_with fail
        refine HHo.mono ?_
        rintro e w6 ⟨rfl, hT⟩
        have HS2 : Hid (St2 W hb q2 r2 (some (qb, rb)) (i + 1) w6) := hT
        clear hT HHo HS1
        go_wp2_with fail
        exact ⟨⟨i + 1, by simp, by omega, HS2.out⟩, by simp [RowKit.intOf]; omega⟩
      · have hn2 : (e2 == 0) = false := beq_eq_false_iff_ne.2 hev
        clear hr2 hev HI HP0
        go_wp2_with fail
        refine HP1.mono ?_
        rintro e w5 ⟨rfl, hT⟩
        have HS1 : Hid (St2 W hb q2 r2 (some (qb, rb)) (i + 1) w5) := hT.swap
        have HHo := HS1.out.hold (by omega)
        clear hT HP1
        go_wp2_with fail
        refine HHo.mono ?_
        rintro e w6 ⟨rfl, hT⟩
        have HS2 : Hid (St2 W hb q2 r2 (some (qb, rb)) (i + 1) w6) := hT
        clear hT HHo HS1
        go_wp2_with fail
        exact ⟨⟨i + 1, by simp, by omega, HS2.out⟩, by simp [RowKit.intOf]; omega⟩
    · by_cases hlt2 : i < n
      · have j1 : (i : Int) < (n : Int) := by omega
        have j2 : ¬ (i : Int) < 80 := by omega
        have HL := HI.out.fl (by omega)
        clear HI
        go_wp2_with fail
        refine HL.mono ?_
        rintro e w7 ⟨rfl, hT⟩
        have HL2 := hT.swap.fl (by omega)
        clear hT HL
        go_wp2_with fail
        refine HL2.mono ?_
        rintro e w8 ⟨rfl, hT⟩
        have HH := hT.hold (by omega)
        clear hT HL2
        go_wp2_with fail
        refine HH.mono ?_
        rintro e w9 ⟨rfl, hT⟩
        have HB : Hid (Below W.heap.size W w9) := by obtain ⟨_, _, _, _, _, _, _, _, _, _, _, _, hB, _⟩ := hT; exact hB
        clear hT HH
        go_wp2_with fail
        go_ret
        exact ⟨rfl, HB.out⟩
      · have j1 : ¬ (i : Int) < (n : Int) := by omega
        have HL := HI.out.fl (by omega)
        clear HI
        go_wp2_with fail
        refine HL.mono ?_
        rintro e w7 ⟨rfl, hT⟩
        have HL2 := hT.swap.fl (by omega)
        clear hT HL
        go_wp2_with fail
        refine HL2.mono ?_
        rintro e w8 ⟨rfl, hT⟩
        have HH := hT.hold (by omega)
        clear hT HL2
        go_wp2_with fail
        refine HH.mono ?_
        rintro e w9 ⟨rfl, hT⟩
        have HB : Hid (Below W.heap.size W w9) := by obtain ⟨_, _, _, _, _, _, _, _, _, _, _, _, hB, _⟩ := hT; exact hB
        clear hT HH
        go_wp2_with fail
        go_ret
        exact ⟨rfl, HB.out⟩
set_option maxHeartbeats 16000000 in
theorem exact_nn {W : World} {na ma nb mb : Int} {a : Option Addr} {n c : Nat} {ss : List Sp} (hS : Rw stv 6 W a n c ss) (hin : ∀ s ∈ ss, StepIn W 1048576 s) (hA : ∀ w, Calls Try.prog 9 #[.agg #[.int .i64 na, .int .i64 ma]] w fun e w' => OpN e w w') (hB : ∀ w, Calls Try.prog 9 #[.agg #[.int .i64 nb, .int .i64 mb]] w fun e w' => OpN e w w') : Calls Try.prog 8 #[.agg #[.int .i64 na, .int .i64 ma], .agg #[.int .i64 nb, .int .i64 mb], .slice a n c] W fun e w' => e = .returned (.bool true) ∧ Below W.heap.size W w' := by
  have HA : Hid (∀ w, Calls Try.prog 9 #[.agg #[.int .i64 na, .int .i64 ma]] w fun e w' => OpN e w w') := hA
  have HBo : Hid (∀ w, Calls Try.prog 9 #[.agg #[.int .i64 nb, .int .i64 mb]] w fun e w' => OpN e w w') := hB
  have H1 : Hid (∀ w, Calls Try.prog 9 #[.agg #[.int .i64 9, .int .i64 1048576]] w fun e w' => OpY e w w') := fun w => op_yes (by omega) w
  have H2 : Hid (∀ w, Calls Try.prog 9 #[.agg #[.int .i64 2, .int .i64 3]] w fun e w' => OpY e w w') := fun w => op_yes (by omega) w
  have HSC : Hid (Rw stv 6 W a n c ss ∧ ∀ s ∈ ss, StepIn W 1048576 s) := ⟨hS, hin⟩
  obtain ⟨A1, hA1⟩ : ∃ A1, W.alloc (.cells #[.int .i64 na, .int .i64 ma] 27) = A1 := ⟨_, rfl⟩
  obtain ⟨A2, hA2⟩ : ∃ A2, A1.alloc (.cells #[.int .i64 nb, .int .i64 mb] 27) = A2 := ⟨_, rfl⟩
  obtain ⟨A3, hA3⟩ : ∃ A3, A2.alloc (.cells #[.slice none 0 0, .slice none 0 0, .slice none 0 0] 61) = A3 := ⟨_, rfl⟩
  have s1 : A1.heap.size = W.heap.size + 1 := by rw [← hA1]; exact World.size_alloc ..
  have s2 : A2.heap.size = W.heap.size + 2 := by rw [← hA2, World.size_alloc, s1]
  have s3 : A3.heap.size = W.heap.size + 3 := by rw [← hA3, World.size_alloc, s2]
  have bl1 : Below W.heap.size W A1 := by rw [← hA1]; exact (Below.refl _ _).alloc (Nat.le_refl _) _
  have bl2 : Below A1.heap.size A1 A2 := by rw [← hA2]; exact (Below.refl _ _).alloc (Nat.le_refl _) _
  have bl3 : Below A2.heap.size A2 A3 := by rw [← hA3]; exact (Below.refl _ _).alloc (Nat.le_refl _) _
  have x1 : A3.heap[W.heap.size]? = some (.cells #[.int .i64 na, .int .i64 ma] 27) := (bl3.block _ (by omega)).trans ((bl2.block _ (by omega)).trans (by rw [← hA1]; exact heap_alloc_new W _))
  have x2 : A3.heap[W.heap.size + 1]? = some (.cells #[.int .i64 nb, .int .i64 mb] 27) := (bl3.block _ (by omega)).trans (by rw [← hA2, ← s1]; exact heap_alloc_new A1 _)
  have x3 : A3.heap[W.heap.size + 2]? = some (.cells #[.slice none 0 0, .slice none 0 0, .slice none 0 0] 61) := by rw [← hA3, ← s2]; exact heap_alloc_new A2 _
  obtain ⟨hb, hhb⟩ : ∃ hb, W.heap.size + 2 = hb := ⟨_, rfl⟩
  have HX : Hid (∀ w, Below A3.heap.size A3 w → w.heap[W.heap.size]? = some (.cells #[.int .i64 na, .int .i64 ma] 27) ∧ w.heap[W.heap.size + 1]? = some (.cells #[.int .i64 nb, .int .i64 mb] 27) ∧ w.heap[hb]? = some (.cells #[.slice none 0 0, .slice none 0 0, .slice none 0 0] 61)) := fun w hB => ⟨(hB.block _ (by omega)).trans x1, (hB.block _ (by omega)).trans x2, (hB.block _ (by omega)).trans (by rw [← hhb]; exact x3)⟩
  have HH0 : Hid (hb < A3.heap.size ∧ W.heap.size ≤ hb ∧ Below W.heap.size W A3) := ⟨by omega, by omega, (bl1.trans (bl2.mono bl1.size)).trans (bl3.mono (by omega))⟩
  clear hS hin hA hB s3 bl1 bl2 bl3 x1 x2 x3
  go_enter Try.func8, Try.ntmps8
  go_wp2_with fail
  refine (H1.out A3).mono ?_
  rintro e w1 ⟨q1, r1, rfl, _, _, _, hB1⟩
  obtain ⟨y1, y2, y3⟩ := HX.out w1 hB1
  obtain ⟨ca0, ca1⟩ := box2 y1
  clear y1 y2 y3
  go_wp2_with fail
  refine (HA.out w1).mono ?_
  rintro e w2 ⟨rfl, hB2⟩
  have hB12 : Below A3.heap.size A3 w2 := hB1.trans (hB2.mono hB1.size)
  obtain ⟨y1, y2, y3⟩ := HX.out w2 hB12
  obtain ⟨cb0, cb1⟩ := box2 y2
  clear y1 y2 y3 ca0 ca1
  have HW2 : Hid (Below A3.heap.size A3 w2 ∧ Below A3.heap.size A3 w1 ∧ Below w1.heap.size w1 w2) := ⟨hB12, hB1, hB2⟩
  clear hB12 hB1 hB2
  go_wp2_with fail
  refine (HBo.out w2).mono ?_
  rintro e w3 ⟨rfl, hB3⟩
  clear cb0 cb1
  have HW3 : Hid (Below w2.heap.size w2 w3) := hB3
  clear hB3
  go_wp2_with fail
  refine (H2.out w3).mono ?_
  rintro e w4 ⟨q2, r2, rfl, c1, c2, ⟨n2', m2', c3⟩, hB4⟩
  obtain ⟨hA2, hA1, h12⟩ := HW2.out
  have h23 := HW3.out
  have s1 := hA1.size
  have s2 := h12.size
  have s3 := h23.size
  have s4 := hB4.size
  have hA4 : Below A3.heap.size A3 w4 := hA2.trans ((h23.trans (hB4.mono h23.size)).mono hA2.size)
  obtain ⟨_, _, hbx⟩ := HX.out w4 hA4
  have k2q := c3.kl _ rfl
  have k2r := c3.jl _ rfl
  have hh := HH0.out
  have HS0 : Hid (St2 W hb q2 r2 (none) 0 w4) := St2.start hbx hh.2.1 c3 (by omega) (by omega) (HH0.out.2.2.trans (hA4.mono HH0.out.2.2.size)) (fun x y e => by cases e)
  clear hA2 hA1 h12 h23 s1 s2 s3 s4 hA4 hbx k2q k2r hh c1 c2 c3 hB4 HW2 HW3 HX HA HBo H1 H2 HH0
  go_wp2_with fail
  go_loopw [20, 21] (fun v20 _ wr => ∃ i : Nat, v20 = .int .i64 (i : Int) ∧ i ≤ 80 ∧ Hid (St2 W hb q2 r2 (none) i wr)) (fun v20 _ _ => 80 - (RowKit.intOf v20).toNat)
  case atStart => exact ⟨0, rfl, by omega, HS0.out⟩
  case round =>
    obtain ⟨i, rfl, hi, HI⟩ := hrel
    by_cases hlt : i < n ∧ i < 80
    · obtain ⟨h1, h2⟩ := hlt
      have j1 : (i : Int) < (n : Int) := by omega
      have j2 : (i : Int) < 80 := by omega
      have hBw : Below W.heap.size W wr := by obtain ⟨_, _, _, _, _, _, _, _, _, _, _, _, hB, _⟩ := HI.out; exact hB
      obtain ⟨g, off, s, ea, _, hsi, hc⟩ := (HSC.out.1.below hBw).at i h1
      have c0 := hc 0 _ rfl
      have c1 := hc 1 _ rfl
      have c2 := hc 2 _ rfl
      have c3 := hc 3 _ rfl
      have c4 := hc 4 _ rfl
      have c5 := hc 5 _ rfl
      simp only [Nat.add_zero] at c0
      subst ea
      have hin := HSC.out.2 s (List.mem_of_getElem? hsi)
      have ei : IntKind.i64.wrap ((i : Int) + 1) = (i : Int) + 1 := IntWalk.i64_in _ (by omega)
      obtain ⟨e2, he2⟩ : ∃ e2 : Int, s.which.tmod 2 = e2 := ⟨_, rfl⟩
      have hr2 : -1 ≤ e2 ∧ e2 ≤ 1 := by rw [← he2]; exact tmod2 _
      have hw2 : IntKind.i64.wrap e2 = e2 := IntWalk.i64_in _ (by omega)
      have HP0 := HI.out.play s hin (by omega)
      unfold Sp.val at HP0
      obtain ⟨mk, hmk⟩ : ∃ mk : Int, (s.mask.toNat : Int) = mk := ⟨_, rfl⟩
      rw [hmk] at c4 HP0
      clear hBw hsi hc hin hmk
      by_cases hev : e2 = 0
      · rw [hev] at he2 hw2
        clear hr2 hev HI
        go_wp2_with fail
        refine HP0.mono ?_
        rintro e w5 ⟨rfl, hT⟩
        have HS1 : Hid (St2 W hb q2 r2 (none) (i + 1) w5) := hT
        have HHo := HS1.out.hold (by omega)
        clear hT HP0
        go_wp2_with fail
        refine HHo.mono ?_
        rintro e w6 ⟨rfl, hT⟩
        have HS2 : Hid (St2 W hb q2 r2 (none) (i + 1) w6) := hT
        clear hT HHo HS1
        go_wp2_with fail
        exact ⟨⟨i + 1, by simp, by omega, HS2.out⟩, by simp [RowKit.intOf]; omega⟩
      · have hn2 : (e2 == 0) = false := beq_eq_false_iff_ne.2 hev
        have HS1 : Hid (St2 W hb q2 r2 (none) (i + 1) wr) := HI.out.mono (by omega)
        have HHo := HS1.out.hold (by omega)
        clear hr2 hev HI HP0
        go_wp2_with fail
        refine HHo.mono ?_
        rintro e w6 ⟨rfl, hT⟩
        have HS2 : Hid (St2 W hb q2 r2 (none) (i + 1) w6) := hT
        clear hT HHo HS1
        go_wp2_with fail
        exact ⟨⟨i + 1, by simp, by omega, HS2.out⟩, by simp [RowKit.intOf]; omega⟩
    · by_cases hlt2 : i < n
      · have j1 : (i : Int) < (n : Int) := by omega
        have j2 : ¬ (i : Int) < 80 := by omega
        have HL := HI.out.fl (by omega)
        clear HI
        go_wp2_with fail
        refine HL.mono ?_
        rintro e w7 ⟨rfl, hT⟩
        have HH := hT.hold (by omega)
        clear hT HL
        go_wp2_with fail
        refine HH.mono ?_
        rintro e w9 ⟨rfl, hT⟩
        have HB : Hid (Below W.heap.size W w9) := by obtain ⟨_, _, _, _, _, _, _, _, _, _, _, _, hB, _⟩ := hT; exact hB
        clear hT HH
        go_wp2_with fail
        go_ret
        exact ⟨rfl, HB.out⟩
      · have j1 : ¬ (i : Int) < (n : Int) := by omega
        have HL := HI.out.fl (by omega)
        clear HI
        go_wp2_with fail
        refine HL.mono ?_
        rintro e w7 ⟨rfl, hT⟩
        have HH := hT.hold (by omega)
        clear hT HL
        go_wp2_with fail
        refine HH.mono ?_
        rintro e w9 ⟨rfl, hT⟩
        have HB : Hid (Below W.heap.size W w9) := by obtain ⟨_, _, _, _, _, _, _, _, _, _, _, _, hB, _⟩ := hT; exact hB
        clear hT HH
        go_wp2_with fail
        go_ret
        exact ⟨rfl, HB.out⟩
theorem linkExact_any {W : World} {na ma nb mb : Int} {a : Option Addr} {n c : Nat} {ss : List Sp} (hS : Rw stv 6 W a n c ss) (hin : ∀ s ∈ ss, StepIn W 1048576 s) : Calls Try.prog 8 #[.agg #[.int .i64 na, .int .i64 ma], .agg #[.int .i64 nb, .int .i64 mb], .slice a n c] W fun e w' => e = .returned (.bool true) ∧ Below W.heap.size W w' := by
  by_cases h1 : 1 ≤ na ∧ na ≤ 9 ∧ 0 ≤ ma ∧ ma ≤ 1048576
  · by_cases h2 : 1 ≤ nb ∧ nb ≤ 9 ∧ 0 ≤ mb ∧ mb ≤ 1048576
    · exact exact_yy hS hin (op_yes h1) (op_yes h2)
    · exact exact_yn hS hin (op_yes h1) (op_no h2)
  · by_cases h2 : 1 ≤ nb ∧ nb ≤ 9 ∧ 0 ≤ mb ∧ mb ≤ 1048576
    · exact exact_ny hS hin (op_no h1) (op_yes h2)
    · exact exact_nn hS hin (op_no h1) (op_no h2)
end Go.Proofs.Ytdmhajlhpieedaa
