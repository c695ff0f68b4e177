import Derived.Test.YtfakfmmngflbfaaDoorStepAll
namespace Go.Proofs.YtfakfmmngflbfaaDoor
open Go.RowKit Go.Lib

theorem onF_spec (p : Int → Bool) (rs : List Int) : ∀ n k, k ≤ onF p rs n k ∧ onF p rs n k ≤ k + n ∧ (∀ i, k ≤ i → i < onF p rs n k → p (rs.getD i 0) = true) ∧ (onF p rs n k < k + n → p (rs.getD (onF p rs n k) 0) = false)
  | 0, k => ⟨Nat.le_refl _, Nat.le_refl _, fun i h1 h2 => by simp [onF] at h2; omega, fun h => by simp [onF] at h⟩
  | n + 1, k => by
    rw [onF]
    cases hp : p (rs.getD k 0) with
    | true =>
      rw [if_pos rfl]
      obtain ⟨h1, h2, h3, h4⟩ := onF_spec p rs n (k + 1)
      refine ⟨by omega, by omega, fun i hi hj => ?_, fun h => h4 (by omega)⟩
      by_cases e : i = k
      · subst e; exact hp
      · exact h3 i (by omega) hj
    | false =>
      rw [if_neg (by simp)]
      exact ⟨Nat.le_refl _, by omega, fun i hi hj => by omega, fun _ => hp⟩
theorem backF_spec (p : Int → Bool) (rs : List Int) : ∀ k, backF p rs k ≤ k ∧ (∀ i, backF p rs k ≤ i → i < k → p (rs.getD i 0) = true) ∧ (0 < backF p rs k → p (rs.getD (backF p rs k - 1) 0) = false)
  | 0 => ⟨Nat.le_refl _, fun i h1 h2 => by omega, fun h => by simp [backF] at h⟩
  | k + 1 => by
    rw [backF]
    cases hp : p (rs.getD k 0) with
    | true =>
      rw [if_pos rfl]
      obtain ⟨h1, h2, h3⟩ := backF_spec p rs k
      refine ⟨by omega, fun i hi hj => ?_, h3⟩
      by_cases e : i = k
      · subst e; exact hp
      · exact h2 i hi (by omega)
    | false =>
      rw [if_neg (by simp)]
      exact ⟨Nat.le_refl _, fun i hi hj => by omega, fun _ => hp⟩
theorem word_on (rs : List Int) (k : Nat) (hk : k ≤ rs.length) : ∃ m T : Nat, onF wordR rs (rs.length - onF (fun r => !wordR r) rs (rs.length - k) k) (onF (fun r => !wordR r) rs (rs.length - k) k) = T ∧ k ≤ m ∧ m ≤ T ∧ T ≤ rs.length ∧
    (∀ i, k ≤ i → i < m → wordR (rs.getD i 0) = false) ∧ (∀ i, m ≤ i → i < T → wordR (rs.getD i 0) = true) ∧ (m < rs.length → wordR (rs.getD m 0) = true) ∧ (T < rs.length → wordR (rs.getD T 0) = false) := by
  obtain ⟨h1, h2, h3, h4⟩ := onF_spec (fun r => !wordR r) rs (rs.length - k) k
  obtain ⟨g1, g2, g3, g4⟩ := onF_spec wordR rs (rs.length - onF (fun r => !wordR r) rs (rs.length - k) k) (onF (fun r => !wordR r) rs (rs.length - k) k)
  refine ⟨_, _, rfl, h1, g1, by omega, fun i hi hj => by simpa using h3 i hi hj, g3, fun h => by simpa using h4 (by omega), fun h => g4 (by omega)⟩
theorem word_back (rs : List Int) (k : Nat) : ∃ m T : Nat, backF wordR rs (backF (fun r => !wordR r) rs k) = T ∧ T ≤ m ∧ m ≤ k ∧
    (∀ i, m ≤ i → i < k → wordR (rs.getD i 0) = false) ∧ (∀ i, T ≤ i → i < m → wordR (rs.getD i 0) = true) ∧ (0 < m → wordR (rs.getD (m - 1) 0) = true) ∧ (0 < T → wordR (rs.getD (T - 1) 0) = false) := by
  obtain ⟨h1, h2, h3⟩ := backF_spec (fun r => !wordR r) rs k
  obtain ⟨g1, g2, g3⟩ := backF_spec wordR rs (backF (fun r => !wordR r) rs k)
  exact ⟨_, _, rfl, g1, h1, fun i hi hj => by simpa using h2 i hi hj, g2, fun h => by simpa using h3 h, g3⟩

theorem wordy_any (r : Int) (w : World) :
    Calls Tryd.prog 16 #[.int .i32 r] w fun e w' => e = .returned (.bool (wordR r)) ∧ w' = w := by
  go_enter Tryd.func16, Tryd.ntmps16
  by_cases q1 : r = 95
  · have q2 : (r == 95) = true := by simp [q1]
    go_wp2
    all_goals go_ret
    all_goals exact ⟨congrArg (fun b => Ending.returned (.bool b)) (by unfold wordR; first | exact (decide_eq_true (by omega)).symm | exact decide_eq_decide.2 (by omega)), rfl⟩
  · have q2 : (r == 95) = false := by simp [q1]
    go_wp2
    all_goals go_ret
    all_goals exact ⟨congrArg (fun b => Ending.returned (.bool b)) (by unfold wordR; first | exact (decide_eq_true (by omega)).symm | exact decide_eq_decide.2 (by omega) | (rw [Bool.eq_iff_iff]; simp only [Bool.or_eq_true, decide_eq_true_eq]; omega)), rfl⟩

set_option maxHeartbeats 4000000 in
set_option maxRecDepth 100000 in
theorem words_any (o n : Value) (zo : List Int) (k : Int) (raw : ByteArray) (b : Int) (w : World) (ho : Ints w o zo) (h4 : zo.length * 4 ≤ 140737488351232) (hw : Bar w) (hq : Wlk w) (kk : Nat) (hkk : kk ≤ zo.length) (hmod : k % ((zo.length : Int) + 1) = kk) :
    Calls Tryd.prog 7 #[.agg #[o, n, .int .i64 k, .string raw, .int .u8 b]] w fun e w' => e = .returned (.bool true) ∧ Below w.heap.size w w' := by
  have HM : Hid (k % ((zo.length : Int) + 1) = kk) := hmod
  clear hmod
  have hts := txt_size zo
  have hT := isText_txt zo
  have HL : Hid ((zo.map letR).length = zo.length) := List.length_map ..
  go_enter Tryd.func7, Tryd.ntmps7
  go_wp2_with fail
  refine (let_ints o zo _ (ho.mono ((Below.refl _ _).alloc (Nat.le_refl _) _)) h4).mono ?_
  rintro e w2 ⟨a, cap, rfl, hown, hb2⟩
  have hcv := conv_let hown
  have hr2 := row_of_own hown
  have hc2 : w2.cell? ⟨w.heap.size, 2, none⟩ = some (.int .i64 k) := (hb2.cell (p := ⟨w.heap.size, 2, none⟩) (by simp)).trans (World.cell?_alloc_mark _ _ _ _ _)
  have hB2 : Below w.heap.size w w2 := ((Below.refl _ _).alloc (Nat.le_refl _) _).trans (hb2.mono (by simp))
  have hw2 : Bar w2 := (hw.alloc _).below hb2
  have hq2 : Wlk w2 := (hq.below ((Below.refl _ _).alloc (Nat.le_refl _) _)).below hb2
  clear hb2 ho hw hown hq
  generalize txt zo = s at *
  generalize zo.map letR = rs at *
  have hkr : kk ≤ rs.length := by rw [HL.out]; exact hkk
  have hrz : rs.length ≤ zo.length := by rw [HL.out]; exact Nat.le_refl _
  go_wp2_with (go_at_call 11; refine (pick_all _ _ (by omega) (by omega) _).mono ?_; rintro e w' ⟨rfl, rfl⟩; rw [HM.out])
  refine (step_wordRight hT (by omega) (by omega) kk hkr _ hw2 hq2).mono ?_
  rintro e w3 ⟨rfl, hb3⟩
  have hw3 := hw2.below hb3
  have hq3 := hq2.below hb3
  have hr3 := hr2.below hb3
  have hB3 := hB2.trans (hb3.mono hB2.size)
  clear hw2 hq2 hr2 hB2 hb3
  obtain ⟨m, T, hTe, hkm, hmT, hTl, hno, hyes, hm2, hT2⟩ := word_on rs kk hkr
  have HN : Hid (∀ i, kk ≤ i → i < m → wordR (rs.getD i 0) = false) := hno
  have HY : Hid (∀ i, m ≤ i → i < T → wordR (rs.getD i 0) = true) := hyes
  have HM2 : Hid (m < rs.length → wordR (rs.getD m 0) = true) := hm2
  have HT2 : Hid (T < rs.length → wordR (rs.getD T 0) = false) := hT2
  rw [hTe]
  clear hTe hno hyes hm2 hT2
  have hTz : T ≤ zo.length := by omega
  have hcap := hr3.room
  by_cases hz : T < rs.length
  · have hz2 : T < zo.length := by omega
    have hmz : m < zo.length := by omega
    have hmT2 : m < T := by
      rcases Nat.lt_or_ge m T with h | h
      · exact h
      · have e : m = T := by omega
        have h1 := HM2.out (by omega)
        have h2 := HT2.out hz
        rw [e, h2] at h1
        cases h1
    obtain ⟨q, rfl⟩ : ∃ q, T = q + 1 := ⟨T - 1, by omega⟩
    obtain ⟨g, off, ea, _, hca1⟩ := hr3.cells (q + 1) (by omega)
    first | subst ea | (simp only [Option.some.injEq, Addr.mk.injEq, and_true] at ea; obtain ⟨rfl, rfl⟩ := ea)
    obtain ⟨g', off', e', _, hca0⟩ := hr3.cells q (by omega)
    simp only [Option.some.injEq, Addr.mk.injEq, and_true] at e'
    obtain ⟨rfl, rfl⟩ := e'
    have V1 : Hid (wordR (rs.getD (q + 1) 0) = false) := HT2.out hz
    have V0 : Hid (wordR (rs.getD q 0) = true) := HY.out q (by omega) (by omega)
    have ec : ((q + 1 : Nat) : Int) = (q : Int) + 1 := by omega
    rw [ec]
    have ECq : Hid (((q + 1 : Nat) : Int) = (q : Int) + 1) := ec
    clear ec
    have tk : (((q : Int) + 1) == (kk : Int)) = false := beq_eq_false_iff_ne.2 (by omega)
    generalize rs.getD (q + 1) 0 = x1 at V1 hca1
    generalize rs.getD q 0 = x0 at V0 hca0
    go_wp2_with (go_at_call 16; refine (wordy_any _ _).mono ?_; rintro e w' ⟨rfl, rfl⟩; first | rw [V1.out] | rw [V0.out])
    go_loop [8] (fun v => ∃ i : Nat, kk + 1 ≤ i ∧ (i ≤ (q + 1) ∨ i = kk + 1) ∧ v = .int .i64 i) (fun v => (q + 1) - (intOf v).toNat)
    case atStart => exact ⟨kk + 1, Nat.le_refl _, .inr rfl, by go_num⟩
    case round =>
      obtain ⟨i, hi1, hi2, rfl⟩ := hrel
      by_cases hiT : i < (q + 1)
      · obtain ⟨j, rfl⟩ : ∃ j, i = j + 1 := ⟨i - 1, by omega⟩
        obtain ⟨g, off, ea, _, hcl1⟩ := hr3.cells (j + 1) (by omega)
        first | subst ea | (simp only [Option.some.injEq, Addr.mk.injEq, and_true] at ea; obtain ⟨rfl, rfl⟩ := ea)
        obtain ⟨g', off', e', _, hcl0⟩ := hr3.cells j (by omega)
        simp only [Option.some.injEq, Addr.mk.injEq, and_true] at e'
        obtain ⟨rfl, rfl⟩ := e'
        have ec : ((j + 1 : Nat) : Int) = (j : Int) + 1 := by omega
        rw [ec]
        have ECj : Hid (((j + 1 : Nat) : Int) = (j : Int) + 1) := ec
        clear ec
        by_cases hjm : j < m
        · have V0 : Hid (wordR (rs.getD j 0) = false) := HN.out j (by omega) hjm
          generalize rs.getD j 0 = z0 at V0 hcl0
          go_wp2_with (go_at_call 16; refine (wordy_any _ _).mono ?_; rintro e w' ⟨rfl, rfl⟩; rw [V0.out])
          go_round
          case rel => exact ⟨j + 1 + 1, by omega, .inl (by omega), by go_num⟩
          case measure => simp [intOf]; omega
        · have V0 : Hid (wordR (rs.getD j 0) = true) := HY.out j (by omega) (by omega)
          have V1 : Hid (wordR (rs.getD (j + 1) 0) = true) := HY.out (j + 1) (by omega) (by omega)
          generalize rs.getD j 0 = z0 at V0 hcl0
          generalize rs.getD (j + 1) 0 = z1 at V1 hcl1
          go_wp2_with (go_at_call 16; refine (wordy_any _ _).mono ?_; rintro e w' ⟨rfl, rfl⟩; first | rw [V0.out] | rw [V1.out])
          go_round
          case rel => exact ⟨j + 1 + 1, by omega, .inl (by omega), by go_num⟩
          case measure => simp [intOf]; omega
      · have hiN : ¬ ((i : Int) < (((q + 1) : Nat) : Int)) := by omega
        go_wp2_with fail
        refine (step_wordLeft hT (by omega) (by omega) kk hkr _ (by assumption) (by assumption)).mono ?_
        rintro e w4 ⟨rfl, hb4⟩
        have hr4 := hr3.below hb4
        have hB4 := hB3.trans (hb4.mono hB3.size)
        clear hb4
        obtain ⟨m', T', hTe', hTm', hmk', hno', hyes', hm2', hT2'⟩ := word_back rs kk
        have HN' : Hid (∀ i, m' ≤ i → i < kk → wordR (rs.getD i 0) = false) := hno'
        have HY' : Hid (∀ i, T' ≤ i → i < m' → wordR (rs.getD i 0) = true) := hyes'
        rw [hTe']
        clear hTe' hno' hyes'
        have hcap4 := hr4.room
        cases T' with
        | zero =>
          clear hm2' hT2'
          go_wp2_with fail
          go_loop [11] (fun v => ∃ i : Nat, 0 + 1 ≤ i ∧ (i ≤ kk ∨ i = 0 + 1) ∧ v = .int .i64 i) (fun v => kk - (intOf v).toNat)
          case atStart => exact ⟨0 + 1, Nat.le_refl _, .inr rfl, by go_num⟩
          case round =>
            obtain ⟨i, hi1, hi2, rfl⟩ := hrel
            by_cases hiT : i < kk
            · obtain ⟨j, rfl⟩ : ∃ j, i = j + 1 := ⟨i - 1, by omega⟩
              obtain ⟨g, off, ea, _, hcl1⟩ := hr4.cells (j + 1) (by omega)
              first | subst ea | (simp only [Option.some.injEq, Addr.mk.injEq, and_true] at ea; obtain ⟨rfl, rfl⟩ := ea)
              obtain ⟨g', off', e', _, hcl0⟩ := hr4.cells j (by omega)
              simp only [Option.some.injEq, Addr.mk.injEq, and_true] at e'
              obtain ⟨rfl, rfl⟩ := e'
              have ec : ((j + 1 : Nat) : Int) = (j : Int) + 1 := by omega
              rw [ec]
              have ECj : Hid (((j + 1 : Nat) : Int) = (j : Int) + 1) := ec
              clear ec
              by_cases hjm : j < m'
              · have V0 : Hid (wordR (rs.getD j 0) = true) := HY'.out j (by omega) hjm
                generalize rs.getD j 0 = z0 at V0 hcl0
                go_wp2_with (go_at_call 16; refine (wordy_any _ _).mono ?_; rintro e w' ⟨rfl, rfl⟩; rw [V0.out])
                go_round
                case rel => exact ⟨j + 1 + 1, by omega, .inl (by omega), by go_num⟩
                case measure => simp [intOf]; omega
              · have V0 : Hid (wordR (rs.getD j 0) = false) := HN'.out j (by omega) (by omega)
                have V1 : Hid (wordR (rs.getD (j + 1) 0) = false) := HN'.out (j + 1) (by omega) (by omega)
                generalize rs.getD j 0 = z0 at V0 hcl0
                generalize rs.getD (j + 1) 0 = z1 at V1 hcl1
                go_wp2_with (go_at_call 16; refine (wordy_any _ _).mono ?_; rintro e w' ⟨rfl, rfl⟩; first | rw [V0.out] | rw [V1.out])
                go_round
                case rel => exact ⟨j + 1 + 1, by omega, .inl (by omega), by go_num⟩
                case measure => simp [intOf]; omega
            · have hiN : ¬ ((i : Int) < ((kk : Nat) : Int)) := by omega
              go_wp2_with fail
              go_ret
              exact ⟨rfl, hB4⟩
        | succ q' =>
          have hlt : q' + 1 < m' := by
            rcases Nat.lt_or_ge (q' + 1) m' with h | h
            · exact h
            · have e : m' = q' + 1 := by omega
              have h1 := hm2' (by omega)
              have h2 := hT2' (by omega)
              rw [e, h2] at h1
              cases h1
          have V1' : Hid (wordR (rs.getD (q' + 1) 0) = true) := HY'.out (q' + 1) (by omega) hlt
          have V0' : Hid (wordR (rs.getD q' 0) = false) := hT2' (by omega)
          clear hm2' hT2'
          obtain ⟨g, off, ea, _, hcb1⟩ := hr4.cells (q' + 1) (by omega)
          first | subst ea | (simp only [Option.some.injEq, Addr.mk.injEq, and_true] at ea; obtain ⟨rfl, rfl⟩ := ea)
          obtain ⟨g', off', e', _, hcb0⟩ := hr4.cells q' (by omega)
          simp only [Option.some.injEq, Addr.mk.injEq, and_true] at e'
          obtain ⟨rfl, rfl⟩ := e'
          have ec : ((q' + 1 : Nat) : Int) = (q' : Int) + 1 := by omega
          rw [ec]
          have ECq' : Hid (((q' + 1 : Nat) : Int) = (q' : Int) + 1) := ec
          clear ec
          have tk' : (((q' : Int) + 1) == (kk : Int)) = false := beq_eq_false_iff_ne.2 (by omega)
          generalize rs.getD (q' + 1) 0 = y1 at V1' hcb1
          generalize rs.getD q' 0 = y0 at V0' hcb0
          go_wp2_with (go_at_call 16; refine (wordy_any _ _).mono ?_; rintro e w' ⟨rfl, rfl⟩; first | rw [V1'.out] | rw [V0'.out])
          go_loop [11] (fun v => ∃ i : Nat, (q' + 1) + 1 ≤ i ∧ (i ≤ kk ∨ i = (q' + 1) + 1) ∧ v = .int .i64 i) (fun v => kk - (intOf v).toNat)
          case atStart => exact ⟨(q' + 1) + 1, Nat.le_refl _, .inr rfl, by go_num⟩
          case round =>
            obtain ⟨i, hi1, hi2, rfl⟩ := hrel
            by_cases hiT : i < kk
            · obtain ⟨j, rfl⟩ : ∃ j, i = j + 1 := ⟨i - 1, by omega⟩
              obtain ⟨g, off, ea, _, hcl1⟩ := hr4.cells (j + 1) (by omega)
              first | subst ea | (simp only [Option.some.injEq, Addr.mk.injEq, and_true] at ea; obtain ⟨rfl, rfl⟩ := ea)
              obtain ⟨g', off', e', _, hcl0⟩ := hr4.cells j (by omega)
              simp only [Option.some.injEq, Addr.mk.injEq, and_true] at e'
              obtain ⟨rfl, rfl⟩ := e'
              have ec : ((j + 1 : Nat) : Int) = (j : Int) + 1 := by omega
              rw [ec]
              have ECj : Hid (((j + 1 : Nat) : Int) = (j : Int) + 1) := ec
              clear ec
              by_cases hjm : j < m'
              · have V0 : Hid (wordR (rs.getD j 0) = true) := HY'.out j (by omega) hjm
                generalize rs.getD j 0 = z0 at V0 hcl0
                go_wp2_with (go_at_call 16; refine (wordy_any _ _).mono ?_; rintro e w' ⟨rfl, rfl⟩; rw [V0.out])
                go_round
                case rel => exact ⟨j + 1 + 1, by omega, .inl (by omega), by go_num⟩
                case measure => simp [intOf]; omega
              · have V0 : Hid (wordR (rs.getD j 0) = false) := HN'.out j (by omega) (by omega)
                have V1 : Hid (wordR (rs.getD (j + 1) 0) = false) := HN'.out (j + 1) (by omega) (by omega)
                generalize rs.getD j 0 = z0 at V0 hcl0
                generalize rs.getD (j + 1) 0 = z1 at V1 hcl1
                go_wp2_with (go_at_call 16; refine (wordy_any _ _).mono ?_; rintro e w' ⟨rfl, rfl⟩; first | rw [V0.out] | rw [V1.out])
                go_round
                case rel => exact ⟨j + 1 + 1, by omega, .inl (by omega), by go_num⟩
                case measure => simp [intOf]; omega
            · have hiN : ¬ ((i : Int) < ((kk : Nat) : Int)) := by omega
              go_wp2_with fail
              go_ret
              exact ⟨rfl, hB4⟩
  · have hz2 : ¬ ((T : Int) < (zo.length : Int)) := by have := HL.out; omega
    have d1 : decide (T < kk) = false := decide_eq_false (by omega)
    have d2 : decide (zo.length < T) = false := decide_eq_false (by omega)
    go_wp2_with fail
    go_loop [8] (fun v => ∃ i : Nat, kk + 1 ≤ i ∧ (i ≤ T ∨ i = kk + 1) ∧ v = .int .i64 i) (fun v => T - (intOf v).toNat)
    case atStart => exact ⟨kk + 1, Nat.le_refl _, .inr rfl, by go_num⟩
    case round =>
      obtain ⟨i, hi1, hi2, rfl⟩ := hrel
      by_cases hiT : i < T
      · obtain ⟨j, rfl⟩ : ∃ j, i = j + 1 := ⟨i - 1, by omega⟩
        obtain ⟨g, off, ea, _, hcl1⟩ := hr3.cells (j + 1) (by omega)
        first | subst ea | (simp only [Option.some.injEq, Addr.mk.injEq, and_true] at ea; obtain ⟨rfl, rfl⟩ := ea)
        obtain ⟨g', off', e', _, hcl0⟩ := hr3.cells j (by omega)
        simp only [Option.some.injEq, Addr.mk.injEq, and_true] at e'
        obtain ⟨rfl, rfl⟩ := e'
        have ec : ((j + 1 : Nat) : Int) = (j : Int) + 1 := by omega
        rw [ec]
        have ECj : Hid (((j + 1 : Nat) : Int) = (j : Int) + 1) := ec
        clear ec
        by_cases hjm : j < m
        · have V0 : Hid (wordR (rs.getD j 0) = false) := HN.out j (by omega) hjm
          generalize rs.getD j 0 = z0 at V0 hcl0
          go_wp2_with (go_at_call 16; refine (wordy_any _ _).mono ?_; rintro e w' ⟨rfl, rfl⟩; rw [V0.out])
          go_round
          case rel => exact ⟨j + 1 + 1, by omega, .inl (by omega), by go_num⟩
          case measure => simp [intOf]; omega
        · have V0 : Hid (wordR (rs.getD j 0) = true) := HY.out j (by omega) (by omega)
          have V1 : Hid (wordR (rs.getD (j + 1) 0) = true) := HY.out (j + 1) (by omega) (by omega)
          generalize rs.getD j 0 = z0 at V0 hcl0
          generalize rs.getD (j + 1) 0 = z1 at V1 hcl1
          go_wp2_with (go_at_call 16; refine (wordy_any _ _).mono ?_; rintro e w' ⟨rfl, rfl⟩; first | rw [V0.out] | rw [V1.out])
          go_round
          case rel => exact ⟨j + 1 + 1, by omega, .inl (by omega), by go_num⟩
          case measure => simp [intOf]; omega
      · have hiN : ¬ ((i : Int) < ((T : Nat) : Int)) := by omega
        go_wp2_with fail
        refine (step_wordLeft hT (by omega) (by omega) kk hkr _ (by assumption) (by assumption)).mono ?_
        rintro e w4 ⟨rfl, hb4⟩
        have hr4 := hr3.below hb4
        have hB4 := hB3.trans (hb4.mono hB3.size)
        clear hb4
        obtain ⟨m', T', hTe', hTm', hmk', hno', hyes', hm2', hT2'⟩ := word_back rs kk
        have HN' : Hid (∀ i, m' ≤ i → i < kk → wordR (rs.getD i 0) = false) := hno'
        have HY' : Hid (∀ i, T' ≤ i → i < m' → wordR (rs.getD i 0) = true) := hyes'
        rw [hTe']
        clear hTe' hno' hyes'
        have hcap4 := hr4.room
        cases T' with
        | zero =>
          clear hm2' hT2'
          go_wp2_with fail
          go_loop [11] (fun v => ∃ i : Nat, 0 + 1 ≤ i ∧ (i ≤ kk ∨ i = 0 + 1) ∧ v = .int .i64 i) (fun v => kk - (intOf v).toNat)
          case atStart => exact ⟨0 + 1, Nat.le_refl _, .inr rfl, by go_num⟩
          case round =>
            obtain ⟨i, hi1, hi2, rfl⟩ := hrel
            by_cases hiT : i < kk
            · obtain ⟨j, rfl⟩ : ∃ j, i = j + 1 := ⟨i - 1, by omega⟩
              obtain ⟨g, off, ea, _, hcl1⟩ := hr4.cells (j + 1) (by omega)
              first | subst ea | (simp only [Option.some.injEq, Addr.mk.injEq, and_true] at ea; obtain ⟨rfl, rfl⟩ := ea)
              obtain ⟨g', off', e', _, hcl0⟩ := hr4.cells j (by omega)
              simp only [Option.some.injEq, Addr.mk.injEq, and_true] at e'
              obtain ⟨rfl, rfl⟩ := e'
              have ec : ((j + 1 : Nat) : Int) = (j : Int) + 1 := by omega
              rw [ec]
              have ECj : Hid (((j + 1 : Nat) : Int) = (j : Int) + 1) := ec
              clear ec
              by_cases hjm : j < m'
              · have V0 : Hid (wordR (rs.getD j 0) = true) := HY'.out j (by omega) hjm
                generalize rs.getD j 0 = z0 at V0 hcl0
                go_wp2_with (go_at_call 16; refine (wordy_any _ _).mono ?_; rintro e w' ⟨rfl, rfl⟩; rw [V0.out])
                go_round
                case rel => exact ⟨j + 1 + 1, by omega, .inl (by omega), by go_num⟩
                case measure => simp [intOf]; omega
              · have V0 : Hid (wordR (rs.getD j 0) = false) := HN'.out j (by omega) (by omega)
                have V1 : Hid (wordR (rs.getD (j + 1) 0) = false) := HN'.out (j + 1) (by omega) (by omega)
                generalize rs.getD j 0 = z0 at V0 hcl0
                generalize rs.getD (j + 1) 0 = z1 at V1 hcl1
                go_wp2_with (go_at_call 16; refine (wordy_any _ _).mono ?_; rintro e w' ⟨rfl, rfl⟩; first | rw [V0.out] | rw [V1.out])
                go_round
                case rel => exact ⟨j + 1 + 1, by omega, .inl (by omega), by go_num⟩
                case measure => simp [intOf]; omega
            · have hiN : ¬ ((i : Int) < ((kk : Nat) : Int)) := by omega
              go_wp2_with fail
              go_ret
              exact ⟨rfl, hB4⟩
        | succ q' =>
          have hlt : q' + 1 < m' := by
            rcases Nat.lt_or_ge (q' + 1) m' with h | h
            · exact h
            · have e : m' = q' + 1 := by omega
              have h1 := hm2' (by omega)
              have h2 := hT2' (by omega)
              rw [e, h2] at h1
              cases h1
          have V1' : Hid (wordR (rs.getD (q' + 1) 0) = true) := HY'.out (q' + 1) (by omega) hlt
          have V0' : Hid (wordR (rs.getD q' 0) = false) := hT2' (by omega)
          clear hm2' hT2'
          obtain ⟨g, off, ea, _, hcb1⟩ := hr4.cells (q' + 1) (by omega)
          first | subst ea | (simp only [Option.some.injEq, Addr.mk.injEq, and_true] at ea; obtain ⟨rfl, rfl⟩ := ea)
          obtain ⟨g', off', e', _, hcb0⟩ := hr4.cells q' (by omega)
          simp only [Option.some.injEq, Addr.mk.injEq, and_true] at e'
          obtain ⟨rfl, rfl⟩ := e'
          have ec : ((q' + 1 : Nat) : Int) = (q' : Int) + 1 := by omega
          rw [ec]
          have ECq' : Hid (((q' + 1 : Nat) : Int) = (q' : Int) + 1) := ec
          clear ec
          have tk' : (((q' : Int) + 1) == (kk : Int)) = false := beq_eq_false_iff_ne.2 (by omega)
          generalize rs.getD (q' + 1) 0 = y1 at V1' hcb1
          generalize rs.getD q' 0 = y0 at V0' hcb0
          go_wp2_with (go_at_call 16; refine (wordy_any _ _).mono ?_; rintro e w' ⟨rfl, rfl⟩; first | rw [V1'.out] | rw [V0'.out])
          go_loop [11] (fun v => ∃ i : Nat, (q' + 1) + 1 ≤ i ∧ (i ≤ kk ∨ i = (q' + 1) + 1) ∧ v = .int .i64 i) (fun v => kk - (intOf v).toNat)
          case atStart => exact ⟨(q' + 1) + 1, Nat.le_refl _, .inr rfl, by go_num⟩
          case round =>
            obtain ⟨i, hi1, hi2, rfl⟩ := hrel
            by_cases hiT : i < kk
            · obtain ⟨j, rfl⟩ : ∃ j, i = j + 1 := ⟨i - 1, by omega⟩
              obtain ⟨g, off, ea, _, hcl1⟩ := hr4.cells (j + 1) (by omega)
              first | subst ea | (simp only [Option.some.injEq, Addr.mk.injEq, and_true] at ea; obtain ⟨rfl, rfl⟩ := ea)
              obtain ⟨g', off', e', _, hcl0⟩ := hr4.cells j (by omega)
              simp only [Option.some.injEq, Addr.mk.injEq, and_true] at e'
              obtain ⟨rfl, rfl⟩ := e'
              have ec : ((j + 1 : Nat) : Int) = (j : Int) + 1 := by omega
              rw [ec]
              have ECj : Hid (((j + 1 : Nat) : Int) = (j : Int) + 1) := ec
              clear ec
              by_cases hjm : j < m'
              · have V0 : Hid (wordR (rs.getD j 0) = true) := HY'.out j (by omega) hjm
                generalize rs.getD j 0 = z0 at V0 hcl0
                go_wp2_with (go_at_call 16; refine (wordy_any _ _).mono ?_; rintro e w' ⟨rfl, rfl⟩; rw [V0.out])
                go_round
                case rel => exact ⟨j + 1 + 1, by omega, .inl (by omega), by go_num⟩
                case measure => simp [intOf]; omega
              · have V0 : Hid (wordR (rs.getD j 0) = false) := HN'.out j (by omega) (by omega)
                have V1 : Hid (wordR (rs.getD (j + 1) 0) = false) := HN'.out (j + 1) (by omega) (by omega)
                generalize rs.getD j 0 = z0 at V0 hcl0
                generalize rs.getD (j + 1) 0 = z1 at V1 hcl1
                go_wp2_with (go_at_call 16; refine (wordy_any _ _).mono ?_; rintro e w' ⟨rfl, rfl⟩; first | rw [V0.out] | rw [V1.out])
                go_round
                case rel => exact ⟨j + 1 + 1, by omega, .inl (by omega), by go_num⟩
                case measure => simp [intOf]; omega
            · have hiN : ¬ ((i : Int) < ((kk : Nat) : Int)) := by omega
              go_wp2_with fail
              go_ret
              exact ⟨rfl, hB4⟩
theorem words_all (o n : Value) (zo : List Int) (k : Int) (raw : ByteArray) (b : Int) (w : World) (ho : Ints w o zo) (h4 : zo.length * 4 ≤ 140737488351232) (hw : Bar w) (hq : Wlk w) :
    Calls Tryd.prog 7 #[.agg #[o, n, .int .i64 k, .string raw, .int .u8 b]] w fun e w' => e = .returned (.bool true) ∧ Below w.heap.size w w' := by
  obtain ⟨kk, h1, h2⟩ := mod_nat k zo.length
  exact words_any o n zo k raw b w ho h4 hw hq kk h1 h2
end Go.Proofs.YtfakfmmngflbfaaDoor
