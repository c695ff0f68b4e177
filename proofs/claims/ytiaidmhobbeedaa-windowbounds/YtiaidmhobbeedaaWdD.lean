import Derived.Test.YtiaidmhobbeedaaWdC
/-! WindowBounds, where the room is right. -/
namespace Go.Proofs.Ytiaidmhobbeedaa
open Go.RowKit Go.Lib
set_option maxRecDepth 100000


set_option maxHeartbeats 1000000 in
theorem bounds_old (n s k : Int) (h0 : 0 ≤ n) (h1 : n ≤ 1048576) (h2 : 1 ≤ s) (h3 : s ≤ 1048576) (hk : k ≤ 9223372036854775807) (hc : k < n) (w : World) : Calls Try.prog 5 #[.int .i64 n, .int .i64 s, .int .i64 k] w fun e w' => e = .returned (.bool true) ∧ Below w.heap.size w w' := by
  have HN : Hid (∀ w, Calls Try.prog 11 #[.int .i64 n, .int .i64 s] w fun e w' => e = .returned (.tuple #[.pointer (some ⟨w.heap.size + 1, 0, none⟩), .int .i64 0]) ∧ WinI w' (w.heap.size + 1) w.heap.size ⟨n, s, []⟩ ∧ Below w.heap.size w w' ∧ w'.heap.size = w.heap.size + 2) := fun w => newI_ok n s h0 h1 h2 h3 w
  have HX : Hid (∀ w, Calls Try.prog 11 #[.int .i64 3, .int .i64 2] w fun e w' => e = .returned (.tuple #[.pointer (some ⟨w.heap.size + 1, 0, none⟩), .int .i64 0]) ∧ Below w.heap.size w w') := fun w => (newI_ok 3 2 (by decide) (by decide) (by decide) (by decide) w).mono (by rintro e w' ⟨h1, _, h2, _⟩; exact ⟨h1, h2⟩)
  have HK : Hid (k ≤ 9223372036854775807 ∧ n ≤ 1048576) := ⟨hk, h1⟩
  have HE : Hid (putE (⟨n, s, []⟩ : Wn Int) k = 130) := by show putE _ _ = _; simp [putE, hc]
  clear hk
  go_enter Try.func5, Try.ntmps5
  go_wp2_with fail
  refine (HN.out _).mono ?_
  rintro e w1 ⟨rfl, k1, k2, k3⟩
  have H1 : Hid (WinI w1 (w.heap.size + 1) w.heap.size ⟨n, s, []⟩ ∧ Below w.heap.size w w1) := ⟨k1, k2⟩
  clear k1 k2 k3
  go_wp2_with fail
  refine (HX.out _).mono ?_
  rintro e w2 ⟨rfl, k2⟩
  have H2 : Hid (WinI w2 (w.heap.size + 1) w.heap.size ⟨n, s, []⟩ ∧ Below w.heap.size w w2) := ⟨H1.out.1.below k2, H1.out.2.trans (k2.mono H1.out.2.size)⟩
  clear k2 H1
  go_wp2_with fail
  refine (nextI H2.out.1).mono ?_
  rintro e w3 ⟨rfl, hw⟩
  obtain rfl := hw.symm
  clear hw
  go_wp2_with fail
  refine (heldI H2.out.1 (by have := HK.out.2; show n ≤ _; omega)).mono ?_
  rintro e w4 ⟨v, rfl, hv, hb⟩
  obtain ⟨va, vc, rfl⟩ := hv.shape
  have H3 : Hid (WinI w4 (w.heap.size + 1) w.heap.size ⟨n, s, []⟩ ∧ Below w.heap.size w w4) := ⟨H2.out.1.below hb, H2.out.2.trans (hb.mono H2.out.2.size)⟩
  clear hv hb H2
  simp only [srt_nil, List.length_nil]
  go_wp2_with fail
  refine (putI H3.out.1 k 1 HK.out.1).mono ?_
  rintro e w5 ⟨rfl, k1, k2, k3⟩
  rw [HE.out]
  simp only [putS, HE.out] at k1
  have H4 : Hid (WinI w5 (w.heap.size + 1) w.heap.size ⟨n, s, []⟩ ∧ Below w.heap.size w w5) := ⟨k1, H3.out.2.trans (k2.below (fun g hg => by rcases hg with rfl | rfl <;> omega) H3.out.2.size)⟩
  clear k1 k2 k3 H3
  go_wp2_with fail
  refine (heldI H4.out.1 (by have := HK.out.2; show n ≤ _; omega)).mono ?_
  rintro e w6 ⟨v, rfl, hv, hb⟩
  obtain ⟨vb, vd, rfl⟩ := hv.shape
  have H5 : Hid (Below w.heap.size w w6) := H4.out.2.trans (hb.mono H4.out.2.size)
  clear hv hb H4
  simp only [srt_nil, List.length_nil]
  go_wp2_with fail
  go_ret
  exact ⟨rfl, H5.out⟩

set_option maxHeartbeats 1000000 in
theorem bounds_far (n s k : Int) (h0 : 0 ≤ n) (h1 : n ≤ 1048576) (h2 : 1 ≤ s) (h3 : s ≤ 1048576) (hk : k ≤ 9223372036854775807) (hc : n ≤ k) (hf : s ≤ k - n) (w : World) : Calls Try.prog 5 #[.int .i64 n, .int .i64 s, .int .i64 k] w fun e w' => e = .returned (.bool true) ∧ Below w.heap.size w w' := by
  have HN : Hid (∀ w, Calls Try.prog 11 #[.int .i64 n, .int .i64 s] w fun e w' => e = .returned (.tuple #[.pointer (some ⟨w.heap.size + 1, 0, none⟩), .int .i64 0]) ∧ WinI w' (w.heap.size + 1) w.heap.size ⟨n, s, []⟩ ∧ Below w.heap.size w w' ∧ w'.heap.size = w.heap.size + 2) := fun w => newI_ok n s h0 h1 h2 h3 w
  have HX : Hid (∀ w, Calls Try.prog 11 #[.int .i64 3, .int .i64 2] w fun e w' => e = .returned (.tuple #[.pointer (some ⟨w.heap.size + 1, 0, none⟩), .int .i64 0]) ∧ Below w.heap.size w w') := fun w => (newI_ok 3 2 (by decide) (by decide) (by decide) (by decide) w).mono (by rintro e w' ⟨h1, _, h2, _⟩; exact ⟨h1, h2⟩)
  have HK : Hid (k ≤ 9223372036854775807 ∧ n ≤ 1048576) := ⟨hk, h1⟩
  have HE : Hid (putE (⟨n, s, []⟩ : Wn Int) k = 132) := by
    have g1 : ¬ k < n := by omega
    show putE _ _ = _; simp [putE, hf, g1]
  have g1 : ¬ k < n := by omega
  obtain ⟨d, hd⟩ : ∃ d, k - n = d := ⟨_, rfl⟩
  have g2 : IntKind.i64.wrap (k - n) = d := by rw [hd]; exact IntWalk.i64_in _ (by omega)
  have g3 : s ≤ d := by omega
  have hd' : Hid (k - n = d) := hd
  clear hd hf hc
  clear hk
  go_enter Try.func5, Try.ntmps5
  go_wp2_with fail
  refine (HN.out _).mono ?_
  rintro e w1 ⟨rfl, k1, k2, k3⟩
  have H1 : Hid (WinI w1 (w.heap.size + 1) w.heap.size ⟨n, s, []⟩ ∧ Below w.heap.size w w1) := ⟨k1, k2⟩
  clear k1 k2 k3
  go_wp2_with fail
  refine (HX.out _).mono ?_
  rintro e w2 ⟨rfl, k2⟩
  have H2 : Hid (WinI w2 (w.heap.size + 1) w.heap.size ⟨n, s, []⟩ ∧ Below w.heap.size w w2) := ⟨H1.out.1.below k2, H1.out.2.trans (k2.mono H1.out.2.size)⟩
  clear k2 H1
  go_wp2_with fail
  refine (nextI H2.out.1).mono ?_
  rintro e w3 ⟨rfl, hw⟩
  obtain rfl := hw.symm
  clear hw
  go_wp2_with fail
  refine (heldI H2.out.1 (by have := HK.out.2; show n ≤ _; omega)).mono ?_
  rintro e w4 ⟨v, rfl, hv, hb⟩
  obtain ⟨va, vc, rfl⟩ := hv.shape
  have H3 : Hid (WinI w4 (w.heap.size + 1) w.heap.size ⟨n, s, []⟩ ∧ Below w.heap.size w w4) := ⟨H2.out.1.below hb, H2.out.2.trans (hb.mono H2.out.2.size)⟩
  clear hv hb H2
  simp only [srt_nil, List.length_nil]
  go_wp2_with fail
  refine (putI H3.out.1 k 1 HK.out.1).mono ?_
  rintro e w5 ⟨rfl, k1, k2, k3⟩
  rw [HE.out]
  simp only [putS, HE.out] at k1
  have H4 : Hid (WinI w5 (w.heap.size + 1) w.heap.size ⟨n, s, []⟩ ∧ Below w.heap.size w w5) := ⟨k1, H3.out.2.trans (k2.below (fun g hg => by rcases hg with rfl | rfl <;> omega) H3.out.2.size)⟩
  clear k1 k2 k3 H3
  go_wp2_with fail
  refine (heldI H4.out.1 (by have := HK.out.2; show n ≤ _; omega)).mono ?_
  rintro e w6 ⟨v, rfl, hv, hb⟩
  obtain ⟨vb, vd, rfl⟩ := hv.shape
  have H5 : Hid (Below w.heap.size w w6) := H4.out.2.trans (hb.mono H4.out.2.size)
  clear hv hb H4
  simp only [srt_nil, List.length_nil]
  go_wp2_with fail
  go_ret
  exact ⟨rfl, H5.out⟩

set_option maxHeartbeats 1000000 in
theorem bounds_first (n s k : Int) (h0 : 0 ≤ n) (h1 : n ≤ 1048576) (h2 : 1 ≤ s) (h3 : s ≤ 1048576) (hk : k ≤ 9223372036854775807) (hc : k = n) (w : World) : Calls Try.prog 5 #[.int .i64 n, .int .i64 s, .int .i64 k] w fun e w' => e = .returned (.bool true) ∧ Below w.heap.size w w' := by
  have HN : Hid (∀ w, Calls Try.prog 11 #[.int .i64 n, .int .i64 s] w fun e w' => e = .returned (.tuple #[.pointer (some ⟨w.heap.size + 1, 0, none⟩), .int .i64 0]) ∧ WinI w' (w.heap.size + 1) w.heap.size ⟨n, s, []⟩ ∧ Below w.heap.size w w' ∧ w'.heap.size = w.heap.size + 2) := fun w => newI_ok n s h0 h1 h2 h3 w
  have HX : Hid (∀ w, Calls Try.prog 11 #[.int .i64 3, .int .i64 2] w fun e w' => e = .returned (.tuple #[.pointer (some ⟨w.heap.size + 1, 0, none⟩), .int .i64 0]) ∧ Below w.heap.size w w') := fun w => (newI_ok 3 2 (by decide) (by decide) (by decide) (by decide) w).mono (by rintro e w' ⟨h1, _, h2, _⟩; exact ⟨h1, h2⟩)
  have HK : Hid (k ≤ 9223372036854775807 ∧ n ≤ 1048576) := ⟨hk, h1⟩
  have HE : Hid (putE (⟨n, s, []⟩ : Wn Int) k = 0) := by
    have g1 : ¬ k < n := by omega
    have g4 : ¬ s ≤ k - n := by omega
    show putE _ _ = _; simp [putE, g1, g4, hasN]
  have HP : Hid ((if hasN [(k, (1 : Int))] n = true then (0 : Int) else 15) = 0) := by
    show (if _ then _ else _) = _
    have e : hasN [(k, (1 : Int))] n = (k == n) := by simp [hasN]
    rw [e]
    simp [hc]
  have g1 : ¬ k < n := by omega
  obtain ⟨d, hd⟩ : ∃ d, k - n = d := ⟨_, rfl⟩
  have g2 : IntKind.i64.wrap (k - n) = d := by rw [hd]; exact IntWalk.i64_in _ (by omega)
  have g3 : ¬ s ≤ d := by omega
  have g5 : (k == n) = true := by simp [hc]
  have hd' : Hid (k - n = d) := hd
  clear hd hc
  clear hk
  go_enter Try.func5, Try.ntmps5
  go_wp2_with fail
  refine (HN.out _).mono ?_
  rintro e w1 ⟨rfl, k1, k2, k3⟩
  have H1 : Hid (WinI w1 (w.heap.size + 1) w.heap.size ⟨n, s, []⟩ ∧ Below w.heap.size w w1) := ⟨k1, k2⟩
  clear k1 k2 k3
  go_wp2_with fail
  refine (HX.out _).mono ?_
  rintro e w2 ⟨rfl, k2⟩
  have H2 : Hid (WinI w2 (w.heap.size + 1) w.heap.size ⟨n, s, []⟩ ∧ Below w.heap.size w w2) := ⟨H1.out.1.below k2, H1.out.2.trans (k2.mono H1.out.2.size)⟩
  clear k2 H1
  go_wp2_with fail
  refine (nextI H2.out.1).mono ?_
  rintro e w3 ⟨rfl, hw⟩
  obtain rfl := hw.symm
  clear hw
  go_wp2_with fail
  refine (heldI H2.out.1 (by have := HK.out.2; show n ≤ _; omega)).mono ?_
  rintro e w4 ⟨v, rfl, hv, hb⟩
  obtain ⟨va, vc, rfl⟩ := hv.shape
  have H3 : Hid (WinI w4 (w.heap.size + 1) w.heap.size ⟨n, s, []⟩ ∧ Below w.heap.size w w4) := ⟨H2.out.1.below hb, H2.out.2.trans (hb.mono H2.out.2.size)⟩
  clear hv hb H2
  simp only [srt_nil, List.length_nil]
  go_wp2_with fail
  refine (putI H3.out.1 k 1 HK.out.1).mono ?_
  rintro e w5 ⟨rfl, k1, k2, k3⟩
  rw [HE.out]
  simp only [putS, HE.out, if_true, List.nil_append] at k1
  have H4 : Hid (WinI w5 (w.heap.size + 1) w.heap.size ⟨n, s, [(k, 1)]⟩ ∧ Below w.heap.size w w5) := ⟨k1, H3.out.2.trans (k2.below (fun g hg => by rcases hg with rfl | rfl <;> omega) H3.out.2.size)⟩
  clear k1 k2 k3 H3
  go_wp2_with fail
  refine (peekI H4.out.1).mono ?_
  rintro e w6 ⟨rfl, kk, rfl⟩
  rw [HP.out]
  generalize (getN [(k, (1 : Int))] n).getD 0 = pv
  have H5 : Hid (WinI (w5.drewN kk) (w.heap.size + 1) w.heap.size ⟨n, s, [(k, 1)]⟩ ∧ Below w.heap.size w (w5.drewN kk)) := ⟨H4.out.1.drewN _, below_drewN H4.out.2 _⟩
  generalize w5.drewN kk = w6 at *
  clear H4
  go_wp2_with fail
  refine (heldI H5.out.1 (by have := HK.out.2; show n ≤ _; omega)).mono ?_
  rintro e w7 ⟨v, rfl, hv, hb⟩
  obtain ⟨vb, vd, rfl⟩ := hv.shape
  simp only [srt_one, List.length_cons, List.length_nil] at hv ⊢
  obtain ⟨ga, off, x, hva, hgl, hx, hcell⟩ := (hv.rw_ layI).at 0 (by omega)
  have c0 : w7.cell? ⟨ga, off, none⟩ = some (.int .i64 k) := by
    simp at hx
    subst hx
    simpa [intV] using hcell 0 _ rfl
  subst hva
  have H6 : Hid (Below w.heap.size w w7) := H5.out.2.trans (hb.mono H5.out.2.size)
  clear hv hb H5 hcell hx hgl
  go_wp2_with fail
  go_ret
  exact ⟨rfl, H6.out⟩

set_option maxHeartbeats 1000000 in
theorem bounds_in (n s k : Int) (h0 : 0 ≤ n) (h1 : n ≤ 1048576) (h2 : 1 ≤ s) (h3 : s ≤ 1048576) (hk : k ≤ 9223372036854775807) (hc : n < k) (hf : k - n < s) (w : World) : Calls Try.prog 5 #[.int .i64 n, .int .i64 s, .int .i64 k] w fun e w' => e = .returned (.bool true) ∧ Below w.heap.size w w' := by
  have HN : Hid (∀ w, Calls Try.prog 11 #[.int .i64 n, .int .i64 s] w fun e w' => e = .returned (.tuple #[.pointer (some ⟨w.heap.size + 1, 0, none⟩), .int .i64 0]) ∧ WinI w' (w.heap.size + 1) w.heap.size ⟨n, s, []⟩ ∧ Below w.heap.size w w' ∧ w'.heap.size = w.heap.size + 2) := fun w => newI_ok n s h0 h1 h2 h3 w
  have HX : Hid (∀ w, Calls Try.prog 11 #[.int .i64 3, .int .i64 2] w fun e w' => e = .returned (.tuple #[.pointer (some ⟨w.heap.size + 1, 0, none⟩), .int .i64 0]) ∧ Below w.heap.size w w') := fun w => (newI_ok 3 2 (by decide) (by decide) (by decide) (by decide) w).mono (by rintro e w' ⟨h1, _, h2, _⟩; exact ⟨h1, h2⟩)
  have HK : Hid (k ≤ 9223372036854775807 ∧ n ≤ 1048576) := ⟨hk, h1⟩
  have HE : Hid (putE (⟨n, s, []⟩ : Wn Int) k = 0) := by
    have g1 : ¬ k < n := by omega
    have g4 : ¬ s ≤ k - n := by omega
    show putE _ _ = _; simp [putE, g1, g4, hasN]
  have HP : Hid ((if hasN [(k, (1 : Int))] n = true then (0 : Int) else 15) = 15) := by
    show (if _ then _ else _) = _
    have e : hasN [(k, (1 : Int))] n = (k == n) := by simp [hasN]
    rw [e]
    have : ¬ k = n := by omega
    simp [this]
  have g1 : ¬ k < n := by omega
  obtain ⟨d, hd⟩ : ∃ d, k - n = d := ⟨_, rfl⟩
  have g2 : IntKind.i64.wrap (k - n) = d := by rw [hd]; exact IntWalk.i64_in _ (by omega)
  have g3 : ¬ s ≤ d := by omega
  have g5 : (k == n) = false := beq_eq_false_iff_ne.2 (by omega)
  have hd' : Hid (k - n = d) := hd
  clear hd hc hf
  clear hk
  go_enter Try.func5, Try.ntmps5
  go_wp2_with fail
  refine (HN.out _).mono ?_
  rintro e w1 ⟨rfl, k1, k2, k3⟩
  have H1 : Hid (WinI w1 (w.heap.size + 1) w.heap.size ⟨n, s, []⟩ ∧ Below w.heap.size w w1) := ⟨k1, k2⟩
  clear k1 k2 k3
  go_wp2_with fail
  refine (HX.out _).mono ?_
  rintro e w2 ⟨rfl, k2⟩
  have H2 : Hid (WinI w2 (w.heap.size + 1) w.heap.size ⟨n, s, []⟩ ∧ Below w.heap.size w w2) := ⟨H1.out.1.below k2, H1.out.2.trans (k2.mono H1.out.2.size)⟩
  clear k2 H1
  go_wp2_with fail
  refine (nextI H2.out.1).mono ?_
  rintro e w3 ⟨rfl, hw⟩
  obtain rfl := hw.symm
  clear hw
  go_wp2_with fail
  refine (heldI H2.out.1 (by have := HK.out.2; show n ≤ _; omega)).mono ?_
  rintro e w4 ⟨v, rfl, hv, hb⟩
  obtain ⟨va, vc, rfl⟩ := hv.shape
  have H3 : Hid (WinI w4 (w.heap.size + 1) w.heap.size ⟨n, s, []⟩ ∧ Below w.heap.size w w4) := ⟨H2.out.1.below hb, H2.out.2.trans (hb.mono H2.out.2.size)⟩
  clear hv hb H2
  simp only [srt_nil, List.length_nil]
  go_wp2_with fail
  refine (putI H3.out.1 k 1 HK.out.1).mono ?_
  rintro e w5 ⟨rfl, k1, k2, k3⟩
  rw [HE.out]
  simp only [putS, HE.out, if_true, List.nil_append] at k1
  have H4 : Hid (WinI w5 (w.heap.size + 1) w.heap.size ⟨n, s, [(k, 1)]⟩ ∧ Below w.heap.size w w5) := ⟨k1, H3.out.2.trans (k2.below (fun g hg => by rcases hg with rfl | rfl <;> omega) H3.out.2.size)⟩
  clear k1 k2 k3 H3
  go_wp2_with fail
  refine (peekI H4.out.1).mono ?_
  rintro e w6 ⟨rfl, kk, rfl⟩
  rw [HP.out]
  generalize (getN [(k, (1 : Int))] n).getD 0 = pv
  have H5 : Hid (WinI (w5.drewN kk) (w.heap.size + 1) w.heap.size ⟨n, s, [(k, 1)]⟩ ∧ Below w.heap.size w (w5.drewN kk)) := ⟨H4.out.1.drewN _, below_drewN H4.out.2 _⟩
  generalize w5.drewN kk = w6 at *
  clear H4
  go_wp2_with fail
  refine (heldI H5.out.1 (by have := HK.out.2; show n ≤ _; omega)).mono ?_
  rintro e w7 ⟨v, rfl, hv, hb⟩
  obtain ⟨vb, vd, rfl⟩ := hv.shape
  simp only [srt_one, List.length_cons, List.length_nil] at hv ⊢
  obtain ⟨ga, off, x, hva, hgl, hx, hcell⟩ := (hv.rw_ layI).at 0 (by omega)
  have c0 : w7.cell? ⟨ga, off, none⟩ = some (.int .i64 k) := by
    simp at hx
    subst hx
    simpa [intV] using hcell 0 _ rfl
  subst hva
  have H6 : Hid (Below w.heap.size w w7) := H5.out.2.trans (hb.mono H5.out.2.size)
  clear hv hb H5 hcell hx hgl
  go_wp2_with fail
  go_ret
  exact ⟨rfl, H6.out⟩

theorem windowBounds_any (n s k : Int) (hk : k ≤ 9223372036854775807) (w : World) : Calls Try.prog 5 #[.int .i64 n, .int .i64 s, .int .i64 k] w fun e w' => e = .returned (.bool true) ∧ Below w.heap.size w w' := by
  by_cases hb : n < 0 ∨ 1048576 < n ∨ s < 1 ∨ 1048576 < s
  · exact bounds_bad n s k hb w
  · by_cases h1 : k < n
    · exact bounds_old n s k (by omega) (by omega) (by omega) (by omega) hk h1 w
    · by_cases h2 : s ≤ k - n
      · exact bounds_far n s k (by omega) (by omega) (by omega) (by omega) hk (by omega) h2 w
      · by_cases h3 : k = n
        · exact bounds_first n s k (by omega) (by omega) (by omega) (by omega) hk h3 w
        · exact bounds_in n s k (by omega) (by omega) (by omega) (by omega) hk (by omega) (by omega) w
end Go.Proofs.Ytiaidmhobbeedaa
