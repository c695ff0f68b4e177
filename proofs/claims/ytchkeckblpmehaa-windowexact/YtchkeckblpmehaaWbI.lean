import Derived.Test.YtchkeckblpmehaaWaB
/-! The calls of a window of int. -/
namespace Go.Proofs.Ytchkeckblpmehaa
open Go.RowKit Go.Lib
set_option maxRecDepth 100000

abbrev WinI (W : World) (q b : Nat) (S : Wn Int) : Prop := WinAt (Value.int .i64) 61 W q b S
theorem zeroI (W : World) : (zeroValue 3).run Try.prog W = .ok (.int .i64 0) W := Try.zeroValue3 W
theorem makeMapI (W : World) : (Instr.makeMap 59 none).run Try.prog W = .ok (.map (some W.heap.size)) (W.alloc (.map #[] 0)) := by
  simp [Instr.makeMap]
set_option maxHeartbeats 1000000 in
theorem newI_ok (n s : Int) (h0 : 0 ≤ n) (h1 : n ≤ 1048576) (h2 : 1 ≤ s) (h3 : s ≤ 1048576) (w : World) : Calls Try.prog 8 #[.int .i64 n, .int .i64 s] w fun e w' => e = .returned (.tuple #[.pointer (some ⟨w.heap.size + 1, 0, none⟩), .int .i64 0]) ∧ WinI w' (w.heap.size + 1) w.heap.size ⟨n, s, []⟩ ∧ Below w.heap.size w w' ∧ w'.heap.size = w.heap.size + 2 := by
  have g1 : ¬ n < 0 := by omega
  have g2 : ¬ 1048576 < n := by omega
  have g3 : ¬ s < 1 := by omega
  have g4 : ¬ 1048576 < s := by omega
  have HM := makeMapI
  go_enter Try.func8, Try.ntmps8
  go_wp2_with fail
  go_ret2
  refine ⟨rfl, ?_, ?_, by simp⟩
  · refine ⟨?_, ⟨[], 0, ⟨?_, by simp, by simp, by simp⟩, rfl⟩, h0, h2, h3, by simp⟩
    · have := (MapKept.heap_alloc (w.alloc (.map #[] 0)) (.cells #[.int .i64 n, .int .i64 s, .map (some w.heap.size)] 61)).1
      rw [World.size_alloc] at this
      exact this
    · have h1 := (MapKept.heap_alloc (w.alloc (.map #[] 0)) (.cells #[.int .i64 n, .int .i64 s, .map (some w.heap.size)] 61)).2 w.heap.size (by rw [World.size_alloc]; omega)
      exact h1.trans (MapKept.heap_alloc w _).1
  · exact ((Below.refl _ _).alloc (Nat.le_refl _) _).alloc (by rw [World.size_alloc]; omega) _
set_option maxHeartbeats 1000000 in
theorem newI_bad (n s : Int) (hb : n < 0 ∨ 1048576 < n ∨ s < 1 ∨ 1048576 < s) (w : World) : Calls Try.prog 8 #[.int .i64 n, .int .i64 s] w fun e w' => e = .returned (.tuple #[.pointer none, .int .i64 2]) ∧ w' = w := by
  have HM := makeMapI
  by_cases g1 : n < 0
  · go_enter Try.func8, Try.ntmps8
    go_wp2_with fail
    go_ret2
    exact ⟨rfl, rfl⟩
  · by_cases g2 : 1048576 < n
    · go_enter Try.func8, Try.ntmps8
      go_wp2_with fail
      go_ret2
      exact ⟨rfl, rfl⟩
    · by_cases g3 : s < 1
      · go_enter Try.func8, Try.ntmps8
        go_wp2_with fail
        go_ret2
        exact ⟨rfl, rfl⟩
      · have g4 : 1048576 < s := by omega
        go_enter Try.func8, Try.ntmps8
        go_wp2_with fail
        go_ret2
        exact ⟨rfl, rfl⟩
set_option maxHeartbeats 1000000 in
theorem nextI {w : World} {q b : Nat} {S : Wn Int} (h : WinI w q b S) : Calls Try.prog 22 #[.pointer (some ⟨q, 0, none⟩)] w fun e w' => e = .returned (.int .i64 S.nx) ∧ w' = w := by
  obtain ⟨c0, c1, c2⟩ := box3 h.box
  clear h
  go_enter Try.func22, Try.ntmps22
  go_wp2_with fail
  go_ret
  exact ⟨rfl, rfl⟩
set_option maxHeartbeats 1000000 in
theorem putI_old {w : World} {q b : Nat} {S : Wn Int} (h : WinI w q b S) (n : Int) (v : Int) (hn : n < S.nx) : Calls Try.prog 10 #[.pointer (some ⟨q, 0, none⟩), .int .i64 n, .int .i64 v] w fun e w' => e = .returned (.int .i64 130) ∧ w' = w := by
  obtain ⟨c0, c1, c2⟩ := box3 h.box
  clear h
  go_enter Try.func10, Try.ntmps10
  go_wp2_with fail
  go_ret
  exact ⟨rfl, rfl⟩
set_option maxHeartbeats 1000000 in
theorem putI_far {w : World} {q b : Nat} {S : Wn Int} (h : WinI w q b S) (n : Int) (v : Int) (hm : n ≤ 9223372036854775807) (hn : S.nx ≤ n) (hf : S.sz ≤ n - S.nx) : Calls Try.prog 10 #[.pointer (some ⟨q, 0, none⟩), .int .i64 n, .int .i64 v] w fun e w' => e = .returned (.int .i64 132) ∧ ∃ k, w' = w.drewN k := by
  obtain ⟨c0, c1, c2⟩ := box3 h.box
  have h0 := h.nx0
  have g1 : ¬ n < S.nx := by omega
  obtain ⟨d, hd⟩ : ∃ d, n - S.nx = d := ⟨_, rfl⟩
  have g2 : IntKind.i64.wrap (n - S.nx) = d := by rw [hd]; exact IntWalk.i64_in _ (by omega)
  have g3 : S.sz ≤ d := by omega
  have hd' : Hid (n - S.nx = d) := hd
  clear h hd hf hn hm h0
  go_enter Try.func10, Try.ntmps10
  go_wp2_with fail
  go_quiet (fail)
  go_wp2_with fail
  go_ret
  exact ⟨rfl, _, rfl⟩
set_option maxHeartbeats 1000000 in
theorem putI_double {w : World} {q b : Nat} {S : Wn Int} (h : WinI w q b S) (n : Int) (v : Int) (hm : n ≤ 9223372036854775807) (hn : S.nx ≤ n) (hf : n - S.nx < S.sz) (hh : hasN S.L n = true) : Calls Try.prog 10 #[.pointer (some ⟨q, 0, none⟩), .int .i64 n, .int .i64 v] w fun e w' => e = .returned (.int .i64 131) ∧ ∃ k, w' = w.drewN k := by
  obtain ⟨c0, c1, c2⟩ := box3 h.box
  have h0 := h.nx0
  have g1 : ¬ n < S.nx := by omega
  obtain ⟨d, hd⟩ : ∃ d, n - S.nx = d := ⟨_, rfl⟩
  have g2 : IntKind.i64.wrap (n - S.nx) = d := by rw [hd]; exact IntWalk.i64_in _ (by omega)
  have g3 : ¬ S.sz ≤ d := by omega
  have hd' : Hid (n - S.nx = d) := hd
  obtain ⟨xs, ck, hmp, hp⟩ := h.map
  rw [← hp] at hh
  rcases ent_cases xs hmp.nm n with ⟨_, he⟩ | ⟨l, x, r, rfl, hx, hl, he, hg, _⟩
  · rw [he] at hh; cases hh
  have HL := fun k => look_hit (f := (Value.int .i64)) (M := 59) Try.underlying59 (W := w.drewN k) (hmp.drewN k) hx hl
  have C2 : ∀ k, (w.drewN k).cell? ⟨q, 2, none⟩ = some (.map (some b)) := fun k => c2
  generalize x.v = xv at HL
  clear h hd hf hn hm h0 hh hp hmp he hg hx hl
  go_enter Try.func10, Try.ntmps10
  go_wp2_with fail
  go_quiet (fail)
  have HL' := HL nq
  have C2' := C2 nq
  go_wp2_with fail
  go_ret
  exact ⟨rfl, _, rfl⟩
set_option maxHeartbeats 1000000 in
theorem putI_new {w : World} {q b : Nat} {S : Wn Int} (h : WinI w q b S) (n : Int) (v : Int) (hm : n ≤ 9223372036854775807) (hn : S.nx ≤ n) (hf : n - S.nx < S.sz) (hh : hasN S.L n = false) : Calls Try.prog 10 #[.pointer (some ⟨q, 0, none⟩), .int .i64 n, .int .i64 v] w fun e w' => e = .returned (.int .i64 0) ∧ WinI w' q b ⟨S.nx, S.sz, S.L ++ [(n, v)]⟩ ∧ Chg (Wb q b) w w' ∧ w'.heap.size = w.heap.size := by
  obtain ⟨c0, c1, c2⟩ := box3 h.box
  have h0 := h.nx0
  have g1 : ¬ n < S.nx := by omega
  obtain ⟨d, hd⟩ : ∃ d, n - S.nx = d := ⟨_, rfl⟩
  have g2 : IntKind.i64.wrap (n - S.nx) = d := by rw [hd]; exact IntWalk.i64_in _ (by omega)
  have g3 : ¬ S.sz ≤ d := by omega
  obtain ⟨xs, ck, hmp, hp⟩ := h.map
  have hh2 := hh
  rw [← hp] at hh2
  rcases ent_cases xs hmp.nm n with ⟨hno, _⟩ | ⟨l, x, r, _, _, _, he, _, _⟩
  · have HL := fun k => look_miss (f := (Value.int .i64)) (M := 59) (z := (0 : Int)) Try.underlying59 zeroI (W := w.drewN k) (hmp.drewN k) hno
    have HP := fun k => put_new (f := (Value.int .i64)) (M := 59) Try.underlying59 (W := w.drewN k) (hmp.drewN k) hno v
    have C2 : ∀ k, (w.drewN k).cell? ⟨q, 2, none⟩ = some (.map (some b)) := fun k => c2
    have hw1 : ∀ k w1, MapAt (Value.int .i64) w1 b (xs ++ [⟨n, v, ck⟩]) (ck + 1) → Chg (fun g => g = b) (w.drewN k) w1 → WinI w1 q b ⟨S.nx, S.sz, S.L ++ [(n, v)]⟩ := by
      intro k w1 m1 m2
      have := (h.drewN k).newMap m2 m1 (by
        intro p hpm
        simp only [prs, List.map_append, List.map_cons, List.map_nil, List.mem_append, List.mem_singleton] at hpm
        rcases hpm with hpm | rfl
        · exact h.rng p (by rw [← hp]; exact hpm)
        · exact ⟨hn, by show n < S.nx + S.sz; omega⟩)
      rw [← hp]
      simpa [prs] using this
    have HW : Hid (∀ k, ∃ w1, (Instr.mapUpdate 59 (.map (some b)) (.int .i64 n) (.int .i64 v)).run Try.prog (w.drewN k) = .ok () w1 ∧ WinI w1 q b ⟨S.nx, S.sz, S.L ++ [(n, v)]⟩ ∧ Chg (Wb q b) w w1 ∧ w1.heap.size = w.heap.size) := fun k => by
      obtain ⟨w1, m0, m1, m2, m3⟩ := HP k
      exact ⟨w1, m0, hw1 k w1 m1 m2, ((Chg.refl _ w).drewN (m := k)).trans (m2.mono (fun g _ e => .inr e)), m3⟩
    have hd' : Hid (n - S.nx = d) := hd
    clear h hd hf hn hm h0 hh hp hmp hh2 hno hw1 HP
    go_enter Try.func10, Try.ntmps10
    go_wp2_with fail
    go_quiet (fail)
    have HL' := HL nq
    have C2' := C2 nq
    obtain ⟨w1, HP, HX⟩ := HW.out nq
    have HX' : Hid (WinI w1 q b ⟨S.nx, S.sz, S.L ++ [(n, v)]⟩ ∧ Chg (Wb q b) w w1 ∧ w1.heap.size = w.heap.size) := HX
    clear HX
    go_wp2_with fail
    go_ret
    exact ⟨rfl, HX'.out⟩
  · rw [he] at hh2; cases hh2
/-- Put in all cases. -/
theorem putI {w : World} {q b : Nat} {S : Wn Int} (h : WinI w q b S) (n : Int) (v : Int) (hm : n ≤ 9223372036854775807) : Calls Try.prog 10 #[.pointer (some ⟨q, 0, none⟩), .int .i64 n, .int .i64 v] w fun e w' => e = .returned (.int .i64 (putE S n)) ∧ WinI w' q b (putS S n v) ∧ Chg (Wb q b) w w' ∧ w'.heap.size = w.heap.size := by
  rcases putE_cases S n with ⟨h1, he⟩ | ⟨h1, h2, he⟩ | ⟨h1, h2, h3, he⟩ | ⟨h1, h2, h3, he⟩
  · refine (putI_old h n v h1).mono ?_
    rintro e w' ⟨rfl, rfl⟩
    exact ⟨by rw [he], by simp only [putS, he]; exact h, Chg.refl _ _, rfl⟩
  · refine (putI_far h n v hm h1 h2).mono ?_
    rintro e w' ⟨rfl, k, rfl⟩
    exact ⟨by rw [he], by simp only [putS, he]; exact h.drewN k, (Chg.refl _ w).drewN, rfl⟩
  · refine (putI_double h n v hm h1 h2 h3).mono ?_
    rintro e w' ⟨rfl, k, rfl⟩
    exact ⟨by rw [he], by simp only [putS, he]; exact h.drewN k, (Chg.refl _ w).drewN, rfl⟩
  · refine (putI_new h n v hm h1 h2 h3).mono ?_
    rintro e w' ⟨rfl, k1, k2, k3⟩
    exact ⟨by rw [he], by simp only [putS, he]; exact k1, k2, k3⟩
set_option maxHeartbeats 1000000 in
theorem peekI {w : World} {q b : Nat} {S : Wn Int} (h : WinI w q b S) : Calls Try.prog 12 #[.pointer (some ⟨q, 0, none⟩)] w fun e w' => e = .returned (.tuple #[.int .i64 ((getN S.L S.nx).getD 0), .int .i64 (if hasN S.L S.nx = true then 0 else 15)]) ∧ ∃ k, w' = w.drewN k := by
  obtain ⟨c0, c1, c2⟩ := box3 h.box
  obtain ⟨xs, ck, hmp, hp⟩ := h.map
  rw [← hp]
  rcases ent_cases xs hmp.nm S.nx with ⟨hno, he⟩ | ⟨l, x, r, rfl, hx, hl, he, hg, _⟩
  · have HL := fun k => look_miss (f := (Value.int .i64)) (M := 59) (z := (0 : Int)) Try.underlying59 zeroI (W := w.drewN k) (hmp.drewN k) hno
    rw [getN_none he, he]
    simp only [Option.getD_none, Bool.false_eq_true, if_false]
    clear h hmp hp hno he
    go_enter Try.func12, Try.ntmps12
    go_wp2_with fail
    go_quiet (fail)
    go_wp2_with fail
    go_ret2
    exact ⟨rfl, _, rfl⟩
  · have HL := fun k => look_hit (f := (Value.int .i64)) (M := 59) Try.underlying59 (W := w.drewN k) (hmp.drewN k) hx hl
    rw [hg, he]
    simp only [Option.getD_some, if_true]
    generalize x.v = xv at *
    clear h hmp hp hx he hl hg
    go_enter Try.func12, Try.ntmps12
    go_wp2_with fail
    go_quiet (fail)
    go_wp2_with fail
    go_ret2
    exact ⟨rfl, _, rfl⟩
set_option maxHeartbeats 1000000 in
theorem dropI {w : World} {q b : Nat} {S : Wn Int} (h : WinI w q b S) (n : Int) : Calls Try.prog 16 #[.pointer (some ⟨q, 0, none⟩), .int .i64 n] w fun e w' => e = .returned (.int .i64 (dropE S n)) ∧ WinI w' q b (dropS S n) ∧ Chg (fun g => g = b) w w' ∧ w'.heap.size = w.heap.size := by
  obtain ⟨c0, c1, c2⟩ := box3 h.box
  obtain ⟨xs, ck, hmp, hp⟩ := h.map
  rcases ent_cases xs hmp.nm n with ⟨hno, he⟩ | ⟨l, x, r, rfl, hx, hl, he, hg, hdl⟩
  · have HL := look_miss (f := (Value.int .i64)) (M := 59) (z := (0 : Int)) Try.underlying59 zeroI hmp hno
    have e1 : dropE S n = 15 := by simp [dropE, ← hp, he]
    have e2 : dropS S n = S := by simp only [dropS]; rw [← hp, delN_none he, hp]
    rw [e1, e2]
    have HW : Hid (WinI w q b S) := h
    clear h hmp hp hno he e1 e2
    go_enter Try.func16, Try.ntmps16
    go_wp2_with fail
    go_ret
    exact ⟨rfl, HW.out, Chg.refl _ _, rfl⟩
  · have HL := look_hit (f := (Value.int .i64)) (M := 59) Try.underlying59 hmp hx hl
    obtain ⟨w1, HD, m1, m2, m3⟩ := del_hit (f := (Value.int .i64)) (M := 59) Try.underlying59 hmp hx hl
    have e1 : dropE S n = 0 := by simp [dropE, ← hp, he]
    have e2 : dropS S n = ⟨S.nx, S.sz, prs (l ++ r)⟩ := by simp only [dropS]; rw [← hp, hdl]
    rw [e1, e2]
    have hw1 : WinI w1 q b ⟨S.nx, S.sz, prs (l ++ r)⟩ := h.newMap m2 m1 (fun p hpm => h.rng p (by rw [← hdl, hp] at hpm; exact (delN_mem hpm).1))
    have HW : Hid (WinI w1 q b ⟨S.nx, S.sz, prs (l ++ r)⟩ ∧ Chg (fun g => g = b) w w1 ∧ w1.heap.size = w.heap.size) := ⟨hw1, m2, m3⟩
    generalize x.v = xv at *
    clear h hmp hp hx he hl hg hdl e1 e2 m1 m2 m3 hw1
    go_enter Try.func16, Try.ntmps16
    go_wp2_with fail
    go_ret
    exact ⟨rfl, HW.out⟩
set_option maxHeartbeats 1000000 in
theorem passI {w : World} {q b : Nat} {S : Wn Int} (h : WinI w q b S) (hb : S.nx ≤ 4611686018427387904) : Calls Try.prog 14 #[.pointer (some ⟨q, 0, none⟩)] w fun e w' => e = .returned (.int .i64 (dropE S S.nx)) ∧ WinI w' q b (passS S) ∧ Chg (Wb q b) w w' ∧ w'.heap.size = w.heap.size := by
  obtain ⟨c0, c1, c2⟩ := box3 h.box
  have HD : Hid (Calls Try.prog 16 #[.pointer (some ⟨q, 0, none⟩), .int .i64 S.nx] w fun e w' => e = .returned (.int .i64 (dropE S S.nx)) ∧ WinI w' q b (dropS S S.nx) ∧ Chg (fun g => g = b) w w' ∧ w'.heap.size = w.heap.size) := dropI h S.nx
  cases hh : hasN S.L S.nx with
  | false =>
    have e1 : dropE S S.nx = 15 := by simp [dropE, hh]
    have e2 : dropS S S.nx = S := by simp only [dropS]; rw [delN_none hh]
    have e3 : passS S = S := by simp [passS, hh]
    rw [e1] at HD ⊢
    rw [e2] at HD
    rw [e3]
    clear h hb e1 e2 e3 hh
    go_enter Try.func14, Try.ntmps14
    go_wp2_with fail
    refine HD.out.mono ?_
    rintro e w1 ⟨rfl, k1, k2, k3⟩
    have HX : Hid (WinI w1 q b S ∧ Chg (Wb q b) w w1 ∧ w1.heap.size = w.heap.size) := ⟨k1, k2.mono (fun g _ e => .inr e), k3⟩
    clear k1 k2 k3
    go_wp2_with fail
    go_ret
    exact ⟨rfl, HX.out⟩
  | true =>
    have e1 : dropE S S.nx = 0 := by simp [dropE, hh]
    have e3 : passS S = ⟨S.nx + 1, S.sz, delN S.L S.nx⟩ := by simp [passS, hh]
    have h0 := h.nx0
    have hrg := h.rng
    rw [e1] at HD ⊢
    rw [e3]
    have g1 : IntKind.i64.wrap (S.nx + 1) = S.nx + 1 := IntWalk.i64_in _ (by omega)
    have HR : Hid (0 ≤ S.nx ∧ ∀ p ∈ S.L, S.nx ≤ p.1 ∧ p.1 < S.nx + S.sz) := ⟨h0, hrg⟩
    clear h hb e1 e3 hh h0 hrg
    go_enter Try.func14, Try.ntmps14
    go_wp2_with fail
    refine HD.out.mono ?_
    rintro e w1 ⟨rfl, k1, k2, k3⟩
    obtain ⟨d0, d1, d2⟩ := box3 k1.box
    have f0 := Lib.frozen_of_heap k1.box 0
    have HX : Hid (WinI w1 q b (dropS S S.nx) ∧ Chg (fun g => g = b) w w1 ∧ w1.heap.size = w.heap.size) := ⟨k1, k2, k3⟩
    clear k1 k2 k3 c0 c1 c2
    simp only [dropS] at d0 d1 d2
    go_wp2_with fail
    go_ret
    obtain ⟨k1, k2, k3⟩ := HX.out
    have hC : Chg (fun g => g = q) w1 (w1.setCell ⟨q, 0, none⟩ (.int .i64 (S.nx + 1))) := Chg.set (D := fun g => g = q) (q := q) 0 _ _ rfl
    have hbx := heap_setCell_cells k1.box 0 (.int .i64 (S.nx + 1))
    obtain ⟨xs, ck, hm, hp⟩ := k1.map
    refine ⟨rfl, ⟨hbx, ⟨xs, ck, hm.chg hC (fun e => k1.ne e.symm), hp⟩, by have := HR.out.1; show 0 ≤ S.nx + 1; omega, k1.sz1, k1.szm, ?_⟩, (k2.mono (fun g _ e => .inr e)).trans (hC.mono (fun g _ e => .inl e)), by simp [k3]⟩
    intro p hpm
    obtain ⟨h1, h2⟩ := delN_mem hpm
    have := HR.out.2 p h1
    show S.nx + 1 ≤ p.1 ∧ p.1 < S.nx + 1 + S.sz
    omega
end Go.Proofs.Ytchkeckblpmehaa
