import Derived.Test.YtchkeckblpmehaaWxC
/-! The reference's Pass and Put. -/
namespace Go.Proofs.Ytchkeckblpmehaa
open Go.RowKit Go.Lib
set_option maxRecDepth 100000

set_option maxHeartbeats 1000000 in
theorem rPass {w : World} {B r : Nat} {v : Value} {S : Wn Int} (h : RfW w B r v S) (hd : (S.L.map (·.1)).Nodup) (hn : S.L.length ≤ 1073741824) (h0 : 0 ≤ S.nx) (hb : S.nx ≤ 4611686018427387904) : Calls Try.prog 15 #[.pointer (some ⟨r, 0, none⟩)] w fun e w' => e = .returned (.int .i64 (dropE S S.nx)) ∧ RNw w w' B r v (passS S) := by
  have HA := rAt h (by omega) S.nx
  obtain ⟨c0, c1, c2⟩ := box3 h.box
  rcases at_cases S.L S.nx hd with ⟨h1, h2, h3⟩ | ⟨i, x, h1, h2, h3, h4, h5, h6⟩
  · rw [h2] at HA
    have e1 : dropE S S.nx = 15 := by simp [dropE, h1]
    have e2 : passS S = S := by simp [passS, h1]
    rw [e1, e2]
    have HA2 : Hid _ := HA
    have HE : Hid (RNw w w B r v S) := ⟨v, h, Chg.refl _ _, fun _ hg => .inl hg⟩
    clear HA h h1 h2 h3 hd hn e1 e2 c2 h0 hb
    go_enter Try.func15, Try.ntmps15
    go_wp2_with fail
    refine Calls.mono HA2.out ?_
    rintro e w1 ⟨rfl, rfl⟩
    go_wp2_with fail
    go_ret
    exact ⟨rfl, HE.out⟩
  · rw [h4] at HA
    have e1 : dropE S S.nx = 0 := by simp [dropE, h3]
    have e2 : passS S = ⟨S.nx + 1, S.sz, S.L.eraseIdx i⟩ := by simp only [passS, h3, if_true]; rw [h6]
    rw [e1, e2]
    have HA2 : Hid _ := HA
    have HO : Hid _ := rOut h hn i
    have HB : Hid (B ≤ w.heap.size ∧ r < w.heap.size) := ⟨h.base, (Array.getElem?_eq_some_iff.1 h.box).1⟩
    have g1 : ¬ (i : Int) < 0 := by omega
    have g2 : IntKind.i64.wrap (S.nx + 1) = S.nx + 1 := IntWalk.i64_in _ (by omega)
    clear HA h h1 h2 h3 h4 h5 h6 hd hn e1 e2 c2 h0 hb
    go_enter Try.func15, Try.ntmps15
    go_wp2_with fail
    refine Calls.mono HA2.out ?_
    rintro e w1 ⟨rfl, rfl⟩
    go_wp2_with fail
    refine Calls.mono HO.out ?_
    rintro e w2 ⟨rfl, v', k1, k2⟩
    obtain ⟨d0, _, _⟩ := box3 k1.box
    have f0 := Lib.frozen_of_heap k1.box 0
    have HE : Hid (RNw w1 (w2.setCell ⟨r, 0, none⟩ (.int .i64 (S.nx + 1))) B r v ⟨S.nx + 1, S.sz, S.L.eraseIdx i⟩) := by
      have hC : Chg (fun g => g = r) w2 (w2.setCell ⟨r, 0, none⟩ (.int .i64 (S.nx + 1))) := Chg.set (D := fun g => g = r) (q := r) 0 _ _ rfl
      refine ⟨v', ⟨heap_setCell_cells k1.box 0 _, (k1.mono HB.out.1).row.chgX hC (fun g hg e => ?_), ?_⟩, (k2.trans hC).mono (fun g _ e => .inl e), fun g hg => .inr (k1.row.ge hg)⟩
      · have h1 := k1.row.ge hg
        have h2 := HB.out.2
        omega
      · have h1 := HB.out.1
        have h2 := k2.size
        have h3 := hC.size
        omega
    clear k1 k2 c0 c1
    go_wp2_with fail
    go_ret
    exact ⟨rfl, HE.out⟩
set_option maxHeartbeats 2000000 in
theorem rPut {w : World} {B r : Nat} {v : Value} {S : Wn Int} (h : RfW w B r v S) (hd : (S.L.map (·.1)).Nodup) (hn : S.L.length ≤ 1073741824) (h0 : 0 ≤ S.nx) (n x : Int) (hm : n ≤ 9223372036854775807) : Calls Try.prog 11 #[.pointer (some ⟨r, 0, none⟩), .int .i64 n, .int .i64 x] w fun e w' => e = .returned (.int .i64 (putE S n)) ∧ RNw w w' B r v (putS S n x) := by
  obtain ⟨c0, c1, c2⟩ := box3 h.box
  rcases putE_cases S n with ⟨h1, he⟩ | ⟨h1, h2, he⟩ | ⟨h1, h2, h3, he⟩ | ⟨h1, h2, h3, he⟩
  · have e2 : putS S n x = S := by simp [putS, he]
    rw [he, e2]
    have HE : Hid (RNw w w B r v S) := ⟨v, h, Chg.refl _ _, fun _ hg => .inl hg⟩
    clear h hd hn hm he e2 c2 h0
    go_enter Try.func11, Try.ntmps11
    go_wp2_with fail
    go_ret
    exact ⟨rfl, HE.out⟩
  all_goals
    have g1 : ¬ n < S.nx := by omega
    obtain ⟨d, hdd⟩ : ∃ d, n - S.nx = d := ⟨_, rfl⟩
    have g2 : IntKind.i64.wrap (n - S.nx) = d := by rw [hdd]; exact IntWalk.i64_in _ (by omega)
  · have e2 : putS S n x = S := by simp [putS, he]
    rw [he, e2]
    have g3 : S.sz ≤ d := by omega
    have HE : Hid (∀ k, RNw w (w.drewN k) B r v S) := fun k => h.same k
    clear h hd hn hm he e2 c2 h0 h1 h2 hdd
    go_enter Try.func11, Try.ntmps11
    go_wp2_with fail
    go_quiet (fail)
    go_wp2_with fail
    go_ret
    exact ⟨rfl, HE.out _⟩
  · have e2 : putS S n x = S := by simp [putS, he]
    rw [he, e2]
    have g3 : ¬ S.sz ≤ d := by omega
    have HE : Hid (∀ k, RNw w (w.drewN k) B r v S) := fun k => h.same k
    rcases at_cases S.L n hd with ⟨k1, _, _⟩ | ⟨i, y, _, _, _, h4, _, _⟩
    · rw [h3] at k1; cases k1
    · have HA : Hid (∀ k, Calls Try.prog 25 #[.pointer (some ⟨r, 0, none⟩), .int .i64 n] (w.drewN k) fun e w' => e = .returned (.int .i64 (i : Int)) ∧ w' = w.drewN k) := fun k => by rw [← h4]; exact rAt (h.drewN k) (by omega) n
      have g4 : (0 : Int) ≤ (i : Int) := by omega
      clear h hd hn hm he e2 c2 h0 h1 h2 hdd h3 h4
      go_enter Try.func11, Try.ntmps11
      go_wp2_with fail
      go_quiet (fail)
      go_wp2_with fail
      refine Calls.mono (HA.out _) ?_
      rintro e w1 ⟨rfl, rfl⟩
      go_wp2_with fail
      go_ret
      exact ⟨rfl, HE.out _⟩
  · have e2 : putS S n x = ⟨S.nx, S.sz, S.L ++ [(n, x)]⟩ := by simp [putS, he]
    rw [he, e2]
    have g3 : ¬ S.sz ≤ d := by omega
    rcases at_cases S.L n hd with ⟨_, h4, _⟩ | ⟨i, y, _, _, k1, _, _, _⟩
    · have HA : Hid (∀ k, Calls Try.prog 25 #[.pointer (some ⟨r, 0, none⟩), .int .i64 n] (w.drewN k) fun e w' => e = .returned (.int .i64 (-1)) ∧ w' = w.drewN k) := fun k => by rw [← h4]; exact rAt (h.drewN k) (by omega) n
      have HR : Hid (RfW w B r v S ∧ S.L.length ≤ 1073741824) := ⟨h, hn⟩
      obtain ⟨a, cap, hv⟩ := h.row.shape
      clear h hd hn hm he e2 h0 h1 h2 hdd h3 h4
      go_enter Try.func11, Try.ntmps11
      go_wp2_with fail
      go_quiet (fail)
      go_wp2_with fail
      refine Calls.mono (HA.out _) ?_
      rintro e w1 ⟨rfl, rfl⟩
      obtain ⟨Z, hZ⟩ : ∃ Z, w.drewN nq = Z := ⟨_, rfl⟩
      have hR := HR.out.1.drewN nq
      have hC0 : Chg (RWb r v) w (w.drewN nq) := (Chg.refl _ w).drewN
      have hsz : (w.drewN nq).heap.size = w.heap.size := rfl
      rw [hZ] at hR hC0 hsz
      rw [hZ]
      obtain ⟨_, _, z2⟩ := box3 hR.box
      obtain ⟨g8, cap8, w8, hr8, ho8, hb8, hk8, hs8, hat8⟩ := appendF_one kindTh layTh hR.row hR.base (n, x) #[.int .i64 n, .int .i64 x] rfl 67 (by have := HR.out.2; omega) (by have := HR.out.2; omega) 62
      have hrlt := (Array.getElem?_eq_some_iff.1 hR.box).1
      have hbx : w8.heap[r]? = some (.cells #[.int .i64 S.nx, .int .i64 S.sz, v] 64) := (hk8 r hrlt (fun e => hR.apart e rfl)).trans hR.box
      have f2 := Lib.frozen_of_heap hbx 2
      obtain ⟨_, _, y2⟩ := box3 hbx
      have HE : Hid (RNw w (w8.setCell ⟨r, 2, none⟩ (.slice (some ⟨g8, 0, none⟩) (S.L.length + 1) cap8)) B r v ⟨S.nx, S.sz, S.L ++ [(n, x)]⟩) := by
        have hC : Chg (fun g => g = r) w8 (w8.setCell ⟨r, 2, none⟩ (.slice (some ⟨g8, 0, none⟩) (S.L.length + 1) cap8)) := Chg.set (D := fun g => g = r) (q := r) 2 _ _ rfl
        have hC1 : Chg (RWb r v) Z w8 := ⟨⟨hb8.os, hb8.tape, hb8.output, hb8.size, fun _ hk => absurd hk (Nat.not_lt_zero _)⟩, fun g hlt hne => hk8 g hlt (fun e => hne (.inr e))⟩
        have hgne : g8 ≠ r := by
          rcases hat8 with e | e
          · exact hR.apart e
          · omega
        refine ⟨.slice (some ⟨g8, 0, none⟩) (S.L.length + 1) cap8, ⟨heap_setCell_cells hbx 2 _, ho8.chgX hC (fun g hg e => ?_), ?_⟩, (hC0.trans hC1).trans (hC.mono (fun g _ e => .inl e)), fun g hg => ?_⟩
        · simp [Value.ownBlock] at hg
          omega
        · have h1 := hR.base
          have h2 := hC1.size
          have h3 := hC.size
          omega
        · simp [Value.ownBlock] at hg
          subst hg
          rcases hat8 with e | e
          · exact .inl e
          · exact .inr (by omega)
      generalize S.L.length = ln at *
      subst hv
      clear hR hC0 hsz ho8 hb8 hk8 hs8 hat8 hrlt hbx c0 c1 c2 hZ
      go_wp2_with (at_builtin; refine wpList_append_hr rfl _ _ 62 rfl _ _ rfl rfl hr8 ?_)
      go_ret
      exact ⟨rfl, HE.out⟩
    · rw [h3] at k1; cases k1
end Go.Proofs.Ytchkeckblpmehaa
