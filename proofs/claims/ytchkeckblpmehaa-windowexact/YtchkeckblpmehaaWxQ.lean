import Derived.Test.YtchkeckblpmehaaWxP
/-! The sentences' plays. -/
namespace Go.Proofs.Ytchkeckblpmehaa
open Go.RowKit Go.Lib
set_option maxRecDepth 100000
/-- The lists that were handed out lie apart from a pair. -/
theorem held_pair {W : World} {B q b r : Nat} {Sw Sr : Wn Int} {v : Value} {Bh qh : Nat} {va vb : Value} {ps : List Hp} (hw : WinI W q b Sw) (hr : RfW W B r v Sr) (hh : HdAt W Bh qh va vb ps) {g : Nat} (hg : HB qh va vb ps g) : ¬ PB q b r v g := by
  have key : ∀ {α : Type} {f : α → List Value} {k : Nat} {T : TypeId} {u : Value} {l : List α}, OwnF f k T W Bh u l → u.ownBlock = some g → T ≠ 61 → T ≠ 64 → T ≠ 67 → ¬ PB q b r v g := fun ho hu h1 h2 h3 => by
    rcases ho.2 with ⟨rfl, _⟩ | ⟨g1, cap, cur, rfl, _, hb, _⟩
    · simp [Value.ownBlock] at hu
    · simp [Value.ownBlock] at hu
      subst hu
      exact pair_box hw hr hb h1 h2 h3
  rcases hg with rfl | hg | hg | ⟨x, hx, hg | hg⟩
  · exact pair_box hw hr hh.box (by decide) (by decide) (by decide)
  · exact key hh.got hg (by decide) (by decide) (by decide)
  · exact key hh.want hg (by decide) (by decide) (by decide)
  · exact key (hh.each x hx).1 hg (by decide) (by decide) (by decide)
  · exact key (hh.each x hx).2 hg (by decide) (by decide) (by decide)
/-- What a step leaves of a pair and of the lists. -/
structure PH (w w' : World) (B q b r : Nat) (v : Value) (S' : Wn Int) (v' : Value) (Bh qh : Nat) (va vb : Value) (ps : List Hp) (va' vb' : Value) (ps' : List Hp) : Prop where
  win : WinI w' q b S'
  ref : RfW w' B r v' S'
  hd : HdAt w' Bh qh va' vb' ps'
  own : ∀ g, v'.ownBlock = some g → v.ownBlock = some g ∨ w.heap.size ≤ g
  hb : ∀ g, HB qh va' vb' ps' g → HB qh va vb ps g ∨ w.heap.size ≤ g
  chg : Chg (fun g => PB q b r v g ∨ HB qh va vb ps g) w w'
  len : ps'.length ≤ ps.length + 2
  few : ∀ x ∈ ps', x ∈ ps ∨ x.l.length ≤ 1048578
theorem PI.ph {w w' : World} {B q b r : Nat} {S S' : Wn Int} {v v' : Value} {Bh qh : Nat} {va vb : Value} {ps : List Hp} (hw : WinI w q b S) (hr : RfW w B r v S) (hh : HdAt w Bh qh va vb ps) (h : PI B q b r v w w' S' S' v') : PH w w' B q b r v S' v' Bh qh va vb ps va vb ps :=
  ⟨h.win, h.ref, hh.chg h.chg (fun _ hg => held_pair hw hr hh hg), h.own, fun _ hg => .inl hg, h.chg.mono fun _ _ hg => .inl hg, by omega, fun _ hx => .inl hx⟩
theorem HNw.ph {w w' : World} {B q b r : Nat} {S : Wn Int} {v : Value} {Bh qh : Nat} {va vb : Value} {ps : List Hp} (hw : WinI w q b S) (hr : RfW w B r v S) (hh : HdAt w Bh qh va vb ps) (h : HNw w w' Bh qh va vb ps) : ∃ va' vb' ps', PH w w' B q b r v S v Bh qh va vb ps va' vb' ps' := by
  obtain ⟨va', vb', ps', k1, k2, k3, k4, k5⟩ := h
  exact ⟨va', vb', ps', hw.chg k5 (fun e => held_pair hw hr hh e (.inl (.inl rfl))) (fun e => held_pair hw hr hh e (.inl (.inr rfl))), hr.chg k5 (fun g hg e => held_pair hw hr hh e (.inr hg)), k1, fun _ hg => .inl hg, k4, k5.mono fun _ _ hg => .inr hg, k2, k3⟩
def msz (S : Wn Int) : Int := S.nx + (S.L.length : Int)
theorem msz_put (S : Wn Int) (n x : Int) : msz (putS S n x) ≤ msz S + 1 := by
  unfold putS msz
  split
  · simp
    omega
  · omega
theorem msz_drop (S : Wn Int) (n : Int) : msz (dropS S n) ≤ msz S + 1 := by
  unfold dropS msz delN
  have := List.length_filter_le (fun p : Int × Int => p.1 != n) S.L
  simp only
  omega
theorem msz_pass (S : Wn Int) : msz (passS S) ≤ msz S + 1 := by
  unfold passS msz
  split
  · have := List.length_filter_le (fun p : Int × Int => p.1 != S.nx) S.L
    simp only [delN]
    omega
  · omega
def PlP (w : World) (B q b r : Nat) (v : Value) (S : Wn Int) (Bh qh : Nat) (va vb : Value) (ps : List Hp) (e : Ending) (w' : World) : Prop := e = .returned (.bool true) ∧ ∃ S' v' va' vb' ps', PH w w' B q b r v S' v' Bh qh va vb ps va' vb' ps' ∧ msz S' ≤ msz S + 1
theorem PH.from_ {w w0 w' : World} {B q b r : Nat} {S' : Wn Int} {v v' : Value} {Bh qh : Nat} {va vb : Value} {ps : List Hp} {va' vb' : Value} {ps' : List Hp} (hb : Below w.heap.size w w0) (h : PH w0 w' B q b r v S' v' Bh qh va vb ps va' vb' ps') : PH w w' B q b r v S' v' Bh qh va vb ps va' vb' ps' :=
  ⟨h.win, h.ref, h.hd, fun g hg => (h.own g hg).imp id (fun h1 => Nat.le_trans hb.size h1), fun g hg => (h.hb g hg).imp id (fun h1 => Nat.le_trans hb.size h1), (Chg.of_below hb).trans h.chg, h.len, h.few⟩
set_option maxHeartbeats 4000000 in
theorem plays_ok {w : World} {B q b r : Nat} {v : Value} {S : Wn Int} {Bh qh : Nat} {va vb : Value} {ps : List Hp} (hw : WinI w q b S) (hr : RfW w B r v S) (hh : HdAt w Bh qh va vb ps) (hM : msz S ≤ 1099511627776) (hn : ps.length ≤ 1073741824) (kd wh N xv : Int) (hN : N ≤ 9223372036854775807) :
    Calls Try.prog 5 #[.pointer (some ⟨q, 0, none⟩), .pointer (some ⟨r, 0, none⟩), .agg #[.int .i64 kd, .int .i64 wh, .int .i64 N, .int .i64 xv], .pointer (some ⟨qh, 0, none⟩)] w (PlP w B q b r v S Bh qh va vb ps) := by
  have HH : Hid (WinI w q b S ∧ RfW w B r v S ∧ HdAt w Bh qh va vb ps ∧ msz S ≤ 1099511627776 ∧ ps.length ≤ 1073741824 ∧ N ≤ 9223372036854775807 ∧ S.L.length ≤ 1073741824 ∧ S.nx ≤ 4611686018427387904) := by
    have h1 := win_few hw
    refine ⟨hw, hr, hh, hM, hn, hN, by omega, ?_⟩
    unfold msz at hM
    omega
  have FIN : Hid (∀ w' S' v', PI B q b r v w w' S' S' v' → msz S' ≤ msz S + 1 → PlP w B q b r v S Bh qh va vb ps (.returned (.bool true)) w') := fun w' S' v' h1 h2 => ⟨rfl, S', v', va, vb, ps, h1.ph hw hr hh, h2⟩
  obtain ⟨w0, hw0⟩ : ∃ w0, w.alloc (.cells #[.int .i64 kd, .int .i64 wh, .int .i64 N, .int .i64 xv] 34) = w0 := ⟨_, rfl⟩
  have hb0 : Below w.heap.size w w0 := by rw [← hw0]; exact (Below.refl _ _).alloc (Nat.le_refl _) _
  have hx0 : w0.heap[w.heap.size]? = some (.cells #[.int .i64 kd, .int .i64 wh, .int .i64 N, .int .i64 xv] 34) := by rw [← hw0]; exact heap_alloc_new _ _
  have HP0 : Hid (PI B q b r v w w0 S S v ∧ Below w.heap.size w w0 ∧ w0.heap[w.heap.size]? = some (.cells #[.int .i64 kd, .int .i64 wh, .int .i64 N, .int .i64 xv] 34)) := ⟨(PI.refl hw hr).below hb0, hb0, hx0⟩
  obtain ⟨a0, a1, a2, a3⟩ := box4 hx0
  clear hw hr hh hM hn hN hb0 hx0
  by_cases h1 : kd = 1
  · subst h1
    go_enter Try.func5, Try.ntmps5
    go_wp2_with fail
    refine Calls.mono (putI HP0.out.1.win N xv HH.out.2.2.2.2.2.1) ?_
    rintro e w1 ⟨rfl, k1, k2, k3⟩
    have hP1 := HP0.out.1.winS k1 k2
    obtain ⟨pe, hpe⟩ : ∃ pe, putE S N = pe := ⟨_, rfl⟩
    have HR : Hid (Calls Try.prog 11 #[.pointer (some ⟨r, 0, none⟩), .int .i64 N, .int .i64 xv] w1 fun e w' => e = .returned (.int .i64 pe) ∧ RNw w1 w' B r v (putS S N xv)) := by
      rw [← hpe]
      exact rPut hP1.ref HH.out.1.nodup HH.out.2.2.2.2.2.2.1 HH.out.1.nx0 N xv HH.out.2.2.2.2.2.1
    have HP1 : Hid (PI B q b r v w w1 (putS S N xv) S v) := hP1
    obtain ⟨b0, b1, b2, b3⟩ := box4 (Chg.block (k2) HP0.out.2.2 (fun e => pair_box HP0.out.1.win HP0.out.1.ref HP0.out.2.2 (by decide) (by decide) (by decide) (.inl e)))
    rw [hpe]
    clear k1 k2 k3 hP1 hpe
    go_wp2_with fail
    refine Calls.mono HR.out ?_
    rintro e w2 ⟨rfl, hR⟩
    obtain ⟨v2, hP2⟩ := HP1.out.refS hR
    have HE : Hid (PlP w B q b r v S Bh qh va vb ps (.returned (.bool true)) w2) := FIN.out w2 _ _ hP2 (msz_put S N xv)
    clear hP2 hR
    go_wp2_with fail
    go_ret
    exact HE.out
  by_cases h2 : kd = 2
  · subst h2
    go_enter Try.func5, Try.ntmps5
    obtain ⟨pa, hpa⟩ : ∃ pa, (getN S.L S.nx).getD 0 = pa := ⟨_, rfl⟩
    obtain ⟨pe, hpe⟩ : ∃ pe : Int, (if hasN S.L S.nx = true then 0 else 15) = pe := ⟨_, rfl⟩
    have HA : Hid _ := peekI HP0.out.1.win
    have HR : Hid (∀ k, Calls Try.prog 13 #[.pointer (some ⟨r, 0, none⟩)] (w0.drewN k) fun e w' => e = .returned (.tuple #[.int .i64 pa, .int .i64 pe]) ∧ w' = w0.drewN k) := fun k => by
      have := rPeek (HP0.out.1.ref.drewN k) HH.out.1.nodup HH.out.2.2.2.2.2.2.1
      rw [hpa, hpe] at this
      exact this
    rw [hpa, hpe] at HA
    have HE : Hid (∀ k, PlP w B q b r v S Bh qh va vb ps (.returned (.bool true)) (w0.drewN k)) := fun k => FIN.out _ _ _ (HP0.out.1.drewN k) (by omega)
    clear hpa hpe
    go_wp2_with fail
    refine Calls.mono HA.out ?_
    rintro e w1 ⟨rfl, k, hk⟩
    subst hk
    go_wp2_with fail
    refine Calls.mono (HR.out k) ?_
    rintro e w2 ⟨rfl, rfl⟩
    go_wp2_with fail
    go_ret
    exact HE.out k
  by_cases h3 : kd = 3
  · subst h3
    go_enter Try.func5, Try.ntmps5
    go_wp2_with fail
    refine Calls.mono (passI HP0.out.1.win HH.out.2.2.2.2.2.2.2) ?_
    rintro e w1 ⟨rfl, k1, k2, k3⟩
    have hP1 := HP0.out.1.winS k1 k2
    obtain ⟨pe, hpe⟩ : ∃ pe, dropE S S.nx = pe := ⟨_, rfl⟩
    have HR : Hid (Calls Try.prog 15 #[.pointer (some ⟨r, 0, none⟩)] w1 fun e w' => e = .returned (.int .i64 pe) ∧ RNw w1 w' B r v (passS S)) := by
      rw [← hpe]
      exact rPass hP1.ref HH.out.1.nodup HH.out.2.2.2.2.2.2.1 HH.out.1.nx0 HH.out.2.2.2.2.2.2.2
    have HP1 : Hid (PI B q b r v w w1 (passS S) S v) := hP1
    rw [hpe]
    clear k1 k2 k3 hP1 hpe
    go_wp2_with fail
    refine Calls.mono HR.out ?_
    rintro e w2 ⟨rfl, hR⟩
    obtain ⟨v2, hP2⟩ := HP1.out.refS hR
    have HE : Hid (PlP w B q b r v S Bh qh va vb ps (.returned (.bool true)) w2) := FIN.out w2 _ _ hP2 (msz_pass S)
    clear hP2 hR
    go_wp2_with fail
    go_ret
    exact HE.out
  by_cases h4 : kd = 4
  · subst h4
    go_enter Try.func5, Try.ntmps5
    go_wp2_with fail
    refine Calls.mono (dropI HP0.out.1.win N) ?_
    rintro e w1 ⟨rfl, k1, k2, k3⟩
    have hP1 := HP0.out.1.winS k1 (k2.mono fun _ _ hg => .inr hg)
    obtain ⟨pe, hpe⟩ : ∃ pe, dropE S N = pe := ⟨_, rfl⟩
    have HR : Hid (Calls Try.prog 17 #[.pointer (some ⟨r, 0, none⟩), .int .i64 N] w1 fun e w' => e = .returned (.int .i64 pe) ∧ RNw w1 w' B r v (dropS S N)) := by
      rw [← hpe]
      exact rDrop hP1.ref HH.out.1.nodup HH.out.2.2.2.2.2.2.1 N
    have HP1 : Hid (PI B q b r v w w1 (dropS S N) S v) := hP1
    obtain ⟨b0, b1, b2, b3⟩ := box4 (Chg.block ((k2.mono fun _ _ hg => Or.inr hg : Chg (Wb q b) w0 w1)) HP0.out.2.2 (fun e => pair_box HP0.out.1.win HP0.out.1.ref HP0.out.2.2 (by decide) (by decide) (by decide) (.inl e)))
    rw [hpe]
    clear k1 k2 k3 hP1 hpe
    go_wp2_with fail
    refine Calls.mono HR.out ?_
    rintro e w2 ⟨rfl, hR⟩
    obtain ⟨v2, hP2⟩ := HP1.out.refS hR
    have HE : Hid (PlP w B q b r v S Bh qh va vb ps (.returned (.bool true)) w2) := FIN.out w2 _ _ hP2 (msz_drop S N)
    clear hP2 hR
    go_wp2_with fail
    go_ret
    exact HE.out
  by_cases h5 : kd = 5
  · subst h5
    go_enter Try.func5, Try.ntmps5
    go_wp2_with fail
    refine Calls.mono (loops_ok HP0.out.1.win HP0.out.1.ref HH.out.2.2.2.1 5 wh N xv HH.out.2.2.2.2.2.1) ?_
    rintro e w1 ⟨rfl, S', v', k1, k2⟩
    have HE : Hid (PlP w B q b r v S Bh qh va vb ps (.returned (.bool true)) w1) := FIN.out w1 _ _ (HP0.out.1.of k1) k2
    clear k1 k2
    go_wp2_with fail
    go_ret
    exact HE.out
  by_cases h6 : kd = 6
  · subst h6
    go_enter Try.func5, Try.ntmps5
    go_wp2_with fail
    refine Calls.mono (told_ok HP0.out.1.win HP0.out.1.ref (HH.out.2.2.1.below HP0.out.2.1) HH.out.2.2.2.2.2.2.2 HH.out.2.2.2.2.1) ?_
    rintro e w1 ⟨rfl, k1⟩
    have HE : Hid (PlP w B q b r v S Bh qh va vb ps (.returned (.bool true)) w1) := by
      obtain ⟨va', vb', ps', k2⟩ := HNw.ph HP0.out.1.win HP0.out.1.ref (HH.out.2.2.1.below HP0.out.2.1) k1
      exact ⟨rfl, S, v, va', vb', ps', k2.from_ HP0.out.2.1, by omega⟩
    clear k1
    go_wp2_with fail
    go_ret
    exact HE.out
  · go_enter Try.func5, Try.ntmps5
    have HE : Hid (PlP w B q b r v S Bh qh va vb ps (.returned (.bool true)) w0) := FIN.out w0 _ _ HP0.out.1 (by omega)
    have g1 := beq_eq_false_iff_ne.2 h1
    have g2 := beq_eq_false_iff_ne.2 h2
    have g3 := beq_eq_false_iff_ne.2 h3
    have g4 := beq_eq_false_iff_ne.2 h4
    have g5 := beq_eq_false_iff_ne.2 h5
    have g6 := beq_eq_false_iff_ne.2 h6
    clear h1 h2 h3 h4 h5 h6
    go_wp2_with fail
    go_ret
    exact HE.out
end Go.Proofs.Ytchkeckblpmehaa
