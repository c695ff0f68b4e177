import Derived.Test.YtcflpiaclnebeaaDoorRpU
namespace Go.Proofs.YtcflpiaclnebeaaDoor
open Go.RowKit Go.Lib
set_option maxRecDepth 100000

theorem OkRuns.cells_le {L : List GRun} (h : OkRuns L) : (cellsOf L).length ≤ L.length * 48 := by
  have key : ∀ M : List GRun, (∀ x ∈ M, OkRun x) → (cellsOf M).length ≤ M.length * 48 := by
    intro M
    induction M with
    | nil => intro _; simp [cellsOf]
    | cons x t ih =>
      intro hM
      have h1 := (hM x (by simp)).few
      have h2 := ih (fun y hy => hM y (by simp [hy]))
      simp only [cellsOf, List.flatMap_cons, List.length_append, List.length_map, List.length_cons] at h2 ⊢
      omega
  exact key L h.each
theorem OkRuns.from_ {L : List GRun} (h : OkRuns L) : FromOk L :=
  ⟨fun x hx => (h.each x hx).text, fun x hx => (h.each x hx).some_, fun x hx => (h.each x hx).lo, fun x hx => by have := (h.each x hx).hi; omega, h.apart, by have := h.cells_le; have := h.few; omega⟩
theorem cellsOf_nonneg {L : List GRun} (h : ∀ x ∈ L, 0 ≤ x.h) : Nonneg (cellsOf L) := by
  intro c hc
  obtain ⟨x, hx, hc⟩ := List.mem_flatMap.1 hc
  obtain ⟨r, _, rfl⟩ := List.mem_map.1 hc
  exact h x hx
/-- What From makes is a rope as it should be. -/
theorem from_good {L : List GRun} {ts : List Tr} {t : Tr} (hL : FromOk L) (hb : Built ts t) (hp : Parts L ts) : t.row = cellsOf L ∧ t.Good := by
  have hr : t.row = cellsOf L := by rw [hb.row, hp.row]
  exact ⟨hr, ⟨hb.ok_, hb.bd, by rw [hr]; exact cellsOf_nonneg hL.lo, by rw [hr]; exact hL.few⟩⟩
set_option maxHeartbeats 4000000 in
theorem ropePlaces_any {w : World} {a : Option Addr} {n cap : Nat} {l : List (Int × Int)} (h : Rw pieceV 2 w a n cap l) (hBar : Bar w) :
    Calls Tryd.prog 3 #[.slice a n cap] w fun e w' => e = .returned (.bool true) ∧ Below w.heap.size w w' := by
  go_enter Tryd.func3, Tryd.ntmps3
  go_wp2_with fail
  refine (runs_any h).mono ?_
  rintro e w1 ⟨v1, L, rfl, ho1, hL, hb1⟩
  have hF := hL.from_
  have hcl := hL.cells_le
  have hlf := hL.few
  obtain ⟨a1, c1, rfl⟩ := ho1.shape
  have HC := cells_any (ho1.rw_ layR) hF.text hF.few
  go_wp2_with fail
  refine HC.mono ?_
  rintro e w2 ⟨v2, rfl, ho2, hb2⟩
  obtain ⟨a2, c2, rfl⟩ := ho2.shape
  have hR2 := ho2.rw_ layC
  have HSH : Hid (∀ W, Below w2.heap.size w2 W → ∀ m : Nat, m ≤ (cellsOf L).length → Calls Tryd.prog 11 #[.slice a2 (cellsOf L).length c2, .int .i64 (m : Int)] W fun e w' => e = .returned (.int .i64 (vis ((cellsOf L).take m) : Int)) ∧ w' = W) := fun W hW m hm => shown_any (hR2.below hW) m hm (by omega)
  go_wp2_with fail
  refine (HSH.out _ (Below.refl _ _) _ (Nat.le_refl _)).mono ?_
  rintro e w3 ⟨rfl, rfl⟩
  rw [List.take_length]
  have HFR := from_any ((ho1.rw_ layR).below hb2) hF (hBar.below (hb1.trans (hb2.mono hb1.size)))
  go_wp2_with fail
  refine HFR.mono ?_
  rintro e w4 ⟨q, t, ts, rfl, hRp, hBt, hPt, hb4, _⟩
  obtain ⟨hrow, hgood⟩ := from_good hF hBt hPt
  have hB4 : Below w.heap.size w w4 := (hb1.trans (hb2.mono hb1.size)).trans (hb4.mono (hb1.trans (hb2.mono hb1.size)).size)
  have hR4 := hR2.below hb4
  have hlen : (cellsOf L).length ≤ 1048576 := hF.few
  have HT : Hid (∀ W, Below w4.heap.size w4 W → Calls Tryd.prog 13 #[.pointer (some ⟨q, 0, none⟩)] W fun e w' => e = .returned (.int .i64 ((cellsOf L).length : Int)) ∧ w' = W) := fun W hW => by rw [← hrow]; exact ropeTotal_any (hRp.below hW)
  have HS : Hid (∀ W, Below w4.heap.size w4 W → Calls Tryd.prog 14 #[.pointer (some ⟨q, 0, none⟩)] W fun e w' => e = .returned (.int .i64 (vis (cellsOf L) : Int)) ∧ Below W.heap.size W w') := fun W hW => by rw [← hrow]; exact ropeShownR_any (hRp.below hW) hgood
  have HTO : Hid (∀ W, Below w4.heap.size w4 W → ∀ p : Nat, p ≤ vis (cellsOf L) → Calls Tryd.prog 15 #[.pointer (some ⟨q, 0, none⟩), .int .i64 (p : Int)] W fun e w' => e = .returned (.tuple #[.int .i64 (place (cellsOf L) p : Int), .int .i64 0]) ∧ Below W.heap.size W w') := fun W hW p hp => by rw [← hrow] at hp ⊢; exact ropeTotalOf_any (hRp.below hW) hgood p hp
  have HSB : Hid (∀ W, Below w4.heap.size w4 W → ∀ c : Nat, c ≤ (cellsOf L).length → Calls Tryd.prog 16 #[.pointer (some ⟨q, 0, none⟩), .int .i64 (c : Int)] W fun e w' => e = .returned (.tuple #[.int .i64 (vis ((cellsOf L).take c) : Int), .int .i64 0]) ∧ Below W.heap.size W w') := fun W hW c hc => by rw [← hrow] at hc ⊢; exact ropeShownBefore_any (hRp.below hW) hgood c hc
  have HSH4 : Hid (∀ W, Below w4.heap.size w4 W → ∀ m : Nat, m ≤ (cellsOf L).length → Calls Tryd.prog 11 #[.slice a2 (cellsOf L).length c2, .int .i64 (m : Int)] W fun e w' => e = .returned (.int .i64 (vis ((cellsOf L).take m) : Int)) ∧ w' = W) := fun W hW m hm => shown_any (hR4.below hW) m hm (by omega)
  clear hL hF hcl hlf ho1 HC ho2 HSH HFR hRp hBt hPt hrow hgood hb1 hb2 hb4 hR2 hBar h
  generalize cellsOf L = R at *
  have hvl := vis_le R
  unfold ptr
  have q1 : ((R.length : Int) != (R.length : Int)) = false := by simp
  have q2 : ((vis R : Int) != (vis R : Int)) = false := by simp
  go_wp2_with fail
  refine (HT.out _ (Below.refl _ _)).mono ?_
  rintro e w5 ⟨rfl, rfl⟩
  go_wp2_with fail
  refine (HS.out _ (Below.refl _ _)).mono ?_
  rintro e w6 ⟨rfl, hb6⟩
  go_wp2_with fail
  go_loopw [8] (fun vp w' => ∃ p : Nat, p ≤ vis R + 1 ∧ vp = .int .i64 (p : Int) ∧ Below w5.heap.size w5 w') (fun p _ => vis R + 1 - (intOf p).toNat)
  case atStart => exact ⟨0, Nat.zero_le _, rfl, hb6⟩
  case round =>
    obtain ⟨p, hp, rfl, hb⟩ := hrel
    by_cases hpv : p ≤ vis R
    · have hple := place_le R p
      have HPV : Hid (vis (R.take (place R p)) = p) := place_vis R p hpv
      have q3 : ((p : Int) != (p : Int)) = false := by simp
      go_wp2_with fail
      refine (HTO.out _ hb p hpv).mono ?_
      rintro e w7 ⟨rfl, hb7⟩
      have hB7 := hb.trans (hb7.mono hb.size)
      go_wp2_with fail
      refine (HSB.out _ hB7 _ hple).mono ?_
      rintro e w8 ⟨rfl, hb8⟩
      have hB8 := hB7.trans (hb8.mono hB7.size)
      rw [HPV.out]
      go_wp2_with fail
      go_roundw
      case rel => exact ⟨p + 1, by omega, by go_num, hB8⟩
      case measure => simp [intOf]; omega
    · have hpv2 : ¬ (p : Int) ≤ (vis R : Int) := by omega
      go_wp2_with fail
      go_loopw [13] (fun vc w' => ∃ c : Nat, c ≤ R.length + 1 ∧ vc = .int .i64 (c : Int) ∧ Below w5.heap.size w5 w') (fun c _ => R.length + 1 - (intOf c).toNat)
      case atStart => exact ⟨0, Nat.zero_le _, rfl, hb⟩
      case round =>
        obtain ⟨c, hc, rfl, hbc⟩ := hrel
        by_cases hcl : c ≤ R.length
        · obtain ⟨hge, hvv⟩ := place_ge R c hcl
          have hvt := vis_take_le R c
          have hdle := place_le R (vis (R.take c))
          have hzero := place_zero R (vis (R.take c))
          have hend := place_end R (vis (R.take c))
          generalize hd : place R (vis (R.take c)) = d at *
          have HVV : Hid (vis (R.take d) = vis (R.take c)) := hvv
          clear hvv
          have HTO2 := fun W hW => HTO.out W hW (vis (R.take c)) (by omega)
          rw [hd] at HTO2
          clear hd
          have HRD : Hid (∀ W, Below w5.heap.size w5 W → d < R.length → ∃ g off, a2 = some ⟨g, off, none⟩ ∧ W.cell? ⟨g, off + d * 2 + 1, none⟩ = some (.int .i64 0)) := fun W hW hdl => by
            obtain ⟨g, off, x, ha, hg, hx, hcc⟩ := (hR4.below hW).at d hdl
            refine ⟨g, off, ha, (hcc 1 _ rfl).trans ?_⟩
            have hlt : vis (R.take c) < vis R := Nat.lt_of_not_le fun e => by have := hend e; omega
            have h0 := hzero hlt
            rw [List.getD_eq_getElem?_getD, hx] at h0
            simp only [Option.getD_some] at h0
            rw [h0]
          clear hzero hend
          generalize hvc : vis (R.take c) = vc at *
          have q5 : ((vc : Int) != (vc : Int)) = false := by simp
          have HVC : Hid (vis (R.take c) = vc) := hvc
          clear hvc
          have i1 : ¬ (d : Int) < (c : Int) := by omega
          have i2 : ¬ (R.length : Int) < (d : Int) := by omega
          have hcl3 : (c : Int) ≤ (R.length : Int) := by omega
          go_wp2_with fail
          refine (HSB.out _ hbc c hcl).mono ?_
          rintro e w7 ⟨rfl, hb7⟩
          have hB7 := hbc.trans (hb7.mono hbc.size)
          rw [HVC.out]
          go_wp2_with fail
          refine (HTO2 _ hB7).mono ?_
          rintro e w8 ⟨rfl, hb8⟩
          have hB8 := hB7.trans (hb8.mono hB7.size)
          go_wp2_with fail
          refine (HSH4.out _ hB8 c hcl).mono ?_
          rintro e w9 ⟨rfl, rfl⟩
          rw [HVC.out]
          go_wp2_with fail
          refine (HSH4.out _ hB8 d hdle).mono ?_
          rintro e w10 ⟨rfl, rfl⟩
          rw [HVV.out]
          by_cases hdl : d < R.length
          · obtain ⟨g, off, rfl, hcell⟩ := HRD.out _ hB8 hdl
            have i3 : (d : Int) < (R.length : Int) := by omega
            have hro := hR4.room
            go_wp2_with fail
            go_roundw
            case rel => exact ⟨c + 1, by omega, by go_num, hB8⟩
            case measure => simp [intOf]; omega
          · have i3 : ¬ (d : Int) < (R.length : Int) := by omega
            go_wp2_with fail
            go_roundw
            case rel => exact ⟨c + 1, by omega, by go_num, hB8⟩
            case measure => simp [intOf]; omega
        · have hcl2 : ¬ (c : Int) ≤ (R.length : Int) := by omega
          go_wp2_with fail
          go_ret
          exact ⟨rfl, hB4.trans (hbc.mono hB4.size)⟩
end Go.Proofs.YtcflpiaclnebeaaDoor
