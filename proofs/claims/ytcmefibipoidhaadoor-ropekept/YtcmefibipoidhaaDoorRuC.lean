import Derived.Test.YtcmefibipoidhaaDoorRtL
import Derived.Test.YtcmefibipoidhaaDoorRuB
import Derived.Test.YtcmefibipoidhaaDoorRsC
/-! RopeKept. -/
namespace Go.Proofs.YtcmefibipoidhaaDoor
open Go.RowKit Go.Lib
set_option maxRecDepth 100000

theorem Both.more {w2 : World} {q : Nat} {M N : Int} {R : List (Int × Int)} {a : Option Addr} {cap : Nat} {W : World} (h : Both w2 q M R a cap W) (hN : M ≤ N) : Both w2 q N R a cap W := ⟨h.rope, h.row, h.ok, fun c hc => ⟨(h.cnt c hc).1, Int.le_trans (h.cnt c hc).2 hN⟩⟩
/-- What RopeKept asks, in the walk's words. -/
structure KeptB (N K D L : Nat) (H : Int) : Prop where
  runs : N ≤ K
  few : ¬ (N : Int) + (L : Int) / 16 < (K : Int)
  none_ : ((N : Int) == 0) = ((L : Int) == 0)
  low : decide (H < (D : Int)) = false
  high : decide (2 * (D : Int) < H) = false
theorem Tr.Rp.keptB {t : Tr} (h : t.Rp) : KeptB (runsOfRow t.row).length t.lv.length (dgt t.lv.length) t.row.length t.sm.high := by
  obtain ⟨h1, h2, h3⟩ := h.kept
  obtain ⟨h4, h5⟩ := h.levels
  refine ⟨h1, by omega, ?_, decide_eq_false (by omega), decide_eq_false (by omega)⟩
  by_cases e0 : t.row.length = 0
  · have := h3.2 e0
    simp [e0, this]
  · have : (runsOfRow t.row).length ≠ 0 := fun e => e0 (h3.1 e)
    have a1 : (((runsOfRow t.row).length : Int) == 0) = false := by simp; exact fun e => this (by simp [e])
    have a2 : ((t.row.length : Int) == 0) = false := by simp; exact fun e => e0 (by simp [e])
    rw [a1, a2]
theorem Tr.Rp.small {t : Tr} (h : t.Rp) : t.lv.length ≤ 1048576 ∧ (runsOfRow t.row).length ≤ 1048576 ∧ dgt t.lv.length ≤ 21 ∧ 0 ≤ t.sm.high ∧ t.sm.high ≤ 42 := by
  obtain ⟨h1, h2, h3⟩ := h.kept
  obtain ⟨h4, h5⟩ := h.levels
  have hl := h.len
  have h6 : t.lv.length ≤ t.row.length := by
    have := pls_len t.lv 0 h.pcs.some_
    rw [← Tr.row_lv] at this
    have e : ∀ (l : List (List Int × Int)) (f : Int), (pls l f).length = l.length := fun l => by
      induction l with
      | nil => intro f; rfl
      | cons p t ih => intro f; simp [pls, ih]
    rw [e] at this
    exact this.1
  have h7 := dgt_le 21 t.lv.length (by omega)
  omega
set_option maxHeartbeats 8000000 in
theorem ropeKept_any {w : World} {a : Option Addr} {n cap : Nat} {l : List (Int × Int)} (h : Rw pieceV 2 w a n cap l) {b : Option Addr} {m capb : Nat} {S : List (Int × Int × Int × Int)} (hs : Rw actV 4 w b m capb S) (hBar : Bar w) :
    Calls Tryd.prog 3 #[.slice a n cap, .slice b m capb] w fun e w' => e = .returned (.bool true) ∧ Below w.heap.size w w' := by
  have hsr := hs.room
  go_enter Tryd.func3, Tryd.ntmps3
  go_wp2_with fail
  refine (runs_any h).mono ?_
  rintro e w1 ⟨v1, L, rfl, ho1, hL, hb1⟩
  have hF := hL.from_
  have hcl := hL.cells_le
  have hlf := hL.few
  obtain ⟨a1, c1, rfl⟩ := ho1.shape
  have HC := cells_any (ho1.rw_ layR) hF.text hF.few
  go_wp2_with fail
  refine HC.mono ?_
  rintro e w2 ⟨v2, rfl, ho2, hb2⟩
  obtain ⟨a2, c2, rfl⟩ := ho2.shape
  have hR2 := ho2.rw_ layC
  have hB2 : Below w.heap.size w w2 := hb1.trans (hb2.mono hb1.size)
  have hBar2 := hBar.below hB2
  have HFR := from_any ((ho1.rw_ layR).below hb2) hF hBar2
  have hO := cellsOf_ok hF.text
  have hnn : (cellsOf L).length ≤ 1152 := by omega
  have hCN : Cnt 2 (cellsOf L) := fun c hc => by
    obtain ⟨x, hx, hc⟩ := List.mem_flatMap.1 hc
    obtain ⟨r, _, rfl⟩ := List.mem_map.1 hc
    exact ⟨(hL.each x hx).lo, (hL.each x hx).hi⟩
  have HLA : Hid (∀ W q, (∃ t ts, RopeAt W q t ∧ Built ts t ∧ Parts L ts) → Below w2.heap.size w2 W → Both w2 q 2 (cellsOf L) a2 c2 W) := fun W q ⟨t, ts, k1, k2, k3⟩ hb => by
    obtain ⟨e1, e2⟩ := from_rp hF k2 k3
    exact ⟨⟨t, k1, e2, e1, hb⟩, hR2.below hb, hO, hCN⟩
  have HBAR : Hid (Bar w2) := hBar2
  have HS : Hid (Rw actV 4 w b m capb S) := hs
  clear hCN hL hF hcl hlf ho1 HC ho2 hR2 hBar h hO hBar2 hs
  generalize hRR : cellsOf L = R at *
  clear hRR
  go_wp2_with fail
  refine HFR.mono ?_
  rintro e w6 ⟨q, t, ts, rfl, hRp, hBt, hPt, hb6, hq6⟩
  have hH0 := HLA.out _ q ⟨t, ts, hRp, hBt, hPt⟩ hb6
  clear HLA HFR hRp hBt hPt hb6
  unfold ptr
  have HB2 : Hid (Below w.heap.size w w2) := hB2
  clear hB2 hb1 hb2
  go_wp2_with fail
  go_loopw [6, 9, 10] (fun v6 _ v10 W => ∃ (i : Nat) (R : List (Int × Int)) (a : Option Addr) (cap : Nat), v10 = .int .i64 (i : Int) ∧ v6 = .slice a R.length cap ∧ i ≤ 25 ∧ i ≤ m + 1 ∧ R.length ≤ 1152 + 48 * i ∧ Both w2 q (2 + (i : Int)) R a cap W) (fun _ _ v _ => 25 - (RowKit.intOf v).toNat)
  case atStart => exact ⟨0, R, a2, c2, rfl, rfl, by omega, by omega, by omega, hH0⟩
  case round =>
    clear hH0 hnn
    obtain ⟨i, R1, a3, c3, rfl, rfl, hi, him, hl1, hH⟩ := hrel
    have HW : Below w.heap.size w wr := HB2.out.trans (hH.rope.below.mono HB2.out.size)
    by_cases hgo : i ≤ m ∧ i ≤ 24
    · obtain ⟨g1, g2⟩ := hgo
      have d1 : decide ((i : Int) ≤ (m : Int)) = true := decide_eq_true (by omega)
      have d2 : decide ((i : Int) ≤ 24) = true := decide_eq_true (by omega)
      obtain ⟨t, j1, j2, rfl, j4⟩ := hH.rope
      have HR := ropeRuns_any j1 j2 (okl_row hH.ok)
      obtain ⟨s1, s2, s3, s4, s5⟩ := j2.small
      have KB := j2.keptB
      obtain ⟨q1, q2, q3, q4, q5⟩ := KB
      clear j4
      go_wp2_with fail
      refine HR.mono ?_
      rintro e w8 ⟨v8, rfl, ho8, hb8⟩
      obtain ⟨a8, c8, rfl⟩ := ho8.shape
      rw [List.length_map]
      have hH8 := hH.still hb8
      have r8 := j1.below hb8
      have HL := leaves_any r8
      have HHt := height_any r8
      have HD := digits_any t.lv.length (by omega) w8
      have HT := ropeTotal_any r8
      unfold ptr at HL HHt HT
      clear HR hH j1 ho8 hb8
      generalize (runsOfRow t.row).length = rn at *
      go_wp2_with fail
      refine HL.mono ?_
      rintro e w9 ⟨rfl, rfl⟩
      clear HL
      go_wp2_with fail
      refine HD.mono ?_
      rintro e w9 ⟨rfl, rfl⟩
      clear HD
      go_wp2_with fail
      refine HHt.mono ?_
      rintro e w9 ⟨rfl, rfl⟩
      clear HHt
      have q0 : ((t.row.length : Int) != (t.row.length : Int)) = false := by simp
      go_wp2_with fail
      refine HT.mono ?_
      rintro e w9 ⟨rfl, rfl⟩
      clear HT
      by_cases hact : i < m ∧ i < 24
      · obtain ⟨f1, f2⟩ := hact
        have d3 : decide ((i : Int) < (m : Int)) = true := decide_eq_true (by omega)
        have d4 : decide ((i : Int) < 24) = true := decide_eq_true (by omega)
        have HW9 : Below w.heap.size w w9 := HB2.out.trans (hH8.rope.below.mono HB2.out.size)
        obtain ⟨gs, os, x, rfl, hgs, hx, hc⟩ := HS.out.at i f1
        have k0 : w9.cell? ⟨gs, os + i * 4, none⟩ = some (.int .i64 x.1) := (HW9.cell (p := ⟨gs, os + i * 4 + 0, none⟩) hgs).trans (hc 0 _ rfl)
        have k1 : w9.cell? ⟨gs, os + i * 4 + 1, none⟩ = some (.int .i64 x.2.1) := (HW9.cell (p := ⟨gs, os + i * 4 + 1, none⟩) hgs).trans (hc 1 _ rfl)
        have k2 : w9.cell? ⟨gs, os + i * 4 + 2, none⟩ = some (.int .i64 x.2.2.1) := (HW9.cell (p := ⟨gs, os + i * 4 + 2, none⟩) hgs).trans (hc 2 _ rfl)
        have k3 : w9.cell? ⟨gs, os + i * 4 + 3, none⟩ = some (.int .i64 x.2.2.2) := (HW9.cell (p := ⟨gs, os + i * 4 + 3, none⟩) hgs).trans (hc 3 _ rfl)
        have HA := acts_any hH8 hq6 HBAR.out (by omega) (by omega) (by omega) x.1 x.2.1 x.2.2.1 x.2.2.2
        clear hc hx HW9
        go_wp2_with fail
        refine HA.mono ?_
        rintro e w10 ⟨a4, c4, R4, rfl, hH10, hl10⟩
        clear HA k0 k1 k2 k3
        go_wp2_with fail
        exact ⟨⟨i + 1, R4, a4, c4, by simp, rfl, by omega, by omega, by omega, by rw [show (2 : Int) + ((i + 1 : Nat) : Int) = 2 + (i : Int) + 1 by omega]; exact hH10⟩, by simp [RowKit.intOf]; omega⟩
      · have hcs : (decide ((i : Int) < (m : Int)) = true ∧ decide ((i : Int) < 24) = false) ∨ decide ((i : Int) < (m : Int)) = false := by simp only [decide_eq_true_eq, decide_eq_false_iff_not]; omega
        rcases hcs with ⟨d3, d4⟩ | d3
        all_goals
          go_wp2_with fail
          all_goals exact ⟨⟨i + 1, t.row, a3, c3, by simp, rfl, by omega, by omega, by omega, hH8.more (by omega)⟩, by simp [RowKit.intOf]; omega⟩
    · have hcs : (decide ((i : Int) ≤ (m : Int)) = true ∧ decide ((i : Int) ≤ 24) = false) ∨ decide ((i : Int) ≤ (m : Int)) = false := by simp only [decide_eq_true_eq, decide_eq_false_iff_not]; omega
      rcases hcs with ⟨d1, d2⟩ | d1
      all_goals
        go_wp2_with fail
        all_goals
          go_ret
          exact ⟨rfl, HW⟩
end Go.Proofs.YtcmefibipoidhaaDoor
