import Derived.Test.YtaaegedmilpcfaaDoorRtK
import Derived.Test.YtaaegedmilpcfaaDoorRrKN
/-! RopeIsRow. -/
namespace Go.Proofs.YtaaegedmilpcfaaDoor
open Go.RowKit Go.Lib
set_option maxRecDepth 100000

def actV (x : Int × Int × Int × Int) : List Value := [.int .i64 x.1, .int .i64 x.2.1, .int .i64 x.2.2.1, .int .i64 x.2.2.2]
theorem layA : Lay actV 4 := ⟨fun _ => rfl, by decide, fun x u hu => by simp [actV] at hu; rcases hu with rfl | rfl | rfl | rfl <;> rfl⟩
theorem acts_any {w2 : World} {q : Nat} {M : Int} {R : List (Int × Int)} {a : Option Addr} {cap : Nat} {W : World} (h : Both w2 q M R a cap W) (hq : w2.heap.size ≤ q) (hBar : Bar w2) (hM1 : 1 ≤ M) (hM : M ≤ 1000000) (hlen : R.length ≤ 32768) (k A B N : Int) :
    Calls Tryd.prog 8 #[.pointer (some ⟨q, 0, none⟩), .slice a R.length cap, .agg #[.int .i64 k, .int .i64 A, .int .i64 B, .int .i64 N]] W fun e W' => ∃ a' cap' R', e = .returned (.tuple #[.slice a' R'.length cap', .bool true]) ∧ Both w2 q (M + 1) R' a' cap' W' ∧ R'.length ≤ R.length + 48 := by
  by_cases h0 : k = 0
  · subst h0; exact acts_put h hq hBar hM1 hlen A B N
  · by_cases h1 : k = 1
    · subst h1; exact acts_up h hq hM hlen A B N
    · exact acts_down h hq hM hlen k A B N h0 h1
theorem Both.still {w2 : World} {q : Nat} {M : Int} {R : List (Int × Int)} {a : Option Addr} {cap : Nat} {W W' : World} (h : Both w2 q M R a cap W) (hb : Below W.heap.size W W') : Both w2 q M R a cap W' := ⟨h.rope.still hb, h.row.below hb, h.ok, h.cnt⟩
theorem Both.is {w2 : World} {q : Nat} {M : Int} {R : List (Int × Int)} {a : Option Addr} {cap : Nat} {W : World} (h : Both w2 q M R a cap W) (hlen : R.length ≤ 1048576) :
    Calls Tryd.prog 7 #[.pointer (some ⟨q, 0, none⟩), .slice a R.length cap] W fun e W' => e = .returned (.bool true) ∧ Both w2 q M R a cap W' :=
  (is_any h.rope.self h.row h.ok hlen).mono fun _ _ ⟨he, hb⟩ => ⟨he, h.still hb⟩
set_option maxHeartbeats 8000000 in
theorem ropeIsRow_any {w : World} {a : Option Addr} {n cap : Nat} {l : List (Int × Int)} (h : Rw pieceV 2 w a n cap l) {b : Option Addr} {m capb : Nat} {S : List (Int × Int × Int × Int)} (hs : Rw actV 4 w b m capb S) (hBar : Bar w) :
    Calls Tryd.prog 3 #[.slice a n cap, .slice b m capb] w fun e w' => e = .returned (.bool true) ∧ Below w.heap.size w w' := by
  have hsr := hs.room
  go_enter Tryd.func3, Tryd.ntmps3
  go_wp2_with fail
  refine (runs_any h).mono ?_
  rintro e w1 ⟨v1, L, rfl, ho1, hL, hb1⟩
  have hF := hL.from_
  have hcl := hL.cells_le
  have hlf := hL.few
  obtain ⟨a1, c1, rfl⟩ := ho1.shape
  have HC := cells_any (ho1.rw_ layR) hF.text hF.few
  go_wp2_with fail
  refine HC.mono ?_
  rintro e w2 ⟨v2, rfl, ho2, hb2⟩
  obtain ⟨a2, c2, rfl⟩ := ho2.shape
  have hR2 := ho2.rw_ layC
  have hB2 : Below w.heap.size w w2 := hb1.trans (hb2.mono hb1.size)
  have hBar2 := hBar.below hB2
  have HFR := from_any ((ho1.rw_ layR).below hb2) hF hBar2
  have hO := cellsOf_ok hF.text
  have hnn : (cellsOf L).length ≤ 1152 := by omega
  have hCN : Cnt 2 (cellsOf L) := fun c hc => by
    obtain ⟨x, hx, hc⟩ := List.mem_flatMap.1 hc
    obtain ⟨r, _, rfl⟩ := List.mem_map.1 hc
    exact ⟨(hL.each x hx).lo, (hL.each x hx).hi⟩
  have HLA : Hid (∀ W q, (∃ t ts, RopeAt W q t ∧ Built ts t ∧ Parts L ts) → Below w2.heap.size w2 W → Both w2 q 2 (cellsOf L) a2 c2 W) := fun W q ⟨t, ts, k1, k2, k3⟩ hb => by
    obtain ⟨e1, e2⟩ := from_rp hF k2 k3
    exact ⟨⟨t, k1, e2, e1, hb⟩, hR2.below hb, hO, hCN⟩
  have HBAR : Hid (Bar w2) := hBar2
  have HS : Hid (Rw actV 4 w b m capb S) := hs
  clear hCN hL hF hcl hlf ho1 HC ho2 hR2 hBar h hO hBar2 hs
  generalize hRR : cellsOf L = R at *
  clear hRR
  go_wp2_with fail
  refine HFR.mono ?_
  rintro e w6 ⟨q, t, ts, rfl, hRp, hBt, hPt, hb6, hq6⟩
  have hH0 := HLA.out _ q ⟨t, ts, hRp, hBt, hPt⟩ hb6
  clear HLA HFR hRp hBt hPt hb6
  unfold ptr
  have HI := hH0.is (by omega)
  go_wp2_with fail
  refine HI.mono ?_
  rintro e w7 ⟨rfl, hH7⟩
  clear HI hH0
  have HB2 : Hid (Below w.heap.size w w2) := hB2
  clear hB2 hb1 hb2
  go_wp2_with fail
  go_loopw [6, 9, 10] (fun v6 _ v10 W => ∃ (i : Nat) (R : List (Int × Int)) (a : Option Addr) (cap : Nat), v10 = .int .i64 (i : Int) ∧ v6 = .slice a R.length cap ∧ i ≤ 24 ∧ i ≤ m ∧ R.length ≤ 1152 + 48 * i ∧ Both w2 q (2 + (i : Int)) R a cap W) (fun _ _ v _ => 24 - (RowKit.intOf v).toNat)
  case atStart => exact ⟨0, R, a2, c2, rfl, rfl, by omega, by omega, by omega, hH7⟩
  case round =>
    clear hH7 hnn
    obtain ⟨i, R1, a3, c3, rfl, rfl, hi, him, hl1, hH⟩ := hrel
    have HW : Below w.heap.size w wr := HB2.out.trans (hH.rope.below.mono HB2.out.size)
    by_cases hgo : i < m ∧ i < 24
    · obtain ⟨g1, g2⟩ := hgo
      obtain ⟨gs, os, x, rfl, hgs, hx, hc⟩ := HS.out.at i g1
      have k0 : wr.cell? ⟨gs, os + i * 4, none⟩ = some (.int .i64 x.1) := (HW.cell (p := ⟨gs, os + i * 4 + 0, none⟩) hgs).trans (hc 0 _ rfl)
      have k1 : wr.cell? ⟨gs, os + i * 4 + 1, none⟩ = some (.int .i64 x.2.1) := (HW.cell (p := ⟨gs, os + i * 4 + 1, none⟩) hgs).trans (hc 1 _ rfl)
      have k2 : wr.cell? ⟨gs, os + i * 4 + 2, none⟩ = some (.int .i64 x.2.2.1) := (HW.cell (p := ⟨gs, os + i * 4 + 2, none⟩) hgs).trans (hc 2 _ rfl)
      have k3 : wr.cell? ⟨gs, os + i * 4 + 3, none⟩ = some (.int .i64 x.2.2.2) := (HW.cell (p := ⟨gs, os + i * 4 + 3, none⟩) hgs).trans (hc 3 _ rfl)
      have HA := acts_any hH hq6 HBAR.out (by omega) (by omega) (by omega) x.1 x.2.1 x.2.2.1 x.2.2.2
      have d1 : decide ((i : Int) < (m : Int)) = true := decide_eq_true (by omega)
      have d2 : decide ((i : Int) < 24) = true := decide_eq_true (by omega)
      clear hc hx
      go_wp2_with fail
      refine HA.mono ?_
      rintro e w8 ⟨a4, c4, R4, rfl, hH8, hl8⟩
      clear HA k0 k1 k2 k3 d1 d2
      have HI := hH8.is (by omega)
      go_wp2_with fail
      refine HI.mono ?_
      rintro e w9 ⟨rfl, hH9⟩
      clear HI
      go_wp2_with fail
      exact ⟨⟨i + 1, R4, a4, c4, by simp, rfl, by omega, by omega, by omega, by rw [show (2 : Int) + ((i + 1 : Nat) : Int) = 2 + (i : Int) + 1 by omega]; exact hH9⟩, by simp [RowKit.intOf]; omega⟩
    · have hcs : (decide ((i : Int) < (m : Int)) = true ∧ decide ((i : Int) < 24) = false) ∨ decide ((i : Int) < (m : Int)) = false := by simp only [decide_eq_true_eq, decide_eq_false_iff_not]; omega
      rcases hcs with ⟨d1, d2⟩ | d1
      all_goals
        go_wp2_with fail
        all_goals
          go_ret
          exact ⟨rfl, HW⟩
end Go.Proofs.YtaaegedmilpcfaaDoor
