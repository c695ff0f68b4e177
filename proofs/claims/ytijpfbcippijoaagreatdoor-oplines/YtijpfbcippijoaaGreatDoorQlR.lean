import Derived.Test.YtijpfbcippijoaaGreatDoorGr23
import Derived.Test.YtijpfbcippijoaaGreatDoorGr24
import Derived.Test.YtijpfbcippijoaaGreatDoorQaAC
import Derived.Test.YtijpfbcippijoaaGreatDoorGr7
import Derived.Test.YtijpfbcippijoaaGreatDoorOpLR
import Derived.Deep.Cut
import Derived.Deep.MidRow
import Derived.Deep.WholeRow
namespace Go.Proofs.YtijpfbcippijoaaGreatDoor
open Go.RowKit Go.Lib
set_option maxRecDepth 100000
set_option maxHeartbeats 16000000 in
theorem kinds89_any {w : World} {aC : Option Addr} {nC cC : Nat} {zs : List (Int × Int)} (hC : Rw cellV 2 w aC nC cC zs) {aS : Option Addr} {nS cS : Nat} {L : List StepV} (hS : Rw stepF 21 w aS nS cS L) (hok : ∀ x ∈ L, StepOk3 w x) (hTab : Tabq w) :
    Calls Tryz.prog 5 #[.agg #[.slice aC nC cC, .slice aS nS cS], .int .i64 8, .int .i64 9] w fun e w' => e = .returned (.bool true) ∧ Below w.heap.size w w' := by
  go_enter Tryz.func5, Tryz.ntmps5
  go_wp2_with fail
  generalize hWB : w.alloc (Obj.cells #[.slice aC nC cC, .slice aS nS cS] 25) = WB
  have hB0 : Below w.heap.size w WB := hWB ▸ (Below.refl w.heap.size w).alloc (Nat.le_refl _) _
  have hbp : WB.heap[w.heap.size]? = some (.cells #[.slice aC nC cC, .slice aS nS cS] 25) := hWB ▸ alloc_last _ _ _ rfl
  clear hWB
  refine (opFixed_any WB (hTab.below hB0).bar (hTab.below hB0).pow (hTab.below hB0).deb).mono ?_
  rintro e wf ⟨rfl, hbf⟩
  have hBf : Below w.heap.size w wf := hB0.trans (hbf.mono hB0.size)
  have hbpf := (hbf.block _ (Array.getElem?_eq_some_iff.1 hbp).1).trans hbp
  have hCf := hC.below hBf
  clear hC hbf hbp hB0
  have pf0 : wf.cell? ⟨w.heap.size, 0, none⟩ = some (.slice aC nC cC) := by rw [Lib.cell_of_heap hbpf]; rfl
  go_wp2_with fail
  refine (made_any hCf).mono ?_
  rintro e w0 ⟨v1, rfl, ho1, hb1⟩
  obtain ⟨a1, c1, rfl⟩ := ho1.shape
  have HR := runsW_any (ho1.rw_ layC) (Nat.le_trans (madeP_len zs) (by decide)) (madeP_ok zs) (madeP_cnt zs)
  have hB1 : Below w.heap.size w w0 := hBf.trans (hb1.mono hBf.size)
  have hbp1 := (hb1.block _ (Array.getElem?_eq_some_iff.1 hbpf).1).trans hbpf
  clear ho1 hb1 hbpf hBf hCf pf0
  generalize madeP zs = M at *
  go_wp2_with fail
  refine HR.mono ?_
  rintro e w2 ⟨v2, L2, rfl, ho2, hF, hcl, hb2⟩
  obtain ⟨a2, c2, rfl⟩ := ho2.shape
  have hB2 : Below w.heap.size w w2 := hB1.trans (hb2.mono hB1.size)
  have hbp2 := (hb2.block _ (Array.getElem?_eq_some_iff.1 hbp1).1).trans hbp1
  have HFR := from_any (ho2.rw_ layR) hF (hTab.bar.below hB2)
  have HB2 : Hid (Below w.heap.size w w2) := hB2
  have HBAR : Hid (Tabq w2) := hTab.below hB2
  have hs0 := hB2.size
  have hs1 := (Array.getElem?_eq_some_iff.1 hbp2).1
  have HBP : Hid (∀ W, Below w2.heap.size w2 W → W.cell? ⟨w.heap.size, 1, none⟩ = some (.slice aS nS cS)) := fun W hb => by
    have := (hb.block _ hs1).trans hbp2
    rw [Lib.cell_of_heap this]
    rfl
  have HS : Hid (Rw stepF 21 w2 aS nS cS L) := hS.below hB2
  have HOK : Hid (∀ x ∈ L, StepOk3 w2 x) := fun x hx => (hok x hx).below hB2
  have hnS := hS.room
  clear hbp1 hbp2 ho2 hF hcl hb2 hB1 hB2 hS hok hTab HR
  go_wp2_with fail
  refine HFR.mono ?_
  rintro e w3 ⟨q, t, ts, rfl, hRp, hBt, hPt, hb3, hq3⟩
  clear HFR hRp hBt hPt
  unfold ptr
  go_wp2_with fail
  go_loopw [11] (fun vi W => ∃ i : Nat, vi = .int .i64 (i : Int) ∧ i ≤ 60 ∧ Below w2.heap.size w2 W) (fun vi _ => 60 - (RowKit.intOf vi).toNat)
  case atStart => exact ⟨0, rfl, by omega, hb3⟩
  case round =>
    obtain ⟨i, rfl, hi60, hH⟩ := hrel
    have p1 := HBP.out _ hH
    by_cases hin : i < nS ∧ i < 60
    · obtain ⟨hin1, hin2⟩ := hin
      have b1 : (i : Int) < (nS : Int) := by omega
      have b2 : (i : Int) < 60 := by omega
      obtain ⟨g, off, x, rfl, hg, hx, hc⟩ := HS.out.at i hin1
      obtain ⟨⟨⟨hrx, hmx, hsx⟩, hm6, hr2x, hm26, hs2x⟩, hlx⟩ := HOK.out _ (List.mem_of_getElem? hx)
      obtain ⟨K, ⟨c, n, k, p, s, l, tc, tn, on⟩, a, m, cap, ⟨c2, n2, k2, p2, s2, l2, tc2, tn2, on2⟩, b2, m2, cap2, tot, ln⟩ := x
      simp only at hrx hmx hsx hm6 hr2x hm26 hs2x hlx
      have hrg : wr.rangeAt g (off + i * 21) [.int .i64 K, .int .i64 c, .int .i64 n, .int .i64 k, .int .i64 p, .string s, .slice a m cap, .int .i64 tc, .int .i64 tn, .bool on, .int .i64 c2, .int .i64 n2, .int .i64 k2, .int .i64 p2, .string s2, .slice b2 m2 cap2, .int .i64 tc2, .int .i64 tn2, .bool on2, .int .i64 tot, .string ln] := fun j v hv => (hH.cell (p := ⟨g, off + i * 21 + j, none⟩) hg).trans (hc j v hv)
      have h1c : (Array.all (#[.int .i64 K, .int .i64 c, .int .i64 n, .int .i64 k, .int .i64 p, .string s, .slice a m cap, .int .i64 tc, .int .i64 tn, .bool on, .int .i64 c2, .int .i64 n2, .int .i64 k2, .int .i64 p2, .string s2, .slice b2 m2 cap2, .int .i64 tc2, .int .i64 tn2, .bool on2, .int .i64 tot, .string ln] : Array Value) (fun v => v.oneCell')) = true := all_oneCell_toArray (layS.one ⟨K, ⟨c, n, k, p, s, l, tc, tn, on⟩, a, m, cap, ⟨c2, n2, k2, p2, s2, l2, tc2, tn2, on2⟩, b2, m2, cap2, tot, ln⟩)
      have HRG : Hid (wr.rangeAt g (off + i * 21) [.int .i64 K, .int .i64 c, .int .i64 n, .int .i64 k, .int .i64 p, .string s, .slice a m cap, .int .i64 tc, .int .i64 tn, .bool on, .int .i64 c2, .int .i64 n2, .int .i64 k2, .int .i64 p2, .string s2, .slice b2 m2 cap2, .int .i64 tc2, .int .i64 tn2, .bool on2, .int .i64 tot, .string ln]) := hrg
      have H1C : Hid ((Array.all (#[.int .i64 K, .int .i64 c, .int .i64 n, .int .i64 k, .int .i64 p, .string s, .slice a m cap, .int .i64 tc, .int .i64 tn, .bool on, .int .i64 c2, .int .i64 n2, .int .i64 k2, .int .i64 p2, .string s2, .slice b2 m2 cap2, .int .i64 tc2, .int .i64 tn2, .bool on2, .int .i64 tot, .string ln] : Array Value) (fun v => v.oneCell')) = true) := h1c
      clear hrg h1c
      have hr0 := hrx.below hH
      have HR2 : Hid (ln.size ≤ 1048576 ∧ m ≤ 1048576) := ⟨hlx, hm6⟩
      clear hc hx hrx HOK HS hr2x hm26 hs2x hm6 hlx
      go_upto_region 10 with (first | refine wpList_load_mid rfl 46 _ rfl g (off + i * 21) rfl [.int .i64 K, .int .i64 c, .int .i64 n, .int .i64 k, .int .i64 p, .string s, .slice a m cap, .int .i64 tc, .int .i64 tn, .bool on, .int .i64 c2, .int .i64 n2, .int .i64 k2, .int .i64 p2, .string s2, .slice b2 m2 cap2, .int .i64 tc2, .int .i64 tn2, .bool on2, .int .i64 tot, .string ln] _ HRG.out Tryz.underlying46 rfl (by kernel_rfl) ?_ | (refine wpList_store_row rfl 46 _ _ rfl wr.heap.size #[.int .i64 K, .int .i64 c, .int .i64 n, .int .i64 k, .int .i64 p, .string s, .slice a m cap, .int .i64 tc, .int .i64 tn, .bool on, .int .i64 c2, .int .i64 n2, .int .i64 k2, .int .i64 p2, .string s2, .slice b2 m2 cap2, .int .i64 tc2, .int .i64 tn2, .bool on2, .int .i64 tot, .string ln] rfl rfl 46 _ (heap_alloc_last _ _) (by kernel_rfl) rfl H1C.out ?_; rw [World.setRow_alloc_new]))
      generalize hX1 : wr.alloc (Obj.cells #[.int .i64 K, .int .i64 c, .int .i64 n, .int .i64 k, .int .i64 p, .string s, .slice a m cap, .int .i64 tc, .int .i64 tn, .bool on, .int .i64 c2, .int .i64 n2, .int .i64 k2, .int .i64 p2, .string s2, .slice b2 m2 cap2, .int .i64 tc2, .int .i64 tn2, .bool on2, .int .i64 tot, .string ln] 46) = X1
      have hc1 : Below wr.heap.size wr X1 := hX1 ▸ (Below.refl wr.heap.size wr).alloc (Nat.le_refl _) _
      have hb1 : X1.heap[wr.heap.size]? = some (.cells #[.int .i64 K, .int .i64 c, .int .i64 n, .int .i64 k, .int .i64 p, .string s, .slice a m cap, .int .i64 tc, .int .i64 tn, .bool on, .int .i64 c2, .int .i64 n2, .int .i64 k2, .int .i64 p2, .string s2, .slice b2 m2 cap2, .int .i64 tc2, .int .i64 tn2, .bool on2, .int .i64 tot, .string ln] 46) := hX1 ▸ alloc_last _ _ _ rfl
      clear hX1
      have hH1 := hH.trans (hc1.mono hH.size)
      have hr1 := hr0.below hc1
      have hlt1 := (Array.getElem?_eq_some_iff.1 hb1).1
      clear HRG H1C
      obtain ⟨x0, x1, x2, x3, x4, x5, x6, x7, x8, x9, x10, x11, x12, x13, x14, x15, x16, x17, x18, x19, x20⟩ := box21 hb1
      by_cases hK1 : K < 8
      · go_wp2_with fail
        go_roundw
        case rel => first | exact ⟨i + 1, by go_num, by omega, hH1⟩ | ((repeat apply Exists.intro); exact ⟨⟨i + 1, by go_num, by omega, hH1⟩, rfl⟩)
        case measure => simp [RowKit.intOf]; omega
      · by_cases hK2 : 9 < K
        · go_wp2_with fail
          go_roundw
          case rel => first | exact ⟨i + 1, by go_num, by omega, hH1⟩ | ((repeat apply Exists.intro); exact ⟨⟨i + 1, by go_num, by omega, hH1⟩, rfl⟩)
          case measure => simp [RowKit.intOf]; omega
        · have hK12 : K = 8 ∨ K = 9 := by omega
          clear hK1 hK2
          rcases hK12 with rfl | rfl
          · have T1 := copied4S_any (o := ⟨c, n, k, p, s, l, tc, tn, on⟩) hr1 hmx
            simp only [opVal] at T1
            go_wp2_with fail
            refine T1.mono ?_
            rintro e X2 ⟨a1, cap1, rfl, hrw, hc2⟩
            clear T1
            clear x0 x1 x2 x3 x4 x5 x6 x7 x8 x9 x10 x11 x12 x13 x14 x15 x16 x17 x18 x19 x20
            go_upto_region 12 with fail
            generalize hX3 : X2.alloc (Obj.cells #[.int .i64 c, .int .i64 n, .int .i64 k, .int .i64 p, .string s, .slice a1 m cap1, .int .i64 tc, .int .i64 tn, .bool on] 44) = X3
            have hc3 : Below X2.heap.size X2 X3 := hX3 ▸ (Below.refl X2.heap.size X2).alloc (Nat.le_refl _) _
            have ho3 : X3.heap[X2.heap.size]? = some (.cells #[.int .i64 c, .int .i64 n, .int .i64 k, .int .i64 p, .string s, .slice a1 m cap1, .int .i64 tc, .int .i64 tn, .bool on] 44) := hX3 ▸ alloc_last _ _ _ rfl
            clear hX3
            have hcc := hc2.trans (hc3.mono hc2.size)
            have hb3' := (hcc.block _ hlt1).trans hb1
            have hH3 := hH1.trans (hcc.mono hH1.size)
            have hr3 := hr1.below hcc
            have hrw3 := hrw.below hc3
            have hlt3 := (Array.getElem?_eq_some_iff.1 ho3).1
            have hlt3' := (Array.getElem?_eq_some_iff.1 hb3').1
            clear hc2 hc3 hcc hb1 hH1 hr1 hrw hlt1
            obtain ⟨x0, x1, x2, x3, x4, x5, x6, x7, x8, x9, x10, x11, x12, x13, x14, x15, x16, x17, x18, x19, x20⟩ := box21 hb3'
            obtain ⟨y0, y1, y2, y3, y4, y5, y6, y7, y8⟩ := box9 ho3
            have hl3 : Sp.Rng X3 a1 m cap1 l := rng_of_rw (rw_frontK hrw3 hr3.len)
            have T2 := asks_8 (c := c) (n := n) (k := k) (p := p) (s := s) (tc := tc) (tn := tn) (on := on) (c2 := c2) (n2 := n2) (k2 := k2) (p2 := p2) (tc2 := tc2) (tn2 := tn2) (tot := tot) (s2 := s2) (ln := ln) (on2 := on2) (b2 := b2) (m2 := m2) (cap2 := cap2) hl3 hr3 hsx HR2.out.2 (HBAR.out.below hH3)
            have HBX : Hid (X3.rangeAt wr.heap.size 0 [.int .i64 8, .int .i64 c, .int .i64 n, .int .i64 k, .int .i64 p, .string s, .slice a m cap, .int .i64 tc, .int .i64 tn, .bool on, .int .i64 c2, .int .i64 n2, .int .i64 k2, .int .i64 p2, .string s2, .slice b2 m2 cap2, .int .i64 tc2, .int .i64 tn2, .bool on2, .int .i64 tot, .string ln]) := range_block hb3'
            go_wp2_with (refine wpList_load_mid rfl 46 _ rfl wr.heap.size 0 rfl [.int .i64 8, .int .i64 c, .int .i64 n, .int .i64 k, .int .i64 p, .string s, .slice a m cap, .int .i64 tc, .int .i64 tn, .bool on, .int .i64 c2, .int .i64 n2, .int .i64 k2, .int .i64 p2, .string s2, .slice b2 m2 cap2, .int .i64 tc2, .int .i64 tn2, .bool on2, .int .i64 tot, .string ln] _ HBX.out Tryz.underlying46 rfl (by kernel_rfl) ?_)
            refine T2.mono ?_
            clear HBX
            rintro e X4 ⟨rfl, hc4⟩
            clear T2
            clear x0 x1 x2 x3 x4 x5 x6 x7 x8 x9 x10 x11 x12 x13 x14 x15 x16 x17 x18 x19 x20
            clear y0 y1 y2 y3 y4 y5 y6 y7 y8
            have hb4 := (hc4.block _ hlt3').trans hb3'
            have ho4 := (hc4.block _ hlt3).trans ho3
            have hH4 := hH3.trans (hc4.mono hH3.size)
            have hr4 := hr3.below hc4
            have hrw4 := hrw3.below hc4
            have hl4 := hl3.below hc4
            clear hb3' ho3 hH3 hr3 hrw3 hl3
            obtain ⟨x0, x1, x2, x3, x4, x5, x6, x7, x8, x9, x10, x11, x12, x13, x14, x15, x16, x17, x18, x19, x20⟩ := box21 hb4
            obtain ⟨y0, y1, y2, y3, y4, y5, y6, y7, y8⟩ := box9 ho4
            have T3 := gEqual_self (o := ⟨c, n, k, p, s, l, tc, tn, on⟩) hl4 hr4
            simp only [opVal] at T3
            go_wp2_with fail
            refine T3.mono ?_
            rintro e X5 ⟨rfl, hc5⟩
            clear T3
            clear x0 x1 x2 x3 x4 x5 x6 x7 x8 x9 x10 x11 x12 x13 x14 x15 x16 x17 x18 x19 x20
            clear y0 y1 y2 y3 y4 y5 y6 y7 y8
            have hs4 := hc4.size
            have ho5 := (hc5.block _ (by omega)).trans ho4
            have hH5 := hH4.trans (hc5.mono hH4.size)
            have hrw5 := hrw4.below hc5
            clear hb4 ho4 hH4 hr4 hrw4 hl4 hc4
            obtain ⟨y0, y1, y2, y3, y4, y5, y6, y7, y8⟩ := box9 ho5
            have T4 := spare_any (o := ⟨c, n, k, p, s, l, tc, tn, on⟩) hrw5
            simp only [opVal] at T4
            go_wp2_with fail
            refine T4.mono ?_
            rintro e X6 ⟨rfl, hc6⟩
            have hH6 := hH5.trans (hc6.mono hH5.size)
            clear T4 hc6 hrw5 ho5 hH5
            clear y0 y1 y2 y3 y4 y5 y6 y7 y8
            go_wp2_with fail
            go_roundw
            case rel => first | exact ⟨i + 1, by go_num, by omega, hH6⟩ | ((repeat apply Exists.intro); exact ⟨⟨i + 1, by go_num, by omega, hH6⟩, rfl⟩)
            case measure => simp [RowKit.intOf]; omega
          · have T1 := copied4S_any (o := ⟨c, n, k, p, s, l, tc, tn, on⟩) hr1 hmx
            simp only [opVal] at T1
            go_wp2_with fail
            refine T1.mono ?_
            rintro e X2 ⟨a1, cap1, rfl, hrw, hc2⟩
            clear T1
            clear x0 x1 x2 x3 x4 x5 x6 x7 x8 x9 x10 x11 x12 x13 x14 x15 x16 x17 x18 x19 x20
            go_upto_region 12 with fail
            generalize hX3 : X2.alloc (Obj.cells #[.int .i64 c, .int .i64 n, .int .i64 k, .int .i64 p, .string s, .slice a1 m cap1, .int .i64 tc, .int .i64 tn, .bool on] 44) = X3
            have hc3 : Below X2.heap.size X2 X3 := hX3 ▸ (Below.refl X2.heap.size X2).alloc (Nat.le_refl _) _
            have ho3 : X3.heap[X2.heap.size]? = some (.cells #[.int .i64 c, .int .i64 n, .int .i64 k, .int .i64 p, .string s, .slice a1 m cap1, .int .i64 tc, .int .i64 tn, .bool on] 44) := hX3 ▸ alloc_last _ _ _ rfl
            clear hX3
            have hcc := hc2.trans (hc3.mono hc2.size)
            have hb3' := (hcc.block _ hlt1).trans hb1
            have hH3 := hH1.trans (hcc.mono hH1.size)
            have hr3 := hr1.below hcc
            have hrw3 := hrw.below hc3
            have hlt3 := (Array.getElem?_eq_some_iff.1 ho3).1
            have hlt3' := (Array.getElem?_eq_some_iff.1 hb3').1
            clear hc2 hc3 hcc hb1 hH1 hr1 hrw hlt1
            obtain ⟨x0, x1, x2, x3, x4, x5, x6, x7, x8, x9, x10, x11, x12, x13, x14, x15, x16, x17, x18, x19, x20⟩ := box21 hb3'
            obtain ⟨y0, y1, y2, y3, y4, y5, y6, y7, y8⟩ := box9 ho3
            have hl3 : Sp.Rng X3 a1 m cap1 l := rng_of_rw (rw_frontK hrw3 hr3.len)
            have T2 := asks_9 (c := c) (n := n) (k := k) (p := p) (s := s) (tc := tc) (tn := tn) (on := on) (c2 := c2) (n2 := n2) (k2 := k2) (p2 := p2) (tc2 := tc2) (tn2 := tn2) (tot := tot) (s2 := s2) (ln := ln) (on2 := on2) (b2 := b2) (m2 := m2) (cap2 := cap2) hl3 hr3 hsx HR2.out.2 (HBAR.out.below hH3) HR2.out.1
            have HBX : Hid (X3.rangeAt wr.heap.size 0 [.int .i64 9, .int .i64 c, .int .i64 n, .int .i64 k, .int .i64 p, .string s, .slice a m cap, .int .i64 tc, .int .i64 tn, .bool on, .int .i64 c2, .int .i64 n2, .int .i64 k2, .int .i64 p2, .string s2, .slice b2 m2 cap2, .int .i64 tc2, .int .i64 tn2, .bool on2, .int .i64 tot, .string ln]) := range_block hb3'
            go_wp2_with (refine wpList_load_mid rfl 46 _ rfl wr.heap.size 0 rfl [.int .i64 9, .int .i64 c, .int .i64 n, .int .i64 k, .int .i64 p, .string s, .slice a m cap, .int .i64 tc, .int .i64 tn, .bool on, .int .i64 c2, .int .i64 n2, .int .i64 k2, .int .i64 p2, .string s2, .slice b2 m2 cap2, .int .i64 tc2, .int .i64 tn2, .bool on2, .int .i64 tot, .string ln] _ HBX.out Tryz.underlying46 rfl (by kernel_rfl) ?_)
            refine T2.mono ?_
            clear HBX
            rintro e X4 ⟨rfl, hc4⟩
            clear T2
            clear x0 x1 x2 x3 x4 x5 x6 x7 x8 x9 x10 x11 x12 x13 x14 x15 x16 x17 x18 x19 x20
            clear y0 y1 y2 y3 y4 y5 y6 y7 y8
            have hb4 := (hc4.block _ hlt3').trans hb3'
            have ho4 := (hc4.block _ hlt3).trans ho3
            have hH4 := hH3.trans (hc4.mono hH3.size)
            have hr4 := hr3.below hc4
            have hrw4 := hrw3.below hc4
            have hl4 := hl3.below hc4
            clear hb3' ho3 hH3 hr3 hrw3 hl3
            obtain ⟨x0, x1, x2, x3, x4, x5, x6, x7, x8, x9, x10, x11, x12, x13, x14, x15, x16, x17, x18, x19, x20⟩ := box21 hb4
            obtain ⟨y0, y1, y2, y3, y4, y5, y6, y7, y8⟩ := box9 ho4
            have T3 := gEqual_self (o := ⟨c, n, k, p, s, l, tc, tn, on⟩) hl4 hr4
            simp only [opVal] at T3
            go_wp2_with fail
            refine T3.mono ?_
            rintro e X5 ⟨rfl, hc5⟩
            clear T3
            clear x0 x1 x2 x3 x4 x5 x6 x7 x8 x9 x10 x11 x12 x13 x14 x15 x16 x17 x18 x19 x20
            clear y0 y1 y2 y3 y4 y5 y6 y7 y8
            have hs4 := hc4.size
            have ho5 := (hc5.block _ (by omega)).trans ho4
            have hH5 := hH4.trans (hc5.mono hH4.size)
            have hrw5 := hrw4.below hc5
            clear hb4 ho4 hH4 hr4 hrw4 hl4 hc4
            obtain ⟨y0, y1, y2, y3, y4, y5, y6, y7, y8⟩ := box9 ho5
            have T4 := spare_any (o := ⟨c, n, k, p, s, l, tc, tn, on⟩) hrw5
            simp only [opVal] at T4
            go_wp2_with fail
            refine T4.mono ?_
            rintro e X6 ⟨rfl, hc6⟩
            have hH6 := hH5.trans (hc6.mono hH5.size)
            clear T4 hc6 hrw5 ho5 hH5
            clear y0 y1 y2 y3 y4 y5 y6 y7 y8
            go_wp2_with fail
            go_roundw
            case rel => first | exact ⟨i + 1, by go_num, by omega, hH6⟩ | ((repeat apply Exists.intro); exact ⟨⟨i + 1, by go_num, by omega, hH6⟩, rfl⟩)
            case measure => simp [RowKit.intOf]; omega
    · by_cases hin1 : i < nS
      · have b1 : (i : Int) < (nS : Int) := by omega
        have b2 : ¬ (i : Int) < 60 := fun e => hin ⟨hin1, by omega⟩
        clear hin
        go_wp2_with fail
        go_ret
        exact ⟨rfl, HB2.out.trans (hH.mono HB2.out.size)⟩
      · have b1 : ¬ (i : Int) < (nS : Int) := by omega
        clear hin
        go_wp2_with fail
        go_ret
        exact ⟨rfl, HB2.out.trans (hH.mono HB2.out.size)⟩
set_option maxHeartbeats 2000000 in
theorem opLines_any {w : World} {aC : Option Addr} {nC cC : Nat} {zs : List (Int × Int)} (hC : Rw cellV 2 w aC nC cC zs) {aS : Option Addr} {nS cS : Nat} {L : List StepV} (hS : Rw stepF 21 w aS nS cS L) (hok : ∀ x ∈ L, StepOk3 w x) (hTab : Tabq w) :
    Calls Tryz.prog 3 #[.agg #[.slice aC nC cC, .slice aS nS cS]] w fun e w' => e = .returned (.bool true) ∧ Below w.heap.size w w' := by
  go_enter Tryz.func3, Tryz.ntmps3
  go_wp2_with fail
  have hB0 : Below w.heap.size w (w.alloc (Obj.cells #[.slice aC nC cC, .slice aS nS cS] 25)) := (Below.refl w.heap.size w).alloc (Nat.le_refl _) _
  refine (kinds89_any (hC.below hB0) (hS.below hB0) (fun x hx => (hok x hx).below hB0) (hTab.below hB0)).mono ?_
  rintro e w1 ⟨rfl, hb1⟩
  have hB1 := hB0.trans (hb1.mono hB0.size)
  clear hb1
  go_wp2_with fail
  go_ret
  exact ⟨rfl, hB1⟩
end Go.Proofs.YtijpfbcippijoaaGreatDoor
