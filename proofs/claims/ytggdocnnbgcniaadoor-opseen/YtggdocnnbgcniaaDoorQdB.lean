import Derived.Test.YtggdocnnbgcniaaDoorQdA
import Derived.Test.YtggdocnnbgcniaaDoorQaAC
import Derived.Test.YtggdocnnbgcniaaDoorQbA
import Derived.Test.YtggdocnnbgcniaaDoorRwDE
import Derived.Test.YtggdocnnbgcniaaDoorRrKN
/-! OpSeen. -/
namespace Go.Proofs.YtggdocnnbgcniaaDoor
open Go.RowKit Go.Lib
set_option maxRecDepth 100000

/-- A deed in memory. -/
def deedF (x : (Int × Int) × (Option Addr × Nat × Nat) × (Option Addr × Nat × Nat)) : List Value := [.int .i64 x.1.1, .int .i64 x.1.2, .slice x.2.1.1 x.2.1.2.1 x.2.1.2.2, .slice x.2.2.1 x.2.2.2.1 x.2.2.2.2]
theorem layD : Lay deedF 4 := ⟨fun _ => rfl, by decide, fun x u hu => by simp [deedF] at hu; rcases hu with rfl | rfl | rfl | rfl <;> rfl⟩
/-- A deed whose text can be read. -/
def DeedT (W : World) (x : (Int × Int) × (Option Addr × Nat × Nat) × (Option Addr × Nat × Nat)) : Prop := ∃ zs, Rw rune1 1 W x.2.1.1 x.2.1.2.1 x.2.1.2.2 zs
theorem fixR_ok (r : Int) : okR (fixR r) := by
  refine okL_okR ?_
  unfold fixR okL
  split <;> omega
theorem madeP_len (zs : List (Int × Int)) : (madeP zs).length ≤ 400 := by
  unfold madeP
  rw [List.length_map, List.length_take]
  omega
theorem madeP_ok (zs : List (Int × Int)) : ∀ c ∈ madeP zs, okR c.1 := fun c hc => by
  obtain ⟨x, _, rfl⟩ := List.mem_map.1 hc
  exact fixR_ok x.1
theorem madeP_cnt (zs : List (Int × Int)) : ∀ c ∈ madeP zs, 0 ≤ c.2 ∧ c.2 ≤ 1048576 := fun c hc => by
  obtain ⟨x, _, rfl⟩ := List.mem_map.1 hc
  simp only [fixC]
  unfold fixH
  split <;> omega
theorem visR_okR {R : List (Int × Int)} (h : ∀ c ∈ R, okR c.1) : ∀ r ∈ visR R, okR r := fun r hr => by
  obtain ⟨c, hc, rfl⟩ := visR_sub R r hr
  exact h c hc
theorem visR_le {R : List (Int × Int)} (h : Nonneg R) : (visR R).length ≤ R.length := by
  rw [visR_vis h]
  exact vis_le R
theorem num_rune (x : Int) : ∃ kd i, (rune1 x)[0]? = some (.int kd i) := ⟨_, _, rfl⟩
/-- A block that is no rope's box stands. -/
theorem Upd.box {q : Nat} {w w' : World} (h : Upd q w w') {b : Nat} {o : Obj} (hb : w.heap[b]? = some o) (hne : b ≠ q) : w'.heap[b]? = some o := (h.block b (Array.getElem?_eq_some_iff.1 hb).1 hne).trans hb
theorem Holds.ne {w2 : World} {q : Nat} {R : List (Int × Int)} {W : World} (h : Holds w2 q R W) {b : Nat} (hb : W.heap.size ≤ b) : b ≠ q := by
  obtain ⟨t, ⟨g, hq, _⟩, _⟩ := h
  have := (Array.getElem?_eq_some_iff.1 hq).1
  omega
theorem Holds.rowU {w2 : World} {q : Nat} {R : List (Int × Int)} {W W' : World} (h : Holds w2 q R W) (hu : Upd q W W') {a : Option Addr} {n cap : Nat} {rs : List Int} (hr : Rw rune1 1 W a n cap rs) : Rw rune1 1 W' a n cap rs := by
  obtain ⟨t, h1, _⟩ := h
  exact hr.upd num_rune h1 hu
theorem Holds.pieceU {w2 : World} {q : Nat} {R : List (Int × Int)} {W W' : World} (h : Holds w2 q R W) (hu : Upd q W W') {a : Option Addr} {n cap : Nat} {l : List (Int × Int)} (hr : Rw pieceV 2 W a n cap l) : Rw pieceV 2 W' a n cap l := by
  obtain ⟨t, h1, _⟩ := h
  exact hr.upd num_piece h1 hu
theorem elemU : Tryd.prog.elem 34 = 21 := by kernel_rfl
/-- What an insert at the place of the m-th visible cell shows. -/
theorem shows_put {R : List (Int × Int)} (hN : Nonneg R) {m : Nat} (hm : m ≤ vis R) (rs : List Int) : visR (putL R (place R m) rs 0) = (visR R).take m ++ rs ++ (visR R).drop m := by
  have s := visR_split hN (place R m)
  rw [place_vis R m hm] at s
  rw [visR_putL, if_pos (Int.le_refl _), s.1, s.2]
theorem VisL.okUp {R : List (Int × Int)} {lo hi : Nat} {l : List (Int × Int)} (h : VisL R lo hi l) (hc : ∀ c ∈ R, 0 ≤ c.2 ∧ c.2 ≤ 1048576) : ∀ c ∈ bmp l 1 0 R, 0 ≤ c.2 ∧ c.2 ≤ 1048576 := fun c hcm => by
  obtain ⟨j, hj⟩ := List.getElem?_of_mem hcm
  rw [bmp_get] at hj
  obtain ⟨x, hx, rfl⟩ := Option.map_eq_some_iff.1 hj
  have hx2 := hc x (List.mem_of_getElem? hx)
  split
  · rename_i hin
    have := h.zero j x hx (by simpa using hin)
    simp only
    omega
  · exact hx2
theorem VisL.runes {R : List (Int × Int)} {l : List (Int × Int)} (ho : ∀ c ∈ R, okR c.1) : ∀ c ∈ bmp l 1 0 R, okR c.1 := fun c hcm => by
  obtain ⟨x, hx, e⟩ := bmp_mem hcm
  rcases e with rfl | rfl
  · exact ho _ hx
  · exact ho x hx
theorem VisL.ne {R : List (Int × Int)} {lo hi : Nat} {l : List (Int × Int)} (h : VisL R lo hi l) (hlt : lo < hi) : l ≠ [] := fun e => by
  have := h.cnt
  rw [e] at this
  simp [sumL] at this
  omega
set_option maxHeartbeats 16000000 in
theorem opSeen_any {w : World} {aC : Option Addr} {nC cC : Nat} {zs : List (Int × Int)} (hC : Rw cellV 2 w aC nC cC zs) {aD : Option Addr} {nD cD : Nat} {L : List ((Int × Int) × (Option Addr × Nat × Nat) × (Option Addr × Nat × Nat))} (hD : Rw deedF 4 w aD nD cD L) (hok : ∀ x ∈ L, DeedT w x) (hBar : Bar w) (lo hi : Int) :
    Calls Tryd.prog 3 #[.agg #[.slice aC nC cC, .slice aD nD cD, .int .i64 lo, .int .i64 hi]] w fun e w' => e = .returned (.bool true) ∧ Below w.heap.size w w' := by
  go_enter Tryd.func3, Tryd.ntmps3
  go_wp2_with fail
  generalize hWB : w.alloc (Obj.cells #[.slice aC nC cC, .slice aD nD cD, .int .i64 lo, .int .i64 hi] 25) = WB
  have hB0 : Below w.heap.size w WB := hWB ▸ (Below.refl w.heap.size w).alloc (Nat.le_refl _) _
  have hbp : WB.heap[w.heap.size]? = some (.cells #[.slice aC nC cC, .slice aD nD cD, .int .i64 lo, .int .i64 hi] 25) := hWB ▸ alloc_last _ _ _ rfl
  clear hWB
  refine (made_any (hC.below hB0)).mono ?_
  rintro e w0 ⟨v1, rfl, ho1, hb1⟩
  obtain ⟨a1, c1, rfl⟩ := ho1.shape
  have HR := runsW_any (ho1.rw_ layC) (Nat.le_trans (madeP_len zs) (by decide)) (madeP_ok zs) (madeP_cnt zs)
  have hB1 : Below w.heap.size w w0 := hB0.trans (hb1.mono hB0.size)
  have hbp1 := (hb1.block _ (Array.getElem?_eq_some_iff.1 hbp).1).trans hbp
  have HML := madeP_len zs
  have HMO : Hid (∀ c ∈ madeP zs, okR c.1) := madeP_ok zs
  clear ho1 hb1 hbp hB0 hC
  generalize madeP zs = M at *
  go_wp2_with fail
  refine HR.mono ?_
  rintro e w2 ⟨v2, L2, rfl, ho2, hF, hcl, hb2⟩
  obtain ⟨a2, c2, rfl⟩ := ho2.shape
  have hB2 : Below w.heap.size w w2 := hB1.trans (hb2.mono hB1.size)
  have hbp2 := (hb2.block _ (Array.getElem?_eq_some_iff.1 hbp1).1).trans hbp1
  have HFR := from_any (ho2.rw_ layR) hF (hBar.below hB2)
  have HLA : Hid (∀ W q, (∃ t ts, RopeAt W q t ∧ Built ts t ∧ Parts L2 ts) → Below w2.heap.size w2 W → Holds w2 q M W) := fun W q ⟨t, ts, k1, k2, k3⟩ hb => by
    obtain ⟨e1, e2⟩ := from_rp hF k2 k3
    exact ⟨t, k1, e2, e1.trans hcl, hb⟩
  have HB2 : Hid (Below w.heap.size w w2) := hB2
  have HBAR : Hid (Bar w2) := hBar.below hB2
  have hs0 := hB2.size
  have hs1 := (Array.getElem?_eq_some_iff.1 hbp2).1
  have HBP : Hid (∀ W, Below w2.heap.size w2 W → W.cell? ⟨w.heap.size, 1, none⟩ = some (.slice aD nD cD) ∧ W.cell? ⟨w.heap.size, 2, none⟩ = some (.int .i64 lo) ∧ W.cell? ⟨w.heap.size, 3, none⟩ = some (.int .i64 hi)) := fun W hb => by
    have := (hb.block _ hs1).trans hbp2
    simp only [Lib.cell_of_heap this]
    exact ⟨rfl, rfl, rfl⟩
  have HD : Hid (Rw deedF 4 w2 aD nD cD L) := hD.below hB2
  have HOK : Hid (∀ x ∈ L, DeedT w2 x) := fun x hx => by obtain ⟨zs, h⟩ := hok x hx; exact ⟨zs, h.below hB2⟩
  have hnD := hD.room
  clear hbp1 hbp2 ho2 hF hcl hb2 hB1 hB2 hD hok hBar HR
  go_wp2_with fail
  refine HFR.mono ?_
  rintro e w3 ⟨q, t, ts, rfl, hRp, hBt, hPt, hb3, hq3⟩
  have hH0 := HLA.out _ q ⟨t, ts, hRp, hBt, hPt⟩ hb3
  clear HLA HFR hRp hBt hPt hb3
  unfold ptr
  go_wp2_with fail
  go_loopw [5] (fun vi W => ∃ (i : Nat) (R : List (Int × Int)), vi = .int .i64 (i : Int) ∧ i ≤ 60 ∧ Holds w2 q R W ∧ (∀ c ∈ R, okR c.1) ∧ R.length ≤ 400 + 256 * i) (fun vi _ => 60 - (RowKit.intOf vi).toNat)
  case atStart => exact ⟨0, M, rfl, by omega, hH0, HMO.out, by omega⟩
  case round =>
    clear hH0 HMO HML
    obtain ⟨i, R, rfl, hi60, hH, hO, hlen⟩ := hrel
    obtain ⟨p1, p2, p3⟩ := HBP.out wr hH.below
    have hszr := hH.below.size
    have p1' := (World.cell?_alloc_lt wr (Obj.cells #[.int .i64 0, .int .i64 0, .slice none 0 0, .slice none 0 0] 37) ⟨w.heap.size, 1, none⟩ (by simp only; omega)).trans p1
    by_cases hin : i ≤ nD ∧ i < 60
    · obtain ⟨hin1, hin2⟩ := hin
      have b1 : (i : Int) ≤ (nD : Int) := by omega
      have b2 : (i : Int) < 60 := by omega
      by_cases hd : i < nD
      · obtain ⟨g, off, x, rfl, hg, hx, hc⟩ := HD.out.at i hd
        obtain ⟨⟨dk, dp⟩, ⟨ta, tn, tc⟩, pa, pn, pc⟩ := x
        obtain ⟨ys, hys⟩ := HOK.out _ (List.mem_of_getElem? hx)
        simp only at hys
        have hgw : g < wr.heap.size := by have := hH.below.size; omega
        have HTX : Hid (∀ W, Below w2.heap.size w2 W → Rw rune1 1 W ta tn tc ys) := fun W hb => hys.below hb
        have k0 := (World.cell?_alloc_lt wr (Obj.cells #[.int .i64 0, .int .i64 0, .slice none 0 0, .slice none 0 0] 37) ⟨g, off + i * 4 + 0, none⟩ hgw).trans ((hH.below.cell (p := ⟨g, off + i * 4 + 0, none⟩) hg).trans (hc 0 _ rfl))
        have k1 := (World.cell?_alloc_lt wr (Obj.cells #[.int .i64 0, .int .i64 0, .slice none 0 0, .slice none 0 0] 37) ⟨g, off + i * 4 + 1, none⟩ hgw).trans ((hH.below.cell (p := ⟨g, off + i * 4 + 1, none⟩) hg).trans (hc 1 _ rfl))
        have k2 := (World.cell?_alloc_lt wr (Obj.cells #[.int .i64 0, .int .i64 0, .slice none 0 0, .slice none 0 0] 37) ⟨g, off + i * 4 + 2, none⟩ hgw).trans ((hH.below.cell (p := ⟨g, off + i * 4 + 2, none⟩) hg).trans (hc 2 _ rfl))
        have k3 := (World.cell?_alloc_lt wr (Obj.cells #[.int .i64 0, .int .i64 0, .slice none 0 0, .slice none 0 0] 37) ⟨g, off + i * 4 + 3, none⟩ hgw).trans ((hH.below.cell (p := ⟨g, off + i * 4 + 3, none⟩) hg).trans (hc 3 _ rfl))
        simp only [Nat.add_zero] at k0
        have b3 : (i : Int) < (nD : Int) := by omega
        clear hc hx hys HD HOK
        go_wp2_with fail
        generalize hW1 : wr.alloc (Obj.cells #[.int .i64 dk, .int .i64 dp, .slice ta tn tc, .slice pa pn pc] 37) = W1
        have hB1 : Below wr.heap.size wr W1 := hW1 ▸ (Below.refl wr.heap.size wr).alloc (Nat.le_refl _) _
        have hbd : W1.heap[wr.heap.size]? = some (.cells #[.int .i64 dk, .int .i64 dp, .slice ta tn tc, .slice pa pn pc] 37) := hW1 ▸ alloc_last _ _ _ rfl
        clear hW1
        have hqd : wr.heap.size ≠ q := hH.ne (Nat.le_refl _)
        have hH1 := hH.still hB1
        have hNN := hH1.nonneg
        have HOO : Hid (∀ c ∈ R, okR c.1) := hO
        have HOV : Hid (∀ r ∈ visR R, okR r) := visR_okR hO
        have hvr := visR_vis hNN
        have hvl := visR_le hNN
        obtain ⟨V, hV⟩ : ∃ V, visR R = V := ⟨_, rfl⟩
        have HV : Hid (visR R = V) := hV
        have HVR : Hid (V.length = vis R) := hV ▸ hvr
        rw [hV] at hvl HOV
        have T1 := hH1.self.text hO
        rw [hV] at T1
        clear hO hH p1 p2 p3 p1' hvr hV
        refine T1.mono ?_
        rintro e w4 ⟨rfl, hs4⟩
        have hH4 := hH1.still hs4.below
        have hU4 : Upd q W1 w4 := Upd.ofBelow hs4.below
        clear T1 hs4 hB1
        obtain ⟨ct, w5, hcv5, hrt5, hb5⟩ := conv_runes (strOf_text HOV.out) (by omega) w4
        have hH5 := hH4.still hb5
        have hU5 := hU4.trans (Upd.ofBelow hb5)
        have T2 := hH5.self.shown
        rw [← HVR.out] at T2
        have hw4b : w4.heap.size ≠ q := hH4.ne (Nat.le_refl _)
        obtain ⟨bt, hbt⟩ : ∃ bt, w4.heap.size = bt := ⟨_, rfl⟩
        rw [hbt] at hcv5 hrt5 hw4b
        clear hbt
        have q1 : ((V.length : Int) != (V.length : Int)) = false := by simp
        clear hU4 hH4 hb5
        go_wp2_with fail
        refine T2.mono ?_
        rintro e w6 ⟨rfl, hs6⟩
        have hH6 := hH5.still hs6.below
        have hrt6 := hrt5.below hs6.below
        have hU6 := hU5.trans (Upd.ofBelow hs6.below)
        clear T2 hs6 hU5 hrt5 hH5
        obtain ⟨p1, p2, p3⟩ := HBP.out w6 hH6.below
        have hbd6 := hU6.box hbd hqd
        have d0 : w6.cell? ⟨wr.heap.size, 0, none⟩ = some (.int .i64 dk) := by rw [Lib.cell_of_heap hbd6]; rfl
        have d1 : w6.cell? ⟨wr.heap.size, 1, none⟩ = some (.int .i64 dp) := by rw [Lib.cell_of_heap hbd6]; rfl
        obtain ⟨z, hz⟩ : ∃ z, IntKind.i64.wrap (lo + dp) = z := ⟨_, rfl⟩
        have u1 : IntKind.i64.wrap ((V.length : Int) + 1) = (V.length : Int) + 1 := IntWalk.i64_in _ (by omega)
        have m0 := Int.emod_nonneg z (show ((V.length : Int) + 1) ≠ 0 by omega)
        have m1 := Int.emod_lt_of_pos z (show (0 : Int) < (V.length : Int) + 1 by omega)
        obtain ⟨m, hm⟩ : ∃ m : Nat, z % ((V.length : Int) + 1) = (m : Int) := ⟨(z % ((V.length : Int) + 1)).toNat, by omega⟩
        have T3 := pick_any z ((V.length : Int) + 1) (by omega) (by omega) w6
        rw [hm] at T3 m0 m1
        have hmV : m ≤ V.length := by omega
        clear hm m0 m1
        go_wp2_with fail
        refine T3.mono ?_
        rintro e w7 ⟨rfl, hw7⟩
        have hw7' := hw7.symm
        subst hw7'
        clear T3 hz u1 hw7
        have hsd := (Array.getElem?_eq_some_iff.1 hbd6).1
        have d2 := fun o => (World.cell?_alloc_lt w6 o ⟨wr.heap.size, 2, none⟩ hsd).trans (show w6.cell? ⟨wr.heap.size, 2, none⟩ = some (.slice ta tn tc) by rw [Lib.cell_of_heap hbd6]; rfl)
        go_wp2_with fail
        generalize hW7 : w6.alloc (Obj.cells #[.int .i64 0, .int .i64 0, .int .i64 1, .int .i64 0, .string ⟨#[]⟩, .slice none 0 0, .int .i64 0, .int .i64 0, .bool false] 48) = W7
        have hB7 : Below w6.heap.size w6 W7 := hW7 ▸ (Below.refl w6.heap.size w6).alloc (Nat.le_refl _) _
        have hbo7 : W7.heap[w6.heap.size]? = some (.cells #[.int .i64 0, .int .i64 0, .int .i64 1, .int .i64 0, .string ⟨#[]⟩, .slice none 0 0, .int .i64 0, .int .i64 0, .bool false] 48) := hW7 ▸ alloc_last _ _ _ rfl
        clear hW7 d2 p1 p2 p3 d0 d1
        have hqo : w6.heap.size ≠ q := hH6.ne (Nat.le_refl _)
        have T4 := letters_any (HTX.out _ (hH6.still hB7).below)
        refine T4.mono ?_
        rintro e w8 ⟨v8, rs, rfl, ho8, hne, hle, hokr, hb8⟩
        obtain ⟨a8, c8, rfl⟩ := ho8.shape
        clear T4
        have hB8 := hB7.trans (hb8.mono hB7.size)
        have hbo8 := (hb8.block _ (Array.getElem?_eq_some_iff.1 hbo7).1).trans hbo7
        have hcv8 := conv_rw (ho8.rw_ layU)
        have HRS : Hid (∀ r ∈ rs, okR r) := fun r hr => okL_okR (hokr r hr)
        have HNE : Hid (rs ≠ []) := hne
        have hpr := List.length_pos_iff.2 hne
        have hszS := strOf_size HRS.out
        have HTS : Hid (IsText (strOf rs) rs) := strOf_text HRS.out
        obtain ⟨So, hSo⟩ : ∃ So, strOf rs = So := ⟨_, rfl⟩
        have HSO : Hid (strOf rs = So) := hSo
        rw [hSo] at hcv8 hszS HTS
        clear hSo hokr hne ho8 hb8 hB7 hbo7
        obtain ⟨y0, y1, y2, y3, y4, y5, y6, y7, y8⟩ := box9 hbo8
        have f4 := Lib.frozen_of_heap hbo8 4
        go_upto_region 17 with fail
        generalize hW9 : w8.setCell ⟨w6.heap.size, 4, none⟩ (.string So) = W9
        have hB9 : Below w6.heap.size w6 W9 := hW9 ▸ hB8.setCell (p := ⟨w6.heap.size, 4, none⟩) (Nat.le_refl _) _
        have hbo9 : W9.heap[w6.heap.size]? = some (.cells #[.int .i64 0, .int .i64 0, .int .i64 1, .int .i64 0, .string So, .slice none 0 0, .int .i64 0, .int .i64 0, .bool false] 48) := hW9 ▸ (heap_setCell_same _ w6.heap.size 4 _ _ (.string So) hbo8).trans (by simp)
        clear hW9 y0 y1 y2 y3 y4 y5 y6 y7 y8 f4 hcv8 hB8 hbo8
        obtain ⟨pl, hpl⟩ : ∃ pl, place R m = pl := ⟨_, rfl⟩
        have HPL : Hid (place R m = pl) := hpl
        have hplR := place_le R m
        rw [hpl] at hplR
        have T5 := (hH6.still hB9).self.totalOf m (by have := HVR.out; omega)
        rw [hpl] at T5
        clear hpl
        go_wp2_with fail
        refine T5.mono ?_
        rintro e w10 ⟨rfl, hs10⟩
        have hB10 := hB9.trans (hs10.below.mono hB9.size)
        have hbo10 := (hs10.below.block _ (Array.getElem?_eq_some_iff.1 hbo9).1).trans hbo9
        clear T5 hs10 hB9 hbo9
        obtain ⟨y0, y1, y2, y3, y4, y5, y6, y7, y8⟩ := box9 hbo10
        have f3 := Lib.frozen_of_heap hbo10 3
        go_upto_region 19 with fail
        generalize hW11 : w10.setCell ⟨w6.heap.size, 3, none⟩ (.int .i64 (pl : Int)) = W11
        have hB11 : Below w6.heap.size w6 W11 := hW11 ▸ hB10.setCell (p := ⟨w6.heap.size, 3, none⟩) (Nat.le_refl _) _
        have hbo11 : W11.heap[w6.heap.size]? = some (.cells #[.int .i64 0, .int .i64 0, .int .i64 1, .int .i64 (pl : Int), .string So, .slice none 0 0, .int .i64 0, .int .i64 0, .bool false] 48) := hW11 ▸ (heap_setCell_same _ w6.heap.size 3 _ _ (.int .i64 (pl : Int)) hbo10).trans (by simp)
        clear hW11 y0 y1 y2 y3 y4 y5 y6 y7 y8 f3 hB10 hbo10
        obtain ⟨y0, y1, y2, y3, y4, y5, y6, y7, y8⟩ := box9 hbo11
        have hH11 := hH6.still hB11
        have T6 := apply_insH hH11 hq3 HBAR.out (.inl ⟨rfl, rfl⟩) HTS.out HNE.out hle hplR (by omega)
        simp only [opVal] at T6
        go_wp2_with fail
        refine T6.mono ?_
        rintro e w12 ⟨rfl, hH12, hUp⟩
        have hU12 := (hU6.trans (Upd.ofBelow hB11)).trans hUp
        have hrt12 := hH11.rowU hUp (hrt6.below hB11)
        have hbo12 := hUp.box hbo11 hqo
        clear T6 y0 y1 y2 y3 y4 y5 y6 y7 y8 hbo11 hB11 hH11 hUp hrt6 hU6 hbd6 hH6
        have hroom := hrt12.room
        have HVM : Hid (m ≤ vis R) := by have := HVR.out; show m ≤ vis R; omega
        have eS : visR (putL R pl rs 0) = V.take m ++ rs ++ V.drop m := by have := shows_put hNN HVM.out rs; rw [HPL.out, HV.out] at this; exact this
        have HO2 : Hid (∀ c ∈ putL R pl rs 0, okR c.1) := putL_ok HOO.out HRS.out
        have hl2 := putL_len R pl rs 0
        have hct1 := fun W => cut_high kindU elemU W (some ⟨bt, 0, none⟩) V.length ct m (by omega)
        obtain ⟨a13, c13, hct2, hRt⟩ := cut_tail kindU elemU hrt12 m hmV
        have HRt : Hid (∀ W, Rw rune1 1 W (some ⟨bt, 0, none⟩) V.length ct V → Rw rune1 1 W a13 (V.length - m) c13 (V.drop m)) := hRt
        clear hRt
        have hd12 : Below w12.heap.size w12 w12.drew := (Below.refl _ _).drew
        have T7 := (hH12.still hd12).self.text HO2.out
        obtain ⟨R2, hR2⟩ : ∃ R2, putL R pl rs 0 = R2 := ⟨_, rfl⟩
        have HR2 : Hid (putL R pl rs 0 = R2) := hR2
        rw [hR2] at T7 hH12 eS hl2 HO2
        clear hR2
        obtain ⟨V2, hV2⟩ : ∃ V2, visR R2 = V2 := ⟨_, rfl⟩
        have HV2 : Hid (visR R2 = V2) := hV2
        rw [hV2] at T7 eS
        have HES : Hid (V2 = V.take m ++ rs ++ V.drop m) := eS
        have hszA := strOf_size (rs := V.take m) (fun r hr => HOV.out r (List.mem_of_mem_take hr))
        have hszB := strOf_size (rs := V.drop m) (fun r hr => HOV.out r (List.mem_of_mem_drop hr))
        rw [List.length_take] at hszA
        rw [List.length_drop] at hszB
        have eT : strOf V2 = strOf (V.take m) ++ So ++ strOf (V.drop m) := by rw [HES.out, ← strOf_append, ← strOf_append, HSO.out]
        rw [eT] at T7
        have HCA : Hid (∀ W, Rw rune1 1 W (some ⟨bt, 0, none⟩) V.length ct V → (convert 34 9 (.slice (some ⟨bt, 0, none⟩) m ct)).run Tryd.prog W = .ok (.string (strOf (V.take m))) W) := fun W h => conv_rw (h.take m hmV)
        have HCB : Hid (∀ W, Rw rune1 1 W (some ⟨bt, 0, none⟩) V.length ct V → (convert 34 9 (.slice a13 (V.length - m) c13)).run Tryd.prog W = .ok (.string (strOf (V.drop m))) W) := fun W h => conv_rw (HRt.out W h)
        have HET : Hid (strOf V2 = strOf (V.take m) ++ So ++ strOf (V.drop m)) := eT
        clear eT eS hV2
        generalize strOf (V.take m) = SA at *
        generalize strOf (V.drop m) = SB at *
        have s1 : ¬ 9223372036854775807 < SA.size + So.size := by omega
        have s2 : ¬ 9223372036854775807 < SA.size + So.size + SB.size := by omega
        have hs2 : (SA ++ So).size = SA.size + So.size := ByteArray.size_append
        have e4 : w12.cell? ⟨w6.heap.size, 4, none⟩ = some (.string So) := by rw [Lib.cell_of_heap hbo12]; rfl
        go_wp2_with fail
        refine wp_region_held_drew (S := (fun X => X.cell? ⟨w6.heap.size, 4, none⟩ = some (.string So) ∧ Rw rune1 1 X (some ⟨bt, 0, none⟩) V.length ct V)) (by kernel_rfl) ?hS1 (fun hHeld => ?rest1)
        case hS1 => exact ⟨e4, hrt12.below hd12⟩
        refine takeD (i := 0) (d := some 90) (v := ?vT2) rfl rfl (by kernel_rfl) (by kernel_rfl) (by kernel_rfl) (fun _ _ _ h => h) (Or.inl ⟨by rfl, ?hyT2⟩) (by assumption) ?rstT2
        case hyT2 => (intro w hSw; (try dsimp only at hSw); go_simp; (try with_reducible rfl))
        try simp only [Act.put, List.setIfInBounds_toArray, List.set_cons_zero, List.set_cons_succ]
        refine takeD (i := 1) (d := some 91) (v := ?vT3) rfl rfl (by kernel_rfl) (by kernel_rfl) (by kernel_rfl) (fun _ _ _ h => h) (Or.inl ⟨by rfl, ?hyT3⟩) (by assumption) ?rstT3
        case hyT3 => (intro w hSw; (try dsimp only at hSw); go_simp; (try with_reducible rfl))
        try simp only [Act.put, List.setIfInBounds_toArray, List.set_cons_zero, List.set_cons_succ]
        refine takeD (i := 2) (d := some 92) (v := ?vT4) rfl rfl (by kernel_rfl) (by kernel_rfl) (by kernel_rfl) (fun _ _ _ h => h) (Or.inl ⟨by rfl, ?hyT4⟩) (by assumption) ?rstT4
        case hyT4 => (intro w hSw; (try dsimp only at hSw); go_simp; (try with_reducible rfl))
        try simp only [Act.put, List.setIfInBounds_toArray, List.set_cons_zero, List.set_cons_succ]
        refine takeD (i := 3) (d := some 93) (v := ?vT5) rfl rfl (by kernel_rfl) (by kernel_rfl) (by kernel_rfl) (fun _ _ _ h => h) (Or.inl ⟨by rfl, ?hyT5⟩) (by assumption) ?rstT5
        case hyT5 => (intro w hSw; (try dsimp only at hSw); go_simp; (try with_reducible rfl))
        try simp only [Act.put, List.setIfInBounds_toArray, List.set_cons_zero, List.set_cons_succ]
        refine takeD (i := 4) (d := some 94) (v := ?vT6) rfl rfl (by kernel_rfl) (by kernel_rfl) (by kernel_rfl) (fun _ _ _ h => h) (Or.inl ⟨by rfl, ?hyT6⟩) (by assumption) ?rstT6
        case hyT6 => (intro w hSw; (try dsimp only at hSw); go_simp; (try with_reducible rfl))
        try simp only [Act.put, List.setIfInBounds_toArray, List.set_cons_zero, List.set_cons_succ]
        refine takeD (i := 5) (d := some 95) (v := ?vT7) rfl rfl (by kernel_rfl) (by kernel_rfl) (by kernel_rfl) (fun _ _ _ h => h) (Or.inl ⟨by rfl, ?hyT7⟩) (by assumption) ?rstT7
        case hyT7 => (intro w hSw; (try dsimp only at hSw); go_simp; (try with_reducible rfl))
        try simp only [Act.put, List.setIfInBounds_toArray, List.set_cons_zero, List.set_cons_succ]
        refine takeD (i := 6) (d := some 96) (v := ?vT8) rfl rfl (by kernel_rfl) (by kernel_rfl) (by kernel_rfl) (fun _ _ _ h => h) (Or.inl ⟨by rfl, ?hyT8⟩) (by assumption) ?rstT8
        case hyT8 => (intro w hSw; (try dsimp only at hSw); go_simp; (try with_reducible rfl))
        try simp only [Act.put, List.setIfInBounds_toArray, List.set_cons_zero, List.set_cons_succ]
        refine takeD (i := 7) (d := some 97) (v := ?vT9) rfl rfl (by kernel_rfl) (by kernel_rfl) (by kernel_rfl) (fun _ _ _ h => h) (Or.inl ⟨by rfl, ?hyT9⟩) (by assumption) ?rstT9
        case hyT9 => (intro w hSw; (try dsimp only at hSw); go_simp; (try with_reducible rfl))
        try simp only [Act.put, List.setIfInBounds_toArray, List.set_cons_zero, List.set_cons_succ]
        refine takeD (i := 9) (d := some 99) (v := ?vT10) rfl rfl (by kernel_rfl) (by kernel_rfl) (by kernel_rfl) (fun _ _ _ h => h) (Or.inl ⟨by rfl, ?hyT10⟩) (by assumption) ?rstT10
        case hyT10 => (intro w hSw; (try dsimp only at hSw); go_simp; (try with_reducible rfl))
        try simp only [Act.put, List.setIfInBounds_toArray, List.set_cons_zero, List.set_cons_succ]
        refine takeD (i := 10) (d := some 100) (v := ?vT11) rfl rfl (by kernel_rfl) (by kernel_rfl) (by kernel_rfl) (fun _ _ _ h => h) (Or.inl ⟨by rfl, ?hyT11⟩) (by assumption) ?rstT11
        case hyT11 => (intro w hSw; (try dsimp only at hSw); go_simp; (try with_reducible rfl))
        try simp only [Act.put, List.setIfInBounds_toArray, List.set_cons_zero, List.set_cons_succ]
        refine takeD (i := 11) (d := some 101) (v := ?vT12) rfl rfl (by kernel_rfl) (by kernel_rfl) (by kernel_rfl) (fun _ _ _ h => h) (Or.inl ⟨by rfl, ?hyT12⟩) (by assumption) ?rstT12
        case hyT12 => (intro w hSw; (try dsimp only at hSw); go_simp; (try with_reducible rfl))
        try simp only [Act.put, List.setIfInBounds_toArray, List.set_cons_zero, List.set_cons_succ]
        refine takeD (i := 12) (d := some 102) (v := ?vT13) rfl rfl (by kernel_rfl) (by kernel_rfl) (by kernel_rfl) (fun _ _ _ h => h) (Or.inl ⟨by rfl, ?hyT13⟩) (by assumption) ?rstT13
        case hyT13 => (intro w hSw; have hcvA := HCA.out w hSw.2; (try dsimp only at hSw); go_simp; (try with_reducible rfl))
        try simp only [Act.put, List.setIfInBounds_toArray, List.set_cons_zero, List.set_cons_succ]
        refine takeD (i := 13) (d := some 103) (v := ?vT14) rfl rfl (by kernel_rfl) (by kernel_rfl) (by kernel_rfl) (fun _ _ _ h => h) (Or.inl ⟨by rfl, ?hyT14⟩) (by assumption) ?rstT14
        case hyT14 => (intro w hSw; (try dsimp only at hSw); go_simp; (try with_reducible rfl))
        try simp only [Act.put, List.setIfInBounds_toArray, List.set_cons_zero, List.set_cons_succ]
        refine takeD (i := 14) (d := some 104) (v := ?vT15) rfl rfl (by kernel_rfl) (by kernel_rfl) (by kernel_rfl) (fun _ _ _ h => h) (Or.inl ⟨by rfl, ?hyT15⟩) (by assumption) ?rstT15
        case hyT15 => (intro w hSw; (try dsimp only at hSw); go_simp; (try with_reducible rfl))
        try simp only [Act.put, List.setIfInBounds_toArray, List.set_cons_zero, List.set_cons_succ]
        refine takeD (i := 15) (d := some 105) (v := ?vT16) rfl rfl (by kernel_rfl) (by kernel_rfl) (by kernel_rfl) (fun _ _ _ h => h) (Or.inl ⟨by rfl, ?hyT16⟩) (by assumption) ?rstT16
        case hyT16 => (intro w hSw; (try dsimp only at hSw); go_simp; (try with_reducible rfl))
        try simp only [Act.put, List.setIfInBounds_toArray, List.set_cons_zero, List.set_cons_succ]
        refine takeD (i := 16) (d := some 106) (v := ?vT17) rfl rfl (by kernel_rfl) (by kernel_rfl) (by kernel_rfl) (fun _ _ _ h => h) (Or.inl ⟨by rfl, ?hyT17⟩) (by assumption) ?rstT17
        case hyT17 => (intro w hSw; (try dsimp only at hSw); go_simp; (try with_reducible rfl))
        try simp only [Act.put, List.setIfInBounds_toArray, List.set_cons_zero, List.set_cons_succ]
        refine takeD (i := 17) (d := some 107) (v := ?vT18) rfl rfl (by kernel_rfl) (by kernel_rfl) (by kernel_rfl) (fun _ _ _ h => h) (Or.inl ⟨by rfl, ?hyT18⟩) (by assumption) ?rstT18
        case hyT18 => (intro w hSw; (try dsimp only at hSw); go_simp; (try with_reducible rfl))
        try simp only [Act.put, List.setIfInBounds_toArray, List.set_cons_zero, List.set_cons_succ]
        refine takeD (i := 18) (d := some 108) (v := ?vT19) rfl rfl (by kernel_rfl) (by kernel_rfl) (by kernel_rfl) (fun _ _ _ h => h) (Or.inl ⟨by rfl, ?hyT19⟩) (by assumption) ?rstT19
        case hyT19 => (intro w hSw; (try dsimp only at hSw); go_simp; (try with_reducible rfl))
        try simp only [Act.put, List.setIfInBounds_toArray, List.set_cons_zero, List.set_cons_succ]
        refine takeD (i := 19) (d := some 109) (v := ?vT20) rfl rfl (by kernel_rfl) (by kernel_rfl) (by kernel_rfl) (fun _ _ _ h => h) (Or.inl ⟨by rfl, ?hyT20⟩) (by assumption) ?rstT20
        case hyT20 => (intro w hSw; have hcvB := HCB.out w hSw.2; (try dsimp only at hSw); go_simp; (try with_reducible rfl))
        try simp only [Act.put, List.setIfInBounds_toArray, List.set_cons_zero, List.set_cons_succ]
        refine takeD (i := 20) (d := some 110) (v := ?vT21) rfl rfl (by kernel_rfl) (by kernel_rfl) (by kernel_rfl) (fun _ _ _ h => h) (Or.inl ⟨by rfl, ?hyT21⟩) (by assumption) ?rstT21
        case hyT21 => (intro w hSw; (try dsimp only at hSw); go_simp; (try with_reducible rfl))
        try simp only [Act.put, List.setIfInBounds_toArray, List.set_cons_zero, List.set_cons_succ]
        refine wpAnyH_ready (rs := [8]) (by kernel_rfl) (by simp) ?_
        refine AllReadyH.cons rfl (fun K hK => ?_) AllReadyH.nil
        go_simp
        refine T7.mono ?_
        rintro e w13 ⟨rfl, hs13⟩
        have hb13 : Below w12.heap.size w12 w13 := hd12.trans (hs13.below.mono hd12.size)
        clear hHeld
        refine hK.out _ _ ?hS22 (fun hHeld => ?rest22)
        case hS22 => exact ⟨(hb13.cell (p := ⟨w6.heap.size, 4, none⟩) (Array.getElem?_eq_some_iff.1 hbo12).1).trans e4, hrt12.below hb13⟩
        clear hK K
        try simp only [Act.put, List.setIfInBounds_toArray, List.set_cons_zero, List.set_cons_succ]
        refine takeD (i := 21) (d := some 111) (v := ?vT23) rfl rfl (by kernel_rfl) (by kernel_rfl) (by kernel_rfl) (fun _ _ _ h => h) (Or.inl ⟨by rfl, ?hyT23⟩) (by assumption) ?rstT23
        case hyT23 => (intro w hSw; (try dsimp only at hSw); go_simp; (try with_reducible rfl))
        try simp only [Act.put, List.setIfInBounds_toArray, List.set_cons_zero, List.set_cons_succ]
        refine takeD (i := 22) (d := some 112) (v := ?vT24) rfl rfl (by kernel_rfl) (by kernel_rfl) (by kernel_rfl) (fun _ _ _ h => h) (Or.inl ⟨by rfl, ?hyT24⟩) (by assumption) ?rstT24
        case hyT24 => (intro w hSw; (try dsimp only at hSw); go_simp; (try with_reducible rfl))
        try simp only [Act.put, List.setIfInBounds_toArray, List.set_cons_zero, List.set_cons_succ]
        refine wpAnyH_done (by kernel_rfl) ?_ _
        go_wp2_with fail
        have hH13 := hH12.still hb13
        have hU13 := hU12.trans (Upd.ofBelow hb13)
        clear T7 hs13 hb13 hd12 hct1 hct2 HCA HCB s1 s2 hs2 e4 hHeld hrt12 hbo12 hU12 hH12 hNN
        have hN2 := hH13.nonneg
        have T8 := hH13.self.text HO2.out
        rw [HV2.out] at T8
        have HVR2 : Hid (V2.length = vis R2) := by rw [← HV2.out]; exact visR_vis hN2
        have hvl2 : V2.length ≤ R2.length := by rw [← HV2.out]; exact visR_le hN2
        have hv2l : V2.length = V.length + rs.length := by rw [HES.out, List.length_append, List.length_append, List.length_take, List.length_drop]; omega
        have HOV2 : Hid (∀ r ∈ V2, okR r) := by rw [← HV2.out]; exact visR_okR HO2.out
        have hv2p : 0 < V2.length := by omega
        have hl2' : R2.length ≤ 400 + 256 * (i + 1) := by omega
        clear hl2 hv2l hN2
        refine T8.mono ?_
        rintro e w14 ⟨rfl, hs14⟩
        have hH14 := hH13.still hs14.below
        have hU14 := hU13.trans (Upd.ofBelow hs14.below)
        clear T8 hs14 hH13 hU13
        obtain ⟨ct2, w15, hcv15, hrt15, hb15⟩ := conv_runes (strOf_text HOV2.out) (by omega) w14
        have hH15 := hH14.still hb15
        have hU15 := hU14.trans (Upd.ofBelow hb15)
        have hbt2 : w14.heap.size ≠ q := hH14.ne (Nat.le_refl _)
        obtain ⟨bt2, hbt2e⟩ : ∃ bt, w14.heap.size = bt := ⟨_, rfl⟩
        rw [hbt2e] at hcv15 hrt15 hbt2
        clear hbt2e hb15 hH14 hU14
        obtain ⟨p1, p2, p3⟩ := HBP.out w15 hH15.below
        have m0 := Int.emod_nonneg lo (show ((V2.length : Int)) ≠ 0 by omega)
        have m1 := Int.emod_lt_of_pos lo (show (0 : Int) < (V2.length : Int) by omega)
        obtain ⟨l1, hl1⟩ : ∃ m : Nat, lo % (V2.length : Int) = (m : Int) := ⟨(lo % (V2.length : Int)).toNat, by omega⟩
        have T9 := pick_any lo (V2.length : Int) (by omega) (by omega) w15
        rw [hl1] at T9 m0 m1
        have hl1V : l1 < V2.length := by omega
        clear hl1 m0 m1
        have n0 := Int.emod_nonneg hi (show ((V2.length : Int) - (l1 : Int)) ≠ 0 by omega)
        have n1 := Int.emod_lt_of_pos hi (show (0 : Int) < (V2.length : Int) - (l1 : Int) by omega)
        obtain ⟨k1_, hk1⟩ : ∃ m : Nat, hi % ((V2.length : Int) - (l1 : Int)) = (m : Int) := ⟨(hi % ((V2.length : Int) - (l1 : Int))).toNat, by omega⟩
        have T10 := pick_any hi ((V2.length : Int) - (l1 : Int)) (by omega) (by omega) w15
        rw [hk1] at T10 n0 n1
        have hk1V : l1 + 1 + k1_ ≤ V2.length := by omega
        clear hk1 n0 n1
        have u2_ : IntKind.i64.wrap ((l1 : Int) + 1) = (l1 : Int) + 1 := IntWalk.i64_in _ (by omega)
        have u3_ : IntKind.i64.wrap ((V2.length : Int) - (l1 : Int)) = (V2.length : Int) - (l1 : Int) := IntWalk.i64_in _ (by omega)
        have u4_ : IntKind.i64.wrap ((l1 : Int) + 1 + (k1_ : Int)) = (l1 : Int) + 1 + (k1_ : Int) := IntWalk.i64_in _ (by omega)
        go_wp2_with fail
        refine T9.mono ?_
        rintro e w16 ⟨rfl, hw16⟩
        have hw16' := hw16.symm
        subst hw16'
        clear T9 hw16
        go_wp2_with fail
        refine T10.mono ?_
        rintro e w16 ⟨rfl, hw16⟩
        have hw16' := hw16.symm
        subst hw16'
        clear T10 hw16
        go_wp2_with fail
        obtain ⟨hi2, hhi2⟩ : ∃ hi2 : Nat, hi2 = l1 + 1 + k1_ := ⟨_, rfl⟩
        have ehi : (l1 : Int) + 1 + (k1_ : Int) = (hi2 : Int) := by omega
        have hlh : l1 < hi2 := by omega
        have hhV : hi2 ≤ V2.length := by omega
        rw [ehi]
        clear u2_ u3_ u4_ hk1V hhi2 ehi p1 p2 p3
        have T11 := hH15.self.visible HO2.out (by omega) l1 hi2 (by omega) (by have := HVR2.out; omega)
        refine T11.mono ?_
        rintro e w16 ⟨al, cl, l, rfl, hl16, hvis, _, hb16⟩
        have hH16 := hH15.still hb16
        have hU16 := hU15.trans (Upd.ofBelow hb16)
        have hrt16 := hrt15.below hb16
        have hfew := hvis.few
        have HVIS : Hid (VisL R2 l1 hi2 l) := hvis
        clear T11 hvis hb16 hH15 hU15 hrt15 hcv15
        go_upto_region 29 with fail
        generalize hW17 : w16.alloc (Obj.cells #[.int .i64 0, .int .i64 0, .int .i64 2, .int .i64 0, .string ⟨#[]⟩, .slice al l.length cl, .int .i64 0, .int .i64 0, .bool false] 48) = W17
        have hB17 : Below w16.heap.size w16 W17 := hW17 ▸ (Below.refl w16.heap.size w16).alloc (Nat.le_refl _) _
        have hbx17 : W17.heap[w16.heap.size]? = some (.cells #[.int .i64 0, .int .i64 0, .int .i64 2, .int .i64 0, .string ⟨#[]⟩, .slice al l.length cl, .int .i64 0, .int .i64 0, .bool false] 48) := hW17 ▸ alloc_last _ _ _ rfl
        clear hW17
        have hqx : w16.heap.size ≠ q := hH16.ne (Nat.le_refl _)
        obtain ⟨y0, y1, y2, y3, y4, y5, y6, y7, y8⟩ := box9 hbx17
        have hH17 := hH16.still hB17
        have T12 := apply_hideH hH17 hq3 HBAR.out (.inl ⟨rfl, rfl⟩) (hl16.below hB17) (HVIS.out.ne hlh) HVIS.out.srt HVIS.out.within (by omega) (HVIS.out.okUp hH17.bounds)
        simp only [opVal] at T12
        go_wp2_with fail
        refine T12.mono ?_
        rintro e w18 ⟨rfl, hH18, hUp⟩
        have hU18 := (hU16.trans (Upd.ofBelow hB17)).trans hUp
        have hrt18 := hH17.rowU hUp (hrt16.below hB17)
        have hl18 := hH17.pieceU hUp (hl16.below hB17)
        have hbx18 := hUp.box hbx17 hqx
        clear T12 y0 y1 y2 y3 y4 y5 y6 y7 y8 hbx17 hB17 hUp hrt16 hl16 hU16 hH16
        have HB2_ : Hid (∀ c ∈ R2, 0 ≤ c.2 ∧ c.2 ≤ 1048576) := hH17.bounds
        clear hH17
        have hroom2 := hrt18.room
        have hct1 := fun W => cut_high kindU elemU W (some ⟨bt2, 0, none⟩) V2.length ct2 l1 (by omega)
        obtain ⟨a19, c19, hct2, hRt⟩ := cut_tail kindU elemU hrt18 hi2 hhV
        have hd18 : Below w18.heap.size w18 w18.drew := (Below.refl _ _).drew
        have T13 := (hH18.still hd18).self.text (VisL.runes HO2.out)
        rw [HVIS.out.hides, HV2.out, ← strOf_append] at T13
        have hszA := strOf_size (rs := V2.take l1) (fun r hr => HOV2.out r (List.mem_of_mem_take hr))
        have hszB := strOf_size (rs := V2.drop hi2) (fun r hr => HOV2.out r (List.mem_of_mem_drop hr))
        rw [List.length_take] at hszA
        rw [List.length_drop] at hszB
        have HCA : Hid (∀ W, Rw rune1 1 W (some ⟨bt2, 0, none⟩) V2.length ct2 V2 → (convert 34 9 (.slice (some ⟨bt2, 0, none⟩) l1 ct2)).run Tryd.prog W = .ok (.string (strOf (V2.take l1))) W) := fun W h => conv_rw (h.take l1 (by omega))
        have HCB : Hid (∀ W, Rw rune1 1 W (some ⟨bt2, 0, none⟩) V2.length ct2 V2 → (convert 34 9 (.slice a19 (V2.length - hi2) c19)).run Tryd.prog W = .ok (.string (strOf (V2.drop hi2))) W) := fun W h => conv_rw (hRt W h)
        clear hRt
        generalize strOf (V2.take l1) = SC at *
        generalize strOf (V2.drop hi2) = SD at *
        have s1 : ¬ 9223372036854775807 < SC.size + SD.size := by omega
        go_wp2_with fail
        refine wp_region_held_drew (S := (fun X => Rw rune1 1 X (some ⟨bt2, 0, none⟩) V2.length ct2 V2)) (by kernel_rfl) ?hS25 (fun hHeld => ?rest25)
        case hS25 => exact hrt18.below hd18
        refine takeD (i := 0) (d := some 145) (v := ?vT26) rfl rfl (by kernel_rfl) (by kernel_rfl) (by kernel_rfl) (fun _ _ _ h => h) (Or.inl ⟨by rfl, ?hyT26⟩) (by assumption) ?rstT26
        case hyT26 => (intro w hSw; (try dsimp only at hSw); go_simp; (try with_reducible rfl))
        try simp only [Act.put, List.setIfInBounds_toArray, List.set_cons_zero, List.set_cons_succ]
        refine takeD (i := 1) (d := some 146) (v := ?vT27) rfl rfl (by kernel_rfl) (by kernel_rfl) (by kernel_rfl) (fun _ _ _ h => h) (Or.inl ⟨by rfl, ?hyT27⟩) (by assumption) ?rstT27
        case hyT27 => (intro w hSw; (try dsimp only at hSw); go_simp; (try with_reducible rfl))
        try simp only [Act.put, List.setIfInBounds_toArray, List.set_cons_zero, List.set_cons_succ]
        refine takeD (i := 2) (d := some 147) (v := ?vT28) rfl rfl (by kernel_rfl) (by kernel_rfl) (by kernel_rfl) (fun _ _ _ h => h) (Or.inl ⟨by rfl, ?hyT28⟩) (by assumption) ?rstT28
        case hyT28 => (intro w hSw; (try dsimp only at hSw); go_simp; (try with_reducible rfl))
        try simp only [Act.put, List.setIfInBounds_toArray, List.set_cons_zero, List.set_cons_succ]
        refine takeD (i := 3) (d := some 148) (v := ?vT29) rfl rfl (by kernel_rfl) (by kernel_rfl) (by kernel_rfl) (fun _ _ _ h => h) (Or.inl ⟨by rfl, ?hyT29⟩) (by assumption) ?rstT29
        case hyT29 => (intro w hSw; (try dsimp only at hSw); go_simp; (try with_reducible rfl))
        try simp only [Act.put, List.setIfInBounds_toArray, List.set_cons_zero, List.set_cons_succ]
        refine takeD (i := 4) (d := some 149) (v := ?vT30) rfl rfl (by kernel_rfl) (by kernel_rfl) (by kernel_rfl) (fun _ _ _ h => h) (Or.inl ⟨by rfl, ?hyT30⟩) (by assumption) ?rstT30
        case hyT30 => (intro w hSw; (try dsimp only at hSw); go_simp; (try with_reducible rfl))
        try simp only [Act.put, List.setIfInBounds_toArray, List.set_cons_zero, List.set_cons_succ]
        refine takeD (i := 5) (d := some 150) (v := ?vT31) rfl rfl (by kernel_rfl) (by kernel_rfl) (by kernel_rfl) (fun _ _ _ h => h) (Or.inl ⟨by rfl, ?hyT31⟩) (by assumption) ?rstT31
        case hyT31 => (intro w hSw; (try dsimp only at hSw); go_simp; (try with_reducible rfl))
        try simp only [Act.put, List.setIfInBounds_toArray, List.set_cons_zero, List.set_cons_succ]
        refine takeD (i := 6) (d := some 151) (v := ?vT32) rfl rfl (by kernel_rfl) (by kernel_rfl) (by kernel_rfl) (fun _ _ _ h => h) (Or.inl ⟨by rfl, ?hyT32⟩) (by assumption) ?rstT32
        case hyT32 => (intro w hSw; (try dsimp only at hSw); go_simp; (try with_reducible rfl))
        try simp only [Act.put, List.setIfInBounds_toArray, List.set_cons_zero, List.set_cons_succ]
        refine takeD (i := 7) (d := some 152) (v := ?vT33) rfl rfl (by kernel_rfl) (by kernel_rfl) (by kernel_rfl) (fun _ _ _ h => h) (Or.inl ⟨by rfl, ?hyT33⟩) (by assumption) ?rstT33
        case hyT33 => (intro w hSw; (try dsimp only at hSw); go_simp; (try with_reducible rfl))
        try simp only [Act.put, List.setIfInBounds_toArray, List.set_cons_zero, List.set_cons_succ]
        refine takeD (i := 9) (d := some 154) (v := ?vT34) rfl rfl (by kernel_rfl) (by kernel_rfl) (by kernel_rfl) (fun _ _ _ h => h) (Or.inl ⟨by rfl, ?hyT34⟩) (by assumption) ?rstT34
        case hyT34 => (intro w hSw; (try dsimp only at hSw); go_simp; (try with_reducible rfl))
        try simp only [Act.put, List.setIfInBounds_toArray, List.set_cons_zero, List.set_cons_succ]
        refine takeD (i := 10) (d := some 155) (v := ?vT35) rfl rfl (by kernel_rfl) (by kernel_rfl) (by kernel_rfl) (fun _ _ _ h => h) (Or.inl ⟨by rfl, ?hyT35⟩) (by assumption) ?rstT35
        case hyT35 => (intro w hSw; (try dsimp only at hSw); go_simp; (try with_reducible rfl))
        try simp only [Act.put, List.setIfInBounds_toArray, List.set_cons_zero, List.set_cons_succ]
        refine takeD (i := 11) (d := some 156) (v := ?vT36) rfl rfl (by kernel_rfl) (by kernel_rfl) (by kernel_rfl) (fun _ _ _ h => h) (Or.inl ⟨by rfl, ?hyT36⟩) (by assumption) ?rstT36
        case hyT36 => (intro w hSw; (try dsimp only at hSw); go_simp; (try with_reducible rfl))
        try simp only [Act.put, List.setIfInBounds_toArray, List.set_cons_zero, List.set_cons_succ]
        refine takeD (i := 12) (d := some 157) (v := ?vT37) rfl rfl (by kernel_rfl) (by kernel_rfl) (by kernel_rfl) (fun _ _ _ h => h) (Or.inl ⟨by rfl, ?hyT37⟩) (by assumption) ?rstT37
        case hyT37 => (intro w hSw; have hcvA := HCA.out w hSw; (try dsimp only at hSw); go_simp; (try with_reducible rfl))
        try simp only [Act.put, List.setIfInBounds_toArray, List.set_cons_zero, List.set_cons_succ]
        refine takeD (i := 13) (d := some 158) (v := ?vT38) rfl rfl (by kernel_rfl) (by kernel_rfl) (by kernel_rfl) (fun _ _ _ h => h) (Or.inl ⟨by rfl, ?hyT38⟩) (by assumption) ?rstT38
        case hyT38 => (intro w hSw; (try dsimp only at hSw); go_simp; (try with_reducible rfl))
        try simp only [Act.put, List.setIfInBounds_toArray, List.set_cons_zero, List.set_cons_succ]
        refine takeD (i := 14) (d := some 159) (v := ?vT39) rfl rfl (by kernel_rfl) (by kernel_rfl) (by kernel_rfl) (fun _ _ _ h => h) (Or.inl ⟨by rfl, ?hyT39⟩) (by assumption) ?rstT39
        case hyT39 => (intro w hSw; (try dsimp only at hSw); go_simp; (try with_reducible rfl))
        try simp only [Act.put, List.setIfInBounds_toArray, List.set_cons_zero, List.set_cons_succ]
        refine takeD (i := 15) (d := some 160) (v := ?vT40) rfl rfl (by kernel_rfl) (by kernel_rfl) (by kernel_rfl) (fun _ _ _ h => h) (Or.inl ⟨by rfl, ?hyT40⟩) (by assumption) ?rstT40
        case hyT40 => (intro w hSw; (try dsimp only at hSw); go_simp; (try with_reducible rfl))
        try simp only [Act.put, List.setIfInBounds_toArray, List.set_cons_zero, List.set_cons_succ]
        refine takeD (i := 16) (d := some 161) (v := ?vT41) rfl rfl (by kernel_rfl) (by kernel_rfl) (by kernel_rfl) (fun _ _ _ h => h) (Or.inl ⟨by rfl, ?hyT41⟩) (by assumption) ?rstT41
        case hyT41 => (intro w hSw; have hcvB := HCB.out w hSw; (try dsimp only at hSw); go_simp; (try with_reducible rfl))
        try simp only [Act.put, List.setIfInBounds_toArray, List.set_cons_zero, List.set_cons_succ]
        refine takeD (i := 17) (d := some 162) (v := ?vT42) rfl rfl (by kernel_rfl) (by kernel_rfl) (by kernel_rfl) (fun _ _ _ h => h) (Or.inl ⟨by rfl, ?hyT42⟩) (by assumption) ?rstT42
        case hyT42 => (intro w hSw; (try dsimp only at hSw); go_simp; (try with_reducible rfl))
        try simp only [Act.put, List.setIfInBounds_toArray, List.set_cons_zero, List.set_cons_succ]
        refine wpAnyH_ready (rs := [8]) (by kernel_rfl) (by simp) ?_
        refine AllReadyH.cons rfl (fun K hK => ?_) AllReadyH.nil
        go_simp
        refine T13.mono ?_
        rintro e w19 ⟨rfl, hs19⟩
        have hb19 : Below w18.heap.size w18 w19 := hd18.trans (hs19.below.mono hd18.size)
        clear hHeld
        refine hK.out _ _ ?hS43 (fun hHeld => ?rest43)
        case hS43 => exact hrt18.below hb19
        clear hK K
        try simp only [Act.put, List.setIfInBounds_toArray, List.set_cons_zero, List.set_cons_succ]
        refine takeD (i := 18) (d := some 163) (v := ?vT44) rfl rfl (by kernel_rfl) (by kernel_rfl) (by kernel_rfl) (fun _ _ _ h => h) (Or.inl ⟨by rfl, ?hyT44⟩) (by assumption) ?rstT44
        case hyT44 => (intro w hSw; (try dsimp only at hSw); go_simp; (try with_reducible rfl))
        try simp only [Act.put, List.setIfInBounds_toArray, List.set_cons_zero, List.set_cons_succ]
        refine takeD (i := 19) (d := some 164) (v := ?vT45) rfl rfl (by kernel_rfl) (by kernel_rfl) (by kernel_rfl) (fun _ _ _ h => h) (Or.inl ⟨by rfl, ?hyT45⟩) (by assumption) ?rstT45
        case hyT45 => (intro w hSw; (try dsimp only at hSw); go_simp; (try with_reducible rfl))
        try simp only [Act.put, List.setIfInBounds_toArray, List.set_cons_zero, List.set_cons_succ]
        refine wpAnyH_done (by kernel_rfl) ?_ _
        have hH19 := hH18.still hb19
        have hU19 := hU18.trans (Upd.ofBelow hb19)
        have hrt19 := hrt18.below hb19
        have hl19 := hl18.below hb19
        have hbx19 := (hb19.block _ (Array.getElem?_eq_some_iff.1 hbx18).1).trans hbx18
        clear T13 hs19 hb19 hd18 hct1 hct2 HCA HCB s1 hHeld hrt18 hl18 hbx18 hU18 hH18
        have hbd19 := hU19.box hbd hqd
        have d0 : w19.cell? ⟨wr.heap.size, 0, none⟩ = some (.int .i64 (dk)) := by rw [Lib.cell_of_heap hbd19]; rfl
        have T14 := pick_any (dk) 2 (by decide) (by decide) w19
        go_wp2_with fail
        refine T14.mono ?_
        rintro e w20 ⟨rfl, hw20⟩
        have hw20' := hw20.symm
        subst hw20'
        clear T14 hw20
        rcases Int.emod_two_eq dk with hd2 | hd2
        · rw [hd2]
          clear hd2
          have T15 := inverse_2 (c := 0) (n := 0) (p := 0) (s := ⟨#[]⟩) (tc := 0) (tn := 0) (on := false) hl19.rng (by omega) (by simp [ByteArray.size]) (HBAR.out.below hH19.below) (own_rng (.inl ⟨rfl, rfl⟩) (.inl rfl) (HVIS.out.ne hlh) HVIS.out.srt HVIS.out.within (by omega) (by omega))
          rw [show coveredP ⟨0, 0, 2, 0, ⟨#[]⟩, l, 0, 0, false⟩ = l from rfl] at T15
          simp only [opVal] at T15
          obtain ⟨y0, y1, y2, y3, y4, y5, y6, y7, y8⟩ := box9 hbx19
          go_wp2_with fail
          refine T15.mono ?_
          rintro e w20 ⟨a20, m20, c20, rfl, ho20, hb20⟩
          obtain ⟨a20', c20', e20⟩ := ho20.shape
          obtain ⟨rfl, rfl, rfl⟩ : a20 = a20' ∧ m20 = l.length ∧ c20 = c20' := by simpa using e20
          have hH20 := hH19.still hb20
          have hrt20 := hrt19.below hb20
          have hl20 : Rw pieceV 2 w20 a20 l.length c20 l := ho20.rw_ layRo
          clear T15 y0 y1 y2 y3 y4 y5 y6 y7 y8 e20 ho20 hbx19 hb20 hH19 hU19 hrt19 hl19 d0
          go_upto_region 34 with fail
          generalize hW21 : w20.alloc (Obj.cells #[.int .i64 0, .int .i64 0, .int .i64 3, .int .i64 0, .string ⟨#[]⟩, .slice a20 l.length c20, .int .i64 0, .int .i64 0, .bool false] 48) = W21
          have hB21 : Below w20.heap.size w20 W21 := hW21 ▸ (Below.refl w20.heap.size w20).alloc (Nat.le_refl _) _
          have hbv21 : W21.heap[w20.heap.size]? = some (.cells #[.int .i64 0, .int .i64 0, .int .i64 3, .int .i64 0, .string ⟨#[]⟩, .slice a20 l.length c20, .int .i64 0, .int .i64 0, .bool false] 48) := hW21 ▸ alloc_last _ _ _ rfl
          clear hW21
          obtain ⟨y0, y1, y2, y3, y4, y5, y6, y7, y8⟩ := box9 hbv21
          have hH21 := hH20.still hB21
          have T16 := apply_showH hH21 hq3 HBAR.out (.inl ⟨rfl, rfl⟩) (hl20.below hB21) (HVIS.out.ne hlh) HVIS.out.srt (fun x hx => by rw [bmp_len]; exact HVIS.out.within x hx) (by omega) (by rw [bmp_back]; exact HB2_.out)
          rw [bmp_back] at T16
          simp only [opVal] at T16
          go_wp2_with fail
          refine T16.mono ?_
          rintro e w22 ⟨rfl, hH22, hUp⟩
          have hrt22 := hH21.rowU hUp (hrt20.below hB21)
          clear T16 y0 y1 y2 y3 y4 y5 y6 y7 y8 hbv21 hB21 hUp hrt20 hl20 hH21 hH20
          have hd22 : Below w22.heap.size w22 w22.drew := (Below.refl _ _).drew
          have T17 := (hH22.still hd22).self.text HO2.out
          rw [HV2.out] at T17
          have HCC : Hid (∀ W, Rw rune1 1 W (some ⟨bt2, 0, none⟩) V2.length ct2 V2 → (convert 34 9 (.slice (some ⟨bt2, 0, none⟩) V2.length ct2)).run Tryd.prog W = .ok (.string (strOf V2)) W) := fun W h => conv_rw h
          generalize strOf V2 = SV at *
          go_wp2_with fail
          refine wp_region_held_drew (S := (fun X => Rw rune1 1 X (some ⟨bt2, 0, none⟩) V2.length ct2 V2)) (by kernel_rfl) ?hS46 (fun hHeld => ?rest46)
          case hS46 => exact hrt22.below hd22
          refine takeD (i := 0) (d := some 177) (v := ?vT47) rfl rfl (by kernel_rfl) (by kernel_rfl) (by kernel_rfl) (fun _ _ _ h => h) (Or.inl ⟨by rfl, ?hyT47⟩) (by assumption) ?rstT47
          case hyT47 => (intro w hSw; (try dsimp only at hSw); go_simp; (try with_reducible rfl))
          try simp only [Act.put, List.setIfInBounds_toArray, List.set_cons_zero, List.set_cons_succ]
          refine takeD (i := 1) (d := some 178) (v := ?vT48) rfl rfl (by kernel_rfl) (by kernel_rfl) (by kernel_rfl) (fun _ _ _ h => h) (Or.inl ⟨by rfl, ?hyT48⟩) (by assumption) ?rstT48
          case hyT48 => (intro w hSw; (try dsimp only at hSw); go_simp; (try with_reducible rfl))
          try simp only [Act.put, List.setIfInBounds_toArray, List.set_cons_zero, List.set_cons_succ]
          refine takeD (i := 2) (d := some 179) (v := ?vT49) rfl rfl (by kernel_rfl) (by kernel_rfl) (by kernel_rfl) (fun _ _ _ h => h) (Or.inl ⟨by rfl, ?hyT49⟩) (by assumption) ?rstT49
          case hyT49 => (intro w hSw; (try dsimp only at hSw); go_simp; (try with_reducible rfl))
          try simp only [Act.put, List.setIfInBounds_toArray, List.set_cons_zero, List.set_cons_succ]
          refine takeD (i := 3) (d := some 180) (v := ?vT50) rfl rfl (by kernel_rfl) (by kernel_rfl) (by kernel_rfl) (fun _ _ _ h => h) (Or.inl ⟨by rfl, ?hyT50⟩) (by assumption) ?rstT50
          case hyT50 => (intro w hSw; (try dsimp only at hSw); go_simp; (try with_reducible rfl))
          try simp only [Act.put, List.setIfInBounds_toArray, List.set_cons_zero, List.set_cons_succ]
          refine takeD (i := 4) (d := some 181) (v := ?vT51) rfl rfl (by kernel_rfl) (by kernel_rfl) (by kernel_rfl) (fun _ _ _ h => h) (Or.inl ⟨by rfl, ?hyT51⟩) (by assumption) ?rstT51
          case hyT51 => (intro w hSw; (try dsimp only at hSw); go_simp; (try with_reducible rfl))
          try simp only [Act.put, List.setIfInBounds_toArray, List.set_cons_zero, List.set_cons_succ]
          refine takeD (i := 5) (d := some 182) (v := ?vT52) rfl rfl (by kernel_rfl) (by kernel_rfl) (by kernel_rfl) (fun _ _ _ h => h) (Or.inl ⟨by rfl, ?hyT52⟩) (by assumption) ?rstT52
          case hyT52 => (intro w hSw; (try dsimp only at hSw); go_simp; (try with_reducible rfl))
          try simp only [Act.put, List.setIfInBounds_toArray, List.set_cons_zero, List.set_cons_succ]
          refine takeD (i := 6) (d := some 183) (v := ?vT53) rfl rfl (by kernel_rfl) (by kernel_rfl) (by kernel_rfl) (fun _ _ _ h => h) (Or.inl ⟨by rfl, ?hyT53⟩) (by assumption) ?rstT53
          case hyT53 => (intro w hSw; (try dsimp only at hSw); go_simp; (try with_reducible rfl))
          try simp only [Act.put, List.setIfInBounds_toArray, List.set_cons_zero, List.set_cons_succ]
          refine takeD (i := 7) (d := some 184) (v := ?vT54) rfl rfl (by kernel_rfl) (by kernel_rfl) (by kernel_rfl) (fun _ _ _ h => h) (Or.inl ⟨by rfl, ?hyT54⟩) (by assumption) ?rstT54
          case hyT54 => (intro w hSw; (try dsimp only at hSw); go_simp; (try with_reducible rfl))
          try simp only [Act.put, List.setIfInBounds_toArray, List.set_cons_zero, List.set_cons_succ]
          refine takeD (i := 9) (d := some 186) (v := ?vT55) rfl rfl (by kernel_rfl) (by kernel_rfl) (by kernel_rfl) (fun _ _ _ h => h) (Or.inl ⟨by rfl, ?hyT55⟩) (by assumption) ?rstT55
          case hyT55 => (intro w hSw; (try dsimp only at hSw); go_simp; (try with_reducible rfl))
          try simp only [Act.put, List.setIfInBounds_toArray, List.set_cons_zero, List.set_cons_succ]
          refine takeD (i := 10) (d := some 187) (v := ?vT56) rfl rfl (by kernel_rfl) (by kernel_rfl) (by kernel_rfl) (fun _ _ _ h => h) (Or.inl ⟨by rfl, ?hyT56⟩) (by assumption) ?rstT56
          case hyT56 => (intro w hSw; have hcvA := HCC.out w hSw; (try dsimp only at hSw); go_simp; (try with_reducible rfl))
          try simp only [Act.put, List.setIfInBounds_toArray, List.set_cons_zero, List.set_cons_succ]
          refine wpAnyH_ready (rs := [8]) (by kernel_rfl) (by simp) ?_
          refine AllReadyH.cons rfl (fun K hK => ?_) AllReadyH.nil
          go_simp
          refine T17.mono ?_
          rintro e w23 ⟨rfl, hs23⟩
          have hb23 : Below w22.heap.size w22 w23 := hd22.trans (hs23.below.mono hd22.size)
          clear hHeld
          refine hK.out _ _ ?hS57 (fun hHeld => ?rest57)
          case hS57 => exact hrt22.below hb23
          clear hK K
          try simp only [Act.put, List.setIfInBounds_toArray, List.set_cons_zero, List.set_cons_succ]
          refine takeD (i := 11) (d := some 188) (v := ?vT58) rfl rfl (by kernel_rfl) (by kernel_rfl) (by kernel_rfl) (fun _ _ _ h => h) (Or.inl ⟨by rfl, ?hyT58⟩) (by assumption) ?rstT58
          case hyT58 => (intro w hSw; (try dsimp only at hSw); go_simp; (try with_reducible rfl))
          try simp only [Act.put, List.setIfInBounds_toArray, List.set_cons_zero, List.set_cons_succ]
          refine takeD (i := 12) (d := some 189) (v := ?vT59) rfl rfl (by kernel_rfl) (by kernel_rfl) (by kernel_rfl) (fun _ _ _ h => h) (Or.inl ⟨by rfl, ?hyT59⟩) (by assumption) ?rstT59
          case hyT59 => (intro w hSw; (try dsimp only at hSw); go_simp; (try with_reducible rfl))
          try simp only [Act.put, List.setIfInBounds_toArray, List.set_cons_zero, List.set_cons_succ]
          refine wpAnyH_done (by kernel_rfl) ?_ _
          have hH23 := hH22.still hb23
          clear T17 hs23 hb23 hd22 HCC hHeld hrt22 hH22
          go_wp2_with fail
          go_roundw
          case rel => exact ⟨i + 1, R2, by go_num, by omega, hH23, HO2.out, hl2'⟩
          case measure => simp [RowKit.intOf]; omega
        · rw [hd2]
          clear hd2
          go_wp2_with fail
          go_roundw
          case rel => exact ⟨i + 1, bmp l 1 0 R2, by go_num, by omega, hH19, VisL.runes HO2.out, by rw [bmp_len]; exact hl2'⟩
          case measure => simp [RowKit.intOf]; omega
      · have HTX : Hid (∀ W, Below w2.heap.size w2 W → Rw rune1 1 W none 0 0 []) := fun W hb => rw_nil W
        have b3 : ¬ (i : Int) < (nD : Int) := by omega
        clear HD HOK
        go_wp2_with fail
        generalize hW1 : wr.alloc (Obj.cells #[.int .i64 0, .int .i64 0, .slice none 0 0, .slice none 0 0] 37) = W1
        have hB1 : Below wr.heap.size wr W1 := hW1 ▸ (Below.refl wr.heap.size wr).alloc (Nat.le_refl _) _
        obtain ⟨dk, hdk⟩ : ∃ dk : Int, dk = 0 := ⟨0, rfl⟩
        obtain ⟨dp, hdp⟩ : ∃ dp : Int, dp = 0 := ⟨0, rfl⟩
        have hbd : W1.heap[wr.heap.size]? = some (.cells #[.int .i64 dk, .int .i64 dp, .slice none 0 0, .slice none 0 0] 37) := by rw [hdk, hdp]; exact hW1 ▸ alloc_last _ _ _ rfl
        clear hdk hdp
        clear hW1
        have hqd : wr.heap.size ≠ q := hH.ne (Nat.le_refl _)
        have hH1 := hH.still hB1
        have hNN := hH1.nonneg
        have HOO : Hid (∀ c ∈ R, okR c.1) := hO
        have HOV : Hid (∀ r ∈ visR R, okR r) := visR_okR hO
        have hvr := visR_vis hNN
        have hvl := visR_le hNN
        obtain ⟨V, hV⟩ : ∃ V, visR R = V := ⟨_, rfl⟩
        have HV : Hid (visR R = V) := hV
        have HVR : Hid (V.length = vis R) := hV ▸ hvr
        rw [hV] at hvl HOV
        have T1 := hH1.self.text hO
        rw [hV] at T1
        clear hO hH p1 p2 p3 p1' hvr hV
        refine T1.mono ?_
        rintro e w4 ⟨rfl, hs4⟩
        have hH4 := hH1.still hs4.below
        have hU4 : Upd q W1 w4 := Upd.ofBelow hs4.below
        clear T1 hs4 hB1
        obtain ⟨ct, w5, hcv5, hrt5, hb5⟩ := conv_runes (strOf_text HOV.out) (by omega) w4
        have hH5 := hH4.still hb5
        have hU5 := hU4.trans (Upd.ofBelow hb5)
        have T2 := hH5.self.shown
        rw [← HVR.out] at T2
        have hw4b : w4.heap.size ≠ q := hH4.ne (Nat.le_refl _)
        obtain ⟨bt, hbt⟩ : ∃ bt, w4.heap.size = bt := ⟨_, rfl⟩
        rw [hbt] at hcv5 hrt5 hw4b
        clear hbt
        have q1 : ((V.length : Int) != (V.length : Int)) = false := by simp
        clear hU4 hH4 hb5
        go_wp2_with fail
        refine T2.mono ?_
        rintro e w6 ⟨rfl, hs6⟩
        have hH6 := hH5.still hs6.below
        have hrt6 := hrt5.below hs6.below
        have hU6 := hU5.trans (Upd.ofBelow hs6.below)
        clear T2 hs6 hU5 hrt5 hH5
        obtain ⟨p1, p2, p3⟩ := HBP.out w6 hH6.below
        have hbd6 := hU6.box hbd hqd
        have d0 : w6.cell? ⟨wr.heap.size, 0, none⟩ = some (.int .i64 dk) := by rw [Lib.cell_of_heap hbd6]; rfl
        have d1 : w6.cell? ⟨wr.heap.size, 1, none⟩ = some (.int .i64 dp) := by rw [Lib.cell_of_heap hbd6]; rfl
        obtain ⟨z, hz⟩ : ∃ z, IntKind.i64.wrap (lo + dp) = z := ⟨_, rfl⟩
        have u1 : IntKind.i64.wrap ((V.length : Int) + 1) = (V.length : Int) + 1 := IntWalk.i64_in _ (by omega)
        have m0 := Int.emod_nonneg z (show ((V.length : Int) + 1) ≠ 0 by omega)
        have m1 := Int.emod_lt_of_pos z (show (0 : Int) < (V.length : Int) + 1 by omega)
        obtain ⟨m, hm⟩ : ∃ m : Nat, z % ((V.length : Int) + 1) = (m : Int) := ⟨(z % ((V.length : Int) + 1)).toNat, by omega⟩
        have T3 := pick_any z ((V.length : Int) + 1) (by omega) (by omega) w6
        rw [hm] at T3 m0 m1
        have hmV : m ≤ V.length := by omega
        clear hm m0 m1
        go_wp2_with fail
        refine T3.mono ?_
        rintro e w7 ⟨rfl, hw7⟩
        have hw7' := hw7.symm
        subst hw7'
        clear T3 hz u1 hw7
        have hsd := (Array.getElem?_eq_some_iff.1 hbd6).1
        have d2 := fun o => (World.cell?_alloc_lt w6 o ⟨wr.heap.size, 2, none⟩ hsd).trans (show w6.cell? ⟨wr.heap.size, 2, none⟩ = some (.slice none 0 0) by rw [Lib.cell_of_heap hbd6]; rfl)
        go_wp2_with fail
        generalize hW7 : w6.alloc (Obj.cells #[.int .i64 0, .int .i64 0, .int .i64 1, .int .i64 0, .string ⟨#[]⟩, .slice none 0 0, .int .i64 0, .int .i64 0, .bool false] 48) = W7
        have hB7 : Below w6.heap.size w6 W7 := hW7 ▸ (Below.refl w6.heap.size w6).alloc (Nat.le_refl _) _
        have hbo7 : W7.heap[w6.heap.size]? = some (.cells #[.int .i64 0, .int .i64 0, .int .i64 1, .int .i64 0, .string ⟨#[]⟩, .slice none 0 0, .int .i64 0, .int .i64 0, .bool false] 48) := hW7 ▸ alloc_last _ _ _ rfl
        clear hW7 d2 p1 p2 p3 d0 d1
        have hqo : w6.heap.size ≠ q := hH6.ne (Nat.le_refl _)
        have T4 := letters_any (HTX.out _ (hH6.still hB7).below)
        refine T4.mono ?_
        rintro e w8 ⟨v8, rs, rfl, ho8, hne, hle, hokr, hb8⟩
        obtain ⟨a8, c8, rfl⟩ := ho8.shape
        clear T4
        have hB8 := hB7.trans (hb8.mono hB7.size)
        have hbo8 := (hb8.block _ (Array.getElem?_eq_some_iff.1 hbo7).1).trans hbo7
        have hcv8 := conv_rw (ho8.rw_ layU)
        have HRS : Hid (∀ r ∈ rs, okR r) := fun r hr => okL_okR (hokr r hr)
        have HNE : Hid (rs ≠ []) := hne
        have hpr := List.length_pos_iff.2 hne
        have hszS := strOf_size HRS.out
        have HTS : Hid (IsText (strOf rs) rs) := strOf_text HRS.out
        obtain ⟨So, hSo⟩ : ∃ So, strOf rs = So := ⟨_, rfl⟩
        have HSO : Hid (strOf rs = So) := hSo
        rw [hSo] at hcv8 hszS HTS
        clear hSo hokr hne ho8 hb8 hB7 hbo7
        obtain ⟨y0, y1, y2, y3, y4, y5, y6, y7, y8⟩ := box9 hbo8
        have f4 := Lib.frozen_of_heap hbo8 4
        go_upto_region 17 with fail
        generalize hW9 : w8.setCell ⟨w6.heap.size, 4, none⟩ (.string So) = W9
        have hB9 : Below w6.heap.size w6 W9 := hW9 ▸ hB8.setCell (p := ⟨w6.heap.size, 4, none⟩) (Nat.le_refl _) _
        have hbo9 : W9.heap[w6.heap.size]? = some (.cells #[.int .i64 0, .int .i64 0, .int .i64 1, .int .i64 0, .string So, .slice none 0 0, .int .i64 0, .int .i64 0, .bool false] 48) := hW9 ▸ (heap_setCell_same _ w6.heap.size 4 _ _ (.string So) hbo8).trans (by simp)
        clear hW9 y0 y1 y2 y3 y4 y5 y6 y7 y8 f4 hcv8 hB8 hbo8
        obtain ⟨pl, hpl⟩ : ∃ pl, place R m = pl := ⟨_, rfl⟩
        have HPL : Hid (place R m = pl) := hpl
        have hplR := place_le R m
        rw [hpl] at hplR
        have T5 := (hH6.still hB9).self.totalOf m (by have := HVR.out; omega)
        rw [hpl] at T5
        clear hpl
        go_wp2_with fail
        refine T5.mono ?_
        rintro e w10 ⟨rfl, hs10⟩
        have hB10 := hB9.trans (hs10.below.mono hB9.size)
        have hbo10 := (hs10.below.block _ (Array.getElem?_eq_some_iff.1 hbo9).1).trans hbo9
        clear T5 hs10 hB9 hbo9
        obtain ⟨y0, y1, y2, y3, y4, y5, y6, y7, y8⟩ := box9 hbo10
        have f3 := Lib.frozen_of_heap hbo10 3
        go_upto_region 19 with fail
        generalize hW11 : w10.setCell ⟨w6.heap.size, 3, none⟩ (.int .i64 (pl : Int)) = W11
        have hB11 : Below w6.heap.size w6 W11 := hW11 ▸ hB10.setCell (p := ⟨w6.heap.size, 3, none⟩) (Nat.le_refl _) _
        have hbo11 : W11.heap[w6.heap.size]? = some (.cells #[.int .i64 0, .int .i64 0, .int .i64 1, .int .i64 (pl : Int), .string So, .slice none 0 0, .int .i64 0, .int .i64 0, .bool false] 48) := hW11 ▸ (heap_setCell_same _ w6.heap.size 3 _ _ (.int .i64 (pl : Int)) hbo10).trans (by simp)
        clear hW11 y0 y1 y2 y3 y4 y5 y6 y7 y8 f3 hB10 hbo10
        obtain ⟨y0, y1, y2, y3, y4, y5, y6, y7, y8⟩ := box9 hbo11
        have hH11 := hH6.still hB11
        have T6 := apply_insH hH11 hq3 HBAR.out (.inl ⟨rfl, rfl⟩) HTS.out HNE.out hle hplR (by omega)
        simp only [opVal] at T6
        go_wp2_with fail
        refine T6.mono ?_
        rintro e w12 ⟨rfl, hH12, hUp⟩
        have hU12 := (hU6.trans (Upd.ofBelow hB11)).trans hUp
        have hrt12 := hH11.rowU hUp (hrt6.below hB11)
        have hbo12 := hUp.box hbo11 hqo
        clear T6 y0 y1 y2 y3 y4 y5 y6 y7 y8 hbo11 hB11 hH11 hUp hrt6 hU6 hbd6 hH6
        have hroom := hrt12.room
        have HVM : Hid (m ≤ vis R) := by have := HVR.out; show m ≤ vis R; omega
        have eS : visR (putL R pl rs 0) = V.take m ++ rs ++ V.drop m := by have := shows_put hNN HVM.out rs; rw [HPL.out, HV.out] at this; exact this
        have HO2 : Hid (∀ c ∈ putL R pl rs 0, okR c.1) := putL_ok HOO.out HRS.out
        have hl2 := putL_len R pl rs 0
        have hct1 := fun W => cut_high kindU elemU W (some ⟨bt, 0, none⟩) V.length ct m (by omega)
        obtain ⟨a13, c13, hct2, hRt⟩ := cut_tail kindU elemU hrt12 m hmV
        have HRt : Hid (∀ W, Rw rune1 1 W (some ⟨bt, 0, none⟩) V.length ct V → Rw rune1 1 W a13 (V.length - m) c13 (V.drop m)) := hRt
        clear hRt
        have hd12 : Below w12.heap.size w12 w12.drew := (Below.refl _ _).drew
        have T7 := (hH12.still hd12).self.text HO2.out
        obtain ⟨R2, hR2⟩ : ∃ R2, putL R pl rs 0 = R2 := ⟨_, rfl⟩
        have HR2 : Hid (putL R pl rs 0 = R2) := hR2
        rw [hR2] at T7 hH12 eS hl2 HO2
        clear hR2
        obtain ⟨V2, hV2⟩ : ∃ V2, visR R2 = V2 := ⟨_, rfl⟩
        have HV2 : Hid (visR R2 = V2) := hV2
        rw [hV2] at T7 eS
        have HES : Hid (V2 = V.take m ++ rs ++ V.drop m) := eS
        have hszA := strOf_size (rs := V.take m) (fun r hr => HOV.out r (List.mem_of_mem_take hr))
        have hszB := strOf_size (rs := V.drop m) (fun r hr => HOV.out r (List.mem_of_mem_drop hr))
        rw [List.length_take] at hszA
        rw [List.length_drop] at hszB
        have eT : strOf V2 = strOf (V.take m) ++ So ++ strOf (V.drop m) := by rw [HES.out, ← strOf_append, ← strOf_append, HSO.out]
        rw [eT] at T7
        have HCA : Hid (∀ W, Rw rune1 1 W (some ⟨bt, 0, none⟩) V.length ct V → (convert 34 9 (.slice (some ⟨bt, 0, none⟩) m ct)).run Tryd.prog W = .ok (.string (strOf (V.take m))) W) := fun W h => conv_rw (h.take m hmV)
        have HCB : Hid (∀ W, Rw rune1 1 W (some ⟨bt, 0, none⟩) V.length ct V → (convert 34 9 (.slice a13 (V.length - m) c13)).run Tryd.prog W = .ok (.string (strOf (V.drop m))) W) := fun W h => conv_rw (HRt.out W h)
        have HET : Hid (strOf V2 = strOf (V.take m) ++ So ++ strOf (V.drop m)) := eT
        clear eT eS hV2
        generalize strOf (V.take m) = SA at *
        generalize strOf (V.drop m) = SB at *
        have s1 : ¬ 9223372036854775807 < SA.size + So.size := by omega
        have s2 : ¬ 9223372036854775807 < SA.size + So.size + SB.size := by omega
        have hs2 : (SA ++ So).size = SA.size + So.size := ByteArray.size_append
        have e4 : w12.cell? ⟨w6.heap.size, 4, none⟩ = some (.string So) := by rw [Lib.cell_of_heap hbo12]; rfl
        go_wp2_with fail
        refine wp_region_held_drew (S := (fun X => X.cell? ⟨w6.heap.size, 4, none⟩ = some (.string So) ∧ Rw rune1 1 X (some ⟨bt, 0, none⟩) V.length ct V)) (by kernel_rfl) ?hS60 (fun hHeld => ?rest60)
        case hS60 => exact ⟨e4, hrt12.below hd12⟩
        refine takeD (i := 0) (d := some 90) (v := ?vT61) rfl rfl (by kernel_rfl) (by kernel_rfl) (by kernel_rfl) (fun _ _ _ h => h) (Or.inl ⟨by rfl, ?hyT61⟩) (by assumption) ?rstT61
        case hyT61 => (intro w hSw; (try dsimp only at hSw); go_simp; (try with_reducible rfl))
        try simp only [Act.put, List.setIfInBounds_toArray, List.set_cons_zero, List.set_cons_succ]
        refine takeD (i := 1) (d := some 91) (v := ?vT62) rfl rfl (by kernel_rfl) (by kernel_rfl) (by kernel_rfl) (fun _ _ _ h => h) (Or.inl ⟨by rfl, ?hyT62⟩) (by assumption) ?rstT62
        case hyT62 => (intro w hSw; (try dsimp only at hSw); go_simp; (try with_reducible rfl))
        try simp only [Act.put, List.setIfInBounds_toArray, List.set_cons_zero, List.set_cons_succ]
        refine takeD (i := 2) (d := some 92) (v := ?vT63) rfl rfl (by kernel_rfl) (by kernel_rfl) (by kernel_rfl) (fun _ _ _ h => h) (Or.inl ⟨by rfl, ?hyT63⟩) (by assumption) ?rstT63
        case hyT63 => (intro w hSw; (try dsimp only at hSw); go_simp; (try with_reducible rfl))
        try simp only [Act.put, List.setIfInBounds_toArray, List.set_cons_zero, List.set_cons_succ]
        refine takeD (i := 3) (d := some 93) (v := ?vT64) rfl rfl (by kernel_rfl) (by kernel_rfl) (by kernel_rfl) (fun _ _ _ h => h) (Or.inl ⟨by rfl, ?hyT64⟩) (by assumption) ?rstT64
        case hyT64 => (intro w hSw; (try dsimp only at hSw); go_simp; (try with_reducible rfl))
        try simp only [Act.put, List.setIfInBounds_toArray, List.set_cons_zero, List.set_cons_succ]
        refine takeD (i := 4) (d := some 94) (v := ?vT65) rfl rfl (by kernel_rfl) (by kernel_rfl) (by kernel_rfl) (fun _ _ _ h => h) (Or.inl ⟨by rfl, ?hyT65⟩) (by assumption) ?rstT65
        case hyT65 => (intro w hSw; (try dsimp only at hSw); go_simp; (try with_reducible rfl))
        try simp only [Act.put, List.setIfInBounds_toArray, List.set_cons_zero, List.set_cons_succ]
        refine takeD (i := 5) (d := some 95) (v := ?vT66) rfl rfl (by kernel_rfl) (by kernel_rfl) (by kernel_rfl) (fun _ _ _ h => h) (Or.inl ⟨by rfl, ?hyT66⟩) (by assumption) ?rstT66
        case hyT66 => (intro w hSw; (try dsimp only at hSw); go_simp; (try with_reducible rfl))
        try simp only [Act.put, List.setIfInBounds_toArray, List.set_cons_zero, List.set_cons_succ]
        refine takeD (i := 6) (d := some 96) (v := ?vT67) rfl rfl (by kernel_rfl) (by kernel_rfl) (by kernel_rfl) (fun _ _ _ h => h) (Or.inl ⟨by rfl, ?hyT67⟩) (by assumption) ?rstT67
        case hyT67 => (intro w hSw; (try dsimp only at hSw); go_simp; (try with_reducible rfl))
        try simp only [Act.put, List.setIfInBounds_toArray, List.set_cons_zero, List.set_cons_succ]
        refine takeD (i := 7) (d := some 97) (v := ?vT68) rfl rfl (by kernel_rfl) (by kernel_rfl) (by kernel_rfl) (fun _ _ _ h => h) (Or.inl ⟨by rfl, ?hyT68⟩) (by assumption) ?rstT68
        case hyT68 => (intro w hSw; (try dsimp only at hSw); go_simp; (try with_reducible rfl))
        try simp only [Act.put, List.setIfInBounds_toArray, List.set_cons_zero, List.set_cons_succ]
        refine takeD (i := 9) (d := some 99) (v := ?vT69) rfl rfl (by kernel_rfl) (by kernel_rfl) (by kernel_rfl) (fun _ _ _ h => h) (Or.inl ⟨by rfl, ?hyT69⟩) (by assumption) ?rstT69
        case hyT69 => (intro w hSw; (try dsimp only at hSw); go_simp; (try with_reducible rfl))
        try simp only [Act.put, List.setIfInBounds_toArray, List.set_cons_zero, List.set_cons_succ]
        refine takeD (i := 10) (d := some 100) (v := ?vT70) rfl rfl (by kernel_rfl) (by kernel_rfl) (by kernel_rfl) (fun _ _ _ h => h) (Or.inl ⟨by rfl, ?hyT70⟩) (by assumption) ?rstT70
        case hyT70 => (intro w hSw; (try dsimp only at hSw); go_simp; (try with_reducible rfl))
        try simp only [Act.put, List.setIfInBounds_toArray, List.set_cons_zero, List.set_cons_succ]
        refine takeD (i := 11) (d := some 101) (v := ?vT71) rfl rfl (by kernel_rfl) (by kernel_rfl) (by kernel_rfl) (fun _ _ _ h => h) (Or.inl ⟨by rfl, ?hyT71⟩) (by assumption) ?rstT71
        case hyT71 => (intro w hSw; (try dsimp only at hSw); go_simp; (try with_reducible rfl))
        try simp only [Act.put, List.setIfInBounds_toArray, List.set_cons_zero, List.set_cons_succ]
        refine takeD (i := 12) (d := some 102) (v := ?vT72) rfl rfl (by kernel_rfl) (by kernel_rfl) (by kernel_rfl) (fun _ _ _ h => h) (Or.inl ⟨by rfl, ?hyT72⟩) (by assumption) ?rstT72
        case hyT72 => (intro w hSw; have hcvA := HCA.out w hSw.2; (try dsimp only at hSw); go_simp; (try with_reducible rfl))
        try simp only [Act.put, List.setIfInBounds_toArray, List.set_cons_zero, List.set_cons_succ]
        refine takeD (i := 13) (d := some 103) (v := ?vT73) rfl rfl (by kernel_rfl) (by kernel_rfl) (by kernel_rfl) (fun _ _ _ h => h) (Or.inl ⟨by rfl, ?hyT73⟩) (by assumption) ?rstT73
        case hyT73 => (intro w hSw; (try dsimp only at hSw); go_simp; (try with_reducible rfl))
        try simp only [Act.put, List.setIfInBounds_toArray, List.set_cons_zero, List.set_cons_succ]
        refine takeD (i := 14) (d := some 104) (v := ?vT74) rfl rfl (by kernel_rfl) (by kernel_rfl) (by kernel_rfl) (fun _ _ _ h => h) (Or.inl ⟨by rfl, ?hyT74⟩) (by assumption) ?rstT74
        case hyT74 => (intro w hSw; (try dsimp only at hSw); go_simp; (try with_reducible rfl))
        try simp only [Act.put, List.setIfInBounds_toArray, List.set_cons_zero, List.set_cons_succ]
        refine takeD (i := 15) (d := some 105) (v := ?vT75) rfl rfl (by kernel_rfl) (by kernel_rfl) (by kernel_rfl) (fun _ _ _ h => h) (Or.inl ⟨by rfl, ?hyT75⟩) (by assumption) ?rstT75
        case hyT75 => (intro w hSw; (try dsimp only at hSw); go_simp; (try with_reducible rfl))
        try simp only [Act.put, List.setIfInBounds_toArray, List.set_cons_zero, List.set_cons_succ]
        refine takeD (i := 16) (d := some 106) (v := ?vT76) rfl rfl (by kernel_rfl) (by kernel_rfl) (by kernel_rfl) (fun _ _ _ h => h) (Or.inl ⟨by rfl, ?hyT76⟩) (by assumption) ?rstT76
        case hyT76 => (intro w hSw; (try dsimp only at hSw); go_simp; (try with_reducible rfl))
        try simp only [Act.put, List.setIfInBounds_toArray, List.set_cons_zero, List.set_cons_succ]
        refine takeD (i := 17) (d := some 107) (v := ?vT77) rfl rfl (by kernel_rfl) (by kernel_rfl) (by kernel_rfl) (fun _ _ _ h => h) (Or.inl ⟨by rfl, ?hyT77⟩) (by assumption) ?rstT77
        case hyT77 => (intro w hSw; (try dsimp only at hSw); go_simp; (try with_reducible rfl))
        try simp only [Act.put, List.setIfInBounds_toArray, List.set_cons_zero, List.set_cons_succ]
        refine takeD (i := 18) (d := some 108) (v := ?vT78) rfl rfl (by kernel_rfl) (by kernel_rfl) (by kernel_rfl) (fun _ _ _ h => h) (Or.inl ⟨by rfl, ?hyT78⟩) (by assumption) ?rstT78
        case hyT78 => (intro w hSw; (try dsimp only at hSw); go_simp; (try with_reducible rfl))
        try simp only [Act.put, List.setIfInBounds_toArray, List.set_cons_zero, List.set_cons_succ]
        refine takeD (i := 19) (d := some 109) (v := ?vT79) rfl rfl (by kernel_rfl) (by kernel_rfl) (by kernel_rfl) (fun _ _ _ h => h) (Or.inl ⟨by rfl, ?hyT79⟩) (by assumption) ?rstT79
        case hyT79 => (intro w hSw; have hcvB := HCB.out w hSw.2; (try dsimp only at hSw); go_simp; (try with_reducible rfl))
        try simp only [Act.put, List.setIfInBounds_toArray, List.set_cons_zero, List.set_cons_succ]
        refine takeD (i := 20) (d := some 110) (v := ?vT80) rfl rfl (by kernel_rfl) (by kernel_rfl) (by kernel_rfl) (fun _ _ _ h => h) (Or.inl ⟨by rfl, ?hyT80⟩) (by assumption) ?rstT80
        case hyT80 => (intro w hSw; (try dsimp only at hSw); go_simp; (try with_reducible rfl))
        try simp only [Act.put, List.setIfInBounds_toArray, List.set_cons_zero, List.set_cons_succ]
        refine wpAnyH_ready (rs := [8]) (by kernel_rfl) (by simp) ?_
        refine AllReadyH.cons rfl (fun K hK => ?_) AllReadyH.nil
        go_simp
        refine T7.mono ?_
        rintro e w13 ⟨rfl, hs13⟩
        have hb13 : Below w12.heap.size w12 w13 := hd12.trans (hs13.below.mono hd12.size)
        clear hHeld
        refine hK.out _ _ ?hS81 (fun hHeld => ?rest81)
        case hS81 => exact ⟨(hb13.cell (p := ⟨w6.heap.size, 4, none⟩) (Array.getElem?_eq_some_iff.1 hbo12).1).trans e4, hrt12.below hb13⟩
        clear hK K
        try simp only [Act.put, List.setIfInBounds_toArray, List.set_cons_zero, List.set_cons_succ]
        refine takeD (i := 21) (d := some 111) (v := ?vT82) rfl rfl (by kernel_rfl) (by kernel_rfl) (by kernel_rfl) (fun _ _ _ h => h) (Or.inl ⟨by rfl, ?hyT82⟩) (by assumption) ?rstT82
        case hyT82 => (intro w hSw; (try dsimp only at hSw); go_simp; (try with_reducible rfl))
        try simp only [Act.put, List.setIfInBounds_toArray, List.set_cons_zero, List.set_cons_succ]
        refine takeD (i := 22) (d := some 112) (v := ?vT83) rfl rfl (by kernel_rfl) (by kernel_rfl) (by kernel_rfl) (fun _ _ _ h => h) (Or.inl ⟨by rfl, ?hyT83⟩) (by assumption) ?rstT83
        case hyT83 => (intro w hSw; (try dsimp only at hSw); go_simp; (try with_reducible rfl))
        try simp only [Act.put, List.setIfInBounds_toArray, List.set_cons_zero, List.set_cons_succ]
        refine wpAnyH_done (by kernel_rfl) ?_ _
        go_wp2_with fail
        have hH13 := hH12.still hb13
        have hU13 := hU12.trans (Upd.ofBelow hb13)
        clear T7 hs13 hb13 hd12 hct1 hct2 HCA HCB s1 s2 hs2 e4 hHeld hrt12 hbo12 hU12 hH12 hNN
        have hN2 := hH13.nonneg
        have T8 := hH13.self.text HO2.out
        rw [HV2.out] at T8
        have HVR2 : Hid (V2.length = vis R2) := by rw [← HV2.out]; exact visR_vis hN2
        have hvl2 : V2.length ≤ R2.length := by rw [← HV2.out]; exact visR_le hN2
        have hv2l : V2.length = V.length + rs.length := by rw [HES.out, List.length_append, List.length_append, List.length_take, List.length_drop]; omega
        have HOV2 : Hid (∀ r ∈ V2, okR r) := by rw [← HV2.out]; exact visR_okR HO2.out
        have hv2p : 0 < V2.length := by omega
        have hl2' : R2.length ≤ 400 + 256 * (i + 1) := by omega
        clear hl2 hv2l hN2
        refine T8.mono ?_
        rintro e w14 ⟨rfl, hs14⟩
        have hH14 := hH13.still hs14.below
        have hU14 := hU13.trans (Upd.ofBelow hs14.below)
        clear T8 hs14 hH13 hU13
        obtain ⟨ct2, w15, hcv15, hrt15, hb15⟩ := conv_runes (strOf_text HOV2.out) (by omega) w14
        have hH15 := hH14.still hb15
        have hU15 := hU14.trans (Upd.ofBelow hb15)
        have hbt2 : w14.heap.size ≠ q := hH14.ne (Nat.le_refl _)
        obtain ⟨bt2, hbt2e⟩ : ∃ bt, w14.heap.size = bt := ⟨_, rfl⟩
        rw [hbt2e] at hcv15 hrt15 hbt2
        clear hbt2e hb15 hH14 hU14
        obtain ⟨p1, p2, p3⟩ := HBP.out w15 hH15.below
        have m0 := Int.emod_nonneg lo (show ((V2.length : Int)) ≠ 0 by omega)
        have m1 := Int.emod_lt_of_pos lo (show (0 : Int) < (V2.length : Int) by omega)
        obtain ⟨l1, hl1⟩ : ∃ m : Nat, lo % (V2.length : Int) = (m : Int) := ⟨(lo % (V2.length : Int)).toNat, by omega⟩
        have T9 := pick_any lo (V2.length : Int) (by omega) (by omega) w15
        rw [hl1] at T9 m0 m1
        have hl1V : l1 < V2.length := by omega
        clear hl1 m0 m1
        have n0 := Int.emod_nonneg hi (show ((V2.length : Int) - (l1 : Int)) ≠ 0 by omega)
        have n1 := Int.emod_lt_of_pos hi (show (0 : Int) < (V2.length : Int) - (l1 : Int) by omega)
        obtain ⟨k1_, hk1⟩ : ∃ m : Nat, hi % ((V2.length : Int) - (l1 : Int)) = (m : Int) := ⟨(hi % ((V2.length : Int) - (l1 : Int))).toNat, by omega⟩
        have T10 := pick_any hi ((V2.length : Int) - (l1 : Int)) (by omega) (by omega) w15
        rw [hk1] at T10 n0 n1
        have hk1V : l1 + 1 + k1_ ≤ V2.length := by omega
        clear hk1 n0 n1
        have u2_ : IntKind.i64.wrap ((l1 : Int) + 1) = (l1 : Int) + 1 := IntWalk.i64_in _ (by omega)
        have u3_ : IntKind.i64.wrap ((V2.length : Int) - (l1 : Int)) = (V2.length : Int) - (l1 : Int) := IntWalk.i64_in _ (by omega)
        have u4_ : IntKind.i64.wrap ((l1 : Int) + 1 + (k1_ : Int)) = (l1 : Int) + 1 + (k1_ : Int) := IntWalk.i64_in _ (by omega)
        go_wp2_with fail
        refine T9.mono ?_
        rintro e w16 ⟨rfl, hw16⟩
        have hw16' := hw16.symm
        subst hw16'
        clear T9 hw16
        go_wp2_with fail
        refine T10.mono ?_
        rintro e w16 ⟨rfl, hw16⟩
        have hw16' := hw16.symm
        subst hw16'
        clear T10 hw16
        go_wp2_with fail
        obtain ⟨hi2, hhi2⟩ : ∃ hi2 : Nat, hi2 = l1 + 1 + k1_ := ⟨_, rfl⟩
        have ehi : (l1 : Int) + 1 + (k1_ : Int) = (hi2 : Int) := by omega
        have hlh : l1 < hi2 := by omega
        have hhV : hi2 ≤ V2.length := by omega
        rw [ehi]
        clear u2_ u3_ u4_ hk1V hhi2 ehi p1 p2 p3
        have T11 := hH15.self.visible HO2.out (by omega) l1 hi2 (by omega) (by have := HVR2.out; omega)
        refine T11.mono ?_
        rintro e w16 ⟨al, cl, l, rfl, hl16, hvis, _, hb16⟩
        have hH16 := hH15.still hb16
        have hU16 := hU15.trans (Upd.ofBelow hb16)
        have hrt16 := hrt15.below hb16
        have hfew := hvis.few
        have HVIS : Hid (VisL R2 l1 hi2 l) := hvis
        clear T11 hvis hb16 hH15 hU15 hrt15 hcv15
        go_upto_region 29 with fail
        generalize hW17 : w16.alloc (Obj.cells #[.int .i64 0, .int .i64 0, .int .i64 2, .int .i64 0, .string ⟨#[]⟩, .slice al l.length cl, .int .i64 0, .int .i64 0, .bool false] 48) = W17
        have hB17 : Below w16.heap.size w16 W17 := hW17 ▸ (Below.refl w16.heap.size w16).alloc (Nat.le_refl _) _
        have hbx17 : W17.heap[w16.heap.size]? = some (.cells #[.int .i64 0, .int .i64 0, .int .i64 2, .int .i64 0, .string ⟨#[]⟩, .slice al l.length cl, .int .i64 0, .int .i64 0, .bool false] 48) := hW17 ▸ alloc_last _ _ _ rfl
        clear hW17
        have hqx : w16.heap.size ≠ q := hH16.ne (Nat.le_refl _)
        obtain ⟨y0, y1, y2, y3, y4, y5, y6, y7, y8⟩ := box9 hbx17
        have hH17 := hH16.still hB17
        have T12 := apply_hideH hH17 hq3 HBAR.out (.inl ⟨rfl, rfl⟩) (hl16.below hB17) (HVIS.out.ne hlh) HVIS.out.srt HVIS.out.within (by omega) (HVIS.out.okUp hH17.bounds)
        simp only [opVal] at T12
        go_wp2_with fail
        refine T12.mono ?_
        rintro e w18 ⟨rfl, hH18, hUp⟩
        have hU18 := (hU16.trans (Upd.ofBelow hB17)).trans hUp
        have hrt18 := hH17.rowU hUp (hrt16.below hB17)
        have hl18 := hH17.pieceU hUp (hl16.below hB17)
        have hbx18 := hUp.box hbx17 hqx
        clear T12 y0 y1 y2 y3 y4 y5 y6 y7 y8 hbx17 hB17 hUp hrt16 hl16 hU16 hH16
        have HB2_ : Hid (∀ c ∈ R2, 0 ≤ c.2 ∧ c.2 ≤ 1048576) := hH17.bounds
        clear hH17
        have hroom2 := hrt18.room
        have hct1 := fun W => cut_high kindU elemU W (some ⟨bt2, 0, none⟩) V2.length ct2 l1 (by omega)
        obtain ⟨a19, c19, hct2, hRt⟩ := cut_tail kindU elemU hrt18 hi2 hhV
        have hd18 : Below w18.heap.size w18 w18.drew := (Below.refl _ _).drew
        have T13 := (hH18.still hd18).self.text (VisL.runes HO2.out)
        rw [HVIS.out.hides, HV2.out, ← strOf_append] at T13
        have hszA := strOf_size (rs := V2.take l1) (fun r hr => HOV2.out r (List.mem_of_mem_take hr))
        have hszB := strOf_size (rs := V2.drop hi2) (fun r hr => HOV2.out r (List.mem_of_mem_drop hr))
        rw [List.length_take] at hszA
        rw [List.length_drop] at hszB
        have HCA : Hid (∀ W, Rw rune1 1 W (some ⟨bt2, 0, none⟩) V2.length ct2 V2 → (convert 34 9 (.slice (some ⟨bt2, 0, none⟩) l1 ct2)).run Tryd.prog W = .ok (.string (strOf (V2.take l1))) W) := fun W h => conv_rw (h.take l1 (by omega))
        have HCB : Hid (∀ W, Rw rune1 1 W (some ⟨bt2, 0, none⟩) V2.length ct2 V2 → (convert 34 9 (.slice a19 (V2.length - hi2) c19)).run Tryd.prog W = .ok (.string (strOf (V2.drop hi2))) W) := fun W h => conv_rw (hRt W h)
        clear hRt
        generalize strOf (V2.take l1) = SC at *
        generalize strOf (V2.drop hi2) = SD at *
        have s1 : ¬ 9223372036854775807 < SC.size + SD.size := by omega
        go_wp2_with fail
        refine wp_region_held_drew (S := (fun X => Rw rune1 1 X (some ⟨bt2, 0, none⟩) V2.length ct2 V2)) (by kernel_rfl) ?hS84 (fun hHeld => ?rest84)
        case hS84 => exact hrt18.below hd18
        refine takeD (i := 0) (d := some 145) (v := ?vT85) rfl rfl (by kernel_rfl) (by kernel_rfl) (by kernel_rfl) (fun _ _ _ h => h) (Or.inl ⟨by rfl, ?hyT85⟩) (by assumption) ?rstT85
        case hyT85 => (intro w hSw; (try dsimp only at hSw); go_simp; (try with_reducible rfl))
        try simp only [Act.put, List.setIfInBounds_toArray, List.set_cons_zero, List.set_cons_succ]
        refine takeD (i := 1) (d := some 146) (v := ?vT86) rfl rfl (by kernel_rfl) (by kernel_rfl) (by kernel_rfl) (fun _ _ _ h => h) (Or.inl ⟨by rfl, ?hyT86⟩) (by assumption) ?rstT86
        case hyT86 => (intro w hSw; (try dsimp only at hSw); go_simp; (try with_reducible rfl))
        try simp only [Act.put, List.setIfInBounds_toArray, List.set_cons_zero, List.set_cons_succ]
        refine takeD (i := 2) (d := some 147) (v := ?vT87) rfl rfl (by kernel_rfl) (by kernel_rfl) (by kernel_rfl) (fun _ _ _ h => h) (Or.inl ⟨by rfl, ?hyT87⟩) (by assumption) ?rstT87
        case hyT87 => (intro w hSw; (try dsimp only at hSw); go_simp; (try with_reducible rfl))
        try simp only [Act.put, List.setIfInBounds_toArray, List.set_cons_zero, List.set_cons_succ]
        refine takeD (i := 3) (d := some 148) (v := ?vT88) rfl rfl (by kernel_rfl) (by kernel_rfl) (by kernel_rfl) (fun _ _ _ h => h) (Or.inl ⟨by rfl, ?hyT88⟩) (by assumption) ?rstT88
        case hyT88 => (intro w hSw; (try dsimp only at hSw); go_simp; (try with_reducible rfl))
        try simp only [Act.put, List.setIfInBounds_toArray, List.set_cons_zero, List.set_cons_succ]
        refine takeD (i := 4) (d := some 149) (v := ?vT89) rfl rfl (by kernel_rfl) (by kernel_rfl) (by kernel_rfl) (fun _ _ _ h => h) (Or.inl ⟨by rfl, ?hyT89⟩) (by assumption) ?rstT89
        case hyT89 => (intro w hSw; (try dsimp only at hSw); go_simp; (try with_reducible rfl))
        try simp only [Act.put, List.setIfInBounds_toArray, List.set_cons_zero, List.set_cons_succ]
        refine takeD (i := 5) (d := some 150) (v := ?vT90) rfl rfl (by kernel_rfl) (by kernel_rfl) (by kernel_rfl) (fun _ _ _ h => h) (Or.inl ⟨by rfl, ?hyT90⟩) (by assumption) ?rstT90
        case hyT90 => (intro w hSw; (try dsimp only at hSw); go_simp; (try with_reducible rfl))
        try simp only [Act.put, List.setIfInBounds_toArray, List.set_cons_zero, List.set_cons_succ]
        refine takeD (i := 6) (d := some 151) (v := ?vT91) rfl rfl (by kernel_rfl) (by kernel_rfl) (by kernel_rfl) (fun _ _ _ h => h) (Or.inl ⟨by rfl, ?hyT91⟩) (by assumption) ?rstT91
        case hyT91 => (intro w hSw; (try dsimp only at hSw); go_simp; (try with_reducible rfl))
        try simp only [Act.put, List.setIfInBounds_toArray, List.set_cons_zero, List.set_cons_succ]
        refine takeD (i := 7) (d := some 152) (v := ?vT92) rfl rfl (by kernel_rfl) (by kernel_rfl) (by kernel_rfl) (fun _ _ _ h => h) (Or.inl ⟨by rfl, ?hyT92⟩) (by assumption) ?rstT92
        case hyT92 => (intro w hSw; (try dsimp only at hSw); go_simp; (try with_reducible rfl))
        try simp only [Act.put, List.setIfInBounds_toArray, List.set_cons_zero, List.set_cons_succ]
        refine takeD (i := 9) (d := some 154) (v := ?vT93) rfl rfl (by kernel_rfl) (by kernel_rfl) (by kernel_rfl) (fun _ _ _ h => h) (Or.inl ⟨by rfl, ?hyT93⟩) (by assumption) ?rstT93
        case hyT93 => (intro w hSw; (try dsimp only at hSw); go_simp; (try with_reducible rfl))
        try simp only [Act.put, List.setIfInBounds_toArray, List.set_cons_zero, List.set_cons_succ]
        refine takeD (i := 10) (d := some 155) (v := ?vT94) rfl rfl (by kernel_rfl) (by kernel_rfl) (by kernel_rfl) (fun _ _ _ h => h) (Or.inl ⟨by rfl, ?hyT94⟩) (by assumption) ?rstT94
        case hyT94 => (intro w hSw; (try dsimp only at hSw); go_simp; (try with_reducible rfl))
        try simp only [Act.put, List.setIfInBounds_toArray, List.set_cons_zero, List.set_cons_succ]
        refine takeD (i := 11) (d := some 156) (v := ?vT95) rfl rfl (by kernel_rfl) (by kernel_rfl) (by kernel_rfl) (fun _ _ _ h => h) (Or.inl ⟨by rfl, ?hyT95⟩) (by assumption) ?rstT95
        case hyT95 => (intro w hSw; (try dsimp only at hSw); go_simp; (try with_reducible rfl))
        try simp only [Act.put, List.setIfInBounds_toArray, List.set_cons_zero, List.set_cons_succ]
        refine takeD (i := 12) (d := some 157) (v := ?vT96) rfl rfl (by kernel_rfl) (by kernel_rfl) (by kernel_rfl) (fun _ _ _ h => h) (Or.inl ⟨by rfl, ?hyT96⟩) (by assumption) ?rstT96
        case hyT96 => (intro w hSw; have hcvA := HCA.out w hSw; (try dsimp only at hSw); go_simp; (try with_reducible rfl))
        try simp only [Act.put, List.setIfInBounds_toArray, List.set_cons_zero, List.set_cons_succ]
        refine takeD (i := 13) (d := some 158) (v := ?vT97) rfl rfl (by kernel_rfl) (by kernel_rfl) (by kernel_rfl) (fun _ _ _ h => h) (Or.inl ⟨by rfl, ?hyT97⟩) (by assumption) ?rstT97
        case hyT97 => (intro w hSw; (try dsimp only at hSw); go_simp; (try with_reducible rfl))
        try simp only [Act.put, List.setIfInBounds_toArray, List.set_cons_zero, List.set_cons_succ]
        refine takeD (i := 14) (d := some 159) (v := ?vT98) rfl rfl (by kernel_rfl) (by kernel_rfl) (by kernel_rfl) (fun _ _ _ h => h) (Or.inl ⟨by rfl, ?hyT98⟩) (by assumption) ?rstT98
        case hyT98 => (intro w hSw; (try dsimp only at hSw); go_simp; (try with_reducible rfl))
        try simp only [Act.put, List.setIfInBounds_toArray, List.set_cons_zero, List.set_cons_succ]
        refine takeD (i := 15) (d := some 160) (v := ?vT99) rfl rfl (by kernel_rfl) (by kernel_rfl) (by kernel_rfl) (fun _ _ _ h => h) (Or.inl ⟨by rfl, ?hyT99⟩) (by assumption) ?rstT99
        case hyT99 => (intro w hSw; (try dsimp only at hSw); go_simp; (try with_reducible rfl))
        try simp only [Act.put, List.setIfInBounds_toArray, List.set_cons_zero, List.set_cons_succ]
        refine takeD (i := 16) (d := some 161) (v := ?vT100) rfl rfl (by kernel_rfl) (by kernel_rfl) (by kernel_rfl) (fun _ _ _ h => h) (Or.inl ⟨by rfl, ?hyT100⟩) (by assumption) ?rstT100
        case hyT100 => (intro w hSw; have hcvB := HCB.out w hSw; (try dsimp only at hSw); go_simp; (try with_reducible rfl))
        try simp only [Act.put, List.setIfInBounds_toArray, List.set_cons_zero, List.set_cons_succ]
        refine takeD (i := 17) (d := some 162) (v := ?vT101) rfl rfl (by kernel_rfl) (by kernel_rfl) (by kernel_rfl) (fun _ _ _ h => h) (Or.inl ⟨by rfl, ?hyT101⟩) (by assumption) ?rstT101
        case hyT101 => (intro w hSw; (try dsimp only at hSw); go_simp; (try with_reducible rfl))
        try simp only [Act.put, List.setIfInBounds_toArray, List.set_cons_zero, List.set_cons_succ]
        refine wpAnyH_ready (rs := [8]) (by kernel_rfl) (by simp) ?_
        refine AllReadyH.cons rfl (fun K hK => ?_) AllReadyH.nil
        go_simp
        refine T13.mono ?_
        rintro e w19 ⟨rfl, hs19⟩
        have hb19 : Below w18.heap.size w18 w19 := hd18.trans (hs19.below.mono hd18.size)
        clear hHeld
        refine hK.out _ _ ?hS102 (fun hHeld => ?rest102)
        case hS102 => exact hrt18.below hb19
        clear hK K
        try simp only [Act.put, List.setIfInBounds_toArray, List.set_cons_zero, List.set_cons_succ]
        refine takeD (i := 18) (d := some 163) (v := ?vT103) rfl rfl (by kernel_rfl) (by kernel_rfl) (by kernel_rfl) (fun _ _ _ h => h) (Or.inl ⟨by rfl, ?hyT103⟩) (by assumption) ?rstT103
        case hyT103 => (intro w hSw; (try dsimp only at hSw); go_simp; (try with_reducible rfl))
        try simp only [Act.put, List.setIfInBounds_toArray, List.set_cons_zero, List.set_cons_succ]
        refine takeD (i := 19) (d := some 164) (v := ?vT104) rfl rfl (by kernel_rfl) (by kernel_rfl) (by kernel_rfl) (fun _ _ _ h => h) (Or.inl ⟨by rfl, ?hyT104⟩) (by assumption) ?rstT104
        case hyT104 => (intro w hSw; (try dsimp only at hSw); go_simp; (try with_reducible rfl))
        try simp only [Act.put, List.setIfInBounds_toArray, List.set_cons_zero, List.set_cons_succ]
        refine wpAnyH_done (by kernel_rfl) ?_ _
        have hH19 := hH18.still hb19
        have hU19 := hU18.trans (Upd.ofBelow hb19)
        have hrt19 := hrt18.below hb19
        have hl19 := hl18.below hb19
        have hbx19 := (hb19.block _ (Array.getElem?_eq_some_iff.1 hbx18).1).trans hbx18
        clear T13 hs19 hb19 hd18 hct1 hct2 HCA HCB s1 hHeld hrt18 hl18 hbx18 hU18 hH18
        have hbd19 := hU19.box hbd hqd
        have d0 : w19.cell? ⟨wr.heap.size, 0, none⟩ = some (.int .i64 (dk)) := by rw [Lib.cell_of_heap hbd19]; rfl
        have T14 := pick_any (dk) 2 (by decide) (by decide) w19
        go_wp2_with fail
        refine T14.mono ?_
        rintro e w20 ⟨rfl, hw20⟩
        have hw20' := hw20.symm
        subst hw20'
        clear T14 hw20
        rcases Int.emod_two_eq dk with hd2 | hd2
        · rw [hd2]
          clear hd2
          have T15 := inverse_2 (c := 0) (n := 0) (p := 0) (s := ⟨#[]⟩) (tc := 0) (tn := 0) (on := false) hl19.rng (by omega) (by simp [ByteArray.size]) (HBAR.out.below hH19.below) (own_rng (.inl ⟨rfl, rfl⟩) (.inl rfl) (HVIS.out.ne hlh) HVIS.out.srt HVIS.out.within (by omega) (by omega))
          rw [show coveredP ⟨0, 0, 2, 0, ⟨#[]⟩, l, 0, 0, false⟩ = l from rfl] at T15
          simp only [opVal] at T15
          obtain ⟨y0, y1, y2, y3, y4, y5, y6, y7, y8⟩ := box9 hbx19
          go_wp2_with fail
          refine T15.mono ?_
          rintro e w20 ⟨a20, m20, c20, rfl, ho20, hb20⟩
          obtain ⟨a20', c20', e20⟩ := ho20.shape
          obtain ⟨rfl, rfl, rfl⟩ : a20 = a20' ∧ m20 = l.length ∧ c20 = c20' := by simpa using e20
          have hH20 := hH19.still hb20
          have hrt20 := hrt19.below hb20
          have hl20 : Rw pieceV 2 w20 a20 l.length c20 l := ho20.rw_ layRo
          clear T15 y0 y1 y2 y3 y4 y5 y6 y7 y8 e20 ho20 hbx19 hb20 hH19 hU19 hrt19 hl19 d0
          go_upto_region 34 with fail
          generalize hW21 : w20.alloc (Obj.cells #[.int .i64 0, .int .i64 0, .int .i64 3, .int .i64 0, .string ⟨#[]⟩, .slice a20 l.length c20, .int .i64 0, .int .i64 0, .bool false] 48) = W21
          have hB21 : Below w20.heap.size w20 W21 := hW21 ▸ (Below.refl w20.heap.size w20).alloc (Nat.le_refl _) _
          have hbv21 : W21.heap[w20.heap.size]? = some (.cells #[.int .i64 0, .int .i64 0, .int .i64 3, .int .i64 0, .string ⟨#[]⟩, .slice a20 l.length c20, .int .i64 0, .int .i64 0, .bool false] 48) := hW21 ▸ alloc_last _ _ _ rfl
          clear hW21
          obtain ⟨y0, y1, y2, y3, y4, y5, y6, y7, y8⟩ := box9 hbv21
          have hH21 := hH20.still hB21
          have T16 := apply_showH hH21 hq3 HBAR.out (.inl ⟨rfl, rfl⟩) (hl20.below hB21) (HVIS.out.ne hlh) HVIS.out.srt (fun x hx => by rw [bmp_len]; exact HVIS.out.within x hx) (by omega) (by rw [bmp_back]; exact HB2_.out)
          rw [bmp_back] at T16
          simp only [opVal] at T16
          go_wp2_with fail
          refine T16.mono ?_
          rintro e w22 ⟨rfl, hH22, hUp⟩
          have hrt22 := hH21.rowU hUp (hrt20.below hB21)
          clear T16 y0 y1 y2 y3 y4 y5 y6 y7 y8 hbv21 hB21 hUp hrt20 hl20 hH21 hH20
          have hd22 : Below w22.heap.size w22 w22.drew := (Below.refl _ _).drew
          have T17 := (hH22.still hd22).self.text HO2.out
          rw [HV2.out] at T17
          have HCC : Hid (∀ W, Rw rune1 1 W (some ⟨bt2, 0, none⟩) V2.length ct2 V2 → (convert 34 9 (.slice (some ⟨bt2, 0, none⟩) V2.length ct2)).run Tryd.prog W = .ok (.string (strOf V2)) W) := fun W h => conv_rw h
          generalize strOf V2 = SV at *
          go_wp2_with fail
          refine wp_region_held_drew (S := (fun X => Rw rune1 1 X (some ⟨bt2, 0, none⟩) V2.length ct2 V2)) (by kernel_rfl) ?hS105 (fun hHeld => ?rest105)
          case hS105 => exact hrt22.below hd22
          refine takeD (i := 0) (d := some 177) (v := ?vT106) rfl rfl (by kernel_rfl) (by kernel_rfl) (by kernel_rfl) (fun _ _ _ h => h) (Or.inl ⟨by rfl, ?hyT106⟩) (by assumption) ?rstT106
          case hyT106 => (intro w hSw; (try dsimp only at hSw); go_simp; (try with_reducible rfl))
          try simp only [Act.put, List.setIfInBounds_toArray, List.set_cons_zero, List.set_cons_succ]
          refine takeD (i := 1) (d := some 178) (v := ?vT107) rfl rfl (by kernel_rfl) (by kernel_rfl) (by kernel_rfl) (fun _ _ _ h => h) (Or.inl ⟨by rfl, ?hyT107⟩) (by assumption) ?rstT107
          case hyT107 => (intro w hSw; (try dsimp only at hSw); go_simp; (try with_reducible rfl))
          try simp only [Act.put, List.setIfInBounds_toArray, List.set_cons_zero, List.set_cons_succ]
          refine takeD (i := 2) (d := some 179) (v := ?vT108) rfl rfl (by kernel_rfl) (by kernel_rfl) (by kernel_rfl) (fun _ _ _ h => h) (Or.inl ⟨by rfl, ?hyT108⟩) (by assumption) ?rstT108
          case hyT108 => (intro w hSw; (try dsimp only at hSw); go_simp; (try with_reducible rfl))
          try simp only [Act.put, List.setIfInBounds_toArray, List.set_cons_zero, List.set_cons_succ]
          refine takeD (i := 3) (d := some 180) (v := ?vT109) rfl rfl (by kernel_rfl) (by kernel_rfl) (by kernel_rfl) (fun _ _ _ h => h) (Or.inl ⟨by rfl, ?hyT109⟩) (by assumption) ?rstT109
          case hyT109 => (intro w hSw; (try dsimp only at hSw); go_simp; (try with_reducible rfl))
          try simp only [Act.put, List.setIfInBounds_toArray, List.set_cons_zero, List.set_cons_succ]
          refine takeD (i := 4) (d := some 181) (v := ?vT110) rfl rfl (by kernel_rfl) (by kernel_rfl) (by kernel_rfl) (fun _ _ _ h => h) (Or.inl ⟨by rfl, ?hyT110⟩) (by assumption) ?rstT110
          case hyT110 => (intro w hSw; (try dsimp only at hSw); go_simp; (try with_reducible rfl))
          try simp only [Act.put, List.setIfInBounds_toArray, List.set_cons_zero, List.set_cons_succ]
          refine takeD (i := 5) (d := some 182) (v := ?vT111) rfl rfl (by kernel_rfl) (by kernel_rfl) (by kernel_rfl) (fun _ _ _ h => h) (Or.inl ⟨by rfl, ?hyT111⟩) (by assumption) ?rstT111
          case hyT111 => (intro w hSw; (try dsimp only at hSw); go_simp; (try with_reducible rfl))
          try simp only [Act.put, List.setIfInBounds_toArray, List.set_cons_zero, List.set_cons_succ]
          refine takeD (i := 6) (d := some 183) (v := ?vT112) rfl rfl (by kernel_rfl) (by kernel_rfl) (by kernel_rfl) (fun _ _ _ h => h) (Or.inl ⟨by rfl, ?hyT112⟩) (by assumption) ?rstT112
          case hyT112 => (intro w hSw; (try dsimp only at hSw); go_simp; (try with_reducible rfl))
          try simp only [Act.put, List.setIfInBounds_toArray, List.set_cons_zero, List.set_cons_succ]
          refine takeD (i := 7) (d := some 184) (v := ?vT113) rfl rfl (by kernel_rfl) (by kernel_rfl) (by kernel_rfl) (fun _ _ _ h => h) (Or.inl ⟨by rfl, ?hyT113⟩) (by assumption) ?rstT113
          case hyT113 => (intro w hSw; (try dsimp only at hSw); go_simp; (try with_reducible rfl))
          try simp only [Act.put, List.setIfInBounds_toArray, List.set_cons_zero, List.set_cons_succ]
          refine takeD (i := 9) (d := some 186) (v := ?vT114) rfl rfl (by kernel_rfl) (by kernel_rfl) (by kernel_rfl) (fun _ _ _ h => h) (Or.inl ⟨by rfl, ?hyT114⟩) (by assumption) ?rstT114
          case hyT114 => (intro w hSw; (try dsimp only at hSw); go_simp; (try with_reducible rfl))
          try simp only [Act.put, List.setIfInBounds_toArray, List.set_cons_zero, List.set_cons_succ]
          refine takeD (i := 10) (d := some 187) (v := ?vT115) rfl rfl (by kernel_rfl) (by kernel_rfl) (by kernel_rfl) (fun _ _ _ h => h) (Or.inl ⟨by rfl, ?hyT115⟩) (by assumption) ?rstT115
          case hyT115 => (intro w hSw; have hcvA := HCC.out w hSw; (try dsimp only at hSw); go_simp; (try with_reducible rfl))
          try simp only [Act.put, List.setIfInBounds_toArray, List.set_cons_zero, List.set_cons_succ]
          refine wpAnyH_ready (rs := [8]) (by kernel_rfl) (by simp) ?_
          refine AllReadyH.cons rfl (fun K hK => ?_) AllReadyH.nil
          go_simp
          refine T17.mono ?_
          rintro e w23 ⟨rfl, hs23⟩
          have hb23 : Below w22.heap.size w22 w23 := hd22.trans (hs23.below.mono hd22.size)
          clear hHeld
          refine hK.out _ _ ?hS116 (fun hHeld => ?rest116)
          case hS116 => exact hrt22.below hb23
          clear hK K
          try simp only [Act.put, List.setIfInBounds_toArray, List.set_cons_zero, List.set_cons_succ]
          refine takeD (i := 11) (d := some 188) (v := ?vT117) rfl rfl (by kernel_rfl) (by kernel_rfl) (by kernel_rfl) (fun _ _ _ h => h) (Or.inl ⟨by rfl, ?hyT117⟩) (by assumption) ?rstT117
          case hyT117 => (intro w hSw; (try dsimp only at hSw); go_simp; (try with_reducible rfl))
          try simp only [Act.put, List.setIfInBounds_toArray, List.set_cons_zero, List.set_cons_succ]
          refine takeD (i := 12) (d := some 189) (v := ?vT118) rfl rfl (by kernel_rfl) (by kernel_rfl) (by kernel_rfl) (fun _ _ _ h => h) (Or.inl ⟨by rfl, ?hyT118⟩) (by assumption) ?rstT118
          case hyT118 => (intro w hSw; (try dsimp only at hSw); go_simp; (try with_reducible rfl))
          try simp only [Act.put, List.setIfInBounds_toArray, List.set_cons_zero, List.set_cons_succ]
          refine wpAnyH_done (by kernel_rfl) ?_ _
          have hH23 := hH22.still hb23
          clear T17 hs23 hb23 hd22 HCC hHeld hrt22 hH22
          go_wp2_with fail
          go_roundw
          case rel => exact ⟨i + 1, R2, by go_num, by omega, hH23, HO2.out, hl2'⟩
          case measure => simp [RowKit.intOf]; omega
        · rw [hd2]
          clear hd2
          go_wp2_with fail
          go_roundw
          case rel => exact ⟨i + 1, bmp l 1 0 R2, by go_num, by omega, hH19, VisL.runes HO2.out, by rw [bmp_len]; exact hl2'⟩
          case measure => simp [RowKit.intOf]; omega
    · by_cases hin1 : i ≤ nD
      · have b1 : (i : Int) ≤ (nD : Int) := by omega
        have b2 : ¬ (i : Int) < 60 := fun e => hin ⟨hin1, by omega⟩
        clear hin
        clear p1' p2 p3
        go_wp2_with fail
        go_ret
        exact ⟨rfl, HB2.out.trans (hH.below.mono HB2.out.size)⟩
      · have b1 : ¬ (i : Int) ≤ (nD : Int) := by omega
        clear hin
        clear p1' p2 p3
        go_wp2_with fail
        go_ret
        exact ⟨rfl, HB2.out.trans (hH.below.mono HB2.out.size)⟩
end Go.Proofs.YtggdocnnbgcniaaDoor
