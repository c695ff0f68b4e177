import Derived.Test.YtkfcbknkkoempaaDoorRsA
import Derived.Test.YtkfcbknkkoempaaDoorRsC
import Derived.Test.YtkfcbknkkoempaaDoorRsD
/-! RopeGrows. -/
namespace Go.Proofs.YtkfcbknkkoempaaDoor
open Go.RowKit Go.Lib
set_option maxRecDepth 100000

theorem isText_lit {s : ByteArray} {rs : List Int} (h : s.data.toList = encs rs) (ho : ∀ r ∈ rs, okR r) : IsText s rs := ⟨h, ho⟩
theorem enc_of (c : Nat) (h : c < 128) : encB (c : Int) = [UInt8.ofNat c] := encB1 c h
theorem okR_of (c : Int) (h : 97 ≤ c ∧ c ≤ 126) : okR c := ⟨valid_of (by omega) (by omega) (by omega), by unfold okRune; rw [decide_eq_true_iff]; omega⟩
theorem isText_one (c : Nat) (h : 97 ≤ c ∧ c ≤ 126) : IsText ⟨#[UInt8.ofNat c]⟩ [(c : Int)] := isText_lit (by rw [encs_cons, enc_of c (by omega)]; rfl) (fun r hr => by simp at hr; subst hr; exact okR_of _ (by omega))
theorem isText_two (c d : Nat) (h : 97 ≤ c ∧ c ≤ 126) (k : 97 ≤ d ∧ d ≤ 126) : IsText ⟨#[UInt8.ofNat c, UInt8.ofNat d]⟩ [(c : Int), (d : Int)] := isText_lit (by rw [encs_cons, encs_cons, enc_of c (by omega), enc_of d (by omega)]; rfl) (fun r hr => by
  simp at hr
  rcases hr with rfl | rfl
  · exact okR_of _ (by omega)
  · exact okR_of _ (by omega))
theorem isText_z : IsText ⟨#[122]⟩ [122] := isText_one 122 (by omega)
theorem isText_q : IsText ⟨#[113]⟩ [113] := isText_one 113 (by omega)
theorem isText_aa : IsText ⟨#[97, 97]⟩ [97, 97] := isText_two 97 97 (by omega) (by omega)
theorem isText_no : IsText ⟨#[]⟩ [] := isText_lit rfl (fun r hr => by cases hr)
theorem Holds.runs {w2 : World} {q : Nat} {R : List (Int × Int)} {W : World} (h : Holds w2 q R W) (ho : ∀ c ∈ R, okR c.1) : Calls Tryd.prog 10 #[.pointer (some ⟨q, 0, none⟩)] W fun e W' => (∃ a cap, e = .returned (.slice a (runsOfRow R).length cap)) ∧ Holds w2 q R W' := by
  have h' := h
  obtain ⟨t, k1, k2, rfl, k3⟩ := h
  exact (runs_any k1 k2 (okl_row ho)).mono (fun e W' ⟨a, cap, he, hb⟩ => ⟨⟨a, cap, he⟩, h'.still hb⟩)
theorem heap_set_at {W : World} {b : Nat} {cs : Array Value} {T : TypeId} (h : W.heap[b]? = some (.cells cs T)) (i : Nat) (u : Value) : (W.setCell ⟨b, i, none⟩ u).heap[b]? = some (.cells (cs.setIfInBounds i u) T) := by
  unfold World.setCell
  simp [Array.getElem?_modify, h]
/-- The row of RopeGrows, and what is known of it. -/
structure Big (rs : List Int) : Prop where
  len : rs.length = 1048575
  eq : rs = List.replicate 1048575 97
theorem Big.ok {rs : List Int} (h : Big rs) : ∀ r ∈ rs, okR r := fun r hr => by rw [h.eq] at hr; rw [List.eq_of_mem_replicate hr]; exact okR_a
theorem Big.text {rs : List Int} (h : Big rs) : IsText (strOf rs) rs := by have := isText_rep 1048575; rw [← h.eq] at this; exact this
theorem big_row {rs : List Int} (h : Big rs) : vis (rs.map fun c => (c, (1 : Int))) = 0 ∧ visR (putL (rs.map fun c => (c, (1 : Int))) 7 [122] 0) = [122] ∧ (runsOfRow (putL (rs.map fun c => (c, (1 : Int))) 7 [122] 0)).length = 3 := by
  have hl := h.len
  have h1 : ∀ l : List Int, visR (l.map fun c => (c, (1 : Int))) = [] := fun l => by rw [visR_one]; simp
  have hN : Nonneg (rs.map fun c => (c, (1 : Int))) := fun c hc => by obtain ⟨x, _, rfl⟩ := List.mem_map.1 hc; simp
  refine ⟨?_, ?_, ?_⟩
  · rw [← visR_vis hN, h1]; rfl
  · rw [visR_putL, ← List.map_take, ← List.map_drop, h1, h1]
    simp
  · have e : putL (rs.map fun c => (c, (1 : Int))) 7 [122] 0 = ((rs.take 7).map fun c => (c, (1 : Int))) ++ ([122].map fun c => (c, (0 : Int))) ++ ((rs.drop 7).map fun c => (c, (1 : Int))) := by
      unfold putL
      rw [List.map_take, List.map_drop]
    rw [e, runs_three _ _ _ 1 0 1 (by intro e2; have := congrArg List.length e2; rw [List.length_take, List.length_nil] at this; omega) (by simp) (by intro e2; have := congrArg List.length e2; rw [List.length_drop, List.length_nil] at this; omega) (by omega) (by omega)]
    rfl

set_option maxHeartbeats 16000000 in
theorem ropeGrows_any (w : World) (hBar : Bar w) : Calls Tryd.prog 3 #[] w fun e w' => e = .returned (.bool true) ∧ Below w.heap.size w w' := by
  obtain ⟨N, mc, HNN, hmc, HMK⟩ : ∃ (N : Nat) (mc : Array Value), Hid (N = 1048575) ∧ mc.size = N ∧ ∀ W : World, (Instr.makeSlice 22 (.int .i64 1048575) (.int .i64 1048575)).run Tryd.prog W = .ok (.slice (some ⟨W.heap.size, 0, none⟩) N N) (W.alloc (.cells mc 5)) := by
    obtain ⟨mc, hmc, HMK⟩ := make_big
    exact ⟨1048575, mc, rfl, hmc, HMK⟩
  have HM0 : Hid ((w.alloc (.cells mc 5)).heap[w.heap.size]? = some (.cells mc 5)) := heap_alloc_new _ _
  go_enter Tryd.func3, Tryd.ntmps3
  go_wp2_with fail
  go_loopw [2] (fun vi W => ∃ (i : Nat) (cs : Array Value), i ≤ N ∧ vi = .int .i64 i ∧ cs.size = N ∧ W.heap[w.heap.size]? = some (.cells cs 5) ∧ Hid (∀ j, j < i → cs[j]? = some (.int .u8 97)) ∧ Below w.heap.size w W) (fun vi _ => N - (RowKit.intOf vi).toNat)
  case atStart => exact ⟨0, mc, by omega, rfl, hmc, HM0.out, (fun j hj => absurd hj (Nat.not_lt_zero _)), (Below.refl _ _).alloc (Nat.le_refl _) _⟩
  case round =>
    clear HMK HM0 hmc mc
    obtain ⟨i, cs, hi, rfl, hcs, hh, HC, hB⟩ := hrel
    by_cases hlt : i < N
    · have hlN : N ≤ 1048575 := by have := HNN.out; omega
      have ck : wr.cell? ⟨w.heap.size, i, none⟩ = some cs[i] := by rw [Lib.cell_of_heap hh, Array.getElem?_eq_getElem (by omega)]
      have fk : wr.frozen? ⟨w.heap.size, i, none⟩ = false := Lib.frozen_of_heap hh i
      have hN : Hid ((wr.setCell ⟨w.heap.size, i, none⟩ (.int .u8 97)).heap[w.heap.size]? = some (.cells (cs.setIfInBounds i (.int .u8 97)) 5) ∧ (∀ j, j < i + 1 → (cs.setIfInBounds i (.int .u8 97))[j]? = some (.int .u8 97)) ∧ Below w.heap.size w (wr.setCell ⟨w.heap.size, i, none⟩ (.int .u8 97))) := ⟨heap_set_at hh i _, fun j hj => by
        rw [Array.getElem?_setIfInBounds]
        by_cases e : i = j
        · rw [if_pos e, if_pos (by omega)]
        · rw [if_neg e]; exact HC.out j (by omega), hB.setCell (p := ⟨w.heap.size, i, none⟩) (Nat.le_refl _) _⟩
      clear hh HC hB
      generalize cs[i] = u at ck
      go_wp2_with fail
      exact ⟨⟨i + 1, _, by omega, by simp, by simp [hcs], hN.out⟩, by simp [RowKit.intOf]; omega⟩
    · have hlN : N ≤ 1048575 := by have := HNN.out; omega
      obtain rfl : i = N := by omega
      have CV : Hid (∀ W, W.heap[w.heap.size]? = some (.cells cs 5) → (convert 22 9 (.slice (some ⟨w.heap.size, 0, none⟩) i i)).run Tryd.prog W = .ok (.string (strOf (List.replicate i 97))) W) := fun W hW => conv_rep hW i HC.out
      obtain ⟨rs, hrs⟩ : ∃ rs, rs = List.replicate i (97 : Int) := ⟨_, rfl⟩
      have HBG : Hid (Big rs) := ⟨by rw [hrs, List.length_replicate]; exact HNN.out, by rw [hrs, HNN.out]⟩
      rw [← hrs] at CV
      clear hrs HC hcs hlt hi
      have hbl : w.heap.size < wr.heap.size := (Array.getElem?_eq_some_iff.1 hh).1
      have hcv := CV.out wr hh
      obtain ⟨s, hs⟩ : ∃ s, strOf rs = s := ⟨_, rfl⟩
      rw [hs] at hcv
      have HSX : Hid (strOf rs = s ∧ IsText s rs) := ⟨hs, hs ▸ HBG.out.text⟩
      clear hs
      have hba : Below wr.heap.size wr (wr.alloc (.cells #[.string s, .int .i64 1] 28)) := (Below.refl _ _).alloc (Nat.le_refl _) _
      have hF : FromOk [⟨s, rs, 1⟩] := by
        have hl := HBG.out.len
        refine ⟨fun x hx => ?_, fun x hx => ?_, fun x hx => ?_, fun x hx => ?_, fun j x y hx hy => ?_, ?_⟩
        · simp at hx; subst hx; exact HSX.out.2
        · simp at hx; subst hx; intro e; simp only at e; rw [e] at hl; simp at hl
        · simp at hx; subst hx; simp
        · simp at hx; subst hx; simp
        · cases j <;> simp at hy
        · have : (cellsOf [⟨s, rs, 1⟩]).length = rs.length := by simp [cellsOf]
          omega
      have HFR := from_any (rw_lit wr (⟨s, rs, 1⟩ : GRun) #[.string s, .int .i64 1] rfl 28) hF ((hBar.below hB).below hba)
      have HH : Hid (wr.heap[w.heap.size]? = some (.cells cs 5) ∧ Below w.heap.size w wr ∧ FromOk [⟨s, rs, 1⟩] ∧ Bar (wr.alloc (.cells #[.string s, .int .i64 1] 28)) ∧ Below wr.heap.size wr (wr.alloc (.cells #[.string s, .int .i64 1] 28))) := ⟨hh, hB, hF, (hBar.below hB).below hba, hba⟩
      clear hh hB hF hba
      go_wp2_with fail
      refine HFR.mono ?_
      rintro e w3 ⟨q, t, ts, rfl, hRp, hBt, hPt, hb3, hq3⟩
      clear HFR hcv
      unfold ptr
      obtain ⟨hh, hB, hF, hBr, hba⟩ := HH.out
      obtain ⟨e1, e2⟩ := from_rp hF hBt hPt
      have ec : cellsOf [⟨s, rs, 1⟩] = rs.map fun c => (c, (1 : Int)) := by simp [cellsOf]
      rw [ec] at e1
      obtain ⟨R, hR⟩ : ∃ R, (rs.map fun c => (c, (1 : Int))) = R := ⟨_, rfl⟩
      rw [hR] at e1
      obtain ⟨w2, ew2⟩ : ∃ W, wr.alloc (.cells #[.string s, .int .i64 1] 28) = W := ⟨_, rfl⟩
      rw [ew2] at hb3 hq3 hBr hba
      have hH : Holds w2 q R w3 := ⟨t, hRp, e2, e1, hb3⟩
      have hRl : R.length = 1048575 := by rw [← hR, List.length_map]; exact HBG.out.len
      have hRo : ∀ c ∈ R, okR c.1 := fun c hc => by rw [← hR] at hc; obtain ⟨x, hx, rfl⟩ := List.mem_map.1 hc; exact HBG.out.ok x hx
      have hbr := big_row HBG.out
      rw [hR] at hbr
      have HK : Hid ((∀ c ∈ R, okR c.1) ∧ (vis R = 0 ∧ visR (putL R 7 [122] 0) = [122] ∧ (runsOfRow (putL R 7 [122] 0)).length = 3) ∧ Bar w2 ∧ Below wr.heap.size wr w2 ∧ Below w.heap.size w wr ∧ wr.heap[w.heap.size]? = some (.cells cs 5)) := ⟨hRo, hbr, hBr, hba, hB, hh⟩
      clear HH hh hB hF hBr hba hRp hBt hPt hb3 e1 e2 ec hR hRo hbr ew2
      have T0 := hH.grow 1048575 (by omega) (isText_two 120 121 (by omega) (by omega)) (by simp) 0 (by omega) (by omega) (by simp; omega) HK.out.2.2.1
      clear hH
      go_wp2_with fail
      refine T0.mono ?_
      rintro e w4 ⟨rfl, hH⟩
      clear T0
      have T0 := hH.insert hq3 7 (by omega) isText_z (by simp) 0 (by omega) (by omega) (by simp; omega) HK.out.2.2.1
      clear hH
      go_wp2_with fail
      refine T0.mono ?_
      rintro e w5 ⟨rfl, hH⟩
      clear T0
      obtain ⟨R2, hR2⟩ : ∃ R2, putL R 7 [122] 0 = R2 := ⟨_, rfl⟩
      rw [hR2] at hH
      have hl2 : R2.length = 1048576 := by rw [← hR2, putL_len, hRl]; rfl
      have HK2 : Hid ((∀ c ∈ R2, okR c.1) ∧ vis R2 = 1 ∧ strOf (visR R2) = ⟨#[122]⟩ ∧ (runsOfRow R2).length = 3 ∧ R2[7]? = some (122, 0)) := by
        obtain ⟨k1, ⟨k2, k3, k4⟩, _⟩ := HK.out
        refine ⟨?_, ?_, ?_, ?_, ?_⟩
        · rw [← hR2]; exact putL_ok k1 (fun r hr => by simp at hr; subst hr; exact okR_of _ (by omega))
        · rw [← hR2, vis_putL, k2]; rfl
        · rw [← hR2, k3]; exact (tx_eq isText_z.bytes).symm
        · rw [← hR2]; exact k4
        · rw [← hR2]; exact putL_get R (by omega) 122 0
      clear hR2 hRl
      have T0 := hH.total
      rw [hl2] at T0
      clear hH
      go_wp2_with fail
      refine T0.mono ?_
      rintro e w6 ⟨rfl, hH⟩
      clear T0
      have T0 := hH.shown
      rw [HK2.out.2.1] at T0
      clear hH
      go_wp2_with fail
      refine T0.mono ?_
      rintro e w7 ⟨rfl, hH⟩
      clear T0
      have T0 := hH.text HK2.out.1
      rw [HK2.out.2.2.1] at T0
      clear hH
      go_wp2_with fail
      refine T0.mono ?_
      rintro e w8 ⟨rfl, hH⟩
      clear T0
      have T0 := hH.grow 0 (by omega) isText_q (by simp) 0 (by omega) (by omega) (by simp; omega) HK.out.2.2.1
      clear hH
      go_wp2_with fail
      refine T0.mono ?_
      rintro e w9 ⟨rfl, hH⟩
      clear T0
      have T0 := hH.grow 1048576 (by omega) isText_q (by simp) 2 (by omega) (by omega) (by simp; omega) HK.out.2.2.1
      clear hH
      go_wp2_with fail
      refine T0.mono ?_
      rintro e w10 ⟨rfl, hH⟩
      clear T0
      have T0 := hH.putNone 1048576 (by omega) isText_no 0 (by omega) (by omega) HK.out.2.2.1
      clear hH
      go_wp2_with fail
      refine T0.mono ?_
      rintro e w11 ⟨rfl, hH⟩
      clear T0
      have T0 := hH.cell 7 122 0 HK2.out.2.2.2.2
      clear hH
      go_wp2_with fail
      refine T0.mono ?_
      rintro e w12 ⟨rfl, hH⟩
      clear T0
      obtain ⟨k1, k2, hBr, hba, hB, hh⟩ := HK.out
      have hbH := hH.below
      have hs2 := hba.size
      have hh12 : w12.heap[w.heap.size]? = some (.cells cs 5) := (hbH.block _ (by omega)).trans ((hba.block _ hbl).trans hh)
      have hl12 : w.heap.size < w12.heap.size := (Array.getElem?_eq_some_iff.1 hh12).1
      have hcA : ∀ o, (convert 22 9 (.slice (some ⟨w.heap.size, 0, none⟩) i i)).run Tryd.prog (w12.alloc o) = .ok (.string s) (w12.alloc o) := fun o => by
        rw [← HSX.out.1]
        exact CV.out _ ((Below.heap_alloc _ _ _ hl12).trans hh12)
      have hsm := HSX.out.2.small
      have hrl := HBG.out.len
      have zs : (s ++ (⟨#[97, 97]⟩ : ByteArray)).size = s.size + 2 := ByteArray.size_append
      obtain ⟨s2, hs2e⟩ : ∃ x, s ++ (⟨#[97, 97]⟩ : ByteArray) = x := ⟨_, rfl⟩
      have ht2 : IsText s2 (rs ++ [97, 97]) := by
        rw [← hs2e, ← HSX.out.1, tx_eq isText_aa.bytes, strOf_append]
        exact isText_lit (by simp [strOf]) (fun r hr => (List.mem_append.1 hr).elim (HBG.out.ok r) (fun h => by simp at h; subst h; exact okR_a))
      have HG2 : Hid (∀ (o : Obj), Calls Tryd.prog 4 #[.slice (some ⟨w12.heap.size + 1, 0, none⟩) 1 1] ((w12.alloc o).alloc (.cells #[.string s2, .int .i64 0] 28)) fun e w' => e = .returned (.tuple #[.pointer none, .int .i64 24]) ∧ Below ((w12.alloc o).alloc (.cells #[.string s2, .int .i64 0] 28)).heap.size ((w12.alloc o).alloc (.cells #[.string s2, .int .i64 0] 28)) w') := fun o => by
        have hn := heap_alloc_new (w12.alloc o) (.cells #[.string s2, .int .i64 0] 28)
        rw [World.size_alloc] at hn
        exact from_grow (x := ⟨s2, rs ++ [97, 97], 0⟩) (by rw [Lib.cell_of_heap hn]; rfl) (by rw [Lib.cell_of_heap hn]; rfl) (by simp) ht2 (by simp) (by simp) (by simp; omega) (by simp; omega) ((hBr.below hbH).alloc o |>.alloc _)
      have HHH : Hid (Holds w2 q R2 w12 ∧ Below w.heap.size w wr ∧ Below wr.heap.size wr w2) := ⟨hH, hB, hba⟩
      clear hH k1 k2 hBr hba hB hh hbH hs2 hh12 ht2 CV
      go_wp2_with fail
      refine (HG2.out _).mono ?_
      rintro e w13 ⟨rfl, hb13⟩
      clear HG2 hcA zs hs2e
      have hb1213 : Below w12.heap.size w12 w13 := ((((Below.refl _ _).alloc (Nat.le_refl _) _).alloc (by simp) _)).trans (hb13.mono (by simp; omega))
      have hcb : w13.heap[w12.heap.size]? = some (.cells #[.int .i32 122, .int .i64 0] 34) := (hb13.block _ (by simp; omega)).trans ((Below.heap_alloc _ _ _ (by simp)).trans (heap_alloc_new _ _))
      have q0 : w13.cell? ⟨w12.heap.size, 0, none⟩ = some (.int .i32 122) := by rw [Lib.cell_of_heap hcb]; rfl
      have q1 : w13.cell? ⟨w12.heap.size, 1, none⟩ = some (.int .i64 0) := by rw [Lib.cell_of_heap hcb]; rfl
      obtain ⟨hH0, hB, hba⟩ := HHH.out
      have hH := hH0.still hb1213
      have HBB : Hid (Below w.heap.size w wr ∧ Below wr.heap.size wr w2) := ⟨hB, hba⟩
      clear HHH hH0 hB hba hb13 hb1213 hcb
      have T0 := hH.total
      rw [hl2] at T0
      clear hH
      go_wp2_with fail
      refine T0.mono ?_
      rintro e w14 ⟨rfl, hH⟩
      clear T0
      have T0 := hH.text HK2.out.1
      rw [HK2.out.2.2.1] at T0
      clear hH
      go_wp2_with fail
      refine T0.mono ?_
      rintro e w15 ⟨rfl, hH⟩
      clear T0
      have T0 := hH.runs HK2.out.1
      rw [HK2.out.2.2.2.1] at T0
      clear hH
      go_wp2_with fail
      refine T0.mono ?_
      rintro e w16 ⟨⟨ra, rc, rfl⟩, hH⟩
      clear T0
      go_wp2_with fail
      go_ret
      have hbF := hH.below
      obtain ⟨hB, hba⟩ := HBB.out
      have hB2 : Below w.heap.size w w2 := hB.trans (hba.mono hB.size)
      exact ⟨rfl, hB2.trans (hbF.mono hB2.size)⟩
end Go.Proofs.YtkfcbknkkoempaaDoor
