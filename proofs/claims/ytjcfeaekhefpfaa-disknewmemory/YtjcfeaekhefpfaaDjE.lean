import Derived.Test.YtjcfeaekhefpfaaDjD
/-! The sentences' loadedOwn. -/
namespace Go.Proofs.Ytjcfeaekhefpfaa.Nm
open Go.RowKit Go.Lib Go.Sort Go.Shelf
set_option maxRecDepth 100000
set_option maxHeartbeats 4000000 in
theorem loadedOwn_any {w : World} {a : Option Addr} {n cap : Nat} {Z : List UInt8} (hZ : Rw byU 1 w a n cap Z) (hn : n ≤ 1048576) :
    Calls Try.prog 7 #[.slice a n cap] w fun e w' => e = .returned (.bool true) ∧ Below w.heap.size w w' := by
  have HZ : Hid (Rw byU 1 w a n cap Z ∧ n ≤ 1048576 ∧ Z.length = n) := ⟨hZ, hn, hZ.len⟩
  have HC : Hid _ := copied_any hZ (by omega)
  clear hZ hn
  go_enter Try.func7, Try.ntmps7
  go_wp2_with fail
  refine Calls.mono HC.out ?_
  rintro e w1 ⟨ca, cc, rfl, ho1, hb1⟩
  obtain ⟨hZ, hn, hZl⟩ := HZ.out
  have hb2 : Below w1.heap.size w1 (w1.alloc (.cells #[.int .u8 114, .int .u8 115] 5)) := (Below.refl _ _).alloc (Nat.le_refl _) _
  have hlit : Rw byU 1 (w1.alloc (.cells #[.int .u8 114, .int .u8 115] 5)) (some ⟨w1.heap.size, 0, none⟩) 2 2 [114, 115] := rw_lit2 layU w1 114 115 #[.int .u8 114, .int .u8 115] rfl _
  have hs1 := hb1.size
  obtain ⟨gx, cx, wX, hrX, hoX, hbX, _⟩ := appendF kindU layU (ho1.below hb2) (by simp; omega) hlit (by omega) (by rw [hZl]; omega) (by rw [hZl]; omega) 22
  rw [hZl] at hrX hoX
  obtain ⟨n1, hn1⟩ : ∃ n1, n + 1 = n1 := ⟨_, rfl⟩
  obtain ⟨n2, hn2⟩ : ∃ n2, n + 2 = n2 := ⟨_, rfl⟩
  obtain ⟨nl, hnl⟩ : ∃ nl, n2 + 9 = nl := ⟨_, rfl⟩
  rw [hn2] at hrX hoX
  have g1 : IntKind.i64.wrap ((n2 : Int) - 1) = (n1 : Int) := by rw [IntWalk.i64_in _ (by omega)]; omega
  have g2 : IntKind.i64.wrap ((n2 : Int) + 9) = (nl : Int) := by rw [IntWalk.i64_in _ (by omega)]; omega
  have hrw := hoX.rw_ layU
  have hroom := hrw.room
  have htk : (Z ++ [114, 115]).take n1 = Z ++ [114] := by
    have e1 : Z ++ ([114, 115] : List UInt8) = (Z ++ [114]) ++ [115] := by simp
    have e2 : (Z ++ [114]).length = n1 := by simp; omega
    rw [e1, List.take_append_of_le_length (by omega), List.take_of_length_le (by omega)]
  have hX1 : Rw byU 1 wX (some ⟨gx, 0, none⟩) n1 cx (Z ++ [114]) := by
    have := hrw.take n1 (by omega)
    rwa [htk] at this
  have HCU : ∀ W : World, (Instr.slice 22 (.slice (some ⟨gx, 0, none⟩) n2 cx) none (some (.int .i64 (n1 : Int))) none).run Try.prog W = .ok (.slice (some ⟨gx, 0, none⟩) n1 cx) W := fun W => cutU W _ _ cx n1 (by omega)
  have f1 := conv_bytes hX1
  obtain ⟨sW, hsW⟩ : ∃ sW : ByteArray, ⟨(Z ++ [114]).toArray⟩ = sW := ⟨_, rfl⟩
  have HW : Hid (⟨(Z ++ [114]).toArray⟩ = sW) := hsW
  rw [hsW] at f1
  clear hsW
  have HX : Hid (OwnF byU 1 5 wX w.heap.size (.slice (some ⟨gx, 0, none⟩) n2 cx) (Z ++ [114, 115]) ∧ Below w.heap.size w wX ∧ n2 ≤ cx ∧ n + 1 = n1 ∧ n + 2 = n2 ∧ n2 + 9 = nl ∧ Rw byU 1 wX (some ⟨gx, 0, none⟩) n1 cx (Z ++ [114]) ∧ Z.length = n) := ⟨hoX, (hb1.trans (hb2.mono hs1)).trans hbX, hroom.1, hn1, hn2, hnl, hX1, hZl⟩
  obtain ⟨wF, hwF⟩ : ∃ wF, wX.alloc (.cells #[.string ⟨#[97]⟩, .slice (some ⟨gx, 0, none⟩) n1 cx, .int .i64 1] 39) = wF := ⟨_, rfl⟩
  clear hZ hn hZl hb2 hlit hs1 hoX hbX ho1 hb1 HC hn1 hn2 hnl hrw hroom hX1 htk
  go_wp2_with (at_builtin; refine wpList_append_hr rfl _ _ 22 rfl _ _ rfl rfl hrX ?_)
  obtain ⟨hoX, hbX, hcx, hn1, hn2, hnl, hX1, hZl⟩ := HX.out
  have hbF : Below wX.heap.size wX wF := by rw [← hwF]; exact (Below.refl _ _).alloc (Nat.le_refl _) _
  have hFl : wF.heap.size = wX.heap.size + 1 := by rw [← hwF]; simp
  have hRF : Rw fvV 3 wF (some ⟨wX.heap.size, 0, none⟩) 1 1 [⟨na, some ⟨gx, 0, none⟩, n1, cx, 1⟩] := by rw [← hwF]; exact rw_lit (f := fvV) (k := 3) wX ⟨na, some ⟨gx, 0, none⟩, n1, cx, 1⟩ _ rfl _
  have hhF : wF.heap[wX.heap.size]? = some (.cells #[.string ⟨#[97]⟩, .slice (some ⟨gx, 0, none⟩) n1 cx, .int .i64 1] 39) := by rw [← hwF]; exact heap_alloc_new _ _
  have HL : Hid _ := load_ok hRF (by omega) (fs := [⟨na, Z ++ [114], 1⟩]) rfl (fun i v f hv hf => by
    match i, hv, hf with
    | 0, hv, hf =>
      simp only [List.getElem?_cons_zero, Option.some.injEq] at hv hf
      subst hv
      subst hf
      exact ⟨rfl, rfl, hX1.len.symm, hX1.below hbF⟩
    | j + 1, hv, _ => simp at hv) (lim := nl) (by have := HZ.out.2.1; omega) ⟨fun f hf => by simp at hf; subst hf; show nameOk na = true; decide, by simp, fun f hf => by simp at hf; subst hf; simp, by simp [used]; omega⟩
  have HF : Hid (wF.heap[wX.heap.size]? = some (.cells #[.string ⟨#[97]⟩, .slice (some ⟨gx, 0, none⟩) n1 cx, .int .i64 1] 39) ∧ Below wX.heap.size wX wF ∧ wF.heap.size = wX.heap.size + 1) := ⟨hhF, hbF, hFl⟩
  clear hoX hbX hcx hn1 hn2 hnl hX1 hZl hbF hFl hRF hhF hrX f1 HCU
  refine Calls.mono HL.out ?_
  rintro e w3 ⟨p, b, xs, ck, rfl, k1, k2, k3⟩
  have HD : Hid (DF (fun g => g < wF.heap.size) w3 p (nS1 nl 1 (Z ++ [114])) ∧ Below wF.heap.size wF w3) := ⟨⟨b, xs, ck, k1, fun g hg hl => by have := k2 g hg; omega⟩, k3⟩
  clear k1 k2 k3 HL
  go_wp2_with fail
  refine Calls.mono (num_any 0 w3) ?_
  rintro e wz ⟨rfl, hz⟩
  rw [hz]
  clear hz wz
  have hcv := Lib.run_convert_bytes_const (P := Try.prog) w3 22 5 #[.int .u8 84] 1 1 Try.underlying22 Try.underlying5
  obtain ⟨V5, hV5⟩ : ∃ V5, w3.alloc (.cells #[.int .u8 84] 5 (1, 2)) = V5 := ⟨_, rfl⟩
  replace hcv : (convert 22 22 (.slice (some ⟨w3.heap.size, 0, none⟩) 1 1)).run Try.prog (w3.alloc (.cells #[.int .u8 84] 5)) = .ok (.slice (some ⟨w3.heap.size, 0, none⟩) 1 1) V5 := by rw [← hV5]; exact hcv
  have HLB : Hid (Rw byU 1 V5 (some ⟨w3.heap.size, 0, none⟩) 1 1 [84] ∧ Below w3.heap.size w3 V5) := by rw [← hV5]; exact lit_rw w3 [84] #[.int .u8 84] rfl 1 rfl (1, 2)
  clear hV5
  go_wp2_with fail
  have HC : Hid (Calls Try.prog 9 #[.pointer (some ⟨p, 0, none⟩), .string ⟨#[97]⟩, .slice (some ⟨w3.heap.size, 0, none⟩) 1 1] V5 fun e w' => e = .returned (.tuple #[.int .i64 1, .int .i64 0]) ∧ DF (fun g => g < wF.heap.size) w' p (nS1 nl 1 (Z ++ [114] ++ [84])) ∧ Chg (fun g => ¬ g < wF.heap.size) V5 w') := by
    obtain ⟨_, _, _, e1, e2, e3, _, e4⟩ := HX.out
    have e5 := HZ.out.2.1
    have hlen : (Z ++ [114]).length + ([84] : List UInt8).length ≤ nl := by simp; omega
    have := df_append (HD.out.1.below HLB.out.2) (fun g hg => by have h1 := HD.out.2.size; have h2 := HLB.out.2.size; omega) (nok1 nl 1 (Z ++ [114]) (by omega) (by simp; omega)) na (readyA _ rfl) (by decide) HLB.out.1
    rw [nstep11 nl 1 (Z ++ [114]) [84] hlen] at this
    exact this
  refine HC.out.mono ?_
  rintro e w5 ⟨rfl, hd, hC5⟩
  obtain ⟨e1, e2, _, e3, e4, e5, _, e6⟩ := HX.out
  have hb5 : Below wF.heap.size wF w5 := (HD.out.2.trans (HLB.out.2.mono HD.out.2.size)).trans (hC5.below (fun g hg => Nat.le_of_not_lt hg) (Nat.le_trans HD.out.2.size HLB.out.2.size))
  have hx5 : OwnF byU 1 5 w5 w.heap.size (.slice (some ⟨gx, 0, none⟩) n2 cx) (Z ++ [114, 115]) := (e1.below HF.out.2.1).below hb5
  have HD5 : Hid (DF (fun g => g < wF.heap.size) w5 p (nS1 nl 1 (Z ++ [114] ++ [84])) ∧ Below wF.heap.size wF w5 ∧ OwnF byU 1 5 w5 w.heap.size (.slice (some ⟨gx, 0, none⟩) n2 cx) (Z ++ [114, 115]) ∧ gx < wF.heap.size) := ⟨hd, hb5, hx5, by have := e1.lt (g := gx) rfl; have := HF.out.2.2; omega⟩
  have f5 := conv_bytes (hx5.rw_ layU)
  obtain ⟨sX, hsX⟩ : ∃ sX : ByteArray, ⟨(Z ++ [114, 115]).toArray⟩ = sX := ⟨_, rfl⟩
  rw [hsX] at f5
  have q1 : sW ++ (⟨#[115]⟩ : ByteArray) = sX := by
    rw [← HW.out, ← hsX]
    have := str_cat (Z ++ [114]) [115]
    rw [List.append_assoc] at this
    exact this
  have q2 : ¬ 9223372036854775807 < sW.size + 1 := by rw [← HW.out, str_size]; simp; have := HZ.out.2.1; omega
  have q3 := str_bne sX
  clear hsX
  clear hd hC5 hb5 hx5 e1 e2 e3 e4 e5 e6 HC hcv HLB V5
  go_wp2_with fail
  refine Calls.mono (num_any 0 w5) ?_
  rintro e wz ⟨rfl, hz⟩
  rw [hz]
  clear hz wz
  go_wp2_with fail
  have hn2b : (n2 : Int) ≤ 1048578 := by have h1 := HX.out.2.2.2.2.1; have h2 := HZ.out.2.1; omega
  clear f5 q1 q2 q3
  go_loopw [10] (fun vi wr => ∃ i : Nat, i ≤ n2 ∧ vi = .int .i64 (i : Int) ∧ Hid ((∃ l, OwnF byU 1 5 wr w.heap.size (.slice (some ⟨gx, 0, none⟩) n2 cx) l) ∧ Chg (fun g => g = gx) w5 wr)) (fun vi _ => n2 - (RowKit.intOf vi).toNat)
  case atStart => exact ⟨0, Nat.zero_le _, rfl, ⟨_, HD5.out.2.2.1⟩, Chg.refl _ _⟩
  case round =>
    obtain ⟨i, hi, rfl, hI⟩ := hrel
    by_cases hil : i < n2
    · have hil2 : (i : Int) < (n2 : Int) := by omega
      have gi : IntKind.i64.wrap ((i : Int) + 1) = ((i + 1 : Nat) : Int) := by rw [IntWalk.i64_in _ (by omega)]; omega
      obtain ⟨l, hl⟩ := hI.out.1
      obtain ⟨hset, fz⟩ := own_setU hl i hil 77
      have hcl : ∃ u, wr.cell? ⟨gx, i, none⟩ = some u := by
        obtain ⟨g', off', o, e, _, _, hc⟩ := (hl.rw_ layU).at i hil
        simp only [Option.some.injEq, Addr.mk.injEq, and_true] at e
        obtain ⟨rfl, rfl⟩ := e
        exact ⟨_, by have := hc 0 _ rfl; simpa using this⟩
      obtain ⟨ou, hcl⟩ := hcl
      have HS2 : Hid ((∃ l, OwnF byU 1 5 (wr.setCell ⟨gx, i, none⟩ (.int .u8 77)) w.heap.size (.slice (some ⟨gx, 0, none⟩) n2 cx) l) ∧ Chg (fun g => g = gx) w5 (wr.setCell ⟨gx, i, none⟩ (.int .u8 77))) := ⟨⟨_, hset⟩, hI.out.2.trans (Chg.set (D := fun g => g = gx) (q := gx) i _ _ rfl)⟩
      clear hset hl
      go_wp2_with fail
      go_roundw
      case rel => exact ⟨i + 1, by omega, by first | rfl | go_num, HS2.out⟩
      case measure => simp [RowKit.intOf]; omega
    · obtain rfl : i = n2 := by omega
      have hil2 : ¬ ((i : Int) < (i : Int)) := by omega
      obtain ⟨fl, hfl⟩ : ∃ fl, wX.heap.size = fl := ⟨_, rfl⟩
      have hhr : wr.heap[fl]? = some (.cells #[.string ⟨#[97]⟩, .slice (some ⟨gx, 0, none⟩) n1 cx, .int .i64 1] 39) := by
        rw [← hfl]
        have h1 := HX.out.1.lt (g := gx) rfl
        exact hI.out.2.block ((HD5.out.2.1.block _ (by have := HF.out.2.2; omega)).trans HF.out.1) (by omega)
      obtain ⟨r0, r1, r2⟩ := box3 hhr
      have fr0 := Lib.frozen_of_heap hhr 0
      obtain ⟨U1, hU1⟩ : ∃ U1, wr.setCell ⟨fl, 0, none⟩ (.string ⟨#[122]⟩) = U1 := ⟨_, rfl⟩
      have hh1 : U1.heap[fl]? = some (.cells #[.string ⟨#[122]⟩, .slice (some ⟨gx, 0, none⟩) n1 cx, .int .i64 1] 39) := by rw [← hU1]; exact heap_setCell_cells hhr 0 _
      obtain ⟨s0, s1, s2⟩ := box3 hh1
      have fr1 := Lib.frozen_of_heap hh1 1
      obtain ⟨U2, hU2⟩ : ∃ U2, U1.setCell ⟨fl, 1, none⟩ (.slice none 0 0) = U2 := ⟨_, rfl⟩
      have hh2 : U2.heap[fl]? = some (.cells #[.string ⟨#[122]⟩, .slice none 0 0, .int .i64 1] 39) := by rw [← hU2]; exact heap_setCell_cells hh1 1 _
      obtain ⟨t0, t1, t2⟩ := box3 hh2
      have fr2 := Lib.frozen_of_heap hh2 2
      obtain ⟨U3, hU3⟩ : ∃ U3, U2.setCell ⟨fl, 2, none⟩ (.int .i64 0) = U3 := ⟨_, rfl⟩
      have HU : Hid (Chg (fun g => g = fl) wr U3) := by
        rw [← hU3, ← hU2, ← hU1]
        exact ((Chg.set (D := fun g => g = fl) (q := fl) 0 _ _ rfl).trans (Chg.set (D := fun g => g = fl) (q := fl) 1 _ _ rfl)).trans (Chg.set (D := fun g => g = fl) (q := fl) 2 _ _ rfl)
      have HFL : Hid (wX.heap.size = fl ∧ wr.heap[fl]? = some (.cells #[.string ⟨#[97]⟩, .slice (some ⟨gx, 0, none⟩) n1 cx, .int .i64 1] 39)) := ⟨hfl, hhr⟩
      rw [hfl]
      clear hfl hhr hh1 hh2
      go_wp2_with fail
      have hd3 : DF (fun g => g < wF.heap.size) U3 p (nS1 nl 1 (Z ++ [114] ++ [84])) := (HD5.out.1.chg hI.out.2 (fun g hg => by have := HD5.out.2.2.2; omega)).chg HU.out (fun g hg => by have h1 := HFL.out.1; have h2 := HF.out.2.2; omega)
      have HFI : Hid _ := df_files1 hd3 (nok1 nl 1 (Z ++ [114] ++ [84]) (by have h1 := HX.out; have h2 := HZ.out.2.1; omega) (by have h1 := HX.out; simp; omega)) (fa := ⟨na, Z ++ [114] ++ [84], 1⟩) rfl (by show na.length ≤ _; decide)
      clear hd3
      refine Calls.mono HFI.out ?_
      rintro e w9 ⟨gl, cl, fv, rfl, hfil⟩
      obtain ⟨g', off', o, eo, _, ho, hc⟩ := hfil.row.at 0 (by omega)
      simp only [Option.some.injEq, Addr.mk.injEq, and_true] at eo
      obtain ⟨rfl, rfl⟩ := eo
      simp only [List.getElem?_cons_zero, Option.some.injEq] at ho
      subst ho
      have l0 := hc 0 _ rfl
      have l1 := hc 1 _ rfl
      have l2 := hc 2 _ rfl
      rw [hfil.nmv] at l0
      rw [hfil.syn] at l2
      simp only [Nat.zero_mul, Nat.add_zero, Nat.zero_add] at l0 l1 l2
      have hroom := hfil.row.room
      have f9 := conv_bytes (hfil.ov.rw_ layU)
      obtain ⟨sT, hsT⟩ : ∃ sT : ByteArray, ⟨(Z ++ [114] ++ [84]).toArray⟩ = sT := ⟨_, rfl⟩
      rw [hsT] at f9
      have q1 : sW ++ (⟨#[84]⟩ : ByteArray) = sT := by
        rw [← HW.out, ← hsT]
        exact str_cat (Z ++ [114]) [84]
      have q2 : ¬ 9223372036854775807 < sW.size + 1 := by rw [← HW.out, str_size]; simp; have := HZ.out.2.1; have := HZ.out.2.2; omega
      have q3 := str_beq sT
      have q4 : ((⟨#[97]⟩ : ByteArray) == ⟨#[97]⟩) = true := by decide
      have HE : Hid (Below w.heap.size w w9) := by
        obtain ⟨e1, e2, _⟩ := HX.out
        have b1 := HF.out.2.1
        have b2 := HD5.out.2.1
        have s1 := e2.size
        have s2 := b1.size
        have s3 := b2.size
        have hgx : w.heap.size ≤ gx := e1.ge rfl
        have hfl2 := HFL.out.1
        have b3 : Below w.heap.size w5 U3 := (hI.out.2.below (fun g hg => by omega) (by omega)).trans (HU.out.below (fun g hg => by omega) (by have := hI.out.2.size; omega))
        have s4 := b3.size
        exact (((e2.trans (b1.mono (by omega))).trans (b2.mono (by omega))).trans b3).trans (hfil.below.mono (by omega))
      clear hsT hfil hc HFI
      go_wp2_with fail
      go_ret
      exact ⟨rfl, HE.out⟩
end Go.Proofs.Ytjcfeaekhefpfaa.Nm
