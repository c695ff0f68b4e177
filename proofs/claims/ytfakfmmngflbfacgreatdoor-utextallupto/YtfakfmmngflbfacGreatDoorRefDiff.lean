import Derived.Test.YtfakfmmngflbfacGreatDoorRefCuts
import Derived.Deep.CutBlock
import Derived.Deep.DeepCutAuto
namespace Go.Proofs.YtfakfmmngflbfacGreatDoor
open Go.RowKit Go.Lib

set_option maxHeartbeats 400000 in
theorem diff_bad {s : ByteArray} {p c : Int} (h : check s = (0, p, c)) (hc : c = 10 ∨ c = 11) (hs : s.size ≤ 9223372036854775807) (t : ByteArray) (w : World) (hw : Bar w) :
    Calls Tryz.prog 39 #[.string s, .string t] w fun e w' => e = .returned (.tuple #[.int .i64 0, .int .i64 0, .string ⟨#[]⟩, .int .i64 c]) ∧ Below w.heap.size w w' := by
  have t1 : (c != 0) = true := by rcases hc with rfl | rfl <;> rfl
  have HC : Hid (check s = (0, p, c)) := h
  clear h hc
  go_enter Tryz.func39, Tryz.ntmps39
  go_wp2_with fail
  refine (check_bar hs HC.out _ hw).mono ?_
  rintro e w1 ⟨rfl, hb1⟩
  go_wp2_with fail
  (try simp only [Exit.inBlock, Exit.then])
  refine bodyPost_ret (results_tmp4 rfl _ _ _) rfl ?_
  exact ⟨rfl, hb1⟩
set_option maxHeartbeats 400000 in
theorem diff_bad2 {s t : ByteArray} {rs : List Int} {p c : Int} (h : IsText s rs) (h2 : check t = (0, p, c)) (hc : c = 10 ∨ c = 11) (hs : s.size ≤ 9223372036854775807) (ht : t.size ≤ 9223372036854775807) (w : World) (hw : Bar w) :
    Calls Tryz.prog 39 #[.string s, .string t] w fun e w' => e = .returned (.tuple #[.int .i64 0, .int .i64 0, .string ⟨#[]⟩, .int .i64 c]) ∧ Below w.heap.size w w' := by
  have t1 : (c != 0) = true := by rcases hc with rfl | rfl <;> rfl
  have HC : Hid (check t = (0, p, c)) := h2
  clear h2 hc
  go_enter Tryz.func39, Tryz.ntmps39
  go_wp2_with fail
  refine (check_bar hs h.check _ hw).mono ?_
  rintro e w1 ⟨rfl, hb1⟩
  have hw1 := hw.below hb1
  go_wp2_with fail
  refine (check_bar ht HC.out _ hw1).mono ?_
  rintro e w2 ⟨rfl, hb2⟩
  have hB2 := hb1.trans (hb2.mono hb1.size)
  clear hb1 hb2
  go_wp2_with fail
  (try simp only [Exit.inBlock, Exit.then])
  refine bodyPost_ret (results_tmp4 rfl _ _ _) rfl ?_
  exact ⟨rfl, hB2⟩
set_option maxHeartbeats 400000 in
theorem refDiff_bad {s : ByteArray} {p c : Int} (h : check s = (0, p, c)) (hc : c = 10 ∨ c = 11) (hs : s.size ≤ 2097152) (t : ByteArray) (w : World) :
    Calls Tryz.prog 40 #[.string s, .string t] w fun e w' => e = .returned (.tuple #[.int .i64 0, .int .i64 0, .string ⟨#[]⟩, .int .i64 c]) ∧ Below w.heap.size w w' := by
  have t1 : (c != 0) = true := by rcases hc with rfl | rfl <;> rfl
  have HC : Hid (check s = (0, p, c)) := h
  have HC2 : Hid (c = 10 ∨ c = 11) := hc
  clear h hc
  go_enter Tryz.func40, Tryz.ntmps40
  go_wp2_with fail
  refine (runes_bad HC.out HC2.out hs _).mono ?_
  rintro e w1 ⟨a, cap, rfl, hb1⟩
  go_wp2_with fail
  (try simp only [Exit.inBlock, Exit.then])
  refine bodyPost_ret (results_tmp4 rfl _ _ _) rfl ?_
  exact ⟨rfl, hb1⟩
set_option maxHeartbeats 400000 in
theorem refDiff_bad2 {s t : ByteArray} {rs : List Int} {p c : Int} (h : IsText s rs) (h2 : check t = (0, p, c)) (hc : c = 10 ∨ c = 11) (hs : s.size ≤ 2097152) (ht : t.size ≤ 2097152) (w : World) :
    Calls Tryz.prog 40 #[.string s, .string t] w fun e w' => e = .returned (.tuple #[.int .i64 0, .int .i64 0, .string ⟨#[]⟩, .int .i64 c]) ∧ Below w.heap.size w w' := by
  have t1 : (c != 0) = true := by rcases hc with rfl | rfl <;> rfl
  have HC : Hid (check t = (0, p, c)) := h2
  have HC2 : Hid (c = 10 ∨ c = 11) := hc
  clear h2 hc
  go_enter Tryz.func40, Tryz.ntmps40
  go_wp2_with fail
  refine (runes_text h hs _).mono ?_
  rintro e w1 ⟨a, cap, rfl, hb1, _⟩
  go_wp2_with fail
  refine (runes_bad HC.out HC2.out ht _).mono ?_
  rintro e w2 ⟨a2, cap2, rfl, hb2⟩
  have hB2 := hb1.trans (hb2.mono hb1.size)
  clear hb1 hb2
  go_wp2_with fail
  (try simp only [Exit.inBlock, Exit.then])
  refine bodyPost_ret (results_tmp4 rfl _ _ _) rfl ?_
  exact ⟨rfl, hB2⟩

theorem Row64.drewN' {w : World} {a : Option Addr} {n cap : Nat} {rs : List Int} (h : Row64 w a n cap rs) (m : Nat) : Row64 (w.drewN m) a n cap rs := ⟨h.len, h.room, h.cells⟩

set_option maxHeartbeats 4000000 in
set_option maxRecDepth 100000 in
theorem refDiff_in {s t : ByteArray} {xs ys : List Int} (h : IsText s xs) (h2 : IsText t ys) (hs : s.size ≤ 2097152) (ht : t.size ≤ 2097152) (w : World) :
    Calls Tryz.prog 40 #[.string s, .string t] w fun e w' => e = .returned (.tuple #[.int .i64 (headOf xs ys), .int .i64 ((xs.length : Int) - headOf xs ys - tailOf xs ys), .string ⟨(encs ((ys.take (ys.length - tailOf xs ys)).drop (headOf xs ys))).toArray⟩, .int .i64 0]) ∧ Below w.heap.size w w' := by
  have hlen := text_len h
  have hlen2 := text_len h2
  have HVY : Hid (∀ r ∈ (ys.take (ys.length - tailOf xs ys)).drop (headOf xs ys), Utf8.valid r = true) := fun r hr => (h2.ok r (List.mem_of_mem_take (List.mem_of_mem_drop hr))).1
  obtain ⟨tx, htx⟩ : ∃ tx : ByteArray, (⟨(encs ((ys.take (ys.length - tailOf xs ys)).drop (headOf xs ys))).toArray⟩ : ByteArray) = tx := ⟨_, rfl⟩
  have HT : Hid ((⟨(encs ((ys.take (ys.length - tailOf xs ys)).drop (headOf xs ys))).toArray⟩ : ByteArray) = tx) := htx
  rw [htx]
  clear htx
  have hh := headOf_le xs ys
  have ht2 := tailOf_le xs ys
  have HZ : Hid (ys.length - tailOf xs ys - headOf xs ys = 0 → (ys.take (ys.length - tailOf xs ys)).drop (headOf xs ys) = []) := fun e => List.drop_eq_nil_of_le (by rw [List.length_take]; omega)
  go_enter Tryz.func40, Tryz.ntmps40
  go_wp2_with fail
  refine (runes_text2 h hs _).mono ?_
  rintro e w1 ⟨A, cap, rfl, hb1, hr, _⟩
  go_wp2_with fail
  refine (runes_text2 h2 ht _).mono ?_
  rintro e w2 ⟨A2, cap2, rfl, hb2, hy, hcase⟩
  have hx := hr.below hb2
  have hB2 := hb1.trans (hb2.mono hb1.size)
  have hroom := hx.room
  have hroom2 := hy.room
  clear hb1 hb2 hr
  go_upto_block 0 with fail
  go_cut [14] (fun v wx => v = .int .i64 (headOf xs ys) ∧ ∃ q : Nat, wx = w2.drewN q)
  case first =>
    go_wp2_with fail
    go_loopw [14] (fun v w' => ∃ k q : Nat, k ≤ xs.length ∧ v = .int .i64 k ∧ w' = w2.drewN q ∧ Hid (headF xs ys (xs.length - k) k = headOf xs ys)) (fun v _ => xs.length - (RowKit.intOf v).toNat)
    case atStart => exact ⟨0, 0, Nat.zero_le _, rfl, rfl, rfl⟩
    case round =>
      obtain ⟨k, q, hkn, rfl, rfl, hH⟩ := hrel
      by_cases h1 : k < xs.length
      · have hf : headF xs ys (xs.length - (k + 1) + 1) k = headOf xs ys := by rw [show xs.length - (k + 1) + 1 = xs.length - k by omega]; exact hH.out
        rw [headF] at hf
        clear hH
        by_cases h2 : k < ys.length
        · obtain ⟨g, off, rfl, _, hc⟩ := hx.cells k h1
          obtain ⟨g2, off2, rfl, _, hc2⟩ := hy.cells k h2
          have e1 : (k : Int) < (xs.length : Int) := by omega
          have e2 : (k : Int) < (ys.length : Int) := by omega
          by_cases h3 : xs.getD k 0 = ys.getD k 0
          · rw [if_pos ⟨h1, h2, h3⟩] at hf
            have HF : Hid (headF xs ys (xs.length - (k + 1)) (k + 1) = headOf xs ys) := hf
            clear hf
            generalize xs.getD k 0 = z at *
            generalize ys.getD k 0 = z2 at *
            have t1 : (z == z2) = true := by simp [h3]
            clear h3
            go_wp2_with fail
            go_quiet (fail)
            go_wp2_with fail
            go_roundw
            case rel => exact ⟨k + 1, q + nq, by omega, by go_num, rfl, HF⟩
            case measure => simp [RowKit.intOf]; omega
          · rw [if_neg (fun h => h3 h.2.2)] at hf
            have HF : Hid (k = headOf xs ys) := hf
            clear hf
            generalize xs.getD k 0 = z at *
            generalize ys.getD k 0 = z2 at *
            have t1 : (z == z2) = false := by simp [h3]
            clear h3
            go_wp2_with fail
            go_quiet (fail)
            go_wp2_with fail
            go_meet
            case rel => exact ⟨by rw [HF.out], q + nq, World.drewN_drewN ..⟩
        · rw [if_neg (fun h => h2 h.2.1)] at hf
          have HF : Hid (k = headOf xs ys) := hf
          clear hf
          have e1 : (k : Int) < (xs.length : Int) := by omega
          have e2 : decide ((k : Int) < (ys.length : Int)) = false := decide_eq_false (by omega)
          go_wp2_with fail
          go_quiet (fail)
          go_wp2_with fail
          go_meet
          case rel => exact ⟨by rw [HF.out], q + nq, World.drewN_drewN ..⟩
      · have hf := hH.out
        rw [show xs.length - k = 0 by omega, headF] at hf
        have HF : Hid (k = headOf xs ys) := hf
        clear hf hH
        have e1 : decide ((k : Int) < (xs.length : Int)) = false := decide_eq_false (by omega)
        go_wp2_with fail
        go_quiet (fail)
        go_wp2_with fail
        go_meet
        case rel => exact ⟨by rw [HF.out], q + nq, World.drewN_drewN ..⟩
  case rest =>
    obtain ⟨rfl, q0, rfl⟩ := hcut
    have hx0 := hx.drewN' q0
    have hy0 := hy.drewN' q0
    have hB0 : Below w.heap.size w (w2.drewN q0) := hB2.trans ⟨rfl, rfl, rfl, Nat.le_refl _, fun _ _ => rfl⟩
    clear hx hy hB2
    generalize w2.drewN q0 = w3 at *
    have HTO : Hid (tailF xs ys (headOf xs ys) (xs.length - headOf xs ys) 0 = tailOf xs ys) := rfl
    generalize hTT : tailOf xs ys = T at *
    generalize hHH : headOf xs ys = H at *
    have HTT : Hid (tailOf xs ys = T) := hTT
    have HHH : Hid (headOf xs ys = H) := hHH
    clear hTT hHH
    go_upto_block 2 with fail
    go_cut [15] (fun v wx => v = .int .i64 T ∧ ∃ q : Nat, wx = w3.drewN q)
    case first =>
      go_wp2_with fail
      go_loopw [15] (fun v w' => ∃ k q : Nat, H + k ≤ xs.length ∧ v = .int .i64 k ∧ w' = w3.drewN q ∧ Hid (tailF xs ys H (xs.length - H - k) k = T)) (fun v _ => xs.length - (RowKit.intOf v).toNat)
      case atStart => exact ⟨0, 0, by omega, rfl, rfl, HTO⟩
      case round =>
        clear HTO
        obtain ⟨k, q, hkn, rfl, rfl, hH⟩ := hrel
        have w0 : IntKind.i64.wrap ((H : Int) + (k : Int)) = (H : Int) + (k : Int) := IntWalk.i64_in _ (by omega)
        by_cases h1 : H + k < xs.length
        · have hf : tailF xs ys H (xs.length - H - (k + 1) + 1) k = T := by rw [show xs.length - H - (k + 1) + 1 = xs.length - H - k by omega]; exact hH.out
          rw [tailF] at hf
          clear hH
          have e1 : decide ((H : Int) + (k : Int) < (xs.length : Int)) = true := decide_eq_true (by omega)
          by_cases h2 : H + k < ys.length
          · have e2 : decide ((H : Int) + (k : Int) < (ys.length : Int)) = true := decide_eq_true (by omega)
            obtain ⟨x, hx1⟩ : ∃ x, xs.length - 1 - k = x := ⟨_, rfl⟩
            obtain ⟨y, hy1⟩ : ∃ y, ys.length - 1 - k = y := ⟨_, rfl⟩
            obtain ⟨g, off, rfl, _, hc⟩ := hx0.cells x (by omega)
            obtain ⟨g2, off2, rfl, _, hc2⟩ := hy0.cells y (by omega)
            have w1 : IntKind.i64.wrap ((xs.length : Int) - 1) = (xs.length : Int) - 1 := IntWalk.i64_in _ (by omega)
            have w2 : IntKind.i64.wrap ((xs.length : Int) - 1 - (k : Int)) = (x : Int) := (IntWalk.i64_in _ (by omega)).trans (by omega)
            have w3 : IntKind.i64.wrap ((ys.length : Int) - 1) = (ys.length : Int) - 1 := IntWalk.i64_in _ (by omega)
            have w4 : IntKind.i64.wrap ((ys.length : Int) - 1 - (k : Int)) = (y : Int) := (IntWalk.i64_in _ (by omega)).trans (by omega)
            have l2 : (x : Int) < (xs.length : Int) := by omega
            have l4 : (y : Int) < (ys.length : Int) := by omega
            rw [hx1, hy1] at hf
            clear hx1 hy1
            by_cases h3 : xs.getD x 0 = ys.getD y 0
            · rw [if_pos ⟨h1, h2, h3⟩] at hf
              have HF : Hid (tailF xs ys H (xs.length - H - (k + 1)) (k + 1) = T) := hf
              clear hf
              generalize xs.getD x 0 = z at *
              generalize ys.getD y 0 = z2 at *
              have t1 : (z == z2) = true := by simp [h3]
              clear h3
              go_wp2_with fail
              go_quiet (fail)
              go_wp2_with fail
              go_roundw
              case rel => exact ⟨k + 1, q + nq, by omega, by go_num, rfl, HF⟩
              case measure => simp [RowKit.intOf]; omega
            · rw [if_neg (fun h => h3 h.2.2)] at hf
              have HF : Hid (k = T) := hf
              clear hf
              generalize xs.getD x 0 = z at *
              generalize ys.getD y 0 = z2 at *
              have t1 : (z == z2) = false := by simp [h3]
              clear h3
              go_wp2_with fail
              go_quiet (fail)
              go_wp2_with fail
              go_meet
              case rel => exact ⟨by rw [HF.out], q + nq, World.drewN_drewN ..⟩
          · rw [if_neg (fun h => h2 h.2.1)] at hf
            have HF : Hid (k = T) := hf
            clear hf
            have e2 : decide ((H : Int) + (k : Int) < (ys.length : Int)) = false := decide_eq_false (by omega)
            go_wp2_with fail
            go_quiet (fail)
            go_wp2_with fail
            go_meet
            case rel => exact ⟨by rw [HF.out], q + nq, World.drewN_drewN ..⟩
        · have hf := hH.out
          rw [show xs.length - H - k = 0 by omega, tailF] at hf
          have HF : Hid (k = T) := hf
          clear hf hH
          have e1 : decide ((H : Int) + (k : Int) < (xs.length : Int)) = false := decide_eq_false (by omega)
          go_wp2_with fail
          go_quiet (fail)
          go_wp2_with fail
          go_meet
          case rel => exact ⟨by rw [HF.out], q + nq, World.drewN_drewN ..⟩
    case rest =>
      obtain ⟨rfl, q1, rfl⟩ := hcut
      have hy1 := hy0.drewN' q1
      have hB1 : Below w.heap.size w (w3.drewN q1) := hB0.trans ⟨rfl, rfl, rfl, Nat.le_refl _, fun _ _ => rfl⟩
      clear hx0 hy0 hB0 HTO
      generalize w3.drewN q1 = w4 at *
      have b1 : ((H : Nat) : Int) ≤ (ys.length : Int) - (T : Int) := by omega
      obtain ⟨M, hM⟩ : ∃ M : Nat, ys.length - T = M := ⟨_, rfl⟩
      have eM : (ys.length : Int) - (T : Int) = (M : Int) := by omega
      rw [hM] at HVY HT HZ
      have hMb : H ≤ M ∧ M ≤ ys.length := by omega
      have HHT : Hid (H + T ≤ xs.length ∧ H + T ≤ ys.length) := ht2
      rcases hcase with ⟨rfl, hz, rfl⟩ | ⟨g, rfl⟩
      · have HM0 : M = 0 := by omega
        have HH0 : H = 0 := by omega
        subst HM0
        subst HH0
        have HR : Hid (Row64 w4 none 0 0 ((ys.take 0).drop 0)) := by rw [HZ.out rfl]; exact row64_nil w4 none 0 (Nat.zero_le _)
        clear hM b1 hMb hy1
        go_wp2_with fail
        refine (refString_any _ _ _ _ _ HR.out HVY.out (by omega)).mono ?_
        rintro e w5 ⟨rfl, hb5⟩
        rw [HT.out]
        have hB5 := hB1.trans (hb5.mono hB1.size)
        clear hb5 hB1
        go_wp2_with fail
        (try simp only [Exit.inBlock, Exit.then])
        refine bodyPost_ret (results_tmp4 rfl _ _ _) rfl ?_
        rw [HTT.out, HHH.out, show (xs.length : Int) - ((0 : Nat) : Int) - (T : Int) = (xs.length : Int) - (T : Int) by omega]
        exact ⟨rfl, hB5⟩
      · by_cases hlc : H = cap2
        · have HM0 : M = H := by omega
          subst HM0
          have HR : Hid (Row64 w4 (some ⟨g, 0, none⟩) 0 0 ((ys.take M).drop M)) := by rw [HZ.out (by omega)]; exact row64_nil w4 _ 0 (Nat.zero_le _)
          clear hM b1 hMb hy1
          subst hlc
          go_wp2_with fail
          refine (refString_any _ _ _ _ _ HR.out HVY.out (by omega)).mono ?_
          rintro e w5 ⟨rfl, hb5⟩
          rw [HT.out]
          have hB5 := hB1.trans (hb5.mono hB1.size)
          clear hb5 hB1
          go_wp2_with fail
          (try simp only [Exit.inBlock, Exit.then])
          refine bodyPost_ret (results_tmp4 rfl _ _ _) rfl ?_
          rw [HTT.out, HHH.out]
          exact ⟨rfl, hB5⟩
        · have hsub := hy1.sub rfl H M hMb.1 hMb.2
          rw [Nat.zero_add] at hsub
          have HR : Hid (Row64 w4 (some ⟨g, H, none⟩) (M - H) (cap2 - H) ((ys.take M).drop H)) := hsub
          clear hsub hy1 hM b1
          have hcz : ¬ (cap2 - H = 0) := by omega
          go_wp2_with fail
          refine (refString_any _ _ _ _ _ HR.out HVY.out (by omega)).mono ?_
          rintro e w5 ⟨rfl, hb5⟩
          rw [HT.out]
          have hB5 := hB1.trans (hb5.mono hB1.size)
          clear hb5 hB1
          go_wp2_with fail
          (try simp only [Exit.inBlock, Exit.then])
          refine bodyPost_ret (results_tmp4 rfl _ _ _) rfl ?_
          rw [HTT.out, HHH.out]
          exact ⟨rfl, hB5⟩
end Go.Proofs.YtfakfmmngflbfacGreatDoor
