import Derived.Test.YtjnglghhcbdpmaaSpG
namespace Go.Proofs.Ytjnglghhcbdpmaa
open Go.RowKit Go.Lib
set_option maxRecDepth 100000

set_option maxHeartbeats 2000000 in
theorem union_bad {w : World} {a : Option Addr} {n cap : Nat} {l : List (Int × Int)} (h : Rng w a n cap l) {b : Option Addr} {m capb : Nat} {k : List (Int × Int)} (hk : Rng w b m capb k) (c : Int) (hc : (if (checkL l).2 = 0 then (checkL k).2 else (checkL l).2) = c) (h0 : c ≠ 0) :
    Calls Try.prog 21 #[.slice a n cap, .slice b m capb] w fun e w' => e = .returned (.tuple #[.slice none 0 0, .int .i64 c]) ∧ Below w.heap.size w w' := by
  have HA := checkBoth_any h hk
  rw [hc] at HA
  have t1 : (c == 0) = false := by simp [h0]
  clear hc h0
  go_enter Try.func21, Try.ntmps21
  go_wp2_with fail
  refine HA.mono ?_
  rintro e w1 ⟨rfl, hb1⟩
  go_wp2_with fail
  go_ret2
  exact ⟨rfl, hb1⟩

set_option maxHeartbeats 2000000 in
theorem union_ok {w : World} {a : Option Addr} {n cap : Nat} {l : List (Int × Int)} (h : Rng w a n cap l) {b : Option Addr} {m capb : Nat} {k : List (Int × Int)} (hk : Rng w b m capb k) (hl : Lst l) (hkl : Lst k) :
    Calls Try.prog 21 #[.slice a n cap, .slice b m capb] w fun e w' => ∃ U, Norm (-1) U ∧ (∀ q, Lies U q ↔ Lies l q ∨ Lies k q) ∧ Answer w.heap.size e w' U ∧ Below w.heap.size w w' := by
  have HA := checkBoth_any h hk
  rw [hl.check, hkl.check] at HA
  simp only [if_true] at HA
  have HU0 : UInv l k l k [] := ⟨hl.norm, hkl.norm, trivial, hl.top, hkl.top, (fun r hr => by cases hr), (fun r hr => by cases hr), (fun q => by simp [lies_nil]), by have := hl.few; have := hkl.few; simp only [List.length_nil]; omega⟩
  have HU : Hid (UInv l k l k []) := HU0
  clear HU0 hl hkl
  go_enter Try.func21, Try.ntmps21
  go_wp2_with fail
  refine HA.mono ?_
  rintro e w1 ⟨rfl, hb1⟩
  clear HA
  go_wp2_with fail
  go_loopw [0, 1, 7] (fun va vb vo w' => ∃ (a : Option Addr) (n cap : Nat) (la : List (Int × Int)) (b : Option Addr) (m capb : Nat) (lb : List (Int × Int)) (o : Option Addr) (no capo : Nat) (lo : List (Int × Int)),
      va = .slice a n cap ∧ vb = .slice b m capb ∧ vo = .slice o no capo ∧ Rng w a n cap la ∧ Rng w b m capb lb ∧ Own w' w.heap.size (.slice o no capo) lo ∧ Below w.heap.size w w' ∧ Hid (UInv l k la lb lo)) (fun va vb _ _ => vlen va + vlen vb)
  case atStart => exact ⟨a, n, cap, l, b, m, capb, k, none, 0, 0, [], rfl, rfl, rfl, h, hk, own_nil _ _, hb1, HU⟩
  case round =>
    clear HU hb1 h hk
    obtain ⟨a, n, cap, la, b, m, capb, lb, o, no, capo, lo, rfl, rfl, rfl, ha, hb, ho, hB, HU⟩ := hrel
    have hsz := hB.size
    have hlo := ho.rng.len
    by_cases h1 : 0 < n
    · by_cases h2 : 0 < m
      · obtain ⟨x, ta, g, off, rfl, rfl, hg, hc0, hc1⟩ := rng_head ha h1
        obtain ⟨y, tb, g2, off2, rfl, rfl, hg2, hd0, hd1⟩ := rng_head hb h2
        have hbound := HU.out.len
        simp only [List.length_cons] at hbound
        have c0 := (hB.cell (p := ⟨g, off, none⟩) hg).trans hc0
        have c1 := (hB.cell (p := ⟨g, off + 1, none⟩) hg).trans hc1
        have e0 := (hB.cell (p := ⟨g2, off2, none⟩) hg2).trans hd0
        have e1 := (hB.cell (p := ⟨g2, off2 + 1, none⟩) hg2).trans hd1
        clear hc0 hc1 hd0 hd1
        by_cases hxy : y.1 < x.1
        · obtain ⟨a', n', cap', rfl, hta, hsl⟩ := rng_tail hb
          have HU2 : Hid (UInv l k tb (x :: ta) (addedL lo y.1 y.2)) := HU.out.swap.step (by omega)
          have HNH : Hid (∀ W : World, Below w.heap.size w W → Own W w.heap.size (.slice o no capo) lo → Calls Try.prog 33 #[.slice o no capo, .int .i64 y.1, .int .i64 y.2] W fun e w' => ∃ a' n' cap', e = .returned (.slice a' n' cap') ∧ Own w' w.heap.size (.slice a' n' cap') (addedL lo y.1 y.2) ∧ Below w.heap.size w w') :=
            fun W hBW hoW => (added_any hoW hBW.size y.1 y.2 (by omega)).mono fun e w' ⟨a', n', cap', he, ho', hb'⟩ => ⟨a', n', cap', he, ho', hBW.trans hb'⟩
          clear hlo hbound HU
          generalize addedL lo y.1 y.2 = L at *
          obtain ⟨x1, x2⟩ := x
          obtain ⟨y1, y2⟩ := y
          simp only at c0 c1 e0 e1 hxy HNH
          go_wp2_with fail
          go_quiet (fail)
          go_upto_region 8 with fail
          go_cut [7] (fun v wx => ∃ (o' : Option Addr) (no' capo' : Nat), v = .slice o' no' capo' ∧ Own wx w.heap.size (.slice o' no' capo') L ∧ Below w.heap.size w wx)
          case first =>
            go_region_with (go_at_call 33; refine (HNH.out _ ?_ ?_).mono ?_; exact ⟨hB.os, hB.tape, hB.output, hB.size, hB.block⟩; exact ho; rintro e w2 ⟨o2, no2, capo2, rfl, ho2, hb2⟩)
            all_goals (go_wp2_with fail; go_meet; case rel => exact ⟨o2, no2, capo2, rfl, ho2, hb2⟩)
          case rest =>
            obtain ⟨o2, no2, capo2, rfl, ho2, hb2⟩ := hcut
            clear c0 c1 e0 e1
            go_wp2_with fail
            go_roundw
            case rel => exact ⟨_, _, _, tb, _, _, _, _, o2, no2, capo2, L, rfl, rfl, rfl, hta, ha, ho2, hb2, HU2⟩
            case measure => first | (simp [vlen]; done) | (simp [vlen]; omega)
        · obtain ⟨a', n', cap', rfl, hta, hsl⟩ := rng_tail ha
          have HU2 : Hid (UInv l k ta (y :: tb) (addedL lo x.1 x.2)) := HU.out.step (by omega)
          have HNH : Hid (∀ W : World, Below w.heap.size w W → Own W w.heap.size (.slice o no capo) lo → Calls Try.prog 33 #[.slice o no capo, .int .i64 x.1, .int .i64 x.2] W fun e w' => ∃ a' n' cap', e = .returned (.slice a' n' cap') ∧ Own w' w.heap.size (.slice a' n' cap') (addedL lo x.1 x.2) ∧ Below w.heap.size w w') :=
            fun W hBW hoW => (added_any hoW hBW.size x.1 x.2 (by omega)).mono fun e w' ⟨a', n', cap', he, ho', hb'⟩ => ⟨a', n', cap', he, ho', hBW.trans hb'⟩
          clear hlo hbound HU
          generalize addedL lo x.1 x.2 = L at *
          obtain ⟨x1, x2⟩ := x
          obtain ⟨y1, y2⟩ := y
          simp only at c0 c1 e0 e1 hxy HNH
          go_wp2_with fail
          go_quiet (fail)
          go_upto_region 8 with fail
          go_cut [7] (fun v wx => ∃ (o' : Option Addr) (no' capo' : Nat), v = .slice o' no' capo' ∧ Own wx w.heap.size (.slice o' no' capo') L ∧ Below w.heap.size w wx)
          case first =>
            go_region_with (go_at_call 33; refine (HNH.out _ ?_ ?_).mono ?_; exact ⟨hB.os, hB.tape, hB.output, hB.size, hB.block⟩; exact ho; rintro e w2 ⟨o2, no2, capo2, rfl, ho2, hb2⟩)
            all_goals (go_wp2_with fail; go_meet; case rel => exact ⟨o2, no2, capo2, rfl, ho2, hb2⟩)
          case rest =>
            obtain ⟨o2, no2, capo2, rfl, ho2, hb2⟩ := hcut
            clear c0 c1 e0 e1
            go_wp2_with fail
            go_roundw
            case rel => exact ⟨_, _, _, ta, _, _, _, _, o2, no2, capo2, L, rfl, rfl, rfl, hta, hb, ho2, hb2, HU2⟩
            case measure => first | (simp [vlen]; done) | (simp [vlen]; omega)
      · have hla : lb = [] := List.eq_nil_of_length_eq_zero (by have := hb.len; omega)
        have HLAST := HU.out.last (.inr hla)
        have hbound := HU.out.len
        have ba : ∀ r ∈ la, -4611686018427387904 ≤ r.1 ∧ r.1 ≤ 4611686018427387903 ∧ -4611686018427387904 ≤ r.2 ∧ r.2 ≤ 4611686018427387903 := fun r hr => by
          have := norm_lt HU.out.na r hr
          have := HU.out.ta r hr
          omega
        have bb : ∀ r ∈ lb, -4611686018427387904 ≤ r.1 ∧ r.1 ≤ 4611686018427387903 ∧ -4611686018427387904 ≤ r.2 ∧ r.2 ≤ 4611686018427387903 := fun r hr => by
          have := norm_lt HU.out.nb r hr
          have := HU.out.tb r hr
          omega
        have hal := ha.len
        have hbl := hb.len
        have HT1 : Hid (Calls Try.prog 19 #[.slice o no capo, .slice a n cap, .int .i64 0, .int .i64 1048576, .int .i64 0] wr _) := taken_any (B := w.heap.size) ho hsz (ha.below hB) ha.under 0 1048576 0 (by omega) (by omega) ba (by omega) (by omega) (by omega)
        have HT2 : Hid (∀ (W : World) (o' : Option Addr) (no' capo' : Nat), Below w.heap.size w W → Own W w.heap.size (.slice o' no' capo') (takenL lo la 0 1048576 0) → Calls Try.prog 19 #[.slice o' no' capo', .slice b m capb, .int .i64 0, .int .i64 1048576, .int .i64 0] W _) :=
          fun W o' no' capo' hBW hoW => taken_any (B := w.heap.size) hoW hBW.size (hb.below hBW) hb.under 0 1048576 0 (by have := hoW.rng.len; have := takenL_length lo la 0 1048576 0; omega) (by omega) bb (by omega) (by omega) (by omega)
        obtain ⟨hn1, hm1⟩ := HLAST
        have HN1 : Hid (Norm (-1) (takenL (takenL lo la 0 1048576 0) lb 0 1048576 0)) := hn1
        have HM1 : Hid (∀ q, Lies (takenL (takenL lo la 0 1048576 0) lb 0 1048576 0) q ↔ Lies l q ∨ Lies k q) := hm1
        clear hn1 hm1 HU hbound ba bb hlo hal hbl hla
        go_wp2_with fail
        refine HT1.out.mono ?_
        rintro e w2 ⟨o2, no2, capo2, rfl, ho2, hb2⟩
        have hB2 := hB.trans hb2
        go_wp2_with fail
        refine (HT2.out w2 o2 no2 capo2 hB2 ho2).mono ?_
        rintro e w3 ⟨o3, no3, capo3, rfl, ho3, hb3⟩
        have hB3 := hB2.trans hb3
        go_wp2_with fail
        refine bounded_any.mono ?_
        rintro e w4 ⟨rfl, rfl⟩
        have hl3 := ho3.rng.len
        by_cases hfew : 32768 < no3
        · rw [if_pos hfew]
          go_wp2_with fail
          go_ret2
          exact ⟨_, HN1.out, HM1.out, .inl ⟨by omega, rfl⟩, hB3⟩
        · rw [if_neg hfew]
          go_wp2_with fail
          go_ret2
          exact ⟨_, HN1.out, HM1.out, .inr ⟨by omega, o3, capo3, (by rw [hl3]; rfl), (by rw [hl3]; exact ho3)⟩, hB3⟩
    · have hla : la = [] := List.eq_nil_of_length_eq_zero (by have := ha.len; omega)
      have HLAST := HU.out.last (.inl hla)
      have hbound := HU.out.len
      have ba : ∀ r ∈ la, -4611686018427387904 ≤ r.1 ∧ r.1 ≤ 4611686018427387903 ∧ -4611686018427387904 ≤ r.2 ∧ r.2 ≤ 4611686018427387903 := fun r hr => by
        have := norm_lt HU.out.na r hr
        have := HU.out.ta r hr
        omega
      have bb : ∀ r ∈ lb, -4611686018427387904 ≤ r.1 ∧ r.1 ≤ 4611686018427387903 ∧ -4611686018427387904 ≤ r.2 ∧ r.2 ≤ 4611686018427387903 := fun r hr => by
        have := norm_lt HU.out.nb r hr
        have := HU.out.tb r hr
        omega
      have hal := ha.len
      have hbl := hb.len
      have HT1 : Hid (Calls Try.prog 19 #[.slice o no capo, .slice a n cap, .int .i64 0, .int .i64 1048576, .int .i64 0] wr _) := taken_any (B := w.heap.size) ho hsz (ha.below hB) ha.under 0 1048576 0 (by omega) (by omega) ba (by omega) (by omega) (by omega)
      have HT2 : Hid (∀ (W : World) (o' : Option Addr) (no' capo' : Nat), Below w.heap.size w W → Own W w.heap.size (.slice o' no' capo') (takenL lo la 0 1048576 0) → Calls Try.prog 19 #[.slice o' no' capo', .slice b m capb, .int .i64 0, .int .i64 1048576, .int .i64 0] W _) :=
        fun W o' no' capo' hBW hoW => taken_any (B := w.heap.size) hoW hBW.size (hb.below hBW) hb.under 0 1048576 0 (by have := hoW.rng.len; have := takenL_length lo la 0 1048576 0; omega) (by omega) bb (by omega) (by omega) (by omega)
      obtain ⟨hn1, hm1⟩ := HLAST
      have HN1 : Hid (Norm (-1) (takenL (takenL lo la 0 1048576 0) lb 0 1048576 0)) := hn1
      have HM1 : Hid (∀ q, Lies (takenL (takenL lo la 0 1048576 0) lb 0 1048576 0) q ↔ Lies l q ∨ Lies k q) := hm1
      clear hn1 hm1 HU hbound ba bb hlo hal hbl hla
      go_wp2_with fail
      refine HT1.out.mono ?_
      rintro e w2 ⟨o2, no2, capo2, rfl, ho2, hb2⟩
      have hB2 := hB.trans hb2
      go_wp2_with fail
      refine (HT2.out w2 o2 no2 capo2 hB2 ho2).mono ?_
      rintro e w3 ⟨o3, no3, capo3, rfl, ho3, hb3⟩
      have hB3 := hB2.trans hb3
      go_wp2_with fail
      refine bounded_any.mono ?_
      rintro e w4 ⟨rfl, rfl⟩
      have hl3 := ho3.rng.len
      by_cases hfew : 32768 < no3
      · rw [if_pos hfew]
        go_wp2_with fail
        go_ret2
        exact ⟨_, HN1.out, HM1.out, .inl ⟨by omega, rfl⟩, hB3⟩
      · rw [if_neg hfew]
        go_wp2_with fail
        go_ret2
        exact ⟨_, HN1.out, HM1.out, .inr ⟨by omega, o3, capo3, (by rw [hl3]; rfl), (by rw [hl3]; exact ho3)⟩, hB3⟩
end Go.Proofs.Ytjnglghhcbdpmaa
