import Derived.Test.YtffkncohliollaaGreatDoorSpEG
import Derived.Deep.RegionHeld3
namespace Go.Proofs.YtffkncohliollaaGreatDoor.Sp
open Go.RowKit Go.Lib
set_option maxRecDepth 100000

set_option maxHeartbeats 2000000 in
theorem union_bad {w : World} {a : Option Addr} {n cap : Nat} {l : List (Int × Int)} (h : Rng w a n cap l) {b : Option Addr} {m capb : Nat} {k : List (Int × Int)} (hk : Rng w b m capb k) (c : Int) (hc : (if (checkL l).2 = 0 then (checkL k).2 else (checkL l).2) = c) (h0 : c ≠ 0) :
    Calls Tryz.prog 9 #[.slice a n cap, .slice b m capb] w fun e w' => e = .returned (.tuple #[.slice none 0 0, .int .i64 c]) ∧ Below w.heap.size w w' := by
  have HA := checkBoth_any h hk
  rw [hc] at HA
  have t1 : (c == 0) = false := by simp [h0]
  clear hc h0
  go_enter Tryz.func9, Tryz.ntmps9
  go_wp2_with fail
  refine HA.mono ?_
  rintro e w1 ⟨rfl, hb1⟩
  go_wp2_with fail
  go_ret2
  exact ⟨rfl, hb1⟩

set_option maxHeartbeats 2000000 in
theorem union_ok {w : World} {a : Option Addr} {n cap : Nat} {l : List (Int × Int)} (h : Rng w a n cap l) {b : Option Addr} {m capb : Nat} {k : List (Int × Int)} (hk : Rng w b m capb k) (hl : Lst l) (hkl : Lst k) :
    Calls Tryz.prog 9 #[.slice a n cap, .slice b m capb] w fun e w' => ∃ U, Norm (-1) U ∧ (∀ q, Lies U q ↔ Lies l q ∨ Lies k q) ∧ Answer w.heap.size e w' U ∧ Below w.heap.size w w' := by
  have HA := checkBoth_any h hk
  rw [hl.check, hkl.check] at HA
  simp only [if_true] at HA
  have HU0 : UInv l k l k [] := ⟨hl.norm, hkl.norm, trivial, hl.top, hkl.top, (fun r hr => by cases hr), (fun r hr => by cases hr), (fun q => by simp [lies_nil]), by have := hl.few; have := hkl.few; simp only [List.length_nil]; omega⟩
  have HU : Hid (UInv l k l k []) := HU0
  clear HU0 hl hkl
  go_enter Tryz.func9, Tryz.ntmps9
  go_wp2_with fail
  refine HA.mono ?_
  rintro e w1 ⟨rfl, hb1⟩
  clear HA
  go_wp2_with fail
  go_loopw [0, 1, 7] (fun va vb vo w' => ∃ (a : Option Addr) (n cap : Nat) (la : List (Int × Int)) (b : Option Addr) (m capb : Nat) (lb : List (Int × Int)) (o : Option Addr) (no capo : Nat) (lo : List (Int × Int)),
      va = .slice a n cap ∧ vb = .slice b m capb ∧ vo = .slice o no capo ∧ Rng w a n cap la ∧ Rng w b m capb lb ∧ Own w' w.heap.size (.slice o no capo) lo ∧ Below w.heap.size w w' ∧ Hid (UInv l k la lb lo)) (fun va vb _ _ => vlen va + vlen vb)
  case atStart => exact ⟨a, n, cap, l, b, m, capb, k, none, 0, 0, [], rfl, rfl, rfl, h, hk, own_nil _ _, hb1, HU⟩
  case round =>
    clear HU hb1 h hk
    obtain ⟨a, n, cap, la, b, m, capb, lb, o, no, capo, lo, rfl, rfl, rfl, ha, hb, ho, hB, HU⟩ := hrel
    have hsz := hB.size
    have hlo := ho.rng.len
    by_cases h1 : 0 < n
    · by_cases h2 : 0 < m
      · obtain ⟨x, ta, g, off, rfl, rfl, hg, hc0, hc1⟩ := rng_head ha h1
        obtain ⟨y, tb, g2, off2, rfl, rfl, hg2, hd0, hd1⟩ := rng_head hb h2
        have hbound := HU.out.len
        simp only [List.length_cons] at hbound
        have c0 := (hB.cell (p := ⟨g, off, none⟩) hg).trans hc0
        have c1 := (hB.cell (p := ⟨g, off + 1, none⟩) hg).trans hc1
        have e0 := (hB.cell (p := ⟨g2, off2, none⟩) hg2).trans hd0
        have e1 := (hB.cell (p := ⟨g2, off2 + 1, none⟩) hg2).trans hd1
        clear hc0 hc1 hd0 hd1
        by_cases hxy : y.1 < x.1
        · obtain ⟨a', n', cap', rfl, hta, hsl⟩ := rng_tail hb
          have HU2 : Hid (UInv l k tb (x :: ta) (addedL lo y.1 y.2)) := HU.out.swap.step (by omega)
          have HNH : Hid (∀ W : World, Below w.heap.size w W → Own W w.heap.size (.slice o no capo) lo → Calls Tryz.prog 30 #[.slice o no capo, .int .i64 y.1, .int .i64 y.2] W fun e w' => ∃ a' n' cap', e = .returned (.slice a' n' cap') ∧ Own w' w.heap.size (.slice a' n' cap') (addedL lo y.1 y.2) ∧ Below w.heap.size w w') :=
            fun W hBW hoW => (added_any hoW hBW.size y.1 y.2 (by omega)).mono fun e w' ⟨a', n', cap', he, ho', hb'⟩ => ⟨a', n', cap', he, ho', hBW.trans hb'⟩
          clear hlo hbound HU
          generalize addedL lo y.1 y.2 = L at *
          obtain ⟨x1, x2⟩ := x
          obtain ⟨y1, y2⟩ := y
          simp only at c0 c1 e0 e1 hxy HNH
          go_wp2_with fail
          go_quiet (fail)
          go_upto_region 8 with fail
          go_cut [7] (fun v wx => ∃ (o' : Option Addr) (no' capo' : Nat), v = .slice o' no' capo' ∧ Own wx w.heap.size (.slice o' no' capo') L ∧ Below w.heap.size w wx)
          case first =>
            go_region_with (go_at_call 30; refine (HNH.out _ ?_ ?_).mono ?_; exact ⟨hB.os, hB.tape, hB.output, hB.size, hB.block⟩; exact ho; rintro e w2 ⟨o2, no2, capo2, rfl, ho2, hb2⟩)
            all_goals (go_wp2_with fail; go_meet; case rel => exact ⟨o2, no2, capo2, rfl, ho2, hb2⟩)
          case rest =>
            obtain ⟨o2, no2, capo2, rfl, ho2, hb2⟩ := hcut
            clear c0 c1 e0 e1
            go_wp2_with fail
            go_roundw
            case rel => exact ⟨_, _, _, tb, _, _, _, _, o2, no2, capo2, L, rfl, rfl, rfl, hta, ha, ho2, hb2, HU2⟩
            case measure => first | (simp [vlen]; done) | (simp [vlen]; omega)
        · obtain ⟨a', n', cap', rfl, hta, hsl⟩ := rng_tail ha
          have HU2 : Hid (UInv l k ta (y :: tb) (addedL lo x.1 x.2)) := HU.out.step (by omega)
          have HNH : Hid (∀ W : World, Below w.heap.size w W → Own W w.heap.size (.slice o no capo) lo → Calls Tryz.prog 30 #[.slice o no capo, .int .i64 x.1, .int .i64 x.2] W fun e w' => ∃ a' n' cap', e = .returned (.slice a' n' cap') ∧ Own w' w.heap.size (.slice a' n' cap') (addedL lo x.1 x.2) ∧ Below w.heap.size w w') :=
            fun W hBW hoW => (added_any hoW hBW.size x.1 x.2 (by omega)).mono fun e w' ⟨a', n', cap', he, ho', hb'⟩ => ⟨a', n', cap', he, ho', hBW.trans hb'⟩
          clear hlo hbound HU
          generalize addedL lo x.1 x.2 = L at *
          obtain ⟨x1, x2⟩ := x
          obtain ⟨y1, y2⟩ := y
          simp only at c0 c1 e0 e1 hxy HNH
          go_wp2_with fail
          go_quiet (fail)
          go_upto_region 8 with fail
          go_cut [7] (fun v wx => ∃ (o' : Option Addr) (no' capo' : Nat), v = .slice o' no' capo' ∧ Own wx w.heap.size (.slice o' no' capo') L ∧ Below w.heap.size w wx)
          case first =>
            go_region_with (go_at_call 30; refine (HNH.out _ ?_ ?_).mono ?_; exact ⟨hB.os, hB.tape, hB.output, hB.size, hB.block⟩; exact ho; rintro e w2 ⟨o2, no2, capo2, rfl, ho2, hb2⟩)
            all_goals (go_wp2_with fail; go_meet; case rel => exact ⟨o2, no2, capo2, rfl, ho2, hb2⟩)
          case rest =>
            obtain ⟨o2, no2, capo2, rfl, ho2, hb2⟩ := hcut
            clear c0 c1 e0 e1
            go_wp2_with fail
            go_roundw
            case rel => exact ⟨_, _, _, ta, _, _, _, _, o2, no2, capo2, L, rfl, rfl, rfl, hta, hb, ho2, hb2, HU2⟩
            case measure => first | (simp [vlen]; done) | (simp [vlen]; omega)
      · have hla : lb = [] := List.eq_nil_of_length_eq_zero (by have := hb.len; omega)
        have HLAST := HU.out.last (.inr hla)
        have hbound := HU.out.len
        have ba : ∀ r ∈ la, -4611686018427387904 ≤ r.1 ∧ r.1 ≤ 4611686018427387903 ∧ -4611686018427387904 ≤ r.2 ∧ r.2 ≤ 4611686018427387903 := fun r hr => by
          have := norm_lt HU.out.na r hr
          have := HU.out.ta r hr
          omega
        have bb : ∀ r ∈ lb, -4611686018427387904 ≤ r.1 ∧ r.1 ≤ 4611686018427387903 ∧ -4611686018427387904 ≤ r.2 ∧ r.2 ≤ 4611686018427387903 := fun r hr => by
          have := norm_lt HU.out.nb r hr
          have := HU.out.tb r hr
          omega
        have hal := ha.len
        have hbl := hb.len
        have HT1 : Hid (Calls Tryz.prog 28 #[.slice o no capo, .slice a n cap, .int .i64 0, .int .i64 1048576, .int .i64 0] wr _) := taken_any (B := w.heap.size) ho hsz (ha.below hB) ha.under 0 1048576 0 (by omega) (by omega) ba (by omega) (by omega) (by omega)
        have HT2 : Hid (∀ (W : World) (o' : Option Addr) (no' capo' : Nat), Below w.heap.size w W → Own W w.heap.size (.slice o' no' capo') (takenL lo la 0 1048576 0) → Calls Tryz.prog 28 #[.slice o' no' capo', .slice b m capb, .int .i64 0, .int .i64 1048576, .int .i64 0] W _) :=
          fun W o' no' capo' hBW hoW => taken_any (B := w.heap.size) hoW hBW.size (hb.below hBW) hb.under 0 1048576 0 (by have := hoW.rng.len; have := takenL_length lo la 0 1048576 0; omega) (by omega) bb (by omega) (by omega) (by omega)
        obtain ⟨hn1, hm1⟩ := HLAST
        have HN1 : Hid (Norm (-1) (takenL (takenL lo la 0 1048576 0) lb 0 1048576 0)) := hn1
        have HM1 : Hid (∀ q, Lies (takenL (takenL lo la 0 1048576 0) lb 0 1048576 0) q ↔ Lies l q ∨ Lies k q) := hm1
        clear hn1 hm1 HU hbound ba bb hlo hal hbl hla
        go_wp2_with fail
        refine HT1.out.mono ?_
        rintro e w2 ⟨o2, no2, capo2, rfl, ho2, hb2⟩
        have hB2 := hB.trans hb2
        go_wp2_with fail
        refine (HT2.out w2 o2 no2 capo2 hB2 ho2).mono ?_
        rintro e w3 ⟨o3, no3, capo3, rfl, ho3, hb3⟩
        have hB3 := hB2.trans hb3
        go_wp2_with fail
        refine bounded_any.mono ?_
        rintro e w4 ⟨rfl, rfl⟩
        have hl3 := ho3.rng.len
        by_cases hfew : 32768 < no3
        · rw [if_pos hfew]
          go_wp2_with fail
          go_ret2
          exact ⟨_, HN1.out, HM1.out, .inl ⟨by omega, rfl⟩, hB3⟩
        · rw [if_neg hfew]
          go_wp2_with fail
          go_ret2
          exact ⟨_, HN1.out, HM1.out, .inr ⟨by omega, o3, capo3, (by rw [hl3]; rfl), (by rw [hl3]; exact ho3)⟩, hB3⟩
    · have hla : la = [] := List.eq_nil_of_length_eq_zero (by have := ha.len; omega)
      have HLAST := HU.out.last (.inl hla)
      have hbound := HU.out.len
      have ba : ∀ r ∈ la, -4611686018427387904 ≤ r.1 ∧ r.1 ≤ 4611686018427387903 ∧ -4611686018427387904 ≤ r.2 ∧ r.2 ≤ 4611686018427387903 := fun r hr => by
        have := norm_lt HU.out.na r hr
        have := HU.out.ta r hr
        omega
      have bb : ∀ r ∈ lb, -4611686018427387904 ≤ r.1 ∧ r.1 ≤ 4611686018427387903 ∧ -4611686018427387904 ≤ r.2 ∧ r.2 ≤ 4611686018427387903 := fun r hr => by
        have := norm_lt HU.out.nb r hr
        have := HU.out.tb r hr
        omega
      have hal := ha.len
      have hbl := hb.len
      have HT1 : Hid (Calls Tryz.prog 28 #[.slice o no capo, .slice a n cap, .int .i64 0, .int .i64 1048576, .int .i64 0] wr _) := taken_any (B := w.heap.size) ho hsz (ha.below hB) ha.under 0 1048576 0 (by omega) (by omega) ba (by omega) (by omega) (by omega)
      have HT2 : Hid (∀ (W : World) (o' : Option Addr) (no' capo' : Nat), Below w.heap.size w W → Own W w.heap.size (.slice o' no' capo') (takenL lo la 0 1048576 0) → Calls Tryz.prog 28 #[.slice o' no' capo', .slice b m capb, .int .i64 0, .int .i64 1048576, .int .i64 0] W _) :=
        fun W o' no' capo' hBW hoW => taken_any (B := w.heap.size) hoW hBW.size (hb.below hBW) hb.under 0 1048576 0 (by have := hoW.rng.len; have := takenL_length lo la 0 1048576 0; omega) (by omega) bb (by omega) (by omega) (by omega)
      obtain ⟨hn1, hm1⟩ := HLAST
      have HN1 : Hid (Norm (-1) (takenL (takenL lo la 0 1048576 0) lb 0 1048576 0)) := hn1
      have HM1 : Hid (∀ q, Lies (takenL (takenL lo la 0 1048576 0) lb 0 1048576 0) q ↔ Lies l q ∨ Lies k q) := hm1
      clear hn1 hm1 HU hbound ba bb hlo hal hbl hla
      go_wp2_with fail
      refine HT1.out.mono ?_
      rintro e w2 ⟨o2, no2, capo2, rfl, ho2, hb2⟩
      have hB2 := hB.trans hb2
      go_wp2_with fail
      refine (HT2.out w2 o2 no2 capo2 hB2 ho2).mono ?_
      rintro e w3 ⟨o3, no3, capo3, rfl, ho3, hb3⟩
      have hB3 := hB2.trans hb3
      go_wp2_with fail
      refine bounded_any.mono ?_
      rintro e w4 ⟨rfl, rfl⟩
      have hl3 := ho3.rng.len
      by_cases hfew : 32768 < no3
      · rw [if_pos hfew]
        go_wp2_with fail
        go_ret2
        exact ⟨_, HN1.out, HM1.out, .inl ⟨by omega, rfl⟩, hB3⟩
      · rw [if_neg hfew]
        go_wp2_with fail
        go_ret2
        exact ⟨_, HN1.out, HM1.out, .inr ⟨by omega, o3, capo3, (by rw [hl3]; rfl), (by rw [hl3]; exact ho3)⟩, hB3⟩
end Go.Proofs.YtffkncohliollaaGreatDoor.Sp

namespace Go.Proofs.YtffkncohliollaaGreatDoor.Sp
open Go.RowKit Go.Lib
set_option maxRecDepth 100000

/-- What holds in the loop of 'shared'. -/
structure SInv (l k la lb lo : List (Int × Int)) : Prop where
  na : Norm (-1) la
  nb : Norm (-1) lb
  no : Norm (-1) lo
  oa : ∀ r ∈ lo, ∀ x ∈ la, ∀ y ∈ lb, r.1 ≤ max x.1 y.1
  mem : ∀ q, (Lies lo q ∨ (Lies la q ∧ Lies lb q)) ↔ (Lies l q ∧ Lies k q)
  len : lo.length + la.length + lb.length ≤ 65537
theorem lies_lo {b : Int} {x : Int × Int} {l : List (Int × Int)} (h : Norm b (x :: l)) {q : Int} (hq : Lies l q) : x.2 < q := norm_lies h.2.2 hq
theorem SInv.stepA {l k la lb lo : List (Int × Int)} {x y : Int × Int} (h : SInv l k (x :: la) (y :: lb) lo) (hxy : x.2 < y.2) : SInv l k la (y :: lb) (addedL lo (max x.1 y.1) (min x.2 y.2)) := by
  have ho : ∀ r ∈ lo, r.1 ≤ max x.1 y.1 := fun r hr => h.oa r hr x List.mem_cons_self y List.mem_cons_self
  have hx := h.na
  have hy := h.nb
  refine ⟨norm_mono hx.2.2 (by have := hx.1; have := hx.2.1; omega), hy, addedL_norm h.no ho (by have := hx.1; omega), fun r hr z hz v hv => ?_, fun q => ?_, ?_⟩
  · have := addedL_los ho r hr
    have := norm_lt hx.2.2 z hz
    have := hx.2.1
    have hv' : y.1 ≤ v.1 := by
      rcases List.mem_cons.1 hv with rfl | hv
      · exact Int.le_refl _
      · have := norm_lt hy.2.2 v hv
        have := hy.2.1
        omega
    omega
  · rw [← h.mem q, addedL_lies ho (fun r hr => (norm_lt h.no r hr).2), lies_cons x la, lies_cons y lb]
    constructor
    · rintro ((h1 | h1) | ⟨h1, h2⟩)
      · exact .inl h1
      · exact .inr ⟨.inl ⟨by omega, by omega⟩, .inl ⟨by omega, by omega⟩⟩
      · exact .inr ⟨.inr h1, h2⟩
    · rintro (h1 | ⟨h1 | h1, h2⟩)
      · exact .inl (.inl h1)
      · rcases h2 with h2 | h2
        · exact .inl (.inr ⟨by omega, by omega⟩)
        · have := norm_lies hy.2.2 h2
          omega
      · exact .inr ⟨h1, h2⟩
  · have := (addedL_length lo (max x.1 y.1) (min x.2 y.2)).1
    have := h.len
    simp only [List.length_cons] at this ⊢
    omega
theorem SInv.stepB {l k la lb lo : List (Int × Int)} {x y : Int × Int} (h : SInv l k (x :: la) (y :: lb) lo) (hxy : y.2 ≤ x.2) : SInv l k (x :: la) lb (addedL lo (max x.1 y.1) (min x.2 y.2)) := by
  have ho : ∀ r ∈ lo, r.1 ≤ max x.1 y.1 := fun r hr => h.oa r hr x List.mem_cons_self y List.mem_cons_self
  have hx := h.na
  have hy := h.nb
  refine ⟨hx, norm_mono hy.2.2 (by have := hy.1; have := hy.2.1; omega), addedL_norm h.no ho (by have := hx.1; omega), fun r hr z hz v hv => ?_, fun q => ?_, ?_⟩
  · have := addedL_los ho r hr
    have := norm_lt hy.2.2 v hv
    have := hy.2.1
    have hz' : x.1 ≤ z.1 := by
      rcases List.mem_cons.1 hz with rfl | hz
      · exact Int.le_refl _
      · have := norm_lt hx.2.2 z hz
        have := hx.2.1
        omega
    omega
  · rw [← h.mem q, addedL_lies ho (fun r hr => (norm_lt h.no r hr).2), lies_cons x la, lies_cons y lb]
    constructor
    · rintro ((h1 | h1) | ⟨h1, h2⟩)
      · exact .inl h1
      · exact .inr ⟨.inl ⟨by omega, by omega⟩, .inl ⟨by omega, by omega⟩⟩
      · exact .inr ⟨h1, .inr h2⟩
    · rintro (h1 | ⟨h1, h2 | h2⟩)
      · exact .inl (.inl h1)
      · rcases h1 with h1 | h1
        · exact .inl (.inr ⟨by omega, by omega⟩)
        · have := norm_lies hx.2.2 h1
          omega
      · exact .inr ⟨h1, h2⟩
  · have := (addedL_length lo (max x.1 y.1) (min x.2 y.2)).1
    have := h.len
    simp only [List.length_cons] at this ⊢
    omega

set_option maxHeartbeats 2000000 in
theorem shared_any {w : World} {a : Option Addr} {n cap : Nat} {l : List (Int × Int)} (h : Rng w a n cap l) {b : Option Addr} {m capb : Nat} {k : List (Int × Int)} (hk : Rng w b m capb k) (hl : Norm (-1) l) (hkl : Norm (-1) k) (hlen : l.length + k.length ≤ 65537) :
    Calls Tryz.prog 32 #[.slice a n cap, .slice b m capb] w fun e w' => ∃ U a' n' cap', Norm (-1) U ∧ (∀ q, Lies U q ↔ Lies l q ∧ Lies k q) ∧ e = .returned (.slice a' n' cap') ∧ Own w' w.heap.size (.slice a' n' cap') U ∧ Below w.heap.size w w' := by
  have HU0 : SInv l k l k [] := ⟨hl, hkl, trivial, (fun r hr => by cases hr), (fun q => by simp [lies_nil]), by simp only [List.length_nil]; omega⟩
  have HU : Hid (SInv l k l k []) := HU0
  have hmx := max_run
  have hmn := min_run
  clear HU0 hl hkl hlen
  go_enter Tryz.func32, Tryz.ntmps32
  go_wp2_with fail
  go_loopw [0, 1, 5] (fun va vb vo w' => ∃ (a : Option Addr) (n cap : Nat) (la : List (Int × Int)) (b : Option Addr) (m capb : Nat) (lb : List (Int × Int)) (o : Option Addr) (no capo : Nat) (lo : List (Int × Int)),
      va = .slice a n cap ∧ vb = .slice b m capb ∧ vo = .slice o no capo ∧ Rng w a n cap la ∧ Rng w b m capb lb ∧ Own w' w.heap.size (.slice o no capo) lo ∧ Below w.heap.size w w' ∧ Hid (SInv l k la lb lo)) (fun va vb _ _ => vlen va + vlen vb)
  case atStart => exact ⟨a, n, cap, l, b, m, capb, k, none, 0, 0, [], rfl, rfl, rfl, h, hk, own_nil _ _, Below.refl _ _, HU⟩
  case round =>
    clear HU h hk
    obtain ⟨a, n, cap, la, b, m, capb, lb, o, no, capo, lo, rfl, rfl, rfl, ha, hb, ho, hB, HU⟩ := hrel
    have hsz := hB.size
    have hlo := ho.rng.len
    by_cases h1 : 0 < n
    · by_cases h2 : 0 < m
      · obtain ⟨x, ta, g, off, rfl, rfl, hg, hc0, hc1⟩ := rng_head ha h1
        obtain ⟨y, tb, g2, off2, rfl, rfl, hg2, hd0, hd1⟩ := rng_head hb h2
        have hbound := HU.out.len
        simp only [List.length_cons] at hbound
        have c0 := (hB.cell (p := ⟨g, off, none⟩) hg).trans hc0
        have c1 := (hB.cell (p := ⟨g, off + 1, none⟩) hg).trans hc1
        have e0 := (hB.cell (p := ⟨g2, off2, none⟩) hg2).trans hd0
        have e1 := (hB.cell (p := ⟨g2, off2 + 1, none⟩) hg2).trans hd1
        have HNH : Hid (∀ W : World, Below w.heap.size w W → Own W w.heap.size (.slice o no capo) lo → Calls Tryz.prog 30 #[.slice o no capo, .int .i64 (max x.1 y.1), .int .i64 (min x.2 y.2)] W fun e w' => ∃ a' n' cap', e = .returned (.slice a' n' cap') ∧ Own w' w.heap.size (.slice a' n' cap') (addedL lo (max x.1 y.1) (min x.2 y.2)) ∧ Below w.heap.size w w') :=
          fun W hBW hoW => (added_any hoW hBW.size (max x.1 y.1) (min x.2 y.2) (by omega)).mono fun e w' ⟨a', n', cap', he, ho', hb'⟩ => ⟨a', n', cap', he, ho', hBW.trans hb'⟩
        have HSA : Hid (x.2 < y.2 → SInv l k ta (y :: tb) (addedL lo (max x.1 y.1) (min x.2 y.2))) := HU.out.stepA
        have HSB : Hid (y.2 ≤ x.2 → SInv l k (x :: ta) tb (addedL lo (max x.1 y.1) (min x.2 y.2))) := HU.out.stepB
        clear hlo hbound HU
        obtain ⟨aa, an, acap, rfl, hta, hsa⟩ := rng_tail ha
        obtain ⟨ba, bn, bcap, rfl, htb, hsb⟩ := rng_tail hb
        obtain ⟨x1, x2⟩ := x
        obtain ⟨y1, y2⟩ := y
        simp only at c0 c1 e0 e1 HNH hc0 hc1 hd0 hd1 HSA HSB
        generalize addedL lo (max x1 y1) (min x2 y2) = L at *
        go_upto_region 3 with fail
        go_cut [5] (fun v wx => ∃ (o' : Option Addr) (no' capo' : Nat), v = .slice o' no' capo' ∧ Own wx w.heap.size (.slice o' no' capo') L ∧ Below w.heap.size w wx)
        case first =>
          clear hsa hsb HSA HSB
          go_region_held3 (fun W => W.cell? ⟨g, off, none⟩ = some (.int .i64 x1) ∧ W.cell? ⟨g, off + 1, none⟩ = some (.int .i64 x2) ∧ W.cell? ⟨g2, off2, none⟩ = some (.int .i64 y1) ∧ W.cell? ⟨g2, off2 + 1, none⟩ = some (.int .i64 y2)) (first | exact ⟨c0, c1, e0, e1⟩ | exact ⟨k0, k1, k2, k3⟩)
            ((go_at_call 30; refine (HNH.out _ ?_ ?_).mono ?_; exact ⟨hB.os, hB.tape, hB.output, hB.size, hB.block⟩; exact ho; rintro e w2 ⟨o2, no2, capo2, rfl, ho2, hb2⟩; have k0 := (hb2.cell (p := ⟨g, off, none⟩) hg).trans hc0; have k1 := (hb2.cell (p := ⟨g, off + 1, none⟩) hg).trans hc1; have k2 := (hb2.cell (p := ⟨g2, off2, none⟩) hg2).trans hd0; have k3 := (hb2.cell (p := ⟨g2, off2 + 1, none⟩) hg2).trans hd1))
          all_goals (go_wp2_with fail; go_meet; case rel => exact ⟨o2, no2, capo2, rfl, ho2, hb2⟩)
        case rest =>
          obtain ⟨o2, no2, capo2, rfl, ho2, hb2⟩ := hcut
          clear c0 c1 e0 e1 ho
          have c1 := (hb2.cell (p := ⟨g, off + 1, none⟩) hg).trans hc1
          have e1 := (hb2.cell (p := ⟨g2, off2 + 1, none⟩) hg2).trans hd1
          clear hc0 hc1 hd0 hd1
          by_cases hxy : x2 < y2
          · have HU2 : Hid (SInv l k ta ((y1, y2) :: tb) L) := HSA.out hxy
            go_wp2_with fail
            go_quiet (fail)
            go_wp2_with fail
            go_roundw
            case rel => exact ⟨_, _, _, ta, _, _, _, _, o2, no2, capo2, L, rfl, rfl, rfl, hta, hb, ho2, below_drewN hb2 _, HU2⟩
            case measure => first | (simp [vlen]; done) | (simp [vlen]; omega)
          · have HU2 : Hid (SInv l k ((x1, x2) :: ta) tb L) := HSB.out (by omega)
            go_wp2_with fail
            go_quiet (fail)
            go_wp2_with fail
            go_roundw
            case rel => exact ⟨_, _, _, _, _, _, _, tb, o2, no2, capo2, L, rfl, rfl, rfl, ha, htb, ho2, below_drewN hb2 _, HU2⟩
            case measure => first | (simp [vlen]; done) | (simp [vlen]; omega)
      · have hla : lb = [] := List.eq_nil_of_length_eq_zero (by have := hb.len; omega)
        subst hla
        have HM : Hid (∀ q, Lies lo q ↔ Lies l q ∧ Lies k q) := fun q => by rw [← HU.out.mem q]; simp [lies_nil]
        have HN : Hid (Norm (-1) lo) := HU.out.no
        clear HU
        go_wp2_with fail
        go_ret
        exact ⟨lo, _, _, _, HN.out, HM.out, rfl, ho, hB⟩
    · have hla : la = [] := List.eq_nil_of_length_eq_zero (by have := ha.len; omega)
      subst hla
      have HM : Hid (∀ q, Lies lo q ↔ Lies l q ∧ Lies k q) := fun q => by rw [← HU.out.mem q]; simp [lies_nil]
      have HN : Hid (Norm (-1) lo) := HU.out.no
      clear HU
      go_wp2_with fail
      go_ret
      exact ⟨lo, _, _, _, HN.out, HM.out, rfl, ho, hB⟩
end Go.Proofs.YtffkncohliollaaGreatDoor.Sp

namespace Go.Proofs.YtffkncohliollaaGreatDoor.Sp
open Go.RowKit Go.Lib
set_option maxRecDepth 100000

/-- What 'others' makes, but for its last piece: the list, and where it goes on. -/
def othGo : List (Int × Int) → Int → List (Int × Int) → List (Int × Int) × Int
  | out, from_, [] => (out, from_)
  | out, from_, r :: t => othGo (addedL out from_ r.1) r.2 t
theorem othGo_all {l : List (Int × Int)} {out : List (Int × Int)} {f : Int} (h : Norm (f - 1) l) (ho : Norm (-1) out) (hlo : ∀ r ∈ out, r.1 ≤ f) (hf : 0 ≤ f) (ht : ∀ r ∈ l, r.2 ≤ 1048576) (hf2 : f ≤ 1048576) :
    Norm (-1) (othGo out f l).1 ∧ (∀ r ∈ (othGo out f l).1, r.1 ≤ (othGo out f l).2) ∧ f ≤ (othGo out f l).2 ∧ (othGo out f l).2 ≤ 1048576 ∧ (∀ r ∈ l, r.2 ≤ (othGo out f l).2) ∧ (∀ q, Lies (othGo out f l).1 q ↔ Lies out q ∨ (f ≤ q ∧ q < (othGo out f l).2 ∧ ¬ Lies l q)) ∧ (othGo out f l).1.length ≤ out.length + l.length := by
  induction l generalizing out f with
  | nil => exact ⟨ho, hlo, Int.le_refl _, hf2, (fun r hr => by cases hr), (fun q => by simp only [othGo]; constructor; exact .inl; rintro (h | h); exact h; omega), by simp [othGo]⟩
  | cons r t ih =>
    have h1 := h.1
    have h2 := h.2.1
    have h3 := ht r List.mem_cons_self
    have hn := addedL_norm (hi := r.1) ho hlo (by omega : (-1 : Int) < f)
    have hl2 : ∀ x ∈ addedL out f r.1, x.1 ≤ r.2 := fun x hx => by have := addedL_los hlo x hx; omega
    have := ih (norm_mono h.2.2 (by omega)) hn hl2 (by omega) (fun x hx => ht x (List.mem_cons_of_mem _ hx)) h3
    obtain ⟨i1, i2, i3, i4, i5, i6, i7⟩ := this
    refine ⟨i1, i2, by simp only [othGo]; omega, i4, fun x hx => ?_, fun q => ?_, ?_⟩
    · rcases List.mem_cons.1 hx with rfl | hx
      · exact i3
      · exact i5 x hx
    · rw [show othGo out f (r :: t) = othGo (addedL out f r.1) r.2 t from rfl, i6 q, addedL_lies hlo (fun x hx => (norm_lt ho x hx).2), lies_cons]
      constructor
      · rintro ((h' | h') | h')
        · exact .inl h'
        · refine .inr ⟨h'.1, by omega, ?_⟩
          rintro (h'' | h'')
          · omega
          · have := norm_lies h.2.2 h''; omega
        · refine .inr ⟨by omega, h'.2.1, ?_⟩
          rintro (h'' | h'')
          · omega
          · exact h'.2.2 h''
      · rintro (h' | ⟨h', h'', h'''⟩)
        · exact .inl (.inl h')
        · by_cases hq : q < r.1
          · exact .inl (.inr ⟨h', hq⟩)
          · by_cases hq2 : q < r.2
            · exact absurd (.inl ⟨by omega, hq2⟩) h'''
            · exact .inr ⟨by omega, h'', fun hh => h''' (.inr hh)⟩
    · have := (addedL_length out f r.1).1
      simp only [othGo, List.length_cons] at i7 ⊢
      omega
theorem lies_top' {l : List (Int × Int)} (h : Lst l) {q : Int} (hq : Lies l q) : 0 ≤ q ∧ q < 1048576 := by
  obtain ⟨r, hr, h1, h2⟩ := hq
  have := h.nonneg r hr
  omega
/-- All places that l does not have. -/
def othersL (l : List (Int × Int)) : List (Int × Int) := addedL (othGo [] 0 l).1 (othGo [] 0 l).2 1048576
theorem othersL_all {l : List (Int × Int)} (h : Lst l) : Norm (-1) (othersL l) ∧ (∀ q, Lies (othersL l) q ↔ 0 ≤ q ∧ q < 1048576 ∧ ¬ Lies l q) ∧ (othersL l).length ≤ l.length + 1 := by
  obtain ⟨i1, i2, i3, i4, i5, i6, i7⟩ := othGo_all (l := l) (out := []) (f := 0) h.norm trivial (fun r hr => by cases hr) (by omega) h.top (by omega)
  unfold othersL
  refine ⟨addedL_norm i1 i2 (by omega), fun q => ?_, ?_⟩
  · rw [addedL_lies i2 (fun x hx => (norm_lt i1 x hx).2), i6 q]
    constructor
    · rintro ((h' | h') | h')
      · exact absurd h' (lies_nil _)
      · exact ⟨h'.1, by omega, h'.2.2⟩
      · refine ⟨by omega, h'.2, fun ⟨r, hr, _, hh⟩ => ?_⟩
        have := i5 r hr
        omega
    · rintro ⟨h1, h2, h3⟩
      by_cases hq : q < (othGo [] 0 l).2
      · exact .inl (.inr ⟨h1, hq, h3⟩)
      · exact .inr ⟨by omega, h2⟩
  · have := (addedL_length (othGo [] 0 l).1 (othGo [] 0 l).2 1048576).1
    simp only [List.length_nil] at i7
    omega

/-- What an answer that came of 'bounded' is. -/
theorem answer_of {B : Nat} {w' : World} {a : Option Addr} {n cap : Nat} {U : List (Int × Int)} (ho : Own w' B (.slice a n cap) U) : Answer B (.returned (.tuple (if 32768 < n then #[.slice none 0 0, .int .i64 21] else #[.slice a n cap, .int .i64 0]))) w' U := by
  have hl := ho.rng.len
  subst hl
  by_cases h : 32768 < U.length
  · rw [if_pos h]
    exact .inl ⟨h, rfl⟩
  · rw [if_neg h]
    exact .inr ⟨by omega, a, cap, rfl, ho⟩
set_option maxHeartbeats 1000000 in
theorem meet_ok {w : World} {a : Option Addr} {n cap : Nat} {l : List (Int × Int)} (h : Rng w a n cap l) {b : Option Addr} {m capb : Nat} {k : List (Int × Int)} (hk : Rng w b m capb k) (hl : Lst l) (hkl : Lst k) :
    Calls Tryz.prog 10 #[.slice a n cap, .slice b m capb] w fun e w' => ∃ U, Norm (-1) U ∧ (∀ q, Lies U q ↔ Lies l q ∧ Lies k q) ∧ Answer w.heap.size e w' U ∧ Below w.heap.size w w' := by
  have HA := checkBoth_any h hk
  rw [hl.check, hkl.check] at HA
  simp only [if_true] at HA
  have HS : Hid (∀ W, Below w.heap.size w W → Calls Tryz.prog 32 #[.slice a n cap, .slice b m capb] W _) := fun W hb => shared_any (h.below hb) (hk.below hb) hl.norm hkl.norm (by have := hl.few; have := hkl.few; omega)
  clear h hk hl hkl
  go_enter Tryz.func10, Tryz.ntmps10
  go_wp2_with fail
  refine HA.mono ?_
  rintro e w1 ⟨rfl, hb1⟩
  clear HA
  go_wp2_with fail
  refine (HS.out _ hb1).mono ?_
  rintro e w2 ⟨U, o, no, co, hN, hM, rfl, ho, hb2⟩
  have hB2 := hb1.trans (hb2.mono hb1.size)
  have ho' := ho.mono hb1.size
  have HN : Hid (Norm (-1) U) := hN
  have HM : Hid (∀ q, Lies U q ↔ Lies l q ∧ Lies k q) := hM
  clear hN hM ho
  go_wp2_with fail
  refine bounded_any.mono ?_
  rintro e w3 ⟨rfl, rfl⟩
  have HW := answer_of ho'
  by_cases hfew : 32768 < no
  · rw [if_pos hfew] at HW ⊢
    go_wp2_with fail
    go_ret2
    exact ⟨U, HN.out, HM.out, HW, hB2⟩
  · rw [if_neg hfew] at HW ⊢
    go_wp2_with fail
    go_ret2
    exact ⟨U, HN.out, HM.out, HW, hB2⟩
end Go.Proofs.YtffkncohliollaaGreatDoor.Sp
