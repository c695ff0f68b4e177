import Derived.Test.YtjnglghhcbdpmaaSpG
import Derived.Deep.RegionHeld3
namespace Go.Proofs.Ytjnglghhcbdpmaa
open Go.RowKit Go.Lib
set_option maxRecDepth 100000

/-- What holds in the loop of 'shared'. -/
structure SInv (l k la lb lo : List (Int × Int)) : Prop where
  na : Norm (-1) la
  nb : Norm (-1) lb
  no : Norm (-1) lo
  oa : ∀ r ∈ lo, ∀ x ∈ la, ∀ y ∈ lb, r.1 ≤ max x.1 y.1
  mem : ∀ q, (Lies lo q ∨ (Lies la q ∧ Lies lb q)) ↔ (Lies l q ∧ Lies k q)
  len : lo.length + la.length + lb.length ≤ 65537
theorem lies_lo {b : Int} {x : Int × Int} {l : List (Int × Int)} (h : Norm b (x :: l)) {q : Int} (hq : Lies l q) : x.2 < q := norm_lies h.2.2 hq
theorem SInv.stepA {l k la lb lo : List (Int × Int)} {x y : Int × Int} (h : SInv l k (x :: la) (y :: lb) lo) (hxy : x.2 < y.2) : SInv l k la (y :: lb) (addedL lo (max x.1 y.1) (min x.2 y.2)) := by
  have ho : ∀ r ∈ lo, r.1 ≤ max x.1 y.1 := fun r hr => h.oa r hr x List.mem_cons_self y List.mem_cons_self
  have hx := h.na
  have hy := h.nb
  refine ⟨norm_mono hx.2.2 (by have := hx.1; have := hx.2.1; omega), hy, addedL_norm h.no ho (by have := hx.1; omega), fun r hr z hz v hv => ?_, fun q => ?_, ?_⟩
  · have := addedL_los ho r hr
    have := norm_lt hx.2.2 z hz
    have := hx.2.1
    have hv' : y.1 ≤ v.1 := by
      rcases List.mem_cons.1 hv with rfl | hv
      · exact Int.le_refl _
      · have := norm_lt hy.2.2 v hv
        have := hy.2.1
        omega
    omega
  · rw [← h.mem q, addedL_lies ho (fun r hr => (norm_lt h.no r hr).2), lies_cons x la, lies_cons y lb]
    constructor
    · rintro ((h1 | h1) | ⟨h1, h2⟩)
      · exact .inl h1
      · exact .inr ⟨.inl ⟨by omega, by omega⟩, .inl ⟨by omega, by omega⟩⟩
      · exact .inr ⟨.inr h1, h2⟩
    · rintro (h1 | ⟨h1 | h1, h2⟩)
      · exact .inl (.inl h1)
      · rcases h2 with h2 | h2
        · exact .inl (.inr ⟨by omega, by omega⟩)
        · have := norm_lies hy.2.2 h2
          omega
      · exact .inr ⟨h1, h2⟩
  · have := (addedL_length lo (max x.1 y.1) (min x.2 y.2)).1
    have := h.len
    simp only [List.length_cons] at this ⊢
    omega
theorem SInv.stepB {l k la lb lo : List (Int × Int)} {x y : Int × Int} (h : SInv l k (x :: la) (y :: lb) lo) (hxy : y.2 ≤ x.2) : SInv l k (x :: la) lb (addedL lo (max x.1 y.1) (min x.2 y.2)) := by
  have ho : ∀ r ∈ lo, r.1 ≤ max x.1 y.1 := fun r hr => h.oa r hr x List.mem_cons_self y List.mem_cons_self
  have hx := h.na
  have hy := h.nb
  refine ⟨hx, norm_mono hy.2.2 (by have := hy.1; have := hy.2.1; omega), addedL_norm h.no ho (by have := hx.1; omega), fun r hr z hz v hv => ?_, fun q => ?_, ?_⟩
  · have := addedL_los ho r hr
    have := norm_lt hy.2.2 v hv
    have := hy.2.1
    have hz' : x.1 ≤ z.1 := by
      rcases List.mem_cons.1 hz with rfl | hz
      · exact Int.le_refl _
      · have := norm_lt hx.2.2 z hz
        have := hx.2.1
        omega
    omega
  · rw [← h.mem q, addedL_lies ho (fun r hr => (norm_lt h.no r hr).2), lies_cons x la, lies_cons y lb]
    constructor
    · rintro ((h1 | h1) | ⟨h1, h2⟩)
      · exact .inl h1
      · exact .inr ⟨.inl ⟨by omega, by omega⟩, .inl ⟨by omega, by omega⟩⟩
      · exact .inr ⟨h1, .inr h2⟩
    · rintro (h1 | ⟨h1, h2 | h2⟩)
      · exact .inl (.inl h1)
      · rcases h1 with h1 | h1
        · exact .inl (.inr ⟨by omega, by omega⟩)
        · have := norm_lies hx.2.2 h1
          omega
      · exact .inr ⟨h1, h2⟩
  · have := (addedL_length lo (max x.1 y.1) (min x.2 y.2)).1
    have := h.len
    simp only [List.length_cons] at this ⊢
    omega

set_option maxHeartbeats 2000000 in
theorem shared_any {w : World} {a : Option Addr} {n cap : Nat} {l : List (Int × Int)} (h : Rng w a n cap l) {b : Option Addr} {m capb : Nat} {k : List (Int × Int)} (hk : Rng w b m capb k) (hl : Norm (-1) l) (hkl : Norm (-1) k) (hlen : l.length + k.length ≤ 65537) :
    Calls Try.prog 39 #[.slice a n cap, .slice b m capb] w fun e w' => ∃ U a' n' cap', Norm (-1) U ∧ (∀ q, Lies U q ↔ Lies l q ∧ Lies k q) ∧ e = .returned (.slice a' n' cap') ∧ Own w' w.heap.size (.slice a' n' cap') U ∧ Below w.heap.size w w' := by
  have HU0 : SInv l k l k [] := ⟨hl, hkl, trivial, (fun r hr => by cases hr), (fun q => by simp [lies_nil]), by simp only [List.length_nil]; omega⟩
  have HU : Hid (SInv l k l k []) := HU0
  have hmx := max_run
  have hmn := min_run
  clear HU0 hl hkl hlen
  go_enter Try.func39, Try.ntmps39
  go_wp2_with fail
  go_loopw [0, 1, 5] (fun va vb vo w' => ∃ (a : Option Addr) (n cap : Nat) (la : List (Int × Int)) (b : Option Addr) (m capb : Nat) (lb : List (Int × Int)) (o : Option Addr) (no capo : Nat) (lo : List (Int × Int)),
      va = .slice a n cap ∧ vb = .slice b m capb ∧ vo = .slice o no capo ∧ Rng w a n cap la ∧ Rng w b m capb lb ∧ Own w' w.heap.size (.slice o no capo) lo ∧ Below w.heap.size w w' ∧ Hid (SInv l k la lb lo)) (fun va vb _ _ => vlen va + vlen vb)
  case atStart => exact ⟨a, n, cap, l, b, m, capb, k, none, 0, 0, [], rfl, rfl, rfl, h, hk, own_nil _ _, Below.refl _ _, HU⟩
  case round =>
    clear HU h hk
    obtain ⟨a, n, cap, la, b, m, capb, lb, o, no, capo, lo, rfl, rfl, rfl, ha, hb, ho, hB, HU⟩ := hrel
    have hsz := hB.size
    have hlo := ho.rng.len
    by_cases h1 : 0 < n
    · by_cases h2 : 0 < m
      · obtain ⟨x, ta, g, off, rfl, rfl, hg, hc0, hc1⟩ := rng_head ha h1
        obtain ⟨y, tb, g2, off2, rfl, rfl, hg2, hd0, hd1⟩ := rng_head hb h2
        have hbound := HU.out.len
        simp only [List.length_cons] at hbound
        have c0 := (hB.cell (p := ⟨g, off, none⟩) hg).trans hc0
        have c1 := (hB.cell (p := ⟨g, off + 1, none⟩) hg).trans hc1
        have e0 := (hB.cell (p := ⟨g2, off2, none⟩) hg2).trans hd0
        have e1 := (hB.cell (p := ⟨g2, off2 + 1, none⟩) hg2).trans hd1
        have HNH : Hid (∀ W : World, Below w.heap.size w W → Own W w.heap.size (.slice o no capo) lo → Calls Try.prog 33 #[.slice o no capo, .int .i64 (max x.1 y.1), .int .i64 (min x.2 y.2)] W fun e w' => ∃ a' n' cap', e = .returned (.slice a' n' cap') ∧ Own w' w.heap.size (.slice a' n' cap') (addedL lo (max x.1 y.1) (min x.2 y.2)) ∧ Below w.heap.size w w') :=
          fun W hBW hoW => (added_any hoW hBW.size (max x.1 y.1) (min x.2 y.2) (by omega)).mono fun e w' ⟨a', n', cap', he, ho', hb'⟩ => ⟨a', n', cap', he, ho', hBW.trans hb'⟩
        have HSA : Hid (x.2 < y.2 → SInv l k ta (y :: tb) (addedL lo (max x.1 y.1) (min x.2 y.2))) := HU.out.stepA
        have HSB : Hid (y.2 ≤ x.2 → SInv l k (x :: ta) tb (addedL lo (max x.1 y.1) (min x.2 y.2))) := HU.out.stepB
        clear hlo hbound HU
        obtain ⟨aa, an, acap, rfl, hta, hsa⟩ := rng_tail ha
        obtain ⟨ba, bn, bcap, rfl, htb, hsb⟩ := rng_tail hb
        obtain ⟨x1, x2⟩ := x
        obtain ⟨y1, y2⟩ := y
        simp only at c0 c1 e0 e1 HNH hc0 hc1 hd0 hd1 HSA HSB
        generalize addedL lo (max x1 y1) (min x2 y2) = L at *
        go_upto_region 3 with fail
        go_cut [5] (fun v wx => ∃ (o' : Option Addr) (no' capo' : Nat), v = .slice o' no' capo' ∧ Own wx w.heap.size (.slice o' no' capo') L ∧ Below w.heap.size w wx)
        case first =>
          clear hsa hsb HSA HSB
          go_region_held3 (fun W => W.cell? ⟨g, off, none⟩ = some (.int .i64 x1) ∧ W.cell? ⟨g, off + 1, none⟩ = some (.int .i64 x2) ∧ W.cell? ⟨g2, off2, none⟩ = some (.int .i64 y1) ∧ W.cell? ⟨g2, off2 + 1, none⟩ = some (.int .i64 y2)) (first | exact ⟨c0, c1, e0, e1⟩ | exact ⟨k0, k1, k2, k3⟩)
            ((go_at_call 33; refine (HNH.out _ ?_ ?_).mono ?_; exact ⟨hB.os, hB.tape, hB.output, hB.size, hB.block⟩; exact ho; rintro e w2 ⟨o2, no2, capo2, rfl, ho2, hb2⟩; have k0 := (hb2.cell (p := ⟨g, off, none⟩) hg).trans hc0; have k1 := (hb2.cell (p := ⟨g, off + 1, none⟩) hg).trans hc1; have k2 := (hb2.cell (p := ⟨g2, off2, none⟩) hg2).trans hd0; have k3 := (hb2.cell (p := ⟨g2, off2 + 1, none⟩) hg2).trans hd1))
          all_goals (go_wp2_with fail; go_meet; case rel => exact ⟨o2, no2, capo2, rfl, ho2, hb2⟩)
        case rest =>
          obtain ⟨o2, no2, capo2, rfl, ho2, hb2⟩ := hcut
          clear c0 c1 e0 e1 ho
          have c1 := (hb2.cell (p := ⟨g, off + 1, none⟩) hg).trans hc1
          have e1 := (hb2.cell (p := ⟨g2, off2 + 1, none⟩) hg2).trans hd1
          clear hc0 hc1 hd0 hd1
          by_cases hxy : x2 < y2
          · have HU2 : Hid (SInv l k ta ((y1, y2) :: tb) L) := HSA.out hxy
            go_wp2_with fail
            go_quiet (fail)
            go_wp2_with fail
            go_roundw
            case rel => exact ⟨_, _, _, ta, _, _, _, _, o2, no2, capo2, L, rfl, rfl, rfl, hta, hb, ho2, below_drewN hb2 _, HU2⟩
            case measure => first | (simp [vlen]; done) | (simp [vlen]; omega)
          · have HU2 : Hid (SInv l k ((x1, x2) :: ta) tb L) := HSB.out (by omega)
            go_wp2_with fail
            go_quiet (fail)
            go_wp2_with fail
            go_roundw
            case rel => exact ⟨_, _, _, _, _, _, _, tb, o2, no2, capo2, L, rfl, rfl, rfl, ha, htb, ho2, below_drewN hb2 _, HU2⟩
            case measure => first | (simp [vlen]; done) | (simp [vlen]; omega)
      · have hla : lb = [] := List.eq_nil_of_length_eq_zero (by have := hb.len; omega)
        subst hla
        have HM : Hid (∀ q, Lies lo q ↔ Lies l q ∧ Lies k q) := fun q => by rw [← HU.out.mem q]; simp [lies_nil]
        have HN : Hid (Norm (-1) lo) := HU.out.no
        clear HU
        go_wp2_with fail
        go_ret
        exact ⟨lo, _, _, _, HN.out, HM.out, rfl, ho, hB⟩
    · have hla : la = [] := List.eq_nil_of_length_eq_zero (by have := ha.len; omega)
      subst hla
      have HM : Hid (∀ q, Lies lo q ↔ Lies l q ∧ Lies k q) := fun q => by rw [← HU.out.mem q]; simp [lies_nil]
      have HN : Hid (Norm (-1) lo) := HU.out.no
      clear HU
      go_wp2_with fail
      go_ret
      exact ⟨lo, _, _, _, HN.out, HM.out, rfl, ho, hB⟩
end Go.Proofs.Ytjnglghhcbdpmaa
