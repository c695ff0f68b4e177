import Derived.Test.YtokkodkhkpgebaaDoorXfC
/-! xform.Cross of one operation and none. -/
namespace Go.Proofs.YtokkodkhkpgebaaDoor
open Go.RowKit Go.Lib
set_option maxRecDepth 100000

theorem rw_empty {α : Type} {f : α → List Value} {k : Nat} {w : World} (b : Option Addr) {c : Nat} (hc : c ≤ maxLen) : Rw f k w b 0 c [] := ⟨rfl, ⟨Nat.zero_le _, hc⟩, fun h => absurd h (Nat.lt_irrefl _)⟩
set_option maxHeartbeats 1000000 in
/-- slices.Clone of a slice without elements, wherever it points. -/
theorem cloneOps_none {w : World} {b : Option Addr} {c : Nat} (hc : c ≤ maxLen) (hb : b = none → c = 0) :
    Calls Tryd.prog 47 #[.slice b 0 c] w fun e w' => ∃ a' cap', e = .returned (.slice a' 0 cap') ∧ OwnF opF 9 70 w' w.heap.size (.slice a' 0 cap') [] ∧ Below w.heap.size w w' := by
  cases b with
  | none =>
    obtain rfl := hb rfl
    exact cloneOps_any (ownF_nil w 0) (by omega)
  | some ad =>
    have hb0 : Below w.heap.size w (w.alloc (.cells #[] 70)) := (Below.refl _ _).alloc (Nat.le_refl _) _
    have ho0 : OwnF opF 9 70 (w.alloc (.cells #[] 70)) w.heap.size (.slice (some ⟨w.heap.size, 0, none⟩) 0 0) [] := ⟨rfl, .inr ⟨w.heap.size, 0, #[], rfl, Nat.le_refl _, alloc_last _ _ _ rfl, Nat.le_refl _, by decide, rfl, rfl⟩⟩
    obtain ⟨a', cap', w', hr, ho, hbw, _⟩ := appendF_all kindO layO ho0 (by simp) (rw_empty (some ad) hc) (by simp) (by simp) 75
    simp only [List.length_nil, List.nil_append, Nat.zero_add] at hr ho
    have hB := hb0.trans hbw
    have en := fun w => run_eql_slice_nil (some ad) 0 c Tryd.underlying75 w
    simp only [Option.isNone_some] at en
    clear ho0 hbw
    go_enter Tryd.func47, Tryd.ntmps47
    go_wp2_with (at_builtin; refine wpList_append_hr rfl _ _ 75 rfl _ _ rfl rfl hr ?_)
    go_ret
    exact ⟨_, _, rfl, ho, hB⟩

set_option maxHeartbeats 4000000 in
theorem crossEnd_any {w : World} {Bf : Nat} {a : Option Addr} {cap : Nat} {x : OpM} (hF : OwnF opF 9 70 w Bf (.slice a 1 cap) [x]) {b : Option Addr} {c : Nat} (hc : c ≤ maxLen) (hb : b = none → c = 0) (rx : Rdy w x) (ox : ownP x.1 = 0) (hw : Bar w) :
    Calls Tryd.prog 33 #[.slice a 1 cap, .slice b 0 c] w fun e w' => ∃ a1 c1 a2 c2 x', e = .returned (.tuple #[.slice a1 1 c1, .slice a2 0 c2, .int .i64 0]) ∧ OwnF opF 9 70 w' w.heap.size (.slice a1 1 c1) [x'] ∧ x'.1 = x.1 ∧ OwnF opF 9 70 w' w.heap.size (.slice a2 0 c2) [] ∧ OwnF rangeV 2 132 w' w.heap.size (.slice x'.2.1 x'.2.2.1 x'.2.2.2) x'.1.l ∧ Below w.heap.size w w' := by
  have HE1 : Hid (∀ W, Below w.heap.size w W → Calls Tryd.prog 46 #[.slice a 1 cap] W fun e w' => e = .returned (.int .i64 0) ∧ Below W.heap.size W w') := fun W hbw => by
    have := ownErrors_any ((hF.rw_ layO).below hbw) (fun y hy => by obtain rfl := List.mem_singleton.1 hy; exact ⟨(rx.below hbw).rng, by have := rx.size; omega⟩) (hw.below hbw)
    rw [show errs [x] = 0 by simp [errs, firstErr, ox]] at this
    exact this
  have HE2 : Hid (∀ W, Below w.heap.size w W → Calls Tryd.prog 46 #[.slice b 0 c] W fun e w' => e = .returned (.int .i64 0) ∧ Below W.heap.size W w') := fun W hbw => ownErrors_any (rw_empty b hc) (fun y hy => by simp at hy) (hw.below hbw)
  have HC1 : Hid (∀ W, Below w.heap.size w W → Calls Tryd.prog 47 #[.slice a 1 cap] W fun e w' => ∃ a' cap', e = .returned (.slice a' 1 cap') ∧ OwnF opF 9 70 w' W.heap.size (.slice a' 1 cap') [x] ∧ Below W.heap.size W w') := fun W hbw => cloneOps_any (hF.below hbw) (by omega)
  have HC2 : Hid (∀ W, Calls Tryd.prog 47 #[.slice b 0 c] W fun e w' => ∃ a' cap', e = .returned (.slice a' 0 cap') ∧ OwnF opF 9 70 w' W.heap.size (.slice a' 0 cap') [] ∧ Below W.heap.size W w') := fun W => cloneOps_none hc hb
  have HRX : Hid (Rdy w x) := rx
  clear hF rx ox hw hb
  go_enter Tryd.func33, Tryd.ntmps33
  go_wp2_with fail
  refine (HE1.out _ (Below.refl _ _)).mono ?_
  rintro e w1 ⟨rfl, b1⟩
  go_wp2_with fail
  refine (HE2.out _ b1).mono ?_
  rintro e w2 ⟨rfl, h2⟩
  have b2 := b1.trans (h2.mono b1.size)
  go_wp2_with fail
  refine (HC1.out _ b2).mono ?_
  rintro e w3 ⟨a1, c1, rfl, ho1, h3⟩
  have b3 := b2.trans (h3.mono b2.size)
  go_wp2_with fail
  refine (HC2.out _).mono ?_
  rintro e w4 ⟨a2, c2, rfl, ho2, h4⟩
  have b4 := b3.trans (h4.mono b3.size)
  have HO1 : Hid (OwnF opF 9 70 w4 w2.heap.size (.slice a1 1 c1) [x]) := ho1.below h4
  have HO2 : Hid (OwnF opF 9 70 w4 w3.heap.size (.slice a2 0 c2) []) := ho2
  have HL1 : Hid (∀ g, (Value.slice a1 1 c1).ownBlock = some g → g < w3.heap.size) := fun g hg => ho1.lt hg
  have s2 := b2.size
  have s3 := b3.size
  have s32 := h3.size
  have s4 := h4.size
  clear ho1 ho2 b1 h2 h3 h4 HE1 HE2 HC1 HC2
  go_wp2_with fail
  go_loopw [4, 5, 6, 7, 8, 25] (fun v4 v5 v6 _ _ v25 W => v4 = .slice a1 1 c1 ∧ v5 = .slice a2 0 c2 ∧ v25 = .int .i64 0 ∧ v6 = .int .i64 0 ∧ W = w4) (fun _ _ _ _ _ _ _ => 0)
  case atStart => exact ⟨rfl, rfl, rfl, rfl, rfl⟩
  case round =>
    obtain ⟨rfl, rfl, rfl, rfl, rfl⟩ := hrel
    have HG1 : Hid (∀ ad, a1 = some ad → w2.heap.size ≤ ad.block ∧ ad.block < w3.heap.size) := fun ad e => by
      subst e
      exact ⟨HO1.out.ge rfl, HL1.out _ rfl⟩
    have HA1 : Hid (Calls Tryd.prog 49 #[.slice a1 1 c1] wr fun e w' => ∃ L', e = .returned (.slice a1 1 c1) ∧ OwnF opF 9 70 w' w2.heap.size (.slice a1 1 c1) L' ∧ L'.map (·.1) = [x].map (·.1) ∧ OwnRs w' wr.heap.size L' ∧ Alt a1 wr w') := allApart_any HO1.out (fun y hy => by
      obtain rfl := List.mem_singleton.1 hy
      exact ⟨HRX.out.below b4, rng_apt HRX.out.rng (fun ad e => by have := (HG1.out ad e).1; omega)⟩)
    have HA2 : Hid (∀ W, Alt a1 wr W → Calls Tryd.prog 49 #[.slice a2 0 c2] W fun e w' => ∃ L', e = .returned (.slice a2 0 c2) ∧ OwnF opF 9 70 w' w3.heap.size (.slice a2 0 c2) L' ∧ L'.map (·.1) = ([] : List OpM).map (·.1) ∧ OwnRs w' W.heap.size L' ∧ Alt a2 W w') := fun W hA => allApart_any (hA.own HO2.out (fun g ad0 e e0 => by
        have h1 := (HG1.out ad0 e0).2
        have h2 := HO2.out.ge e
        omega)) (fun y hy => by simp at hy)
    go_wp2_with fail
    refine HA1.out.mono ?_
    rintro e w5 ⟨L1, rfl, ho1, hl1, hr1, hA1⟩
    have HA3 := HA2.out w5 hA1
    have HP1 : Hid (OwnF opF 9 70 w5 w2.heap.size (.slice a1 1 c1) L1 ∧ L1.map (·.1) = [x].map (·.1) ∧ OwnRs w5 wr.heap.size L1) := ⟨ho1, hl1, hr1⟩
    clear ho1 hl1 hr1 HA1 HA2
    go_wp2_with fail
    refine HA3.mono ?_
    rintro e w6 ⟨L2, rfl, ho2, hl2, hr2, hA2⟩
    have HFIN : Hid (∃ x', OwnF opF 9 70 w6 w.heap.size (.slice a1 1 c1) [x'] ∧ x'.1 = x.1 ∧ OwnF opF 9 70 w6 w.heap.size (.slice a2 0 c2) [] ∧ OwnF rangeV 2 132 w6 w.heap.size (.slice x'.2.1 x'.2.2.1 x'.2.2.2) x'.1.l ∧ Below w.heap.size w w6) := by
      obtain ⟨ho1, hl1, hr1⟩ := HP1.out
      obtain rfl : L2 = [] := by simpa using hl2
      obtain ⟨x', rfl⟩ : ∃ x', L1 = [x'] := List.length_eq_one_iff.1 (by have := congrArg List.length hl1; rw [List.length_map, List.length_map] at this; exact this)
      have hx' : x'.1 = x.1 := by
        rw [List.map_cons, List.map_cons, List.map_nil] at hl1
        exact List.head_eq_of_cons_eq hl1
      have hs5 := hA1.1.size
      have hG2 : ∀ ad0, a2 = some ad0 → w3.heap.size ≤ ad0.block ∧ ad0.block < wr.heap.size := fun ad0 e0 => by
        subst e0
        exact ⟨HO2.out.ge rfl, HO2.out.lt rfl⟩
      refine ⟨x', (hA2.own ho1 (fun g ad0 e e0 => ?_)).mono s2, hx', ho2.mono s3, (hA2.own (hr1 x' (by simp)) (fun g ad0 e e0 => ?_)).mono (by omega), (b4.trans (hA1.below (by omega) (fun ad e => by have := (HG1.out ad e).1; omega))).trans (hA2.below (by omega) (fun ad e => by have := (hG2 ad e).1; omega))⟩
      · have h1 := HL1.out g e
        have h2 := (hG2 ad0 e0).1
        omega
      · have h1 := (hr1 x' (by simp)).ge e
        have h2 := (hG2 ad0 e0).2
        omega
    clear ho2 hl2 hr2 HA3 HP1
    go_wp2_with fail
    refine bodyPost_ret (v := .tuple #[.slice a1 1 c1, .slice a2 0 c2, .int .i64 0]) (by simp [results, Tryd.results33, go_sem]) rfl ?_
    obtain ⟨x', hfin⟩ := HFIN.out
    first | exact ⟨_, _, _, _, x', rfl, hfin⟩ | exact ⟨_, _, _, _, rfl, x', hfin⟩
end Go.Proofs.YtokkodkhkpgebaaDoor
