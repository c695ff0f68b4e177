import Derived.Test.YtmdnmhdimfglaaaGreatDoorXfC
import Derived.Test.YtmdnmhdimfglaaaGreatDoorGaJ
namespace Go.Proofs.YtmdnmhdimfglaaaGreatDoor
open Go.RowKit Go.Lib
set_option maxRecDepth 100000
theorem keep_ranges {w4 w6 : World} {B : Nat} {v0 : Value} {L : List OpM} (ho4 : OwnF opF 9 34 w4 B v0 L) (hkp : Keeps w4 w6 v0) {C : Nat} {v : Value} {l : List (Int × Int)} (hv : OwnF rangeV 2 91 w4 C v l) : OwnF rangeV 2 91 w6 C v l := by
  refine ⟨hv.1, ?_⟩
  rcases hv.2 with h0 | ⟨gx, cx, cur, e, h1, hh, rest⟩
  · exact .inl h0
  · refine .inr ⟨gx, cx, cur, e, h1, ?_, rest⟩
    rw [hkp gx (Array.getElem?_eq_some_iff.1 hh).1 (fun e3 => ?_)]
    · exact hh
    · rcases ho4.2 with ⟨e4, _⟩ | ⟨gy, cy, cur2, e4, _, hh2, _⟩
      · rw [e4] at e3; simp [Value.ownBlock] at e3
      · rw [e4] at e3
        simp [Value.ownBlock] at e3
        subst e3
        rw [hh] at hh2
        simp at hh2
set_option maxHeartbeats 8000000 in
theorem copyRun_any {w : World} {a : Option Addr} {m cap : Nat} {L : List OpM} (h : Rw opF 9 w a m cap L) (hL : ∀ x ∈ L, Rdy w x) (hm : m ≤ 1048576) :
    Calls Tryz.prog 54 #[.slice a m cap] w fun e w' => ∃ va vc L', e = .returned (.slice va m vc) ∧ OwnF opF 9 34 w' w.heap.size (.slice va m vc) L' ∧ L'.map (·.1) = L.map (·.1) ∧ OwnRs w' w.heap.size L' ∧ Below w.heap.size w w' := by
  have hln := h.len
  have HH : Hid (Rw opF 9 w a m cap L) := h
  have HL : Hid (∀ x ∈ L, Rdy w x) := hL
  clear h hL
  go_enter Tryz.func54, Tryz.ntmps54
  go_wp2_with fail
  go_loopw [3, 4] (fun v vi W => ∃ (j : Nat) (L' : List OpM), vi = .int .i64 j ∧ j ≤ m ∧ L'.length = j ∧ OwnF opF 9 34 W w.heap.size v L' ∧ Hid (L'.map (·.1) = (L.take j).map (·.1) ∧ OwnRs W w.heap.size L') ∧ Below w.heap.size w W) (fun _ vi _ => m - (RowKit.intOf vi).toNat)
  case atStart => exact ⟨0, [], rfl, Nat.zero_le _, rfl, ownF_nil _ _, ⟨by simp, fun x hx => by cases hx⟩, Below.refl _ _⟩
  case round =>
    obtain ⟨j, L', rfl, hjm, hLl, ho, HP, hb⟩ := hrel
    by_cases hj : j < m
    · obtain ⟨g, off, x, rfl, hg, hx, c0, c1, c2, c3, c4, c5, c6, c7, c8⟩ := HH.out.at9 hb j hj
      have hrd := (HL.out x (List.mem_of_getElem? hx)).below hb
      have HCp : Hid (Calls Tryz.prog 22 #[opVal x.1 (.slice x.2.1 x.2.2.1 x.2.2.2)] wr fun e w' => ∃ a' cap', e = .returned (opVal x.1 (.slice a' x.2.2.1 cap')) ∧ OwnF rangeV 2 91 w' wr.heap.size (.slice a' x.2.2.1 cap') x.1.l ∧ Below wr.heap.size wr w') := (copy_any hrd.rng (by have := hrd.rng.len; have := hrd.few; omega)).mono fun e2 w5 ⟨a', cap', he, ho5, hb5⟩ => ⟨a', cap', he, ho5.mono (by first | exact Nat.le_refl _ | omega), hb5⟩
      have hmap : (L.take (j + 1)).map (·.1) = (L.take j).map (·.1) ++ [x.1] := by
        obtain ⟨hl, rfl⟩ := List.getElem?_eq_some_iff.1 hx
        rw [List.take_succ_eq_append_getElem hl, List.map_append]
        rfl
      have b1 : (j : Int) < (m : Int) := by omega
      have b0 : (0 : Int) ≤ (j : Int) := by omega
      obtain ⟨ao, co, rfl⟩ := ho.shape
      clear hrd hx
      obtain ⟨⟨oc, on_, ok, op_, os, ol, otc, otn, oo⟩, xa, xm, xcap⟩ := x
      simp only [opVal] at *
      go_wp2_with fail
      refine HCp.out.mono ?_
      rintro e2 w4 ⟨va, vc, rfl, hoy, hb4⟩
      have hb5 := hb.trans (hb4.mono hb.size)
      have ho4 := ho.below hb4
      obtain ⟨g5, cap5, w6, hr, ho6, hb6, hkp, _, _⟩ := appendF_one kindO layO ho4 hb5.size (⟨oc, on_, ok, op_, os, ol, otc, otn, oo⟩, (va, xm, vc)) #[.int .i64 oc, .int .i64 on_, .int .i64 ok, .int .i64 op_, .string os, .slice va xm vc, .int .i64 otc, .int .i64 otn, .bool oo] rfl 34 (by omega) (by omega) 23
      have hb7 := hb5.trans hb6
      have HFIN : Hid ((L' ++ [((⟨oc, on_, ok, op_, os, ol, otc, otn, oo⟩ : OpV), ((va, xm, vc) : Option Addr × Nat × Nat))]).map (·.1) = (L.take (j + 1)).map (·.1) ∧ OwnRs w6 w.heap.size (L' ++ [(⟨oc, on_, ok, op_, os, ol, otc, otn, oo⟩, (va, xm, vc))])) := by
        refine ⟨by rw [List.map_append, HP.out.1, hmap]; rfl, fun y hy => ?_⟩
        rcases List.mem_append.1 hy with hy | hy
        · exact keep_ranges ho4 hkp ((HP.out.2 y hy).below hb4)
        · simp only [List.mem_singleton] at hy
          subst hy
          exact (keep_ranges ho4 hkp hoy).mono hb.size
      rw [hLl] at hr ho6
      have HO6 : Hid (OwnF opF 9 34 w6 w.heap.size (.slice (some ⟨g5, 0, none⟩) (j + 1) cap5) (L' ++ [(⟨oc, on_, ok, op_, os, ol, otc, otn, oo⟩, (va, xm, vc))])) := ho6
      clear ho4 ho6 hb5 hb6 hkp hoy hb4 HP ho HCp c0 c1 c2 c3 c4 c5 c6 c7 c8 hmap
      go_wp2_with (at_builtin; refine wpList_append_hr rfl _ _ 23 rfl _ _ rfl rfl hr ?_)
      go_roundw
      case rel => exact ⟨j + 1, _, by go_num, by omega, by simp [hLl], HO6.out, HFIN, hb7⟩
      case measure => simp [RowKit.intOf]; omega
    · obtain rfl : j = m := by omega
      obtain ⟨ao, co, rfl⟩ := ho.shape
      rw [hLl] at ho ⊢
      have HO : Hid (OwnF opF 9 34 wr w.heap.size (.slice ao j co) L') := ho
      have HF : Hid (L'.map (·.1) = L.map (·.1) ∧ OwnRs wr w.heap.size L') := ⟨by rw [HP.out.1, List.take_of_length_le (by omega)], HP.out.2⟩
      have b1 : decide ((j : Int) < (j : Int)) = false := decide_eq_false (by omega)
      clear ho HP
      go_wp2_with fail
      go_ret
      exact ⟨_, _, rfl, L', HO.out, HF.out.1, HF.out.2, hb⟩
end Go.Proofs.YtmdnmhdimfglaaaGreatDoor
