import Derived.Test.YtchkeckblpmehaaWbI
import Derived.Test.YtchkeckblpmehaaWfB
/-! Ready: the loop over what is ready. -/
namespace Go.Proofs.Ytchkeckblpmehaa
open Go.RowKit Go.Lib
set_option maxRecDepth 100000

set_option maxHeartbeats 1000000 in
theorem readyI (q : Nat) (w : World) : Calls Try.prog 27 #[.pointer (some ⟨q, 0, none⟩)] w fun e w' => e = .returned (.func (.func 30) #[] #[.pointer (some ⟨w.heap.size, 0, none⟩)]) ∧ w' = w.alloc (.cells #[.pointer (some ⟨q, 0, none⟩)] 29) := by
  go_enter Try.func27, Try.ntmps27
  go_wp2_with fail
  go_ret
  exact ⟨rfl, rfl⟩
/-- The window behind a sequence: its box, its blocks. -/
def AtI (bx q b : Nat) (S : Wn Int) (W : World) : Prop := WinI W q b S ∧ W.heap[bx]? = some (.cells #[.pointer (some ⟨q, 0, none⟩)] 29) ∧ S.nx + (S.L.length : Int) ≤ 4611686018427387904
def encI (x : Int × Int) : Array Value := #[.int .i64 x.1, .int .i64 x.2]
theorem AtI.below {bx q b : Nat} {S : Wn Int} {W W' : World} (h : AtI bx q b S W) (hb : Below W.heap.size W W') : AtI bx q b S W' := ⟨h.1.below hb, (hb.block _ (Array.getElem?_eq_some_iff.1 h.2.1).1).trans h.2.1, h.2.2⟩
set_option maxHeartbeats 4000000 in
theorem seqI (bx q b n : Nat) : SeqM Fence.wide n Try.prog 30 #[.pointer (some ⟨bx, 0, none⟩)] encI (AtI bx q b) (nxtW (α := Int)) (Wb q b) := by
  intro l J Jx k0 s0 W hA hJb hJx hY h0
  have HA : Hid (∀ k s A, J k s A → AtI bx q b s A) := hA
  have HJ : Hid ((∀ k s A B, J k s A → Below A.heap.size A B → J k s B) ∧ (∀ A B, Jx A → Below A.heap.size A B → Jx B)) := ⟨hJb, hJx⟩
  have HY : Hid (∀ m k s x s' W1 W2, J k s W1 → nxtW s = some (x, s') → AtI bx q b s' W2 → Chg (Wb q b) W1 W2 → YieldAt Fence.wide m Try.prog l (encI x) W2 fun e W' => (e = .returned (.bool true) ∧ ∃ k' s2, k' < k ∧ J k' s2 W') ∨ (e = .returned (.bool false) ∧ Jx W')) := hY
  have H0 : Hid (J k0 s0 W) := h0
  clear hA hJb hJx hY h0
  refine callsIn_of_wp Try.func30 rfl trivial ?_ rfl
  simp only [Try.ntmps30, List.size_toArray, List.length_cons, List.length_nil, Nat.reduceAdd, Nat.reduceSub, Array.replicate_succ, Array.replicate_zero, List.push_toArray, List.append_toArray, List.nil_append, List.cons_append]
  gi_wp2
  gi_loopw [3, 4, 5] (fun _ _ _ wr => ∃ k s, J k s wr) (fun _ _ _ wr => least (fun k => ∃ s, J k s wr))
  case atStart => exact ⟨k0, s0, H0.out⟩
  case round =>
    obtain ⟨k1, s1, hJ1⟩ := hrel
    have hls := least_spec (p := fun k => ∃ s, J k s wr) ⟨s1, hJ1⟩
    obtain ⟨k, hk⟩ : ∃ k, least (fun k => ∃ s, J k s wr) = k := ⟨_, rfl⟩
    rw [hk] at hls
    obtain ⟨⟨s, hJ⟩, _⟩ := hls
    have hAt := HA.out k s wr hJ
    have HK : Hid (least (fun k => ∃ s, J k s wr) = k) := hk
    have HJ1 : Hid (J k s wr) := hJ
    have cb := box1 hAt.2.1
    obtain ⟨c0, c1, c2⟩ := box3 hAt.1.box
    have HAT : Hid (AtI bx q b s wr) := hAt
    clear hAt hJ hk hJ1
    cases hh : hasN s.L s.nx with
    | false =>
      have HP : Hid (Calls Try.prog 12 #[.pointer (some ⟨q, 0, none⟩)] wr fun e w' => e = .returned (.tuple #[.int .i64 0, .int .i64 15]) ∧ ∃ k, w' = wr.drewN k) := by
        have := peekI HAT.out.1
        rw [getN_none hh, hh] at this
        exact this
      have HH : Hid (nxtW s = none) := by show nxtW s = none; simp [nxtW, getN_none hh]
      clear hh
      gi_wp2
      refine ⟨trivial, fun h => (by cases h), (callsIn_wide.2 HP.out).mono ?_⟩
      rintro e w2 ⟨rfl, kk, rfl⟩
      gi_wp2
      refine bodyPost_ret (results_none rfl _ _ _) rfl ?_
      exact ⟨⟨_, rfl⟩, .inl ⟨k, s, HJ.out.1 _ _ _ _ HJ1.out (below_drewN (Below.refl _ _) _), HH.out⟩⟩
    | true =>
      obtain ⟨v, hv⟩ := getN_of hh
      have HP : Hid (Calls Try.prog 12 #[.pointer (some ⟨q, 0, none⟩)] wr fun e w' => e = .returned (.tuple #[.int .i64 v, .int .i64 0]) ∧ ∃ k, w' = wr.drewN k) := by
        have := peekI HAT.out.1
        rw [hv, hh] at this
        exact this
      have HN : Hid (nxtW s = some ((s.nx, v), passS s)) := nxtW_of hv
      have HH : Hid (hasN s.L s.nx = true) := hh
      clear hh hv
      gi_wp2
      refine ⟨trivial, fun h => (by cases h), (callsIn_wide.2 HP.out).mono ?_⟩
      rintro e w2 ⟨rfl, kk, hw2⟩
      have hb2 : Below wr.heap.size wr w2 := by subst hw2; exact below_drewN (Below.refl _ _) _
      have H2 : Hid (AtI bx q b s w2 ∧ Below wr.heap.size wr w2) := ⟨HAT.out.below hb2, hb2⟩
      have cb2 := box1 H2.out.1.2.1
      clear hw2 hb2 cb c0 c1 c2
      gi_wp2
      refine ⟨trivial, fun h => (by cases h), (callsIn_wide.2 (passI H2.out.1.1 (by have := H2.out.1.2.2; omega))).mono ?_⟩
      rintro e w3 ⟨rfl, k1, k2, k3⟩
      have H3 : Hid (AtI bx q b (passS s) w3 ∧ Chg (Wb q b) wr w3) := by
        refine ⟨⟨k1, k2.block H2.out.1.2.1 (fun h => ?_), ?_⟩, (Chg.of_below H2.out.2).trans k2⟩
        · have h1 := H2.out.1.1.box
          have h2 := H2.out.1.2.1
          rcases h with rfl | rfl
          · rw [h1] at h2; simp at h2
          · obtain ⟨xs, ck, hm, _⟩ := H2.out.1.1.map
            have := hm.heap.symm.trans h2
            simp at this
        · have h1 := delN_length H2.out.1.1.nodup HH.out
          have h2 := H2.out.1.2.2
          simp only [passS, HH.out, if_true]
          omega
      clear k1 k2 k3 H2 cb2
      obtain ⟨fn, tmps, asg, bd, hy, hR⟩ := HY.out (n - 1) k s (s.nx, v) (passS s) wr w3 HJ1.out HN.out H3.out.1 H3.out.2
      simp only [encI] at hy
      have HR := hR
      clear hR
      gi_wp2
      refine ⟨fun h => (by cases h), HR.mono ?_⟩
      rintro e W4 (⟨rfl, k', s2, hk', hJ4⟩ | ⟨rfl, hx4⟩)
      · gi_wp2
        go_roundw
        case rel => exact ⟨k', s2, hJ4⟩
        case measure =>
          have := (least_spec (p := fun k => ∃ s, J k s W4) ⟨s2, hJ4⟩).2 k' ⟨s2, hJ4⟩
          rw [HK.out]
          omega
      · gi_wp2
        refine bodyPost_ret (results_none rfl _ _ _) rfl ?_
        exact ⟨⟨_, rfl⟩, .inr hx4⟩
end Go.Proofs.Ytchkeckblpmehaa
