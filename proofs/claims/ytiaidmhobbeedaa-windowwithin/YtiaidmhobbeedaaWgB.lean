import Derived.Test.YtiaidmhobbeedaaWgA
import Derived.Test.YtiaidmhobbeedaaWhL
/-! WindowApart. -/
namespace Go.Proofs.Ytiaidmhobbeedaa
open Go.RowKit Go.Lib
set_option maxRecDepth 100000

theorem box4 {W : World} {b : Nat} {T : TypeId} {v0 v1 v2 v3 : Value} (h : W.heap[b]? = some (.cells #[v0, v1, v2, v3] T)) : W.cell? ⟨b, 0, none⟩ = some v0 ∧ W.cell? ⟨b, 1, none⟩ = some v1 ∧ W.cell? ⟨b, 2, none⟩ = some v2 ∧ W.cell? ⟨b, 3, none⟩ = some v3 := by
  simp only [Lib.cell_of_heap h]
  exact ⟨rfl, rfl, rfl, rfl⟩
/-- Two windows of texts in one world above another. -/
structure TwoT (W0 W : World) (q1 b1 q2 b2 : Nat) (S1 S2 : Wn ByteArray) : Prop where
  one : WinT W q1 b1 S1
  two : WinT W q2 b2 S2
  ap : ¬ Wb q1 b1 q2 ∧ ¬ Wb q1 b1 b2 ∧ ¬ Wb q2 b2 q1 ∧ ¬ Wb q2 b2 b1
  chg : Chg (fun g => Wb q1 b1 g ∨ Wb q2 b2 g) W0 W
theorem TwoT.put1 {W0 W W' : World} {q1 b1 q2 b2 : Nat} {S1 S2 S : Wn ByteArray} (h : TwoT W0 W q1 b1 q2 b2 S1 S2) (h1 : WinT W' q1 b1 S) (hC : Chg (Wb q1 b1) W W') : TwoT W0 W' q1 b1 q2 b2 S S2 :=
  ⟨h1, h.two.chg hC h.ap.1 h.ap.2.1, h.ap, h.chg.trans (hC.mono fun _ _ hg => .inl hg)⟩
theorem TwoT.put2 {W0 W W' : World} {q1 b1 q2 b2 : Nat} {S1 S2 S : Wn ByteArray} (h : TwoT W0 W q1 b1 q2 b2 S1 S2) (h1 : WinT W' q2 b2 S) (hC : Chg (Wb q2 b2) W W') : TwoT W0 W' q1 b1 q2 b2 S1 S :=
  ⟨h.one.chg hC h.ap.2.2.1 h.ap.2.2.2, h1, h.ap, h.chg.trans (hC.mono fun _ _ hg => .inr hg)⟩
theorem TwoT.below {W0 W W' : World} {q1 b1 q2 b2 : Nat} {S1 S2 : Wn ByteArray} (h : TwoT W0 W q1 b1 q2 b2 S1 S2) (hb : Below W.heap.size W W') : TwoT W0 W' q1 b1 q2 b2 S1 S2 :=
  ⟨h.one.below hb, h.two.below hb, h.ap, h.chg.trans (Chg.of_below hb)⟩
theorem below_drewT {W W' : World} {k : Nat} (h : W' = W.drewN k) : Below W.heap.size W W' := by subst h; exact below_drewN (Below.refl _ _) _

theorem mk10_step {k : Nat} {f : Int → ByteArray} {l : List Int} {i : Nat} {x : Int} (h : l[i]? = some x) : mk10 k f (l.take (i + 1)) = mk10 k f (l.take i) ++ [((k : Int) + x, f x)] := by
  rw [List.take_add_one, h]
  simp [mk10]
theorem not_mem_take {l : List Int} (hd : l.Nodup) {i : Nat} {x : Int} (h : l[i]? = some x) : x ∉ l.take i := by
  intro hm
  obtain ⟨j, hj, hjx⟩ := List.mem_take_iff_getElem.1 hm
  obtain ⟨hi, hix⟩ := List.getElem?_eq_some_iff.1 h
  exact List.pairwise_iff_getElem.1 hd j i (by omega) hi (by omega) (by rw [hjx, hix])
theorem put10 {k m : Nat} {f : Int → ByteArray} {l : List Int} (hd : l.Nodup) (hr : ∀ x ∈ l, 0 ≤ x ∧ x < (m : Int)) {i : Nat} {x : Int} (h : l[i]? = some x) : putE (⟨k, m, mk10 k f (l.take i)⟩ : Wn ByteArray) ((k : Int) + x) = 0 := by
  have hx := hr x (List.mem_of_getElem? h)
  have hn : hasN (mk10 k f (l.take i)) ((k : Int) + x) = false := by
    cases hh : hasN (mk10 k f (l.take i)) ((k : Int) + x) with
    | false => rfl
    | true => exact absurd ((mk10_has k f _ x).1 hh) (not_mem_take hd h)
  have g1 : ¬ ((k : Int) + x < (k : Int)) := by omega
  have g2 : ¬ ((m : Int) ≤ (k : Int) + x - (k : Int)) := by omega
  simp only [putE, hn, g1, g2]
  simp
set_option maxHeartbeats 4000000 in
theorem windowApart_any {w : World} (nx sz st : Int) {a : Option Addr} {tn cap : Nat} {ts : List Int} (ht : Rw intV 1 w a tn cap ts) :
    Calls Try.prog 7 #[.agg #[.int .i64 nx, .int .i64 sz, .slice a tn cap, .int .i64 st]] w fun e w' => e = .returned (.bool true) ∧ Below w.heap.size w w' := by
  obtain ⟨z, hz, _, HP⟩ := pk_nat sz 20 (by omega) (by omega)
  obtain ⟨m, hm⟩ : ∃ m : Nat, m = 1 + z := ⟨_, rfl⟩
  have e1 : IntKind.i64.wrap (1 + (z : Int)) = (m : Int) := by rw [IntWalk.i64_in _ (by omega)]; omega
  have HM : Hid (1 ≤ m ∧ m ≤ 20) := ⟨by omega, by omega⟩
  have HP2 : Hid (∀ w, Calls Try.prog 10 #[.int .i64 sz, .int .i64 20] w fun e w' => e = .returned (.int .i64 (z : Int)) ∧ w' = w) := HP
  have HNW : Hid (∀ w, Calls Try.prog 19 #[.int .i64 10, .int .i64 (m : Int)] w fun e w' => e = .returned (.tuple #[.pointer (some ⟨w.heap.size + 1, 0, none⟩), .int .i64 0]) ∧ WinT w' (w.heap.size + 1) w.heap.size ⟨10, m, []⟩ ∧ Below w.heap.size w w' ∧ w'.heap.size = w.heap.size + 2) := fun w => newT_ok 10 m (by decide) (by decide) (by omega) (by omega) w
  have HTH : Hid (∀ n : Nat, n ≤ 4000000 → ∀ w, Calls Try.prog 21 #[.int .i64 (n : Int)] w fun e w' => e = .returned (.string (thingP n)) ∧ Below w.heap.size w w') := thing_any
  have HTS : Hid (Rw intV 1 w a tn cap ts) := ht
  clear hm hz HP ht
  obtain ⟨W0, hW0⟩ : ∃ W0, w.alloc (.cells #[.int .i64 nx, .int .i64 sz, .slice a tn cap, .int .i64 st] 31) = W0 := ⟨_, rfl⟩
  have hb0 : Below w.heap.size w W0 := by rw [← hW0]; exact (Below.refl _ _).alloc (Nat.le_refl _) _
  have hx0 : W0.heap[w.heap.size]? = some (.cells #[.int .i64 nx, .int .i64 sz, .slice a tn cap, .int .i64 st] 31) := by rw [← hW0]; exact heap_alloc_new _ _
  have HB0 : Hid (Below w.heap.size w W0 ∧ W0.heap[w.heap.size]? = some (.cells #[.int .i64 nx, .int .i64 sz, .slice a tn cap, .int .i64 st] 31)) := ⟨hb0, hx0⟩
  obtain ⟨c0, c1, c2, c3⟩ := box4 hx0
  clear hb0 hx0
  go_enter Try.func7, Try.ntmps7
  go_wp2_with fail
  refine (HP2.out _).mono ?_
  rintro e w1 ⟨rfl, hw1⟩
  obtain rfl := hw1.symm
  clear hw1
  go_wp2_with fail
  refine (HNW.out _).mono ?_
  rintro e w1 ⟨rfl, k1, k2, k3⟩
  have H1 : Hid (WinT w1 (W0.heap.size + 1) W0.heap.size ⟨10, m, []⟩ ∧ Below W0.heap.size W0 w1 ∧ w1.heap.size = W0.heap.size + 2) := ⟨k1, k2, k3⟩
  clear k1 k2 k3 c0 c1 c2 c3
  go_wp2_with fail
  refine (HNW.out _).mono ?_
  rintro e w2 ⟨rfl, k1, k2, k3⟩
  obtain ⟨Q, hQ⟩ : ∃ Q, W0.heap.size = Q := ⟨_, rfl⟩
  have hs1 : w1.heap.size = Q + 2 := by have := H1.out.2.2; omega
  have H2 : Hid (WinT w2 (Q + 1) Q ⟨10, m, []⟩ ∧ WinT w2 (Q + 3) (Q + 2) ⟨10, m, []⟩ ∧ Below Q W0 w2 ∧ w2.heap.size = Q + 4 ∧ W0.heap.size = Q) := by
    rw [hs1] at k1 k2 k3
    have h1 := H1.out
    rw [hQ] at h1
    exact ⟨h1.1.below (by rw [hs1]; exact k2), k1, h1.2.1.trans (k2.mono (by omega)), k3, hQ⟩
  have hx2 : w2.heap[w.heap.size]? = _ := (H2.out.2.2.1.block _ (by have := HB0.out.1; have h3 := (Array.getElem?_eq_some_iff.1 HB0.out.2).1; omega)).trans HB0.out.2
  obtain ⟨c0, c1, c2, c3⟩ := box4 hx2
  have HX2 : Hid (w2.heap[w.heap.size]? = some (.cells #[.int .i64 nx, .int .i64 sz, .slice a tn cap, .int .i64 st] 31)) := hx2
  clear k1 k2 k3 H1 hx2
  rw [hs1, hQ]
  have hs1' : Hid (w1.heap.size = Q + 2) := hs1
  clear hs1 hQ
  go_wp2_with fail
  refine (come_any HM.out.1 (by have := HM.out.2; omega) (HTS.out.below (HB0.out.1.trans (H2.out.2.2.1.mono (by have h3 := HB0.out.1.size; have := H2.out.2.2.2.2; omega))))).mono ?_
  rintro e w3 hcm
  obtain ⟨v, l, rfl, hl1, hl2, hl3, hl4, hl5⟩ := hcm
  obtain ⟨va, vc, rfl⟩ := hl1.shape
  obtain ⟨q1, hq1⟩ : ∃ q1, q1 = Q + 1 := ⟨_, rfl⟩
  obtain ⟨q2, hq2⟩ : ∃ q2, q2 = Q + 2 + 1 := ⟨_, rfl⟩
  obtain ⟨b2, hb2⟩ : ∃ b2, b2 = Q + 2 := ⟨_, rfl⟩
  have HT0 : Hid (TwoT w3 w3 q1 Q q2 b2 ⟨10, m, []⟩ ⟨10, m, []⟩) := by
    have h2 := H2.out
    rw [show Q + 3 = Q + 2 + 1 from rfl, ← hq1, ← hq2, ← hb2] at h2
    exact ⟨h2.1.below hl5, h2.2.1.below hl5, ⟨by simp only [Wb]; omega, by simp only [Wb]; omega, by simp only [Wb]; omega, by simp only [Wb]; omega⟩, Chg.refl _ _⟩
  have HL : Hid (OwnF intV 1 3 w3 w2.heap.size (.slice va l.length vc) l ∧ l.length = m ∧ l.Nodup ∧ (∀ x ∈ l, 0 ≤ x ∧ x < (m : Int)) ∧ w2.heap.size = Q + 4 ∧ Below w.heap.size w w3 ∧ w.heap.size ≤ Q) := by
    have h2 := H2.out
    have h0 := HB0.out.1
    have h3 := h0.size
    exact ⟨hl1, hl2, hl3, hl4, h2.2.2.2.1, (h0.trans (h2.2.2.1.mono (by omega))).trans (hl5.mono (by omega)), by omega⟩
  rw [← hq1, ← hq2]
  have HQ : Hid (q1 = Q + 1 ∧ q2 = Q + 2 + 1 ∧ b2 = Q + 2) := ⟨hq1, hq2, hb2⟩
  obtain ⟨ln, hln⟩ : ∃ ln, l.length = ln := ⟨_, rfl⟩
  have hlm : ln = m := by omega
  rw [hln] at HL ⊢
  subst hlm
  clear hl1 hl2 hl3 hl4 hl5 hq1 hq2 hb2 H2 c0 c1 c2 c3 HX2 hs1' hW0 HB0 HTS HNW HP2 e1
  go_wp2_with fail
  go_loopw [9, 10, 11] (fun vi _ _ W => ∃ i : Nat, vi = .int .i64 (i : Int) ∧ i ≤ ln ∧ Hid (TwoT w3 W q1 Q q2 b2 ⟨10, ln, mk10 10 (fun x => thingP x.toNat) (l.take i)⟩ ⟨10, ln, mk10 10 (fun x => thingP (100 + x).toNat) (l.reverse.take i)⟩)) (fun vi _ _ _ => ln - (RowKit.intOf vi).toNat)
  case atStart => exact ⟨0, rfl, Nat.zero_le _, (by show TwoT _ _ _ _ _ _ _ _; simpa [mk10] using HT0.out)⟩
  case round =>
    obtain ⟨i, rfl, hi, HT⟩ := hrel
    by_cases hil : i < ln
    · have g1 : (i : Int) < (ln : Int) := by omega
      have hrow := (HL.out.1.rw_ layI)
      obtain ⟨ga, off, x, hva, hgl, hx, hcx⟩ := hrow.at i hil
      subst hva
      obtain ⟨ga2, off2, y, hva2, hgl2, hy, hcy⟩ := hrow.at (ln - 1 - i) (by omega)
      simp only [Option.some.injEq, Addr.mk.injEq, and_true] at hva2
      obtain ⟨rfl, rfl⟩ := hva2
      have hx0 := HL.out.2.2.2.1 x (List.mem_of_getElem? hx)
      have hy0 := HL.out.2.2.2.1 y (List.mem_of_getElem? hy)
      obtain ⟨X, rfl⟩ : ∃ X : Nat, x = (X : Int) := ⟨x.toNat, by omega⟩
      obtain ⟨Y, rfl⟩ : ∃ Y : Nat, y = (Y : Int) := ⟨y.toNat, by omega⟩
      obtain ⟨j2, hj2⟩ : ∃ j2 : Nat, j2 = ln - 1 - i := ⟨_, rfl⟩
      have cX := hcx 0 _ rfl
      have cY := hcy 0 _ rfl
      simp only [Nat.add_zero, Nat.mul_one] at cX cY
      rw [← hj2] at cY hy
      have hga : w2.heap.size ≤ ga := HL.out.1.ge rfl
      have hQ4 := HL.out.2.2.2.2.1
      have hqs := HQ.out
      have HCX : Hid ((∀ W, Chg (fun g => Wb q1 Q g ∨ Wb q2 b2 g) w3 W → W.cell? ⟨ga, off + i, none⟩ = some (.int .i64 (X : Int))) ∧ (∀ W, Chg (fun g => Wb q1 Q g ∨ Wb q2 b2 g) w3 W → W.cell? ⟨ga, off + j2, none⟩ = some (.int .i64 (Y : Int)))) :=
        ⟨fun W hC => (hC.cell (p := ⟨ga, off + i, none⟩) hgl (by simp only [Wb]; omega)).trans cX, fun W hC => (hC.cell (p := ⟨ga, off + j2, none⟩) hgl (by simp only [Wb]; omega)).trans cY⟩
      have cx : wr.cell? ⟨ga, off + i, none⟩ = some (.int .i64 (X : Int)) := HCX.out.1 _ HT.out.chg
      obtain ⟨nA, hnA⟩ : ∃ nA : Int, nA = 10 + (X : Int) := ⟨_, rfl⟩
      obtain ⟨nB, hnB⟩ : ∃ nB : Int, nB = 10 + (Y : Int) := ⟨_, rfl⟩
      obtain ⟨H100, h100⟩ : ∃ h : Nat, h = 100 + Y := ⟨_, rfl⟩
      have hXm : X < 20 := by have := HM.out; omega
      have hYm : Y < 20 := by have := HM.out; omega
      have w1 : IntKind.i64.wrap (10 + (X : Int)) = nA := by rw [IntWalk.i64_in _ (by omega)]; omega
      have w2' : IntKind.i64.wrap (10 + (Y : Int)) = nB := by rw [IntWalk.i64_in _ (by omega)]; omega
      have w3' : IntKind.i64.wrap (100 + (Y : Int)) = (H100 : Int) := by rw [IntWalk.i64_in _ (by omega)]; omega
      obtain ⟨l1, hl1⟩ : ∃ l1 : Nat, l1 = ln - 1 := ⟨_, rfl⟩
      have w4' : IntKind.i64.wrap ((ln : Int) - 1) = (l1 : Int) := by rw [IntWalk.i64_in _ (by have := HM.out; omega)]; omega
      have w5' : IntKind.i64.wrap ((l1 : Int) - (i : Int)) = (j2 : Int) := by rw [IntWalk.i64_in _ (by have := HM.out; omega)]; omega
      have hrev : l.reverse[i]? = some (Y : Int) := by
        rw [List.getElem?_reverse (by omega), hln, ← hj2]; exact hy
      have HNA : Hid (nA ≤ 30 ∧ putE (⟨10, ln, mk10 10 (fun x => thingP x.toNat) (l.take i)⟩ : Wn ByteArray) nA = 0 ∧ mk10 10 (fun x => thingP x.toNat) (l.take (i + 1)) = mk10 10 (fun x => thingP x.toNat) (l.take i) ++ [(nA, thingP X)]) := by
        refine ⟨by omega, ?_, ?_⟩
        · rw [hnA]; exact put10 (k := 10) HL.out.2.2.1 HL.out.2.2.2.1 hx
        · rw [mk10_step hx, hnA]; rfl
      have HNB : Hid (nB ≤ 30 ∧ putE (⟨10, ln, mk10 10 (fun x => thingP (100 + x).toNat) (l.reverse.take i)⟩ : Wn ByteArray) nB = 0 ∧ mk10 10 (fun x => thingP (100 + x).toNat) (l.reverse.take (i + 1)) = mk10 10 (fun x => thingP (100 + x).toNat) (l.reverse.take i) ++ [(nB, thingP H100)] ∧ H100 ≤ 200) := by
        refine ⟨by omega, ?_, ?_, by omega⟩
        · rw [hnB]; exact put10 (k := 10) (List.pairwise_reverse.2 (HL.out.2.2.1.imp fun h => Ne.symm h)) (fun x hx => HL.out.2.2.2.1 x (List.mem_reverse.1 hx)) hrev
        · rw [mk10_step hrev, hnB, h100]
          congr 3
      have g7 : i < l1 + 1 := by omega
      have hj2l : j2 < ln := by omega
      have hln20 : i < 20 := by have := HM.out.2; omega
      have hj2l' : (j2 : Int) < (ln : Int) := by omega
      clear hx hy hrev hcx hcy cX cY hga hQ4 hqs hrow hgl hgl2 hx0 hy0 hnA hnB h100 hl1 hj2
      go_wp2_with fail
      refine wp_region_held_drew (S := (fun W => W.cell? ⟨ga, off + i, none⟩ = some (.int .i64 (X : Int)))) (by kernel_rfl) ?hS1 (fun hHeld => ?rest1)
      case hS1 => exact cx
      refine takeD (i := 0) (d := some 55) (v := ?vT2) rfl rfl (by kernel_rfl) (by kernel_rfl) (by kernel_rfl) (fun _ _ _ h => h) (Or.inl ⟨by rfl, ?hyT2⟩) (by assumption) ?rstT2
      case hyT2 => (intro w hSw; (try dsimp only at hSw); go_simp; (try with_reducible rfl))
      try simp only [Act.put, List.setIfInBounds_toArray, List.set_cons_zero, List.set_cons_succ]
      refine takeD (i := 1) (d := some 56) (v := ?vT3) rfl rfl (by kernel_rfl) (by kernel_rfl) (by kernel_rfl) (fun _ _ _ h => h) (Or.inl ⟨by rfl, ?hyT3⟩) (by assumption) ?rstT3
      case hyT3 => (intro w hSw; (try dsimp only at hSw); go_simp; (try with_reducible rfl))
      try simp only [Act.put, List.setIfInBounds_toArray, List.set_cons_zero, List.set_cons_succ]
      refine takeD (i := 2) (d := some 57) (v := ?vT4) rfl rfl (by kernel_rfl) (by kernel_rfl) (by kernel_rfl) (fun _ _ _ h => h) (Or.inl ⟨by rfl, ?hyT4⟩) (by assumption) ?rstT4
      case hyT4 => (intro w hSw; (try dsimp only at hSw); go_simp; (try with_reducible rfl))
      try simp only [Act.put, List.setIfInBounds_toArray, List.set_cons_zero, List.set_cons_succ]
      refine takeD (i := 3) (d := some 58) (v := ?vT5) rfl rfl (by kernel_rfl) (by kernel_rfl) (by kernel_rfl) (fun _ _ _ h => h) (Or.inl ⟨by rfl, ?hyT5⟩) (by assumption) ?rstT5
      case hyT5 => (intro w hSw; (try dsimp only at hSw); go_simp; (try with_reducible rfl))
      try simp only [Act.put, List.setIfInBounds_toArray, List.set_cons_zero, List.set_cons_succ]
      refine takeD (i := 4) (d := some 59) (v := ?vT6) rfl rfl (by kernel_rfl) (by kernel_rfl) (by kernel_rfl) (fun _ _ _ h => h) (Or.inl ⟨by rfl, ?hyT6⟩) (by assumption) ?rstT6
      case hyT6 => (intro w hSw; (try dsimp only at hSw); go_simp; (try with_reducible rfl))
      try simp only [Act.put, List.setIfInBounds_toArray, List.set_cons_zero, List.set_cons_succ]
      refine takeD (i := 5) (d := some 60) (v := ?vT7) rfl rfl (by kernel_rfl) (by kernel_rfl) (by kernel_rfl) (fun _ _ _ h => h) (Or.inl ⟨by rfl, ?hyT7⟩) (by assumption) ?rstT7
      case hyT7 => (intro w hSw; (try dsimp only at hSw); go_simp; (try with_reducible rfl))
      try simp only [Act.put, List.setIfInBounds_toArray, List.set_cons_zero, List.set_cons_succ]
      refine takeD (i := 6) (d := some 61) (v := ?vT8) rfl rfl (by kernel_rfl) (by kernel_rfl) (by kernel_rfl) (fun _ _ _ h => h) (Or.inl ⟨by rfl, ?hyT8⟩) (by assumption) ?rstT8
      case hyT8 => (intro w hSw; (try dsimp only at hSw); go_simp; (try with_reducible rfl))
      try simp only [Act.put, List.setIfInBounds_toArray, List.set_cons_zero, List.set_cons_succ]
      refine takeD (i := 7) (d := some 62) (v := ?vT9) rfl rfl (by kernel_rfl) (by kernel_rfl) (by kernel_rfl) (fun _ _ _ h => h) (Or.inl ⟨by rfl, ?hyT9⟩) (by assumption) ?rstT9
      case hyT9 => (intro w hSw; (try dsimp only at hSw); go_simp; (try with_reducible rfl))
      try simp only [Act.put, List.setIfInBounds_toArray, List.set_cons_zero, List.set_cons_succ]
      refine takeD (i := 8) (d := some 63) (v := ?vT10) rfl rfl (by kernel_rfl) (by kernel_rfl) (by kernel_rfl) (fun _ _ _ h => h) (Or.inl ⟨by rfl, ?hyT10⟩) (by assumption) ?rstT10
      case hyT10 => (intro w hSw; (try dsimp only at hSw); go_simp; (try with_reducible rfl))
      try simp only [Act.put, List.setIfInBounds_toArray, List.set_cons_zero, List.set_cons_succ]
      refine takeD (i := 9) (d := some 64) (v := ?vT11) rfl rfl (by kernel_rfl) (by kernel_rfl) (by kernel_rfl) (fun _ _ _ h => h) (Or.inl ⟨by rfl, ?hyT11⟩) (by assumption) ?rstT11
      case hyT11 => (intro w hSw; (try dsimp only at hSw); go_simp; (try with_reducible rfl))
      try simp only [Act.put, List.setIfInBounds_toArray, List.set_cons_zero, List.set_cons_succ]
      refine wpAnyH_ready (rs := [10]) (by kernel_rfl) (by simp) ?_
      refine AllReadyH.cons rfl (fun K hK => ?_) AllReadyH.nil
      go_simp
      refine (HTH.out X (by omega) _).mono ?_
      rintro e w4 ⟨rfl, hb4⟩
      have hb4' : Below wr.heap.size wr w4 := ((Below.refl _ _).drew).trans hb4
      have H4 : Hid (TwoT w3 w4 q1 Q q2 b2 ⟨10, ln, mk10 10 (fun x => thingP x.toNat) (l.take i)⟩ ⟨10, ln, mk10 10 (fun x => thingP (100 + x).toNat) (l.reverse.take i)⟩) := HT.out.below hb4'
      have cx4 : w4.cell? ⟨ga, off + i, none⟩ = some (.int .i64 (X : Int)) := HCX.out.1 _ H4.out.chg
      clear hb4 hb4'
      clear hHeld
      refine hK.out _ _ ?hS12 (fun hHeld => ?rest12)
      case hS12 => exact cx4
      clear hK K
      try simp only [Act.put, List.setIfInBounds_toArray, List.set_cons_zero, List.set_cons_succ]
      refine wpAnyH_ready (rs := [11]) (by kernel_rfl) (by simp) ?_
      refine AllReadyH.cons rfl (fun K hK => ?_) AllReadyH.nil
      go_simp
      refine (putT (S := ⟨10, ln, mk10 10 (fun x => thingP x.toNat) (l.take i)⟩) H4.out.one nA _ (by have := HNA.out.1; omega)).mono ?_
      rintro e w5 ⟨rfl, k1, k2, k3⟩
      rw [HNA.out.2.1]
      have k1' : WinT w5 q1 Q ⟨10, ln, mk10 10 (fun x => thingP x.toNat) (l.take (i + 1))⟩ := by
          rw [HNA.out.2.2]
          simp only [putS, HNA.out.2.1, if_true] at k1
          exact k1
      have H5 : Hid (TwoT w3 w5 q1 Q q2 b2 ⟨10, ln, mk10 10 (fun x => thingP x.toNat) (l.take (i + 1))⟩ ⟨10, ln, mk10 10 (fun x => thingP (100 + x).toNat) (l.reverse.take i)⟩) := H4.out.put1 k1' k2
      have cx5 : w5.cell? ⟨ga, off + i, none⟩ = some (.int .i64 (X : Int)) := HCX.out.1 _ H5.out.chg
      clear k1 k1' k2 k3 H4 cx4
      clear hHeld
      refine hK.out _ _ ?hS13 (fun hHeld => ?rest13)
      case hS13 => exact cx5
      clear hK K
      try simp only [Act.put, List.setIfInBounds_toArray, List.set_cons_zero, List.set_cons_succ]
      refine takeD (i := 12) (d := some 10) (v := ?vT14) rfl rfl (by kernel_rfl) (by kernel_rfl) (by kernel_rfl) (fun _ _ _ h => h) (Or.inl ⟨by rfl, ?hyT14⟩) (by assumption) ?rstT14
      case hyT14 => (intro w hSw; (try dsimp only at hSw); go_simp; (try with_reducible rfl))
      try simp only [Act.put, List.setIfInBounds_toArray, List.set_cons_zero, List.set_cons_succ]
      refine wpAnyH_done (by kernel_rfl) ?_ _
      go_wp2_with fail
      have cy5 : w5.cell? ⟨ga, off + j2, none⟩ = some (.int .i64 (Y : Int)) := HCX.out.2 _ H5.out.chg
      refine wp_region_held_drew (S := (fun W => W.cell? ⟨ga, off + j2, none⟩ = some (.int .i64 (Y : Int)))) (by kernel_rfl) ?hS15 (fun hHeld => ?rest15)
      case hS15 => exact cy5
      refine takeD (i := 0) (d := some 67) (v := ?vT16) rfl rfl (by kernel_rfl) (by kernel_rfl) (by kernel_rfl) (fun _ _ _ h => h) (Or.inl ⟨by rfl, ?hyT16⟩) (by assumption) ?rstT16
      case hyT16 => (intro w hSw; (try dsimp only at hSw); go_simp; (try with_reducible rfl))
      try simp only [Act.put, List.setIfInBounds_toArray, List.set_cons_zero, List.set_cons_succ]
      refine takeD (i := 1) (d := some 68) (v := ?vT17) rfl rfl (by kernel_rfl) (by kernel_rfl) (by kernel_rfl) (fun _ _ _ h => h) (Or.inl ⟨by rfl, ?hyT17⟩) (by assumption) ?rstT17
      case hyT17 => (intro w hSw; (try dsimp only at hSw); go_simp; (try with_reducible rfl))
      try simp only [Act.put, List.setIfInBounds_toArray, List.set_cons_zero, List.set_cons_succ]
      refine takeD (i := 2) (d := some 69) (v := ?vT18) rfl rfl (by kernel_rfl) (by kernel_rfl) (by kernel_rfl) (fun _ _ _ h => h) (Or.inl ⟨by rfl, ?hyT18⟩) (by assumption) ?rstT18
      case hyT18 => (intro w hSw; (try dsimp only at hSw); go_simp; (try with_reducible rfl))
      try simp only [Act.put, List.setIfInBounds_toArray, List.set_cons_zero, List.set_cons_succ]
      refine takeD (i := 3) (d := some 70) (v := ?vT19) rfl rfl (by kernel_rfl) (by kernel_rfl) (by kernel_rfl) (fun _ _ _ h => h) (Or.inl ⟨by rfl, ?hyT19⟩) (by assumption) ?rstT19
      case hyT19 => (intro w hSw; (try dsimp only at hSw); go_simp; (try with_reducible rfl))
      try simp only [Act.put, List.setIfInBounds_toArray, List.set_cons_zero, List.set_cons_succ]
      refine takeD (i := 4) (d := some 71) (v := ?vT20) rfl rfl (by kernel_rfl) (by kernel_rfl) (by kernel_rfl) (fun _ _ _ h => h) (Or.inl ⟨by rfl, ?hyT20⟩) (by assumption) ?rstT20
      case hyT20 => (intro w hSw; (try dsimp only at hSw); go_simp; (try with_reducible rfl))
      try simp only [Act.put, List.setIfInBounds_toArray, List.set_cons_zero, List.set_cons_succ]
      refine takeD (i := 5) (d := some 72) (v := ?vT21) rfl rfl (by kernel_rfl) (by kernel_rfl) (by kernel_rfl) (fun _ _ _ h => h) (Or.inl ⟨by rfl, ?hyT21⟩) (by assumption) ?rstT21
      case hyT21 => (intro w hSw; (try dsimp only at hSw); go_simp; (try with_reducible rfl))
      try simp only [Act.put, List.setIfInBounds_toArray, List.set_cons_zero, List.set_cons_succ]
      refine takeD (i := 6) (d := some 73) (v := ?vT22) rfl rfl (by kernel_rfl) (by kernel_rfl) (by kernel_rfl) (fun _ _ _ h => h) (Or.inl ⟨by rfl, ?hyT22⟩) (by assumption) ?rstT22
      case hyT22 => (intro w hSw; (try dsimp only at hSw); go_simp; (try with_reducible rfl))
      try simp only [Act.put, List.setIfInBounds_toArray, List.set_cons_zero, List.set_cons_succ]
      refine takeD (i := 7) (d := some 74) (v := ?vT23) rfl rfl (by kernel_rfl) (by kernel_rfl) (by kernel_rfl) (fun _ _ _ h => h) (Or.inl ⟨by rfl, ?hyT23⟩) (by assumption) ?rstT23
      case hyT23 => (intro w hSw; (try dsimp only at hSw); go_simp; (try with_reducible rfl))
      try simp only [Act.put, List.setIfInBounds_toArray, List.set_cons_zero, List.set_cons_succ]
      refine takeD (i := 8) (d := some 75) (v := ?vT24) rfl rfl (by kernel_rfl) (by kernel_rfl) (by kernel_rfl) (fun _ _ _ h => h) (Or.inl ⟨by rfl, ?hyT24⟩) (by assumption) ?rstT24
      case hyT24 => (intro w hSw; (try dsimp only at hSw); go_simp; (try with_reducible rfl))
      try simp only [Act.put, List.setIfInBounds_toArray, List.set_cons_zero, List.set_cons_succ]
      refine takeD (i := 9) (d := some 76) (v := ?vT25) rfl rfl (by kernel_rfl) (by kernel_rfl) (by kernel_rfl) (fun _ _ _ h => h) (Or.inl ⟨by rfl, ?hyT25⟩) (by assumption) ?rstT25
      case hyT25 => (intro w hSw; (try dsimp only at hSw); go_simp; (try with_reducible rfl))
      try simp only [Act.put, List.setIfInBounds_toArray, List.set_cons_zero, List.set_cons_succ]
      refine takeD (i := 10) (d := some 77) (v := ?vT26) rfl rfl (by kernel_rfl) (by kernel_rfl) (by kernel_rfl) (fun _ _ _ h => h) (Or.inl ⟨by rfl, ?hyT26⟩) (by assumption) ?rstT26
      case hyT26 => (intro w hSw; (try dsimp only at hSw); go_simp; (try with_reducible rfl))
      try simp only [Act.put, List.setIfInBounds_toArray, List.set_cons_zero, List.set_cons_succ]
      refine takeD (i := 11) (d := some 78) (v := ?vT27) rfl rfl (by kernel_rfl) (by kernel_rfl) (by kernel_rfl) (fun _ _ _ h => h) (Or.inl ⟨by rfl, ?hyT27⟩) (by assumption) ?rstT27
      case hyT27 => (intro w hSw; (try dsimp only at hSw); go_simp; (try with_reducible rfl))
      try simp only [Act.put, List.setIfInBounds_toArray, List.set_cons_zero, List.set_cons_succ]
      refine takeD (i := 12) (d := some 79) (v := ?vT28) rfl rfl (by kernel_rfl) (by kernel_rfl) (by kernel_rfl) (fun _ _ _ h => h) (Or.inl ⟨by rfl, ?hyT28⟩) (by assumption) ?rstT28
      case hyT28 => (intro w hSw; (try dsimp only at hSw); go_simp; (try with_reducible rfl))
      try simp only [Act.put, List.setIfInBounds_toArray, List.set_cons_zero, List.set_cons_succ]
      refine takeD (i := 13) (d := some 80) (v := ?vT29) rfl rfl (by kernel_rfl) (by kernel_rfl) (by kernel_rfl) (fun _ _ _ h => h) (Or.inl ⟨by rfl, ?hyT29⟩) (by assumption) ?rstT29
      case hyT29 => (intro w hSw; (try dsimp only at hSw); go_simp; (try with_reducible rfl))
      try simp only [Act.put, List.setIfInBounds_toArray, List.set_cons_zero, List.set_cons_succ]
      refine takeD (i := 14) (d := some 81) (v := ?vT30) rfl rfl (by kernel_rfl) (by kernel_rfl) (by kernel_rfl) (fun _ _ _ h => h) (Or.inl ⟨by rfl, ?hyT30⟩) (by assumption) ?rstT30
      case hyT30 => (intro w hSw; (try dsimp only at hSw); go_simp; (try with_reducible rfl))
      try simp only [Act.put, List.setIfInBounds_toArray, List.set_cons_zero, List.set_cons_succ]
      refine takeD (i := 15) (d := some 82) (v := ?vT31) rfl rfl (by kernel_rfl) (by kernel_rfl) (by kernel_rfl) (fun _ _ _ h => h) (Or.inl ⟨by rfl, ?hyT31⟩) (by assumption) ?rstT31
      case hyT31 => (intro w hSw; (try dsimp only at hSw); go_simp; (try with_reducible rfl))
      try simp only [Act.put, List.setIfInBounds_toArray, List.set_cons_zero, List.set_cons_succ]
      refine takeD (i := 16) (d := some 83) (v := ?vT32) rfl rfl (by kernel_rfl) (by kernel_rfl) (by kernel_rfl) (fun _ _ _ h => h) (Or.inl ⟨by rfl, ?hyT32⟩) (by assumption) ?rstT32
      case hyT32 => (intro w hSw; (try dsimp only at hSw); go_simp; (try with_reducible rfl))
      try simp only [Act.put, List.setIfInBounds_toArray, List.set_cons_zero, List.set_cons_succ]
      refine wpAnyH_ready (rs := [17]) (by kernel_rfl) (by simp) ?_
      refine AllReadyH.cons rfl (fun K hK => ?_) AllReadyH.nil
      go_simp
      refine (HTH.out H100 (by have := HNB.out.2.2.2; omega) _).mono ?_
      rintro e w6 ⟨rfl, hb6⟩
      have H6 : Hid (TwoT w3 w6 q1 Q q2 b2 ⟨10, ln, mk10 10 (fun x => thingP x.toNat) (l.take (i + 1))⟩ ⟨10, ln, mk10 10 (fun x => thingP (100 + x).toNat) (l.reverse.take i)⟩) := H5.out.below (((Below.refl _ _).drew).trans hb6)
      have cy6 : w6.cell? ⟨ga, off + j2, none⟩ = some (.int .i64 (Y : Int)) := HCX.out.2 _ H6.out.chg
      clear hb6 H5 cx5 cy5
      clear hHeld
      refine hK.out _ _ ?hS33 (fun hHeld => ?rest33)
      case hS33 => exact cy6
      clear hK K
      try simp only [Act.put, List.setIfInBounds_toArray, List.set_cons_zero, List.set_cons_succ]
      refine wpAnyH_ready (rs := [18]) (by kernel_rfl) (by simp) ?_
      refine AllReadyH.cons rfl (fun K hK => ?_) AllReadyH.nil
      go_simp
      refine (putT (S := ⟨10, ln, mk10 10 (fun x => thingP (100 + x).toNat) (l.reverse.take i)⟩) H6.out.two nB _ (by have := HNB.out.1; omega)).mono ?_
      rintro e w7 ⟨rfl, k1, k2, k3⟩
      rw [HNB.out.2.1]
      have k1' : WinT w7 q2 b2 ⟨10, ln, mk10 10 (fun x => thingP (100 + x).toNat) (l.reverse.take (i + 1))⟩ := by
          rw [HNB.out.2.2.1]
          simp only [putS, HNB.out.2.1, if_true] at k1
          exact k1
      have H7 : Hid (TwoT w3 w7 q1 Q q2 b2 ⟨10, ln, mk10 10 (fun x => thingP x.toNat) (l.take (i + 1))⟩ ⟨10, ln, mk10 10 (fun x => thingP (100 + x).toNat) (l.reverse.take (i + 1))⟩) := H6.out.put2 k1' k2
      have cy7 : w7.cell? ⟨ga, off + j2, none⟩ = some (.int .i64 (Y : Int)) := HCX.out.2 _ H7.out.chg
      clear k1 k1' k2 k3 H6 cy6
      clear hHeld
      refine hK.out _ _ ?hS34 (fun hHeld => ?rest34)
      case hS34 => exact cy7
      clear hK K
      try simp only [Act.put, List.setIfInBounds_toArray, List.set_cons_zero, List.set_cons_succ]
      refine takeD (i := 19) (d := some 11) (v := ?vT35) rfl rfl (by kernel_rfl) (by kernel_rfl) (by kernel_rfl) (fun _ _ _ h => h) (Or.inl ⟨by rfl, ?hyT35⟩) (by assumption) ?rstT35
      case hyT35 => (intro w hSw; (try dsimp only at hSw); go_simp; (try with_reducible rfl))
      try simp only [Act.put, List.setIfInBounds_toArray, List.set_cons_zero, List.set_cons_succ]
      refine wpAnyH_done (by kernel_rfl) ?_ _
      go_wp2_with fail
      exact ⟨⟨i + 1, by simp, by omega, H7.out⟩, by simp [RowKit.intOf]; omega⟩
    · have g1 : ¬ (i : Int) < (ln : Int) := by omega
      obtain rfl : i = ln := by omega
      have hT := HT.out
      rw [List.take_of_length_le (by omega), List.take_of_length_le (by rw [List.length_reverse]; omega)] at hT
      obtain ⟨LB, hLB⟩ : ∃ LB, mk10 10 (fun x => thingP (100 + x).toNat) l.reverse = LB := ⟨_, rfl⟩
      obtain ⟨LA, hLA⟩ : ∃ LA, mk10 10 (fun x => thingP x.toNat) l = LA := ⟨_, rfl⟩
      have hA : AllOf LA 10 (10 + (i : Int)) (fun n => thingP (n - 10).toNat) := by rw [← hLA]; exact mk10_all (k := 10) HL.out.2.2.1 HL.out.2.2.2.1 hln
      have hBA : AllOf LB 10 (10 + (i : Int)) (fun n => thingP (100 + (n - 10)).toNat) := by rw [← hLB]; exact mk10_all (k := 10) (List.pairwise_reverse.2 (HL.out.2.2.1.imp fun h => Ne.symm h)) (fun x hx => HL.out.2.2.2.1 x (List.mem_reverse.1 hx)) (by rw [List.length_reverse]; exact hln)
      rw [hLA, hLB] at hT
      have HT1 : Hid (TwoT w3 wr q1 Q q2 b2 ⟨10, i, LA⟩ ⟨10, i, LB⟩ ∧ AllOf LA 10 (10 + (i : Int)) (fun n => thingP (n - 10).toNat)) := ⟨hT, hA⟩
      have HBA : Hid (getN LB 10 = some (thingP 100) ∧ hasN LB 10 = true ∧ LB.length = i) := by
        have h1 := HM.out.1
        refine ⟨hBA.1 10 (by omega) (by omega), hBA.has (by omega) (by omega), by have := hBA.2.2; omega⟩
      have HB3 : Hid (Below w.heap.size w w3 ∧ w.heap.size ≤ Q ∧ q1 = Q + 1 ∧ q2 = Q + 2 + 1 ∧ b2 = Q + 2) := ⟨HL.out.2.2.2.2.2.1, HL.out.2.2.2.2.2.2, HQ.out⟩
      clear hT hA hBA HT hLA hLB HL HQ HT0
      go_wp2_with fail
      go_loopw [12, 13, 14, 15, 16, 17] (fun vi _ _ _ _ _ W => ∃ (j : Nat) (L1 : List (Int × ByteArray)), vi = .int .i64 (j : Int) ∧ j ≤ i ∧ Hid (TwoT w3 W q1 Q q2 b2 ⟨10 + (j : Int), i, L1⟩ ⟨10, i, LB⟩ ∧ AllOf L1 (10 + (j : Int)) (10 + (i : Int)) (fun n => thingP (n - 10).toNat))) (fun vi _ _ _ _ _ _ => i - (RowKit.intOf vi).toNat)
      case atStart => exact ⟨0, LA, rfl, Nat.zero_le _, HT1.out⟩
      case round =>
        obtain ⟨j, L1, rfl, hj, HT⟩ := hrel
        by_cases hji : j < i
        · have g2 : (j : Int) < (i : Int) := by omega
          have hln20 : j < 20 := by have := HM.out.2; omega
          have hA := HT.out.2
          have hp1 : getN L1 (10 + (j : Int)) = some (thingP j) := by
            have := hA.1 (10 + (j : Int)) (by omega) (by omega)
            rw [this]
            show some (thingP (10 + (j : Int) - 10).toNat) = _
            rw [show (10 + (j : Int) - 10).toNat = j by omega]
          have hp2 : hasN L1 (10 + (j : Int)) = true := hA.has (by omega) (by omega)
          have HPK : Hid (getN L1 (10 + (j : Int)) = some (thingP j) ∧ hasN L1 (10 + (j : Int)) = true ∧ AllOf (delN L1 (10 + (j : Int))) (10 + ((j + 1 : Nat) : Int)) (10 + (i : Int)) (fun n => thingP (n - 10).toNat)) := by
            have := hA.del HT.out.1.one.nodup (by omega)
            rw [show 10 + (j : Int) + 1 = 10 + ((j + 1 : Nat) : Int) by omega] at this
            exact ⟨hp1, hp2, this⟩
          clear hA hp1 hp2
          go_wp2_with fail
          refine (peekT HT.out.1.one).mono ?_
          rintro e w4 ⟨rfl, kk, hw4⟩
          simp only [HPK.out.1, HPK.out.2.1, Option.getD_some, if_true]
          have H4 : Hid (TwoT w3 w4 q1 Q q2 b2 ⟨10 + (j : Int), i, L1⟩ ⟨10, i, LB⟩) := HT.out.1.below (below_drewT hw4)
          clear hw4
          go_wp2_with fail
          refine (peekT H4.out.two).mono ?_
          rintro e w5 ⟨rfl, kk2, hw5⟩
          simp only [HBA.out.1, HBA.out.2.1, Option.getD_some, if_true]
          have H5 : Hid (TwoT w3 w5 q1 Q q2 b2 ⟨10 + (j : Int), i, L1⟩ ⟨10, i, LB⟩) := H4.out.below (below_drewT hw5)
          clear hw5 H4
          go_wp2_with fail
          refine (passT H5.out.one (by show 10 + (j : Int) ≤ _; have := HM.out.2; omega)).mono ?_
          rintro e w6 ⟨rfl, k1, k2, k3⟩
          have H6 : Hid (TwoT w3 w6 q1 Q q2 b2 ⟨10 + ((j + 1 : Nat) : Int), i, delN L1 (10 + (j : Int))⟩ ⟨10, i, LB⟩) := by
            have e1 : passS (⟨10 + (j : Int), i, L1⟩ : Wn ByteArray) = ⟨10 + ((j + 1 : Nat) : Int), i, delN L1 (10 + (j : Int))⟩ := by
              simp only [passS, HPK.out.2.1, if_true]
              rw [show 10 + (j : Int) + 1 = 10 + ((j + 1 : Nat) : Int) by omega]
            rw [e1] at k1
            exact H5.out.put1 k1 k2
          have e2 : dropE (⟨10 + (j : Int), i, L1⟩ : Wn ByteArray) (10 + (j : Int)) = 0 := by simp only [dropE, HPK.out.2.1, if_true]
          simp only [e2]
          clear k1 k2 k3 H5 e2
          obtain ⟨tA, htA⟩ : ∃ t, thingP j = t := ⟨_, rfl⟩
          obtain ⟨tB, htB⟩ : ∃ t, thingP 100 = t := ⟨_, rfl⟩
          have HTA : Hid (∀ w, Calls Try.prog 21 #[.int .i64 (j : Int)] w fun e w' => e = .returned (.string tA) ∧ Below w.heap.size w w') := by rw [← htA]; exact HTH.out j (by have := HM.out.2; omega)
          have HTB : Hid (∀ w, Calls Try.prog 21 #[.int .i64 100] w fun e w' => e = .returned (.string tB) ∧ Below w.heap.size w w') := by rw [← htB]; exact HTH.out 100 (by omega)
          rw [htA, htB]
          clear htA htB
          go_wp2_with fail
          refine (HTA.out _).mono ?_
          rintro e w7 ⟨rfl, hb7⟩
          have H7 : Hid (TwoT w3 w7 q1 Q q2 b2 ⟨10 + ((j + 1 : Nat) : Int), i, delN L1 (10 + (j : Int))⟩ ⟨10, i, LB⟩) := H6.out.below hb7
          clear hb7 H6
          go_wp2_with fail
          refine (HTB.out _).mono ?_
          rintro e w8 ⟨rfl, hb8⟩
          have H8 : Hid (TwoT w3 w8 q1 Q q2 b2 ⟨10 + ((j + 1 : Nat) : Int), i, delN L1 (10 + (j : Int))⟩ ⟨10, i, LB⟩) := H7.out.below hb8
          clear hb8 H7
          go_wp2_with fail
          refine (nextT H8.out.two).mono ?_
          rintro e w9 ⟨rfl, hw9⟩
          obtain rfl := hw9.symm
          clear hw9
          go_wp2_with fail
          refine (heldT H8.out.two (by show (10 : Int) ≤ _; omega)).mono ?_
          rintro e w10 ⟨v, rfl, hv, hb⟩
          obtain ⟨vb, vd, rfl⟩ := hv.shape
          have H10 : Hid (TwoT w3 w10 q1 Q q2 b2 ⟨10 + ((j + 1 : Nat) : Int), i, delN L1 (10 + (j : Int))⟩ ⟨10, i, LB⟩) := H8.out.below hb
          simp only [srt_length, HBA.out.2.2]
          clear hv hb H8
          go_wp2_with fail
          exact ⟨⟨j + 1, delN L1 (10 + (j : Int)), by simp, by omega, ⟨H10.out, HPK.out.2.2⟩⟩, by simp [RowKit.intOf]; omega⟩
        · have g2 : ¬ (j : Int) < (i : Int) := by omega
          obtain rfl : j = i := by omega
          go_wp2_with fail
          refine (heldT HT.out.1.one (by show 10 + (j : Int) ≤ _; have := HM.out.2; omega)).mono ?_
          rintro e w10 ⟨v, rfl, hv, hb⟩
          obtain ⟨vb, vd, rfl⟩ := hv.shape
          have hl0 : L1.length = 0 := by have := HT.out.2.2.2; omega
          simp only [srt_length, hl0]
          have H10 : Hid (Below w.heap.size w w10) := by
            obtain ⟨h1, h2, h3, h4, h5⟩ := HB3.out
            exact (h1.trans ((HT.out.1.chg).below (fun g hg => by simp only [Wb] at hg; omega) h1.size)).trans (hb.mono (Nat.le_trans h1.size HT.out.1.chg.size))
          clear hv hb
          go_wp2_with fail
          go_ret
          exact ⟨rfl, H10.out⟩
end Go.Proofs.Ytiaidmhobbeedaa
