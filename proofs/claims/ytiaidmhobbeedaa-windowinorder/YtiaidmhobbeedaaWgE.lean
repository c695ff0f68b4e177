import Derived.Test.YtiaidmhobbeedaaWgB
import Derived.Test.YtiaidmhobbeedaaWfC
import Derived.Test.YtiaidmhobbeedaaWfT
import Derived.Sort.QuietTacIn
import Derived.Sort.CutIn
/-! WindowInOrder. -/
namespace Go.Proofs.Ytiaidmhobbeedaa
open Go.RowKit Go.Lib
set_option maxRecDepth 100000
attribute [local go_sem] Oper.semAt_some
theorem AtT.of {q b o bx : Nat} {TO : TypeId} {W0 W : World} {S : Wn ByteArray} {v : Value} (h : SI Value.string 73 q b o TO W0 W S v) (hx : W0.heap[bx]? = some (.cells #[.pointer (some ⟨q, 0, none⟩)] 48)) (hn : ¬ (Wb q b bx ∨ bx = o)) (hb : S.nx + (S.L.length : Int) ≤ 4611686018427387904) : AtT bx q b S W :=
  ⟨h.win, h.chg.block hx hn, hb⟩
/-- The things of InOrder's window. -/
def thN (n : Int) : ByteArray := thingP n.toNat
/-- Where InOrder's window stands when o things are out. -/
def OS (N i o : Nat) (s : Wn ByteArray) : Prop := s.nx = (N : Int) + (o : Int) ∧ s.sz = (i : Int) ∧ AllOf s.L ((N : Int) + (o : Int)) ((N : Int) + (i : Int)) thN
theorem OS.has {N i o : Nat} {s : Wn ByteArray} (h : OS N i o s) (ho : o < i) : getN s.L s.nx = some (thN s.nx) ∧ hasN s.L s.nx = true := by
  rw [h.1]; exact ⟨h.2.2.1 _ (by omega) (by omega), h.2.2.has (by omega) (by omega)⟩
theorem OS.pass {N i o : Nat} {s : Wn ByteArray} (h : OS N i o s) (ho : o < i) (hd : (s.L.map (·.1)).Nodup) : OS N i (o + 1) (passS s) := by
  have h1 := (h.has ho).2
  have e : passS s = ⟨s.nx + 1, s.sz, delN s.L s.nx⟩ := by simp [passS, h1]
  rw [e]
  refine ⟨by show s.nx + 1 = _; rw [h.1]; omega, h.2.1, ?_⟩
  have := h.2.2.del hd (by omega)
  show AllOf (delN s.L s.nx) _ _ _
  rw [h.1, show (N : Int) + ((o + 1 : Nat) : Int) = (N : Int) + (o : Int) + 1 by omega]
  exact this
theorem OS.bound {N i o : Nat} {s : Wn ByteArray} (h : OS N i o s) : s.nx + (s.L.length : Int) = (N : Int) + (i : Int) := by
  have := h.2.2.2.2
  rw [h.1]; omega
set_option maxHeartbeats 4000000 in
theorem windowInOrder_any {w : World} (nx sz st : Int) {a : Option Addr} {tn cap : Nat} {ts : List Int} (ht : Rw intV 1 w a tn cap ts) :
    Calls Try.prog 8 #[.agg #[.int .i64 nx, .int .i64 sz, .slice a tn cap, .int .i64 st]] w fun e w' => e = .returned (.bool true) ∧ Below w.heap.size w w' := by
  refine (callsIn_wide (n := 6)).1 ?_
  obtain ⟨z, hz, _, HP⟩ := pk_nat sz 40 (by omega) (by omega)
  obtain ⟨m, hm⟩ : ∃ m : Nat, m = 1 + z := ⟨_, rfl⟩
  have e1 : IntKind.i64.wrap (1 + (z : Int)) = (m : Int) := by rw [IntWalk.i64_in _ (by omega)]; omega
  obtain ⟨N, hN, _, HPN⟩ := pk_nat nx 1000000 (by omega) (by omega)
  have HM : Hid (1 ≤ m ∧ m ≤ 40 ∧ N < 1000000) := ⟨by omega, by omega, hN⟩
  have HP2 : Hid (∀ w, Calls Try.prog 10 #[.int .i64 sz, .int .i64 40] w fun e w' => e = .returned (.int .i64 (z : Int)) ∧ w' = w) := HP
  have HP3 : Hid (∀ w, Calls Try.prog 10 #[.int .i64 nx, .int .i64 1000000] w fun e w' => e = .returned (.int .i64 (N : Int)) ∧ w' = w) := HPN
  have HNW : Hid (∀ w, Calls Try.prog 19 #[.int .i64 (N : Int), .int .i64 (m : Int)] w fun e w' => e = .returned (.tuple #[.pointer (some ⟨w.heap.size + 1, 0, none⟩), .int .i64 0]) ∧ WinT w' (w.heap.size + 1) w.heap.size ⟨N, m, []⟩ ∧ Below w.heap.size w w' ∧ w'.heap.size = w.heap.size + 2) := fun w => newT_ok N m (by omega) (by omega) (by omega) (by omega) w
  have HTH : Hid (∀ n : Nat, n ≤ 4000000 → ∀ w, Calls Try.prog 21 #[.int .i64 (n : Int)] w fun e w' => e = .returned (.string (thingP n)) ∧ Below w.heap.size w w') := thing_any
  have HTS : Hid (Rw intV 1 w a tn cap ts) := ht
  clear hm hz HP ht hN HPN
  refine callsIn_of_wp_marks Try.func8 rfl trivial ?_ rfl
  simp only [Try.ntmps8, List.size_toArray, List.length_cons, List.length_nil, Nat.reduceAdd, Nat.reduceSub, Array.replicate_succ, Array.replicate_zero, List.push_toArray, List.append_toArray, List.nil_append, List.cons_append]
  obtain ⟨W0, hW0⟩ : ∃ W0, (w.alloc (.cells #[.int .i64 nx, .int .i64 sz, .slice a tn cap, .int .i64 st] 31)).alloc (.cells #[.bool false] 4) = W0 := ⟨_, rfl⟩
  have hb0 : Below w.heap.size w W0 := by rw [← hW0]; exact ((Below.refl _ _).alloc (Nat.le_refl _) _).alloc (by simp) _
  have hx0 : W0.heap[w.heap.size]? = some (.cells #[.int .i64 nx, .int .i64 sz, .slice a tn cap, .int .i64 st] 31) := by rw [← hW0]; exact (Below.heap_alloc _ _ _ (by simp)).trans (heap_alloc_new _ _)
  have hr0 : W0.heap[w.heap.size + 1]? = some (.cells #[.bool false] 4) := by
    rw [← hW0]
    have := heap_alloc_new (w.alloc (.cells #[.int .i64 nx, .int .i64 sz, .slice a tn cap, .int .i64 st] 31)) (.cells #[.bool false] 4)
    rwa [World.size_alloc] at this
  have hs0 : W0.heap.size = w.heap.size + 2 := by rw [← hW0]; simp
  have HB0 : Hid (Below w.heap.size w W0 ∧ W0.heap[w.heap.size]? = some (.cells #[.int .i64 nx, .int .i64 sz, .slice a tn cap, .int .i64 st] 31) ∧ W0.heap[w.heap.size + 1]? = some (.cells #[.bool false] 4) ∧ W0.heap.size = w.heap.size + 2) := ⟨hb0, hx0, hr0, hs0⟩
  obtain ⟨c0, c1, c2, c3⟩ := box4 hx0
  clear hb0 hx0 hr0 hs0
  gi_wp2
  refine ⟨trivial, (callsIn_wide.2 (HP2.out _)).mono ?_⟩
  rintro e w1 ⟨rfl, hw1⟩
  obtain rfl := hw1.symm
  clear hw1
  gi_wp2
  refine ⟨trivial, (callsIn_wide.2 (HP3.out _)).mono ?_⟩
  rintro e w1 ⟨rfl, hw1⟩
  obtain rfl := hw1.symm
  clear hw1
  gi_wp2
  obtain ⟨w1, hw1⟩ : ∃ w1, W0.alloc (.cells #[.int .i64 (N : Int)] 3) = w1 := ⟨_, rfl⟩
  have hb1 : Below W0.heap.size W0 w1 := by rw [← hw1]; exact (Below.refl _ _).alloc (Nat.le_refl _) _
  have hn1 : w1.heap[W0.heap.size]? = some (.cells #[.int .i64 (N : Int)] 3) := by rw [← hw1]; exact heap_alloc_new _ _
  have hs1 : w1.heap.size = W0.heap.size + 1 := by rw [← hw1]; simp
  have H1 : Hid (Below W0.heap.size W0 w1 ∧ w1.heap[W0.heap.size]? = some (.cells #[.int .i64 (N : Int)] 3) ∧ w1.heap.size = W0.heap.size + 1) := ⟨hb1, hn1, hs1⟩
  have c4 := box1 hn1
  rw [hw1]
  clear hw1 hb1 hn1 hs1 c0 c1 c2 c3
  gi_wp2
  refine ⟨trivial, (callsIn_wide.2 (HNW.out _)).mono ?_⟩
  rintro e w2 ⟨rfl, k1, k2, k3⟩
  obtain ⟨B, hB⟩ : ∃ B, w.heap.size = B := ⟨_, rfl⟩
  obtain ⟨q, hq⟩ : ∃ q, w1.heap.size + 1 = q := ⟨_, rfl⟩
  obtain ⟨b, hb⟩ : ∃ b, w1.heap.size = b := ⟨_, rfl⟩
  obtain ⟨bn, hbn⟩ : ∃ bn, W0.heap.size = bn := ⟨_, rfl⟩
  have H2 : Hid (WinT w2 q b ⟨N, m, []⟩ ∧ w2.heap[B]? = some (.cells #[.int .i64 nx, .int .i64 sz, .slice a tn cap, .int .i64 st] 31) ∧ w2.heap[B + 1]? = some (.cells #[.bool false] 4) ∧ w2.heap[bn]? = some (.cells #[.int .i64 (N : Int)] 3) ∧ Below B w w2 ∧ (w.heap.size = B ∧ bn = B + 2 ∧ b = B + 3 ∧ q = B + 4 ∧ w2.heap.size = B + 5)) := by
    obtain ⟨h0, h00, h01, h02⟩ := HB0.out
    obtain ⟨h1, h11, h12⟩ := H1.out
    rw [hq, hb] at k1
    have hb2 : Below W0.heap.size W0 w2 := h1.trans (k2.mono (by omega))
    refine ⟨k1, ?_, ?_, ?_, ?_, by omega, by omega, by omega, by omega, by omega⟩
    · rw [← hB]; exact (hb2.block _ (by omega)).trans h00
    · rw [← hB]; exact (hb2.block _ (by omega)).trans h01
    · rw [← hbn]; exact (k2.block _ (by omega)).trans h11
    · rw [← hB]; exact h0.trans (hb2.mono (by omega))
  rw [hq, hbn, hB]
  clear k1 k2 k3 hq hb hbn hB H1 HB0 hW0 c4 HNW HP2 HP3
  obtain ⟨c0, c1, c2, c3⟩ := box4 H2.out.2.1
  gi_wp2
  refine ⟨trivial, (callsIn_wide.2 (come_any HM.out.1 (by have := HM.out.2.1; omega) (HTS.out.below (H2.out.2.2.2.2.1.mono (by have := H2.out.2.2.2.2.2.1; omega) |>.mono (Nat.le_refl _))))).mono ?_⟩
  rintro e w3 hcm
  obtain ⟨v, l, rfl, hl1, hl2, hl3, hl4, hl5⟩ := hcm
  obtain ⟨va, vc, rfl⟩ := hl1.shape
  have HT0 : Hid (WinT w3 q b ⟨N, m, []⟩ ∧ w3.heap[B]? = some (.cells #[.int .i64 nx, .int .i64 sz, .slice a tn cap, .int .i64 st] 31) ∧ w3.heap[B + 1]? = some (.cells #[.bool false] 4) ∧ w3.heap[bn]? = some (.cells #[.int .i64 (N : Int)] 3) ∧ Below B w w3 ∧ (w.heap.size = B ∧ bn = B + 2 ∧ b = B + 3 ∧ q = B + 4 ∧ B + 5 ≤ w3.heap.size)) := by
    obtain ⟨h1, h2, h3, h4, h5, h6, h7, h8, h9, h10⟩ := H2.out
    have hs := hl5.size
    refine ⟨h1.below hl5, (hl5.block _ (by omega)).trans h2, (hl5.block _ (by omega)).trans h3, (hl5.block _ (by omega)).trans h4, h5.trans (hl5.mono (by omega)), h6, h7, h8, h9, by omega⟩
  have HL : Hid (OwnF intV 1 3 w3 w2.heap.size (.slice va l.length vc) l ∧ l.length = m ∧ l.Nodup ∧ (∀ x ∈ l, 0 ≤ x ∧ x < (m : Int)) ∧ w2.heap.size = B + 5) := ⟨hl1, hl2, hl3, hl4, H2.out.2.2.2.2.2.2.2.2.2⟩
  obtain ⟨ln, hln⟩ : ∃ ln, l.length = ln := ⟨_, rfl⟩
  have hlm : ln = m := by omega
  rw [hln] at HL ⊢
  subst hlm
  clear hl1 hl2 hl3 hl4 hl5 H2 c0 c1 c2 c3 HTS e1
  gi_wp2
  gi_loopw [8, 9, 10, 11] (fun vi _ _ _ W => ∃ i : Nat, vi = .int .i64 (i : Int) ∧ i ≤ ln ∧ Hid (WinT W q b ⟨N, ln, mk10 N (fun x => thN (N + x)) (l.take i)⟩ ∧ Chg (Wb q b) w3 W)) (fun vi _ _ _ _ => ln - (RowKit.intOf vi).toNat)
  case atStart => exact ⟨0, rfl, Nat.zero_le _, (by show _ ∧ _; exact ⟨by simpa [mk10] using HT0.out.1, Chg.refl _ _⟩)⟩
  case round =>
    obtain ⟨i, rfl, hi, HT⟩ := hrel
    by_cases hil : i < ln
    · have g1 : (i : Int) < (ln : Int) := by omega
      have hln40 : i < 40 := by have := HM.out.2.1; omega
      obtain ⟨ga, off, x, hva, hgl, hx, hcx⟩ := (HL.out.1.rw_ layI).at i hil
      subst hva
      have hx0 := HL.out.2.2.2.1 x (List.mem_of_getElem? hx)
      obtain ⟨X, rfl⟩ : ∃ X : Nat, x = (X : Int) := ⟨x.toNat, by omega⟩
      have cX := hcx 0 _ rfl
      simp only [Nat.add_zero, Nat.mul_one] at cX
      have hga : w2.heap.size ≤ ga := HL.out.1.ge rfl
      have hqs := HT0.out.2.2.2.2.2
      have hQ5 := HL.out.2.2.2.2
      have cx : wr.cell? ⟨ga, off + i, none⟩ = some (.int .i64 (X : Int)) := (HT.out.2.cell (p := ⟨ga, off + i, none⟩) hgl (by simp only [Wb]; omega)).trans cX
      have cn : wr.cell? ⟨bn, 0, none⟩ = some (.int .i64 (N : Int)) := box1 (HT.out.2.block HT0.out.2.2.2.1 (by simp only [Wb]; omega))
      obtain ⟨nA, hnA⟩ : ∃ nA : Nat, nA = N + X := ⟨_, rfl⟩
      have w1' : IntKind.i64.wrap ((N : Int) + (X : Int)) = (nA : Int) := by rw [IntWalk.i64_in _ (by have := HM.out; omega)]; omega
      have hput : putE (⟨N, ln, mk10 N (fun x => thN (N + x)) (l.take i)⟩ : Wn ByteArray) (nA : Int) = 0 := by
        rw [show (nA : Int) = (N : Int) + (X : Int) by omega]; exact put10 (k := N) HL.out.2.2.1 HL.out.2.2.2.1 hx
      have hstep : mk10 N (fun x => thN (N + x)) (l.take (i + 1)) = mk10 N (fun x => thN (N + x)) (l.take i) ++ [((nA : Int), thingP nA)] := by
        rw [mk10_step hx]
        congr 2
        have e2 : (N : Int) + (X : Int) = (nA : Int) := by omega
        show ((N : Int) + (X : Int), thN ((N : Int) + (X : Int))) = _
        rw [e2]
        rfl
      have hdb : putE (⟨N, ln, mk10 N (fun x => thN (N + x)) (l.take (i + 1))⟩ : Wn ByteArray) (nA : Int) = 131 := by
        have h1 : hasN (mk10 N (fun x => thN (N + x)) (l.take (i + 1))) (nA : Int) = true := by
          rw [show (nA : Int) = (N : Int) + (X : Int) by omega, mk10_has, List.take_add_one, hx]; simp
        have g2 : ¬ ((nA : Int) < (N : Int)) := by omega
        have g3 : ¬ ((ln : Int) ≤ (nA : Int) - (N : Int)) := by omega
        simp [putE, h1, g2, g3]
      have HNA : Hid (nA ≤ 1000040 ∧ putE (⟨N, ln, mk10 N (fun x => thN (N + x)) (l.take i)⟩ : Wn ByteArray) (nA : Int) = 0 ∧ mk10 N (fun x => thN (N + x)) (l.take (i + 1)) = mk10 N (fun x => thN (N + x)) (l.take i) ++ [((nA : Int), thingP nA)] ∧ putE (⟨N, ln, mk10 N (fun x => thN (N + x)) (l.take (i + 1))⟩ : Wn ByteArray) (nA : Int) = 131) := ⟨by have := HM.out; omega, hput, hstep, hdb⟩
      clear hput hstep hdb hx hcx cX hga hqs hQ5 hgl hx0 hnA
      gi_wp2
      gi_quiet_th (fail)
      have H3 : Hid (WinT (wr.drewN nq) q b ⟨N, ln, mk10 N (fun x => thN (N + x)) (l.take i)⟩ ∧ Chg (Wb q b) w3 (wr.drewN nq)) := ⟨HT.out.1.drewN _, HT.out.2.drewN⟩
      generalize wr.drewN nq = w4 at *
      clear HT cx cn
      gi_wp2
      refine ⟨trivial, (callsIn_wide.2 (HTH.out nA (by have := HNA.out.1; omega) _)).mono ?_⟩
      rintro e w5 ⟨rfl, hb5⟩
      have H5 : Hid (WinT w5 q b ⟨N, ln, mk10 N (fun x => thN (N + x)) (l.take i)⟩ ∧ Chg (Wb q b) w3 w5) := ⟨H3.out.1.below hb5, H3.out.2.trans (Chg.of_below hb5)⟩
      clear hb5 H3
      gi_wp2
      refine ⟨trivial, (callsIn_wide.2 (putT H5.out.1 (nA : Int) _ (by have := HNA.out.1; omega))).mono ?_⟩
      rintro e w6 ⟨rfl, k1, k2, k3⟩
      rw [HNA.out.2.1]
      have H6 : Hid (WinT w6 q b ⟨N, ln, mk10 N (fun x => thN (N + x)) (l.take (i + 1))⟩ ∧ Chg (Wb q b) w3 w6) := by
        refine ⟨?_, H5.out.2.trans k2⟩
        rw [HNA.out.2.2.1]
        simp only [putS, HNA.out.2.1, if_true] at k1
        exact k1
      clear k1 k2 k3 H5
      gi_wp2
      refine ⟨trivial, (callsIn_wide.2 (putT H6.out.1 (nA : Int) _ (by have := HNA.out.1; omega))).mono ?_⟩
      rintro e w7 ⟨rfl, k1, k2, k3⟩
      rw [HNA.out.2.2.2]
      have H7 : Hid (WinT w7 q b ⟨N, ln, mk10 N (fun x => thN (N + x)) (l.take (i + 1))⟩ ∧ Chg (Wb q b) w3 w7) := by
        refine ⟨?_, H6.out.2.trans k2⟩
        simp only [putS, HNA.out.2.2.2] at k1
        exact k1
      clear k1 k2 k3 H6
      gi_wp2
      exact ⟨⟨i + 1, by simp, by omega, H7.out⟩, by simp [RowKit.intOf]; omega⟩
    · have g1 : ¬ (i : Int) < (ln : Int) := by omega
      obtain rfl : i = ln := by omega
      have hT := HT.out
      rw [List.take_of_length_le (by omega)] at hT
      have hA : AllOf (mk10 N (fun x => thN (N + x)) l) (N : Int) ((N : Int) + (i : Int)) thN := by
        have := mk10_all (k := N) (f := fun x => thN (N + x)) HL.out.2.2.1 HL.out.2.2.2.1 hln
        have e2 : (fun n : Int => thN ((N : Int) + (n - (N : Int)))) = thN := by funext n; congr 1; omega
        rw [e2] at this
        exact this
      obtain ⟨LA, hLA⟩ : ∃ LA, mk10 N (fun x => thN (N + x)) l = LA := ⟨_, rfl⟩
      rw [hLA] at hT hA
      have HT1 : Hid (WinT wr q b ⟨N, i, LA⟩ ∧ Chg (Wb q b) w3 wr ∧ AllOf LA (N : Int) ((N : Int) + (i : Int)) thN) := ⟨hT.1, hT.2, hA⟩
      clear hT hA HT hLA HL hln
      have cn : wr.cell? ⟨bn, 0, none⟩ = some (.int .i64 (N : Int)) := box1 (HT1.out.2.1.block HT0.out.2.2.2.1 (by have h := HT0.out.2.2.2.2.2; simp only [Wb]; omega))
      obtain ⟨nM, hnM⟩ : ∃ nM : Nat, nM = N + i := ⟨_, rfl⟩
      have w2' : IntKind.i64.wrap ((N : Int) + (i : Int)) = (nM : Int) := by rw [IntWalk.i64_in _ (by have := HM.out; omega)]; omega
      have HNM : Hid (nM = N + i) := hnM
      clear hnM
      gi_wp2
      refine ⟨trivial, (callsIn_wide.2 (putT HT1.out.1 (nM : Int) _ (by have := HNM.out; have := HM.out; omega))).mono ?_⟩
      rintro e w4 ⟨rfl, k1, k2, k3⟩
      have hfar : putE (⟨N, i, LA⟩ : Wn ByteArray) (nM : Int) = 132 := by
        have h1 := HNM.out
        have g2 : ¬ ((nM : Int) < (N : Int)) := by omega
        have g3 : (i : Int) ≤ (nM : Int) - (N : Int) := by omega
        simp [putE, g2, g3]
      rw [hfar]
      have H4 : Hid (WinT w4 q b ⟨N, i, LA⟩ ∧ Chg (Wb q b) w3 w4) := by
        refine ⟨?_, HT1.out.2.1.trans k2⟩
        simp only [putS, hfar] at k1
        exact k1
      have HLA : Hid (LA.length = i) := by have := HT1.out.2.2.2.2; show _ = _; omega
      have HAL : Hid (AllOf LA (N : Int) ((N : Int) + (i : Int)) thN) := HT1.out.2.2
      have cn4 : w4.cell? ⟨bn, 0, none⟩ = some (.int .i64 (N : Int)) := box1 (H4.out.2.block HT0.out.2.2.2.1 (by have h := HT0.out.2.2.2.2.2; simp only [Wb]; omega))
      clear k1 k2 k3 hfar HT1 cn w2'
      gi_wp2
      gi_cut [94] from 27 (fun v wx => v = .bool false ∧ Hid (WinT wx q b ⟨N, i, LA⟩ ∧ Chg (Wb q b) w3 wx))
      case first =>
        refine wpIn_calm ?_
        refine wpIn_region_any (by kernel_rfl) ?_
        change wpAnyIn _ _ _ _ _ _ _ _ _ w4.drew
        refine takeR (i := 0) (d := some 80) (v := ?vT1) rfl rfl rfl (by kernel_rfl) (by kernel_rfl) (by kernel_rfl) (fun _ _ _ h => h) ⟨Or.inl ⟨by rfl, ?hyT1⟩, fun _ => rfl⟩ ?rsT1
        case hyT1 => (intro w; go_simp; (try with_reducible rfl))
        try simp only [Act.put, List.setIfInBounds_toArray, List.set_cons_zero, List.set_cons_succ]
        refine takeR (i := 1) (d := some 81) (v := ?vT2) rfl rfl rfl (by kernel_rfl) (by kernel_rfl) (by kernel_rfl) (fun _ _ _ h => h) ⟨Or.inl ⟨by rfl, ?hyT2⟩, fun _ => rfl⟩ ?rsT2
        case hyT2 => (intro w; go_simp; (try with_reducible rfl))
        try simp only [Act.put, List.setIfInBounds_toArray, List.set_cons_zero, List.set_cons_succ]
        refine takeR (i := 2) (d := some 82) (v := ?vT3) rfl rfl rfl (by kernel_rfl) (by kernel_rfl) (by kernel_rfl) (fun _ _ _ h => h) ⟨Or.inl ⟨by rfl, ?hyT3⟩, fun _ => rfl⟩ ?rsT3
        case hyT3 => (intro w; go_simp; (try with_reducible rfl))
        try simp only [Act.put, List.setIfInBounds_toArray, List.set_cons_zero, List.set_cons_succ]
        refine takeR (i := 3) (d := some 83) (v := ?vT4) rfl rfl rfl (by kernel_rfl) (by kernel_rfl) (by kernel_rfl) (fun _ _ _ h => h) ⟨Or.inl ⟨by rfl, ?hyT4⟩, fun _ => rfl⟩ ?rsT4
        case hyT4 => (intro w; go_simp; (try with_reducible rfl))
        try simp only [Act.put, List.setIfInBounds_toArray, List.set_cons_zero, List.set_cons_succ]
        refine takeR (i := 6) (d := some 86) (v := ?vT5) rfl rfl rfl (by kernel_rfl) (by kernel_rfl) (by kernel_rfl) (fun _ _ _ h => h) ⟨Or.inl ⟨by rfl, ?hyT5⟩, fun _ => rfl⟩ ?rsT5
        case hyT5 => (intro w; go_simp; (try with_reducible rfl))
        try simp only [Act.put, List.setIfInBounds_toArray, List.set_cons_zero, List.set_cons_succ]
        refine wpAnyIn_ready (rs := [4]) (by kernel_rfl) (by simp) (AllReadyIn.cons rfl (fun K hK => ?b19) AllReadyIn.nil)
        case b19 =>
          go_simp
          refine ⟨trivial, (callsIn_wide.2 (heldT (H4.out.1.drew) (by show (N : Int) ≤ _; have := HM.out; omega))).mono ?_⟩
          rintro e w5 ⟨v, rfl, hv, hb⟩
          obtain ⟨vb, vd, rfl⟩ := hv.shape
          simp only [srt_length, HLA.out]
          have H5 : Hid (WinT w5 q b ⟨N, i, LA⟩ ∧ Chg (Wb q b) w3 w5) := ⟨H4.out.1.drew.below hb, (H4.out.2.drew).trans (Chg.of_below hb)⟩
          have cn5 : w5.cell? ⟨bn, 0, none⟩ = some (.int .i64 (N : Int)) := box1 (H5.out.2.block HT0.out.2.2.2.1 (by have h := HT0.out.2.2.2.2.2; simp only [Wb]; omega))
          clear hv hb H4 cn4
          refine hK _ _ ?_
          clear hK K
          refine takeR (i := 5) (d := some 85) (v := ?vT6) rfl rfl rfl (by kernel_rfl) (by kernel_rfl) (by kernel_rfl) (fun _ _ _ h => h) ⟨Or.inl ⟨by rfl, ?hyT6⟩, fun _ => rfl⟩ ?rsT6
          case hyT6 => (intro w; go_simp; (try with_reducible rfl))
          try simp only [Act.put, List.setIfInBounds_toArray, List.set_cons_zero, List.set_cons_succ]
          refine takeR (i := 7) (d := some 87) (v := ?vT7) rfl rfl rfl (by kernel_rfl) (by kernel_rfl) (by kernel_rfl) (fun _ _ _ h => h) ⟨Or.inl ⟨by rfl, ?hyT7⟩, fun _ => rfl⟩ ?rsT7
          case hyT7 => (intro w; go_simp; (try with_reducible rfl))
          try simp only [Act.put, List.setIfInBounds_toArray, List.set_cons_zero, List.set_cons_succ]
          refine takeR (i := 8) (d := some 88) (v := ?vT8) rfl rfl rfl (by kernel_rfl) (by kernel_rfl) (by kernel_rfl) (fun _ _ _ h => h) ⟨Or.inl ⟨by rfl, ?hyT8⟩, fun _ => rfl⟩ ?rsT8
          case hyT8 => (intro w; go_simp; (try with_reducible rfl))
          try simp only [Act.put, List.setIfInBounds_toArray, List.set_cons_zero, List.set_cons_succ]
          refine takeR (i := 9) (d := some 89) (v := ?vT9) rfl rfl rfl (by kernel_rfl) (by kernel_rfl) (by kernel_rfl) (fun _ _ _ h => h) ⟨Or.inl ⟨by rfl, ?hyT9⟩, fun _ => rfl⟩ ?rsT9
          case hyT9 => (intro w; go_simp; (try with_reducible rfl))
          try simp only [Act.put, List.setIfInBounds_toArray, List.set_cons_zero, List.set_cons_succ]
          refine takeR (i := 10) (d := some 90) (v := ?vT10) rfl rfl rfl (by kernel_rfl) (by kernel_rfl) (by kernel_rfl) (fun _ _ _ h => h) ⟨Or.inl ⟨by rfl, ?hyT10⟩, fun _ => rfl⟩ ?rsT10
          case hyT10 => (intro w; go_simp; (try with_reducible rfl))
          try simp only [Act.put, List.setIfInBounds_toArray, List.set_cons_zero, List.set_cons_succ]
          refine wpAnyIn_ready (rs := [11, 12]) (by kernel_rfl) (by simp) (AllReadyIn.cons rfl (fun K hK => ?b17) (AllReadyIn.cons rfl (fun K hK => ?b18) AllReadyIn.nil))
          case b17 =>
            go_simp
            refine ⟨trivial, (callsIn_wide.2 (nextT H5.out.1)).mono ?_⟩
            rintro e w6 ⟨rfl, hw6⟩
            obtain rfl := hw6.symm
            clear hw6
            refine hK _ _ ?_
            clear hK K
            refine wpAnyIn_ready (rs := [12]) (by kernel_rfl) (by simp) (AllReadyIn.cons rfl (fun K hK => ?b13) AllReadyIn.nil)
            case b13 =>
              go_simp
              refine hK _ _ ?_
              clear hK K
              try simp only [Act.put, List.setIfInBounds_toArray, List.set_cons_zero, List.set_cons_succ]
              refine takeR (i := 13) (d := some 93) (v := ?vT11) rfl rfl rfl (by kernel_rfl) (by kernel_rfl) (by kernel_rfl) (fun _ _ _ h => h) ⟨Or.inl ⟨by rfl, ?hyT11⟩, fun _ => rfl⟩ ?rsT11
              case hyT11 => (intro w; go_simp; (try with_reducible rfl))
              try simp only [Act.put, List.setIfInBounds_toArray, List.set_cons_zero, List.set_cons_succ]
              refine takeR (i := 14) (d := some 94) (v := ?vT12) rfl rfl rfl (by kernel_rfl) (by kernel_rfl) (by kernel_rfl) (fun _ _ _ h => h) ⟨Or.inl ⟨by rfl, ?hyT12⟩, fun _ => rfl⟩ ?rsT12
              case hyT12 => (intro w; go_simp; (try with_reducible rfl))
              try simp only [Act.put, List.setIfInBounds_toArray, List.set_cons_zero, List.set_cons_succ]
              refine wpAnyIn_done (by kernel_rfl) ?_ _
              gi_wp2
              gi_meet
              case rel => exact ⟨by trivial, H5.out⟩
          case b18 =>
            go_simp
            refine hK _ _ ?_
            clear hK K
            try simp only [Act.put, List.setIfInBounds_toArray, List.set_cons_zero, List.set_cons_succ]
            refine wpAnyIn_ready (rs := [11]) (by kernel_rfl) (by simp) (AllReadyIn.cons rfl (fun K hK => ?b16) AllReadyIn.nil)
            case b16 =>
              go_simp
              refine ⟨trivial, (callsIn_wide.2 (nextT H5.out.1)).mono ?_⟩
              rintro e w6 ⟨rfl, hw6⟩
              obtain rfl := hw6.symm
              clear hw6
              refine hK _ _ ?_
              clear hK K
              refine takeR (i := 13) (d := some 93) (v := ?vT14) rfl rfl rfl (by kernel_rfl) (by kernel_rfl) (by kernel_rfl) (fun _ _ _ h => h) ⟨Or.inl ⟨by rfl, ?hyT14⟩, fun _ => rfl⟩ ?rsT14
              case hyT14 => (intro w; go_simp; (try with_reducible rfl))
              try simp only [Act.put, List.setIfInBounds_toArray, List.set_cons_zero, List.set_cons_succ]
              refine takeR (i := 14) (d := some 94) (v := ?vT15) rfl rfl rfl (by kernel_rfl) (by kernel_rfl) (by kernel_rfl) (fun _ _ _ h => h) ⟨Or.inl ⟨by rfl, ?hyT15⟩, fun _ => rfl⟩ ?rsT15
              case hyT15 => (intro w; go_simp; (try with_reducible rfl))
              try simp only [Act.put, List.setIfInBounds_toArray, List.set_cons_zero, List.set_cons_succ]
              refine wpAnyIn_done (by kernel_rfl) ?_ _
              gi_wp2
              gi_meet
              case rel => exact ⟨by trivial, H5.out⟩
      case rest =>
        obtain ⟨rfl, H5⟩ := hcut
        clear H4 cn4
        obtain ⟨z2, hz2, _, HPS⟩ := pk_nat st i HM.out.1 (by have := HM.out.2.1; omega)
        have HPS2 : Hid (∀ w, Calls Try.prog 10 #[.int .i64 st, .int .i64 (i : Int)] w fun e w' => e = .returned (.int .i64 (z2 : Int)) ∧ w' = w) := HPS
        obtain ⟨sp, hsp⟩ : ∃ sp : Nat, sp = 1 + z2 := ⟨_, rfl⟩
        have e3 : IntKind.i64.wrap (1 + (z2 : Int)) = (sp : Int) := by rw [IntWalk.i64_in _ (by have := HM.out.2.1; omega)]; omega
        have HSP : Hid (1 ≤ sp ∧ sp ≤ i) := ⟨by omega, by omega⟩
        clear HPS hz2 hsp
        obtain ⟨c0, c1, c2, c3⟩ := box4 (H5.out.2.block HT0.out.2.1 (by have h := HT0.out.2.2.2.2.2; simp only [Wb]; omega))
        have ca : ∀ o, (wc.alloc o).cell? ⟨B, 3, none⟩ = some (.int .i64 st) := fun o => (((Below.refl wc.heap.size wc).alloc (Nat.le_refl _) o).cell (p := ⟨B, 3, none⟩) (World.block_lt_of_cell? _ _ c3)).trans c3
        gi_wp2
        refine ⟨trivial, (callsIn_wide.2 (HPS2.out _)).mono ?_⟩
        rintro e w5 ⟨rfl, hw5⟩
        obtain rfl := hw5.symm
        clear hw5
        gi_wp2
        obtain ⟨bo, hbo⟩ : ∃ bo, wc.heap.size = bo := ⟨_, rfl⟩
        obtain ⟨w6, hw6⟩ : ∃ w6, (wc.alloc (.cells #[.int .i64 0] 3)).alloc (.cells #[.int .i64 (sp : Int)] 3) = w6 := ⟨_, rfl⟩
        have H6 : Hid (WinT w6 q b ⟨N, i, LA⟩ ∧ w6.heap[bo]? = some (.cells #[.int .i64 0] 3) ∧ w6.heap[bo + 1]? = some (.cells #[.int .i64 (sp : Int)] 3) ∧ w6.heap[bn]? = some (.cells #[.int .i64 (N : Int)] 3) ∧ w6.heap[B + 1]? = some (.cells #[.bool false] 4) ∧ Below B w w6 ∧ (w.heap.size = B ∧ bn = B + 2 ∧ b = B + 3 ∧ q = B + 4 ∧ B + 5 ≤ bo ∧ w6.heap.size = bo + 2)) := by
          have hb6 : Below wc.heap.size wc w6 := by rw [← hw6]; exact ((Below.refl _ _).alloc (Nat.le_refl _) _).alloc (by simp) _
          obtain ⟨h1, h2, h3, h4, h5, h6, h7, h8, h9, h10⟩ := HT0.out
          have hs := H5.out.2.size
          have hw5 : ∀ g o, w3.heap[g]? = some o → ¬ Wb q b g → w6.heap[g]? = some o := fun g o hg hn => (hb6.block _ (by have := (Array.getElem?_eq_some_iff.1 hg).1; omega)).trans (H5.out.2.block hg hn)
          have hBw : Below B w wc := h5.trans (H5.out.2.below (fun g hg => by simp only [Wb] at hg; omega) (by omega))
          refine ⟨H5.out.1.below hb6, ?_, ?_, hw5 _ _ h4 (by simp only [Wb]; omega), hw5 _ _ h3 (by simp only [Wb]; omega), hBw.trans (hb6.mono (by omega)), h6, h7, h8, h9, by omega, by rw [← hw6]; simp; omega⟩
          · rw [← hw6, ← hbo]; exact (Below.heap_alloc _ _ _ (by simp)).trans (heap_alloc_new _ _)
          · rw [← hw6, ← hbo]
            have := heap_alloc_new (wc.alloc (.cells #[.int .i64 0] 3)) (.cells #[.int .i64 (sp : Int)] 3)
            rwa [World.size_alloc] at this
        rw [hbo, hw6]
        clear hbo hw6 H5 c0 c1 c2 c3 ca HPS2 e3 HT0
        gi_wp2
        refine ⟨trivial, (callsIn_wide.2 (readyT q _)).mono ?_⟩
        rintro e w7 ⟨rfl, hw7⟩
        obtain ⟨bx, hbx⟩ : ∃ bx, w6.heap.size = bx := ⟨_, rfl⟩
        have H7 : Hid (SI Value.string 73 q b bo 3 w7 w7 ⟨N, i, LA⟩ (.int .i64 0) ∧ w7.heap[bo + 1]? = some (.cells #[.int .i64 (sp : Int)] 3) ∧ w7.heap[bn]? = some (.cells #[.int .i64 (N : Int)] 3) ∧ w7.heap[B + 1]? = some (.cells #[.bool false] 4) ∧ w7.heap[bx]? = some (.cells #[.pointer (some ⟨q, 0, none⟩)] 48) ∧ Below B w w7 ∧ (w.heap.size = B ∧ bn = B + 2 ∧ b = B + 3 ∧ q = B + 4 ∧ B + 5 ≤ bo ∧ bx = bo + 2 ∧ w7.heap.size = bo + 3)) := by
          have hb7 : Below w6.heap.size w6 w7 := by rw [hw7]; exact (Below.refl _ _).alloc (Nat.le_refl _) _
          obtain ⟨h1, h2, h3, h4, h5, h6, h7, h8, h9, h10, h11, h12⟩ := H6.out
          exact ⟨⟨h1.below hb7, (hb7.block _ (by omega)).trans h2, Chg.refl _ _⟩, (hb7.block _ (by omega)).trans h3, (hb7.block _ (by omega)).trans h4, (hb7.block _ (by omega)).trans h5, by rw [hw7, ← hbx]; exact heap_alloc_new _ _, h6.trans (hb7.mono (by omega)), h7, h8, h9, h10, h11, by omega, by rw [hw7]; simp; omega⟩
        rw [hbx]
        clear hbx hw7 H6
        have HEQ := fun W => run_eql_func_nil (P := Try.prog) W 57 _ _ _ (.func 34) #[] #[.pointer (some ⟨bx, 0, none⟩)] Try.underlying57
        gi_wp2
        have HI0 : Hid (OS N i 0 ⟨N, i, LA⟩) := ⟨by simp, rfl, by simpa using HAL.out⟩
        refine rangeM (α := Int × ByteArray) (σ := Wn ByteArray) rfl rfl (by decide) (gf := 34) (lb := #[.pointer (some ⟨bx, 0, none⟩)]) rfl trivial (enters_of Try.func34 (by kernel_rfl) rfl) (seqT bx q b 5)
          (fun g hg => by have h := H7.out.2.2.2.2.2.2; simp only [Wb] at hg; omega) (fun _ => rfl)
          (fun k s W => ∃ o : Nat, k = sp - o ∧ o < sp ∧ SI Value.string 73 q b bo 3 w7 W s (.int .i64 (o : Int)) ∧ OS N i o s)
          (fun k _ x s' W => ∃ o : Nat, k = sp - o ∧ o < sp ∧ x = ((N : Int) + (o : Int), thN ((N : Int) + (o : Int))) ∧ SI Value.string 73 q b bo 3 w7 W s' (.int .i64 (o : Int)) ∧ OS N i (o + 1) s')
          (fun c W => c = .exit 2 ∧ ∃ s, SI Value.string 73 q b bo 3 w7 W s (.int .i64 (sp : Int)) ∧ OS N i sp s)
          ?hI ?hIx ?hPre ?hAt ?hStep sp ⟨N, i, LA⟩ ⟨0, rfl, by have := HSP.out; omega, H7.out.1, HI0.out⟩
          (fun x => { tmps := #[.agg #[.int .i64 nx, .int .i64 sz, .slice a tn cap, .int .i64 st], .pointer (some ⟨B, 0, none⟩), .pointer (some ⟨B + 1, 0, none⟩), .int .i64 (i : Int), .pointer (some ⟨bn, 0, none⟩), .pointer (some ⟨q, 0, none⟩), .int .i64 0, .slice va i vc, .int .i64 (i : Int), u9, u10, u11, .int .i64 132, .pointer (some ⟨bo, 0, none⟩), .pointer (some ⟨bo + 1, 0, none⟩), .func (.func 34) #[] #[.pointer (some ⟨bx, 0, none⟩)], .int .i64 x.1, .string x.2, undef, undef, undef, undef, undef, undef, undef, undef, undef, u27, u28, u29, u30, u31, u32, u33, u34, u35, u36, u37, u38, u39, u40, u41, u42, u43, u44, u45, u46, u47, u48, u49, u50, u51, u52, u53, u54, u55, u56, u57, u58, u59, u60, u61, u62, u63, u64, u65, u66, u67, u68, u69, u70, u71, u72, u73, u74, u75, u76, u77, u78, u79, u80, u81, u82, u83, u84, u85, u86, u87, u88, u89, u90, u91, u92, u93, .bool false, .pointer (some ⟨B, 3, none⟩), .int .i64 st, .int .i64 (i : Int), .int .i64 (z2 : Int), .int .i64 (sp : Int), .pointer (some ⟨q, 0, none⟩), .func (.func 34) #[] #[.pointer (some ⟨bx, 0, none⟩)], .func (.func 34) #[] #[.pointer (some ⟨bx, 0, none⟩)], .bool false, .func (.func 34) #[] #[.pointer (some ⟨bx, 0, none⟩)], .int .i64 x.1, .string x.2, u107, u108, u109, u110, u111, u112, u113, u114, u115, u116, u117, u118, u119, u120, u121, u122, u123, u124, u125, u126, u127, u128, u129, u130, u131, u132, u133, u134, u135, u136, u137, u138, u139, u140, u141, u142, u143, u144, u145, u146, u147, u148, u149, u150, u151, u152, u153, u154, u155, u156, u157, u158, u159, u160, u161, u162, u163, u164, u165, u166, u167, u168, u169, u170, u171, u172, u173, u174, u175, u176, u177, u178, u179, u180, u181, u182, u183, u184, u185, u186, u187, u188, u189, u190, u191, u192, u193, u194, u195, u196, u197, u198, u199, u200, u201, u202, u203, u204, u205, u206, u207, u208, u209, u210, u211, u212], defers := [] }) ?assign ?body ?done ?stop
        case hI =>
          intro k s
          refine ownW_of fun W W' ⟨o, h1, h2, h3, h4⟩ hC => ⟨o, h1, h2, ?_, h4⟩
          have h := H7.out.2.2.2.2.2.2
          exact h3.chgD hC (by omega) (by omega) (by omega) (fun g hg => hg)
        case hIx =>
          intro c
          refine ownW_of fun W W' ⟨h1, s, h3, h4⟩ hC => ⟨h1, s, ?_, h4⟩
          have h := H7.out.2.2.2.2.2.2
          exact h3.chgD hC (by omega) (by omega) (by omega) (fun g hg => hg)
        case hPre =>
          intro k s x s'
          refine ownW_of fun W W' ⟨o, h1, h2, h5, h3, h4⟩ hC => ⟨o, h1, h2, h5, ?_, h4⟩
          have h := H7.out.2.2.2.2.2.2
          exact h3.chgD hC (by omega) (by omega) (by omega) (fun g hg => hg)
        case hAt =>
          rintro k s W ⟨o, h1, h2, h3, h4⟩
          have h := H7.out.2.2.2.2.2.2
          exact AtT.of h3 H7.out.2.2.2.2.1 (by simp only [Wb]; omega) (by rw [h4.bound]; have := HM.out; omega)
        case hStep =>
          rintro k s x s' W1 W2 ⟨o, h1, h2, h3, h4⟩ hn hA hC
          obtain ⟨n1, n2, n3, n4⟩ := nxtW_inv hn
          have hoi : o < i := by have := HSP.out; omega
          have hg := (h4.has hoi).1
          rw [n2] at hg
          refine ⟨o, h1, h2, ?_, h3.put hA.1 hC, by rw [n3]; exact h4.pass hoi h3.win.nodup⟩
          obtain ⟨x1, x2⟩ := x
          simp only at n1 hg
          rw [n1]
          simp only [Option.some.injEq] at hg
          rw [hg, h4.1]
        case assign =>
          intro lp x W K hK
          simp only [encT]
          gi_wp2
          exact hK
        case body =>
          rintro lp k s x s' W hlp _ ⟨o, hk, ho, rfl, hSI, hOS⟩
          obtain ⟨nO, hnO⟩ : ∃ nO : Nat, nO = N + o := ⟨_, rfl⟩
          have w1' : IntKind.i64.wrap ((N : Int) + (o : Int)) = (nO : Int) := by rw [IntWalk.i64_in _ (by have := HM.out; have := HSP.out; omega)]; omega
          have w2' : (N : Int) + (o : Int) = (nO : Int) := by omega
          obtain ⟨o1, ho1⟩ : ∃ o1 : Nat, o1 = o + 1 := ⟨_, rfl⟩
          have w3' : IntKind.i64.wrap ((o : Int) + 1) = (o1 : Int) := by rw [IntWalk.i64_in _ (by have := HM.out; have := HSP.out; omega)]; omega
          have hq := H7.out.2.2.2.2.2.2
          have co : W.cell? ⟨bo, 0, none⟩ = some (.int .i64 (o : Int)) := box1 hSI.out
          have cs : W.cell? ⟨bo + 1, 0, none⟩ = some (.int .i64 (sp : Int)) := box1 (hSI.chg.block H7.out.2.1 (by simp only [Wb]; omega))
          have cn : W.cell? ⟨bn, 0, none⟩ = some (.int .i64 (N : Int)) := box1 (hSI.chg.block H7.out.2.2.1 (by simp only [Wb]; omega))
          have HW : Hid (SI Value.string 73 q b bo 3 w7 W s' (.int .i64 (o : Int)) ∧ OS N i (o + 1) s' ∧ o1 = o + 1 ∧ o < sp ∧ k = sp - o ∧ nO = N + o) := ⟨hSI, hOS, ho1, ho, hk, hnO⟩
          rw [show ((N : Int) + (o : Int), thN ((N : Int) + (o : Int))) = ((nO : Int), thingP nO) by rw [w2']; rfl]
          dsimp only
          have HT1 : Hid (∀ w, Calls Try.prog 21 #[.int .i64 (nO : Int)] w fun e w' => e = .returned (.string (thingP nO)) ∧ Below w.heap.size w w') := HTH.out nO (by have := HM.out; have := HSP.out; omega)
          generalize thingP nO = tO at *
          clear hSI hOS ho1 ho hk hnO hq w2'
          gi_wp2
          refine ⟨trivial, CallsIn.inRound _ ((callsIn_wide.2 (HT1.out _)).mono ?_)⟩
          rintro e W2 ⟨rfl, hb2⟩
          have hq := H7.out.2.2.2.2.2.2
          have HW2 : Hid (SI Value.string 73 q b bo 3 w7 W2 s' (.int .i64 (o : Int)) ∧ Below W.heap.size W W2) := ⟨HW.out.1.below hb2, hb2⟩
          have co2 : W2.cell? ⟨bo, 0, none⟩ = some (.int .i64 (o : Int)) := box1 HW2.out.1.out
          have fo2 := Lib.frozen_of_heap HW2.out.1.out 0
          have HW3 : Hid (SI Value.string 73 q b bo 3 w7 (W2.setCell ⟨bo, 0, none⟩ (.int .i64 (o1 : Int))) s' (.int .i64 (o1 : Int)) ∧ KeepsFrom w7.heap.size W (W2.setCell ⟨bo, 0, none⟩ (.int .i64 (o1 : Int)))) := by
            refine ⟨HW2.out.1.set _, ?_⟩
            have hC : Chg (fun g => g = bo) W (W2.setCell ⟨bo, 0, none⟩ (.int .i64 (o1 : Int))) := (Chg.of_below HW2.out.2).trans (Chg.set (D := fun g => g = bo) (q := bo) 0 _ _ rfl)
            exact keepsFrom_chg hC (fun g hg => by omega)
          obtain ⟨W3, hW3⟩ : ∃ W3, W2.setCell ⟨bo, 0, none⟩ (.int .i64 (o1 : Int)) = W3 := ⟨_, rfl⟩
          rw [hW3] at HW3
          have co3 : W3.cell? ⟨bo, 0, none⟩ = some (.int .i64 (o1 : Int)) := box1 HW3.out.1.out
          have cs3 : W3.cell? ⟨bo + 1, 0, none⟩ = some (.int .i64 (sp : Int)) := box1 (HW3.out.1.chg.block H7.out.2.1 (by simp only [Wb]; omega))
          clear hb2 co cs cn hq
          by_cases hos : o1 = sp
          · have g2 : ((o1 : Int) == (sp : Int)) = true := by rw [hos]; simp
            have HOS : Hid (o1 = sp) := hos
            clear hos
            gi_wp2
            exact ⟨HW3.out.2, rfl, s', by have := HW3.out.1; rw [HOS.out] at this; exact this, by have := HW.out.2.1; rw [← HW.out.2.2.1, HOS.out] at this; exact this⟩
          · have g2 : ((o1 : Int) == (sp : Int)) = false := beq_eq_false_iff_ne.2 (by omega)
            have HOS : Hid (o1 ≠ sp) := hos
            clear hos
            gi_wp2
            have h1 := HW.out.2.2
            have h2 := HOS.out
            exact ⟨HW3.out.2, sp - o1, s', by omega, o1, rfl, by omega, HW3.out.1, by have := HW.out.2.1; rw [← HW.out.2.2.1] at this; exact this⟩
        case done =>
          rintro De k s Z hDe ⟨o, h1, h2, h3, h4⟩ hnn _
          have := nxtW_none hnn
          have h5 := (h4.has (by have := HSP.out; omega)).2
          rw [this] at h5
          cases h5
        case stop =>
          rintro De c Z hDe ⟨rfl, s, hSI, hOS⟩ hKd
          obtain ⟨nS, hnS⟩ : ∃ nS : Nat, nS = N + sp := ⟨_, rfl⟩
          have w1' : IntKind.i64.wrap ((N : Int) + (sp : Int)) = (nS : Int) := by rw [IntWalk.i64_in _ (by have := HM.out; have := HSP.out; omega)]; omega
          have hq := H7.out.2.2.2.2.2.2
          have co : Z.cell? ⟨bo, 0, none⟩ = some (.int .i64 (sp : Int)) := box1 hSI.out
          have cs : Z.cell? ⟨bo + 1, 0, none⟩ = some (.int .i64 (sp : Int)) := box1 (hSI.chg.block H7.out.2.1 (by simp only [Wb]; omega))
          have cn : Z.cell? ⟨bn, 0, none⟩ = some (.int .i64 (N : Int)) := box1 (hSI.chg.block H7.out.2.2.1 (by simp only [Wb]; omega))
          have HNX : Hid (∀ k, Calls Try.prog 24 #[.pointer (some ⟨q, 0, none⟩)] (Z.drewN k) fun e w' => e = .returned (.int .i64 (nS : Int)) ∧ w' = Z.drewN k) := fun k => by
            have := nextT (hSI.win.drewN k)
            rw [hOS.1, show (N : Int) + (sp : Int) = (nS : Int) by omega] at this
            exact this
          have HZ : Hid (SI Value.string 73 q b bo 3 w7 Z s (.int .i64 (sp : Int)) ∧ OS N i sp s ∧ Z.heap[De]? = some (.deferred (some [])) ∧ w7.heap.size ≤ De) := ⟨hSI, hOS, hKd, hDe⟩
          clear hSI hOS hKd hDe hnS hq
          gi_wp2
          refine wpIn_region_quiet_lit rfl (by kernel_rfl) (by kernel_rfl) ?_
          refine wpQuietIn_step (by go_simp; done) (fun K hK => ?_)
          go_simp
          refine hK _ ?_
          clear hK K
          refine wpQuietIn_step (by go_simp; done) (fun K hK => ?_)
          go_simp
          refine hK _ ?_
          clear hK K
          refine wpQuietIn_step (by go_simp; done) (fun K hK => ?_)
          go_simp
          refine hK _ ?_
          clear hK K
          refine wpQuietIn_step (by go_simp; done) (fun K hK => ?_)
          go_simp
          refine hK _ ?_
          clear hK K
          refine wpQuietIn_step (by go_simp; done) (fun K hK => ?_)
          go_simp
          refine hK _ ?_
          clear hK K
          refine wpQuietIn_step (by intro _ _ _ _; exact trivial) (fun K hK => ?_)
          go_simp
          apply Exists.intro
          refine ⟨fun _ => ?_, hK _ ?_⟩
          exact CallsIn.quiet_of_same (callsIn_wide.2 (HNX.out _))
          clear hK K
          refine wpQuietIn_step (by go_simp; done) (fun K hK => ?_)
          go_simp
          refine hK _ ?_
          clear hK K
          refine wpQuietIn_step (by go_simp; done) (fun K hK => ?_)
          go_simp
          refine hK _ ?_
          clear hK K
          refine wpQuietIn_step (by go_simp; done) (fun K hK => ?_)
          go_simp
          refine hK _ ?_
          clear hK K
          refine wpQuietIn_step (by go_simp; done) (fun K hK => ?_)
          go_simp
          refine hK _ ?_
          clear hK K
          refine wpQuietIn_step (by go_simp; done) (fun K hK => ?_)
          go_simp
          refine hK _ ?_
          clear hK K
          refine wpQuietIn_nil ?_
          intro _ hw'
          obtain ⟨nq, hw''⟩ := hw'
          subst hw''
          obtain ⟨w8, hw8⟩ : ∃ w8, Z.drewN nq = w8 := ⟨_, rfl⟩
          have H8 : Hid (SI Value.string 73 q b bo 3 w8 w8 s (.int .i64 (sp : Int)) ∧ OS N i sp s ∧ w8.heap[bn]? = some (.cells #[.int .i64 (N : Int)] 3) ∧ w8.heap[B + 1]? = some (.cells #[.bool false] 4) ∧ w8.heap[bx]? = some (.cells #[.pointer (some ⟨q, 0, none⟩)] 48) ∧ w8.heap[De]? = some (.deferred (some [])) ∧ Below B w w8 ∧ (w.heap.size = B ∧ bn = B + 2 ∧ b = B + 3 ∧ q = B + 4 ∧ B + 5 ≤ bo ∧ bx = bo + 2 ∧ bo + 3 ≤ De ∧ De < w8.heap.size)) := by
            obtain ⟨h1, h2, h3, h4⟩ := HZ.out
            obtain ⟨_, _, k3, k4, k5, k6, k7, k8, k9, k10, k11, k12, k13⟩ := H7.out
            have hC : Chg (fun g => Wb q b g ∨ g = bo) w7 w8 := by rw [← hw8]; exact h1.chg.drewN
            have hdl : De < Z.heap.size := (Array.getElem?_eq_some_iff.1 h3).1
            refine ⟨⟨by rw [← hw8]; exact h1.win.drewN _, by rw [← hw8]; exact h1.out, Chg.refl _ _⟩, h2, hC.block k3 (by simp only [Wb]; omega), hC.block k4 (by simp only [Wb]; omega), hC.block k5 (by simp only [Wb]; omega), by rw [← hw8]; exact h3, k6.trans (hC.below (fun g hg => by simp only [Wb] at hg; omega) (by omega)), k7, k8, k9, k10, k11, k12, by omega, by rw [← hw8]; exact hdl⟩
          rw [hw8]
          clear hw8 HZ HNX co cs cn w1' H7
          gi_wp2
          gi_loopw [18, 19, 20, 21] (fun vi _ _ _ W => ∃ (j o : Nat) (s : Wn ByteArray), vi = .int .i64 (j : Int) ∧ j ≤ 2 ∧ o ≤ i ∧ Hid (SI Value.string 73 q b bo 3 w8 W s (.int .i64 (o : Int)) ∧ OS N i o s)) (fun vi _ _ _ _ => 2 - (RowKit.intOf vi).toNat)
          case atStart => exact ⟨0, sp, s, rfl, by omega, HSP.out.2, (by show _ ∧ _; exact ⟨H8.out.1, H8.out.2.1⟩)⟩
          case round =>
            obtain ⟨j, o, s1, rfl, hj, ho, HT⟩ := hrel
            have hq := H8.out.2.2.2.2.2.2.2
            have co : wr.cell? ⟨bo, 0, none⟩ = some (.int .i64 (o : Int)) := box1 HT.out.1.out
            have cn : wr.cell? ⟨bn, 0, none⟩ = some (.int .i64 (N : Int)) := box1 (HT.out.1.chg.block H8.out.2.2.1 (by simp only [Wb]; omega))
            by_cases hoi : o < i
            · have g2 : (o : Int) < (i : Int) := by omega
              by_cases hj2 : j < 2
              · have g3 : (j : Int) < 2 := by omega
                have HPK := HT.out.2.has hoi
                have HPK2 : Hid (getN s1.L s1.nx = some (thN s1.nx) ∧ hasN s1.L s1.nx = true) := HPK
                obtain ⟨nO, hnO⟩ : ∃ nO : Nat, nO = N + o := ⟨_, rfl⟩
                have w1' : IntKind.i64.wrap ((N : Int) + (o : Int)) = (nO : Int) := by rw [IntWalk.i64_in _ (by have := HM.out; omega)]; omega
                obtain ⟨o1, ho1⟩ : ∃ o1 : Nat, o1 = o + 1 := ⟨_, rfl⟩
                have w3' : IntKind.i64.wrap ((o : Int) + 1) = (o1 : Int) := by rw [IntWalk.i64_in _ (by have := HM.out; omega)]; omega
                have htn : thN s1.nx = thingP nO := by rw [HT.out.2.1, show (N : Int) + (o : Int) = (nO : Int) by omega]; rfl
                have HTI : Hid (∀ w, Calls Try.prog 21 #[.int .i64 (nO : Int)] w fun e w' => e = .returned (.string (thingP nO)) ∧ Below w.heap.size w w') := HTH.out nO (by have := HM.out; omega)
                have HPKC : Hid (Calls Try.prog 22 #[.pointer (some ⟨q, 0, none⟩)] wr fun e w' => e = .returned (.tuple #[.string (thingP nO), .int .i64 0]) ∧ ∃ k, w' = wr.drewN k) := by
                  have := peekT HT.out.1.win
                  rw [HPK.1, HPK.2, htn] at this
                  exact this
                have HNO : Hid (nO = N + o ∧ o1 = o + 1 ∧ o < i ∧ j < 2) := ⟨hnO, ho1, hoi, hj2⟩
                generalize thingP nO = tO at *
                have hj9 : j ≤ 9 := by omega
                clear HPK htn hnO ho1 hoi hq
                gi_wp2
                refine ⟨trivial, (callsIn_wide.2 HPKC.out).mono ?_⟩
                rintro e w9 ⟨rfl, kk, hw9⟩
                have H9 : Hid (SI Value.string 73 q b bo 3 w8 w9 s1 (.int .i64 (o : Int))) := HT.out.1.below (below_drewT hw9)
                clear hw9 co cn
                gi_wp2
                refine ⟨trivial, (callsIn_wide.2 (passT H9.out.win (by rw [HT.out.2.1]; have := HM.out; omega))).mono ?_⟩
                rintro e w10 ⟨rfl, k1, k2, k3⟩
                have e5 : dropE s1 s1.nx = 0 := by simp only [dropE, HPK2.out.2, if_true]
                rw [e5]
                have H10 : Hid (SI Value.string 73 q b bo 3 w8 w10 (passS s1) (.int .i64 (o : Int)) ∧ OS N i (o + 1) (passS s1)) := ⟨H9.out.put k1 k2, HT.out.2.pass HNO.out.2.2.1 H9.out.win.nodup⟩
                have hq := H8.out.2.2.2.2.2.2.2
                have co : w10.cell? ⟨bo, 0, none⟩ = some (.int .i64 (o : Int)) := box1 H10.out.1.out
                have cn : w10.cell? ⟨bn, 0, none⟩ = some (.int .i64 (N : Int)) := box1 (H10.out.1.chg.block H8.out.2.2.1 (by simp only [Wb]; omega))
                clear k1 k2 k3 e5 H9 hq
                gi_wp2
                refine ⟨trivial, (callsIn_wide.2 (HTI.out _)).mono ?_⟩
                rintro e w11 ⟨rfl, hb11⟩
                have H11 : Hid (SI Value.string 73 q b bo 3 w8 w11 (passS s1) (.int .i64 (o : Int))) := H10.out.1.below hb11
                have co2 : w11.cell? ⟨bo, 0, none⟩ = some (.int .i64 (o : Int)) := box1 H11.out.out
                have fo2 := Lib.frozen_of_heap H11.out.out 0
                have H12 : Hid (SI Value.string 73 q b bo 3 w8 (w11.setCell ⟨bo, 0, none⟩ (.int .i64 (o1 : Int))) (passS s1) (.int .i64 (o1 : Int))) := H11.out.set _
                clear hb11 co cn
                gi_wp2
                obtain ⟨h1, h2, h3, h4⟩ := HNO.out
                exact ⟨⟨j + 1, o1, passS s1, by simp, by omega, by omega, ⟨H12.out, by have := H10.out.2; rw [← h2] at this; exact this⟩⟩, by simp [RowKit.intOf]; omega⟩
              · have g3 : ¬ (j : Int) < 2 := by omega
                clear hq
                gi_wp2
                have hex : o = i ∨ 0 ≤ o := .inr (Nat.zero_le _)
                clear hex
                obtain ⟨w9, hw9⟩ : ∃ w9, wr = w9 := ⟨_, rfl⟩
                rw [hw9] at HT co cn ⊢
                have H9 : Hid (SI Value.string 73 q b bo 3 w9 w9 s1 (.int .i64 (o : Int)) ∧ OS N i o s1 ∧ w9.heap[bn]? = some (.cells #[.int .i64 (N : Int)] 3) ∧ w9.heap[B + 1]? = some (.cells #[.bool false] 4) ∧ w9.heap[bx]? = some (.cells #[.pointer (some ⟨q, 0, none⟩)] 48) ∧ w9.heap[De]? = some (.deferred (some [])) ∧ Below B w w9 ∧ (w.heap.size = B ∧ bn = B + 2 ∧ b = B + 3 ∧ q = B + 4 ∧ B + 5 ≤ bo ∧ bx = bo + 2 ∧ bo + 3 ≤ De ∧ De < w9.heap.size) ∧ o ≤ i) := by
                  obtain ⟨h1, h2⟩ := HT.out
                  obtain ⟨_, _, k3, k4, k5, k6, k7, k8, k9, k10, k11, k12, k13, k14, k15⟩ := H8.out
                  have hC := h1.chg
                  have hsz := hC.size
                  exact ⟨⟨h1.win, h1.out, Chg.refl _ _⟩, h2, hC.block k3 (by simp only [Wb]; omega), hC.block k4 (by simp only [Wb]; omega), hC.block k5 (by simp only [Wb]; omega), hC.block k6 (by simp only [Wb]; omega), k7.trans (hC.below (fun g hg => by simp only [Wb] at hg; omega) (by omega)), ⟨k8, k9, k10, k11, k12, k13, k14, by omega⟩, ho⟩
                clear hw9 HT H8 co cn
                refine rangeM (α := Int × ByteArray) (σ := Wn ByteArray) rfl rfl (by decide) (gf := 34) (lb := #[.pointer (some ⟨bx, 0, none⟩)]) rfl trivial (enters_of Try.func34 (by kernel_rfl) rfl) (seqT bx q b 5)
                  (fun g hg => by have h := H9.out.2.2.2.2.2.2.2; simp only [Wb] at hg; omega) (fun _ => rfl)
                  (fun k s W => ∃ o : Nat, k = i - o ∧ o ≤ i ∧ SI Value.string 73 q b bo 3 w9 W s (.int .i64 (o : Int)) ∧ OS N i o s)
                  (fun k _ x s' W => ∃ o : Nat, k = i - o ∧ o < i ∧ x = ((N : Int) + (o : Int), thN ((N : Int) + (o : Int))) ∧ SI Value.string 73 q b bo 3 w9 W s' (.int .i64 (o : Int)) ∧ OS N i (o + 1) s')
                  (fun _ _ => False)
                  ?hI ?hIx ?hPre ?hAt ?hStep (i - o) s1 ⟨o, rfl, ho, H9.out.1, H9.out.2.1⟩
                  (fun x => { tmps := #[.agg #[.int .i64 nx, .int .i64 sz, .slice a tn cap, .int .i64 st], .pointer (some ⟨B, 0, none⟩), .pointer (some ⟨B + 1, 0, none⟩), .int .i64 (i : Int), .pointer (some ⟨bn, 0, none⟩), .pointer (some ⟨q, 0, none⟩), .int .i64 0, .slice va i vc, .int .i64 (i : Int), u9, u10, u11, .int .i64 132, .pointer (some ⟨bo, 0, none⟩), .pointer (some ⟨bo + 1, 0, none⟩), .func (.func 34) #[] #[.pointer (some ⟨bx, 0, none⟩)], undef, undef, .int .i64 (j : Int), u19, u20, u21, .int .i64 x.1, .string x.2, undef, undef, undef, u27, u28, u29, u30, u31, u32, u33, u34, u35, u36, u37, u38, u39, u40, u41, u42, u43, u44, u45, u46, u47, u48, u49, u50, u51, u52, u53, u54, u55, u56, u57, u58, u59, u60, u61, u62, u63, u64, u65, u66, u67, u68, u69, u70, u71, u72, u73, u74, u75, u76, u77, u78, u79, u80, u81, u82, u83, u84, u85, u86, u87, u88, u89, u90, u91, u92, u93, .bool false, .pointer (some ⟨B, 3, none⟩), .int .i64 st, .int .i64 (i : Int), .int .i64 (z2 : Int), .int .i64 (sp : Int), .pointer (some ⟨q, 0, none⟩), .func (.func 34) #[] #[.pointer (some ⟨bx, 0, none⟩)], .func (.func 34) #[] #[.pointer (some ⟨bx, 0, none⟩)], .bool false, .func (.func 34) #[] #[.pointer (some ⟨bx, 0, none⟩)], u105, u106, u107, u108, u109, u110, u111, u112, u113, u114, u115, u116, u117, u118, u119, u120, u121, u122, .int .i64 (sp : Int), .int .i64 (sp : Int), .bool false, .bool false, .pointer (some ⟨q, 0, none⟩), .int .i64 (nS : Int), .int .i64 (N : Int), .int .i64 (sp : Int), .int .i64 (nS : Int), .bool false, .bool false, .int .i64 (o : Int), .int .i64 (i : Int), .bool true, .bool true, .int .i64 (j : Int), .bool false, .bool false, u141, u142, u143, u144, u145, u146, u147, u148, u149, u150, u151, u152, u153, u154, u155, u156, u157, u158, u159, u160, u161, u162, u163, u164, u165, .func (.func 34) #[] #[.pointer (some ⟨bx, 0, none⟩)], .int .i64 x.1, .string x.2, u169, u170, u171, u172, u173, u174, u175, u176, u177, u178, u179, u180, u181, u182, u183, u184, u185, u186, u187, u188, u189, u190, u191, u192, u193, u194, u195, u196, u197, u198, u199, u200, u201, u202, u203, u204, u205, u206, u207, u208, u209, u210, u211, u212], defers := [] }) ?assign ?body ?done ?stop
                case hI =>
                  intro k s
                  refine ownW_of fun W W' ⟨o, h1, h2, h3, h4⟩ hC => ⟨o, h1, h2, ?_, h4⟩
                  have h := H9.out.2.2.2.2.2.2.2
                  exact h3.chgD hC (by omega) (by omega) (by omega) (fun g hg => hg)
                case hIx =>
                  intro c
                  exact ownW_of fun W W' h hC => h
                case hPre =>
                  intro k s x s'
                  refine ownW_of fun W W' ⟨o, h1, h2, h5, h3, h4⟩ hC => ⟨o, h1, h2, h5, ?_, h4⟩
                  have h := H9.out.2.2.2.2.2.2.2
                  exact h3.chgD hC (by omega) (by omega) (by omega) (fun g hg => hg)
                case hAt =>
                  rintro k s W ⟨o, h1, h2, h3, h4⟩
                  have h := H9.out.2.2.2.2.2.2.2
                  exact AtT.of h3 H9.out.2.2.2.2.1 (by simp only [Wb]; omega) (by rw [h4.bound]; have := HM.out; omega)
                case hStep =>
                  rintro k s x s' W1 W2 ⟨o, h1, h2, h3, h4⟩ hn hA hC
                  obtain ⟨n1, n2, n3, n4⟩ := nxtW_inv hn
                  have hoi : o < i := by
                    rcases Nat.lt_or_ge o i with h | h
                    · exact h
                    · exfalso
                      have h6 := h4.2.2.2.1 s.nx (by rw [h4.1]; omega)
                      rw [n4] at h6
                      cases h6
                  have hg := (h4.has hoi).1
                  rw [n2] at hg
                  refine ⟨o, h1, hoi, ?_, h3.put hA.1 hC, by rw [n3]; exact h4.pass hoi h3.win.nodup⟩
                  obtain ⟨x1, x2⟩ := x
                  simp only at n1 hg
                  rw [n1]
                  simp only [Option.some.injEq] at hg
                  rw [hg, h4.1]
                case assign =>
                  intro lp x W K hK
                  simp only [encT]
                  gi_wp2
                  exact hK
                case body =>
                  rintro lp k s x s' W hlp _ ⟨o, hk, ho, rfl, hSI, hOS⟩
                  obtain ⟨nO, hnO⟩ : ∃ nO : Nat, nO = N + o := ⟨_, rfl⟩
                  have w1' : IntKind.i64.wrap ((N : Int) + (o : Int)) = (nO : Int) := by rw [IntWalk.i64_in _ (by have := HM.out; omega)]; omega
                  have w2' : (N : Int) + (o : Int) = (nO : Int) := by omega
                  obtain ⟨o1, ho1⟩ : ∃ o1 : Nat, o1 = o + 1 := ⟨_, rfl⟩
                  have w3' : IntKind.i64.wrap ((o : Int) + 1) = (o1 : Int) := by rw [IntWalk.i64_in _ (by have := HM.out; omega)]; omega
                  have hq := H9.out.2.2.2.2.2.2.2
                  have co : W.cell? ⟨bo, 0, none⟩ = some (.int .i64 (o : Int)) := box1 hSI.out
                  have cn : W.cell? ⟨bn, 0, none⟩ = some (.int .i64 (N : Int)) := box1 (hSI.chg.block H9.out.2.2.1 (by simp only [Wb]; omega))
                  have HW : Hid (SI Value.string 73 q b bo 3 w9 W s' (.int .i64 (o : Int)) ∧ OS N i (o + 1) s' ∧ o1 = o + 1 ∧ o < i ∧ k = i - o ∧ nO = N + o) := ⟨hSI, hOS, ho1, ho, hk, hnO⟩
                  rw [show ((N : Int) + (o : Int), thN ((N : Int) + (o : Int))) = ((nO : Int), thingP nO) by rw [w2']; rfl]
                  dsimp only
                  have HT1 : Hid (∀ w, Calls Try.prog 21 #[.int .i64 (nO : Int)] w fun e w' => e = .returned (.string (thingP nO)) ∧ Below w.heap.size w w') := HTH.out nO (by have := HM.out; omega)
                  generalize thingP nO = tO at *
                  clear hSI hOS ho1 ho hk hnO hq w2'
                  gi_wp2
                  refine ⟨trivial, CallsIn.inRound _ ((callsIn_wide.2 (HT1.out _)).mono ?_)⟩
                  rintro e W2 ⟨rfl, hb2⟩
                  have hq := H9.out.2.2.2.2.2.2.2
                  have HW2 : Hid (SI Value.string 73 q b bo 3 w9 W2 s' (.int .i64 (o : Int)) ∧ Below W.heap.size W W2) := ⟨HW.out.1.below hb2, hb2⟩
                  have co2 : W2.cell? ⟨bo, 0, none⟩ = some (.int .i64 (o : Int)) := box1 HW2.out.1.out
                  have fo2 := Lib.frozen_of_heap HW2.out.1.out 0
                  have HW3 : Hid (SI Value.string 73 q b bo 3 w9 (W2.setCell ⟨bo, 0, none⟩ (.int .i64 (o1 : Int))) s' (.int .i64 (o1 : Int)) ∧ KeepsFrom w9.heap.size W (W2.setCell ⟨bo, 0, none⟩ (.int .i64 (o1 : Int)))) := by
                    refine ⟨HW2.out.1.set _, ?_⟩
                    have hC : Chg (fun g => g = bo) W (W2.setCell ⟨bo, 0, none⟩ (.int .i64 (o1 : Int))) := (Chg.of_below HW2.out.2).trans (Chg.set (D := fun g => g = bo) (q := bo) 0 _ _ rfl)
                    exact keepsFrom_chg hC (fun g hg => by omega)
                  clear hb2 co cn hq
                  gi_wp2
                  have h1 := HW.out.2.2
                  exact ⟨HW3.out.2, i - o1, s', by omega, o1, rfl, by omega, HW3.out.1, by have := HW.out.2.1; rw [← HW.out.2.2.1] at this; exact this⟩
                case stop =>
                  rintro _ _ _ _ hf _
                  exact hf.elim
                case done =>
                  rintro De2 k s Z hDe ⟨o, h1, h2, h3, h4⟩ hnn hKd2
                  have hoi : o = i := by
                    have h5 := nxtW_none hnn
                    rcases Nat.lt_or_ge o i with h | h
                    · have h6 := (h4.has h).2
                      rw [h5] at h6
                      cases h6
                    · omega
                  rw [hoi] at h3 h4
                  have hL0 : s.L = [] := by
                    have := h4.2.2.2.2
                    cases hl : s.L with
                    | nil => rfl
                    | cons p L => rw [hl] at this; simp at this; omega
                  have hsE : s = ⟨(N : Int) + (i : Int), i, []⟩ := by
                    have h6 := h4.1
                    have h7 := h4.2.1
                    cases s
                    simp only at h6 h7 hL0
                    subst h6 h7 hL0
                    rfl
                  subst hsE
                  have HZ : Hid (SI Value.string 73 q b bo 3 w9 Z ⟨(N : Int) + (i : Int), i, []⟩ (.int .i64 (i : Int)) ∧ Z.heap[De2]? = some (.deferred (some [])) ∧ w9.heap.size ≤ De2) := ⟨h3, hKd2, hDe⟩
                  have hq := H9.out.2.2.2.2.2.2.2
                  have co : Z.cell? ⟨bo, 0, none⟩ = some (.int .i64 (i : Int)) := box1 h3.out
                  have cn : Z.cell? ⟨bn, 0, none⟩ = some (.int .i64 (N : Int)) := box1 (h3.chg.block H9.out.2.2.1 (by simp only [Wb]; omega))
                  clear h1 h2 h3 h4 hoi hL0 hnn hKd2 hDe hq
                  gi_wp2
                  refine ⟨trivial, (callsIn_wide.2 (putT HZ.out.1.win (N : Int) _ (by have := HM.out; omega))).mono ?_⟩
                  rintro e w10 ⟨rfl, k1, k2, k3⟩
                  have e1 : putE (⟨(N : Int) + (i : Int), i, []⟩ : Wn ByteArray) (N : Int) = 130 := by
                    have g9 : (N : Int) < (N : Int) + (i : Int) := by have := HM.out; omega
                    simp [putE, g9]
                  rw [e1]
                  have H10 : Hid (SI Value.string 73 q b bo 3 w9 w10 ⟨(N : Int) + (i : Int), i, []⟩ (.int .i64 (i : Int)) ∧ w10.heap[De2]? = some (.deferred (some []))) := by
                    have hq := H9.out.2.2.2.2.2.2.2
                    simp only [putS, e1] at k1
                    exact ⟨HZ.out.1.put k1 k2, k2.block HZ.out.2.1 (by have := HZ.out.2.2; simp only [Wb]; omega)⟩
                  clear k1 k2 k3 e1 co cn
                  gi_wp2
                  refine ⟨trivial, (callsIn_wide.2 (passT H10.out.1.win (by show (N : Int) + (i : Int) ≤ _; have := HM.out; omega))).mono ?_⟩
                  rintro e w11 ⟨rfl, k1, k2, k3⟩
                  have e1 : dropE (⟨(N : Int) + (i : Int), i, []⟩ : Wn ByteArray) ((N : Int) + (i : Int)) = 15 := by simp [dropE, hasN]
                  have e2 : passS (⟨(N : Int) + (i : Int), i, []⟩ : Wn ByteArray) = ⟨(N : Int) + (i : Int), i, []⟩ := by simp [passS, hasN]
                  rw [e1]
                  have H11 : Hid (SI Value.string 73 q b bo 3 w9 w11 ⟨(N : Int) + (i : Int), i, []⟩ (.int .i64 (i : Int)) ∧ w11.heap[De2]? = some (.deferred (some []))) := by
                    have hq := H9.out.2.2.2.2.2.2.2
                    rw [e2] at k1
                    exact ⟨H10.out.1.put k1 k2, k2.block H10.out.2 (by have := HZ.out.2.2; simp only [Wb]; omega)⟩
                  clear k1 k2 k3 e1 e2
                  have cn : w11.cell? ⟨bn, 0, none⟩ = some (.int .i64 (N : Int)) := box1 (H11.out.1.chg.block H9.out.2.2.1 (by have hq := H9.out.2.2.2.2.2.2.2; simp only [Wb]; omega))
                  have w2' : IntKind.i64.wrap ((N : Int) + (i : Int)) = (nM : Int) := by rw [IntWalk.i64_in _ (by have := HM.out; omega)]; have := HNM.out; omega
                  gi_wp2
                  refine ⟨trivial, (callsIn_wide.2 (putT H11.out.1.win (nM : Int) _ (by have := HM.out; have := HNM.out; omega))).mono ?_⟩
                  rintro e w12 ⟨rfl, k1, k2, k3⟩
                  have e1 : putE (⟨(N : Int) + (i : Int), i, []⟩ : Wn ByteArray) (nM : Int) = 0 := by
                    have h9 := HNM.out
                    have h8 := HM.out.1
                    have g9 : ¬ ((nM : Int) < (N : Int) + (i : Int)) := by omega
                    have g8 : ¬ ((i : Int) ≤ (nM : Int) - ((N : Int) + (i : Int))) := by omega
                    simp [putE, g9, g8, hasN]
                  rw [e1]
                  obtain ⟨SN, hSN⟩ : ∃ SN : Wn ByteArray, SN = putS (⟨(N : Int) + (i : Int), i, []⟩ : Wn ByteArray) (nM : Int) ⟨#[110, 101, 119]⟩ := ⟨_, rfl⟩
                  have H12 : Hid (SI Value.string 73 q b bo 3 w9 w12 SN (.int .i64 (i : Int)) ∧ w12.heap[De2]? = some (.deferred (some [])) ∧ SN.L.length = 1 ∧ SN.nx ≤ 4611686018427387904) := by
                    have hq := H9.out.2.2.2.2.2.2.2
                    refine ⟨H11.out.1.put (by rw [hSN]; exact k1) k2, k2.block H11.out.2 (by have := HZ.out.2.2; simp only [Wb]; omega), ?_, ?_⟩
                    · rw [hSN]; simp [putS, e1]
                    · rw [hSN]; simp only [putS, e1, if_true]; have := HM.out; omega
                  have co : w12.cell? ⟨bo, 0, none⟩ = some (.int .i64 (i : Int)) := box1 H12.out.1.out
                  clear k1 k2 k3 e1 cn hSN
                  gi_wp2
                  refine ⟨trivial, (callsIn_wide.2 (heldT H12.out.1.win H12.out.2.2.2)).mono ?_⟩
                  rintro e w13 ⟨v, rfl, hv, hb⟩
                  obtain ⟨vb, vd, rfl⟩ := hv.shape
                  simp only [srt_length, H12.out.2.2.1]
                  have H13 : Hid (SI Value.string 73 q b bo 3 w9 w13 SN (.int .i64 (i : Int)) ∧ w13.heap[De2]? = some (.deferred (some [])) ∧ w13.heap[De]? = some (.deferred (some [])) ∧ w13.heap[B + 1]? = some (.cells #[.bool false] 4) ∧ Below B w w13 ∧ De < De2) := by
                    obtain ⟨_, _, k3, k4, k5, k6, k7, k8, k9⟩ := H9.out
                    have h1 := H12.out.1.below hb
                    have h2 := HZ.out.2.2
                    exact ⟨h1, (hb.block _ (Array.getElem?_eq_some_iff.1 H12.out.2.1).1).trans H12.out.2.1, h1.chg.block k6 (by simp only [Wb]; omega), h1.chg.block k4 (by simp only [Wb]; omega), k7.trans (h1.chg.below (fun g hg => by simp only [Wb] at hg; omega) (by omega)), by omega⟩
                  have cr := box1 H13.out.2.2.2.1
                  have fr := Lib.frozen_of_heap H13.out.2.2.2.1 0
                  clear hv hb co
                  gi_wp2
                  have hq := H9.out.2.2.2.2.2.2.2
                  obtain ⟨h1, h2, h3, h4, h5, h6⟩ := H13.out
                  have hC : Chg (fun g => g = B + 1) w13 (w13.setCell ⟨B + 1, 0, none⟩ (.bool true)) := Chg.set (D := fun g => g = B + 1) (q := B + 1) 0 _ _ rfl
                  have hbx := heap_setCell_cells h4 0 (.bool true)
                  generalize w13.setCell ⟨B + 1, 0, none⟩ (.bool true) = w14 at *
                  refine leave_marks [De2, De] w14 (by simp; omega) (fun r hr => ?_) (fun W' hC' => ?_)
                  · simp only [List.mem_cons, List.not_mem_nil, or_false] at hr
                    rcases hr with rfl | rfl
                    · exact hC.block h2 (by omega)
                    · exact hC.block h3 (by omega)
                  · have hr2 := box1 (hC'.block hbx (by simp; omega))
                    refine ⟨.bool true, ?_, rfl, ?_⟩
                    · rw [results_cells1 rfl]
                      go_simp
                    · have hs1 := h5.size
                      have hs2 := hC.size
                      have := (h5.trans (hC.below (fun g hg => by omega) (by omega))).trans (hC'.below (B := B) (fun g hg => by simp only [List.mem_cons, List.not_mem_nil, or_false] at hg; omega) (by omega))
                      rw [hq.1.1]
                      exact this
            · have g2 : ¬ (o : Int) < (i : Int) := by omega
              clear hq
              gi_wp2
              have hex : o = i ∨ 0 ≤ o := .inr (Nat.zero_le _)
              clear hex
              obtain ⟨w9, hw9⟩ : ∃ w9, wr = w9 := ⟨_, rfl⟩
              rw [hw9] at HT co cn ⊢
              have H9 : Hid (SI Value.string 73 q b bo 3 w9 w9 s1 (.int .i64 (o : Int)) ∧ OS N i o s1 ∧ w9.heap[bn]? = some (.cells #[.int .i64 (N : Int)] 3) ∧ w9.heap[B + 1]? = some (.cells #[.bool false] 4) ∧ w9.heap[bx]? = some (.cells #[.pointer (some ⟨q, 0, none⟩)] 48) ∧ w9.heap[De]? = some (.deferred (some [])) ∧ Below B w w9 ∧ (w.heap.size = B ∧ bn = B + 2 ∧ b = B + 3 ∧ q = B + 4 ∧ B + 5 ≤ bo ∧ bx = bo + 2 ∧ bo + 3 ≤ De ∧ De < w9.heap.size) ∧ o ≤ i) := by
                obtain ⟨h1, h2⟩ := HT.out
                obtain ⟨_, _, k3, k4, k5, k6, k7, k8, k9, k10, k11, k12, k13, k14, k15⟩ := H8.out
                have hC := h1.chg
                have hsz := hC.size
                exact ⟨⟨h1.win, h1.out, Chg.refl _ _⟩, h2, hC.block k3 (by simp only [Wb]; omega), hC.block k4 (by simp only [Wb]; omega), hC.block k5 (by simp only [Wb]; omega), hC.block k6 (by simp only [Wb]; omega), k7.trans (hC.below (fun g hg => by simp only [Wb] at hg; omega) (by omega)), ⟨k8, k9, k10, k11, k12, k13, k14, by omega⟩, ho⟩
              clear hw9 HT H8 co cn
              refine rangeM (α := Int × ByteArray) (σ := Wn ByteArray) rfl rfl (by decide) (gf := 34) (lb := #[.pointer (some ⟨bx, 0, none⟩)]) rfl trivial (enters_of Try.func34 (by kernel_rfl) rfl) (seqT bx q b 5)
                (fun g hg => by have h := H9.out.2.2.2.2.2.2.2; simp only [Wb] at hg; omega) (fun _ => rfl)
                (fun k s W => ∃ o : Nat, k = i - o ∧ o ≤ i ∧ SI Value.string 73 q b bo 3 w9 W s (.int .i64 (o : Int)) ∧ OS N i o s)
                (fun k _ x s' W => ∃ o : Nat, k = i - o ∧ o < i ∧ x = ((N : Int) + (o : Int), thN ((N : Int) + (o : Int))) ∧ SI Value.string 73 q b bo 3 w9 W s' (.int .i64 (o : Int)) ∧ OS N i (o + 1) s')
                (fun _ _ => False)
                ?hI ?hIx ?hPre ?hAt ?hStep (i - o) s1 ⟨o, rfl, ho, H9.out.1, H9.out.2.1⟩
                (fun x => { tmps := #[.agg #[.int .i64 nx, .int .i64 sz, .slice a tn cap, .int .i64 st], .pointer (some ⟨B, 0, none⟩), .pointer (some ⟨B + 1, 0, none⟩), .int .i64 (i : Int), .pointer (some ⟨bn, 0, none⟩), .pointer (some ⟨q, 0, none⟩), .int .i64 0, .slice va i vc, .int .i64 (i : Int), u9, u10, u11, .int .i64 132, .pointer (some ⟨bo, 0, none⟩), .pointer (some ⟨bo + 1, 0, none⟩), .func (.func 34) #[] #[.pointer (some ⟨bx, 0, none⟩)], undef, undef, .int .i64 (j : Int), u19, u20, u21, .int .i64 x.1, .string x.2, undef, undef, undef, u27, u28, u29, u30, u31, u32, u33, u34, u35, u36, u37, u38, u39, u40, u41, u42, u43, u44, u45, u46, u47, u48, u49, u50, u51, u52, u53, u54, u55, u56, u57, u58, u59, u60, u61, u62, u63, u64, u65, u66, u67, u68, u69, u70, u71, u72, u73, u74, u75, u76, u77, u78, u79, u80, u81, u82, u83, u84, u85, u86, u87, u88, u89, u90, u91, u92, u93, .bool false, .pointer (some ⟨B, 3, none⟩), .int .i64 st, .int .i64 (i : Int), .int .i64 (z2 : Int), .int .i64 (sp : Int), .pointer (some ⟨q, 0, none⟩), .func (.func 34) #[] #[.pointer (some ⟨bx, 0, none⟩)], .func (.func 34) #[] #[.pointer (some ⟨bx, 0, none⟩)], .bool false, .func (.func 34) #[] #[.pointer (some ⟨bx, 0, none⟩)], u105, u106, u107, u108, u109, u110, u111, u112, u113, u114, u115, u116, u117, u118, u119, u120, u121, u122, .int .i64 (sp : Int), .int .i64 (sp : Int), .bool false, .bool false, .pointer (some ⟨q, 0, none⟩), .int .i64 (nS : Int), .int .i64 (N : Int), .int .i64 (sp : Int), .int .i64 (nS : Int), .bool false, .bool false, .int .i64 (o : Int), .int .i64 (i : Int), .bool false, .bool false, undef, undef, .bool false, u141, u142, u143, u144, u145, u146, u147, u148, u149, u150, u151, u152, u153, u154, u155, u156, u157, u158, u159, u160, u161, u162, u163, u164, u165, .func (.func 34) #[] #[.pointer (some ⟨bx, 0, none⟩)], .int .i64 x.1, .string x.2, u169, u170, u171, u172, u173, u174, u175, u176, u177, u178, u179, u180, u181, u182, u183, u184, u185, u186, u187, u188, u189, u190, u191, u192, u193, u194, u195, u196, u197, u198, u199, u200, u201, u202, u203, u204, u205, u206, u207, u208, u209, u210, u211, u212], defers := [] }) ?assign ?body ?done ?stop
              case hI =>
                intro k s
                refine ownW_of fun W W' ⟨o, h1, h2, h3, h4⟩ hC => ⟨o, h1, h2, ?_, h4⟩
                have h := H9.out.2.2.2.2.2.2.2
                exact h3.chgD hC (by omega) (by omega) (by omega) (fun g hg => hg)
              case hIx =>
                intro c
                exact ownW_of fun W W' h hC => h
              case hPre =>
                intro k s x s'
                refine ownW_of fun W W' ⟨o, h1, h2, h5, h3, h4⟩ hC => ⟨o, h1, h2, h5, ?_, h4⟩
                have h := H9.out.2.2.2.2.2.2.2
                exact h3.chgD hC (by omega) (by omega) (by omega) (fun g hg => hg)
              case hAt =>
                rintro k s W ⟨o, h1, h2, h3, h4⟩
                have h := H9.out.2.2.2.2.2.2.2
                exact AtT.of h3 H9.out.2.2.2.2.1 (by simp only [Wb]; omega) (by rw [h4.bound]; have := HM.out; omega)
              case hStep =>
                rintro k s x s' W1 W2 ⟨o, h1, h2, h3, h4⟩ hn hA hC
                obtain ⟨n1, n2, n3, n4⟩ := nxtW_inv hn
                have hoi : o < i := by
                  rcases Nat.lt_or_ge o i with h | h
                  · exact h
                  · exfalso
                    have h6 := h4.2.2.2.1 s.nx (by rw [h4.1]; omega)
                    rw [n4] at h6
                    cases h6
                have hg := (h4.has hoi).1
                rw [n2] at hg
                refine ⟨o, h1, hoi, ?_, h3.put hA.1 hC, by rw [n3]; exact h4.pass hoi h3.win.nodup⟩
                obtain ⟨x1, x2⟩ := x
                simp only at n1 hg
                rw [n1]
                simp only [Option.some.injEq] at hg
                rw [hg, h4.1]
              case assign =>
                intro lp x W K hK
                simp only [encT]
                gi_wp2
                exact hK
              case body =>
                rintro lp k s x s' W hlp _ ⟨o, hk, ho, rfl, hSI, hOS⟩
                obtain ⟨nO, hnO⟩ : ∃ nO : Nat, nO = N + o := ⟨_, rfl⟩
                have w1' : IntKind.i64.wrap ((N : Int) + (o : Int)) = (nO : Int) := by rw [IntWalk.i64_in _ (by have := HM.out; omega)]; omega
                have w2' : (N : Int) + (o : Int) = (nO : Int) := by omega
                obtain ⟨o1, ho1⟩ : ∃ o1 : Nat, o1 = o + 1 := ⟨_, rfl⟩
                have w3' : IntKind.i64.wrap ((o : Int) + 1) = (o1 : Int) := by rw [IntWalk.i64_in _ (by have := HM.out; omega)]; omega
                have hq := H9.out.2.2.2.2.2.2.2
                have co : W.cell? ⟨bo, 0, none⟩ = some (.int .i64 (o : Int)) := box1 hSI.out
                have cn : W.cell? ⟨bn, 0, none⟩ = some (.int .i64 (N : Int)) := box1 (hSI.chg.block H9.out.2.2.1 (by simp only [Wb]; omega))
                have HW : Hid (SI Value.string 73 q b bo 3 w9 W s' (.int .i64 (o : Int)) ∧ OS N i (o + 1) s' ∧ o1 = o + 1 ∧ o < i ∧ k = i - o ∧ nO = N + o) := ⟨hSI, hOS, ho1, ho, hk, hnO⟩
                rw [show ((N : Int) + (o : Int), thN ((N : Int) + (o : Int))) = ((nO : Int), thingP nO) by rw [w2']; rfl]
                dsimp only
                have HT1 : Hid (∀ w, Calls Try.prog 21 #[.int .i64 (nO : Int)] w fun e w' => e = .returned (.string (thingP nO)) ∧ Below w.heap.size w w') := HTH.out nO (by have := HM.out; omega)
                generalize thingP nO = tO at *
                clear hSI hOS ho1 ho hk hnO hq w2'
                gi_wp2
                refine ⟨trivial, CallsIn.inRound _ ((callsIn_wide.2 (HT1.out _)).mono ?_)⟩
                rintro e W2 ⟨rfl, hb2⟩
                have hq := H9.out.2.2.2.2.2.2.2
                have HW2 : Hid (SI Value.string 73 q b bo 3 w9 W2 s' (.int .i64 (o : Int)) ∧ Below W.heap.size W W2) := ⟨HW.out.1.below hb2, hb2⟩
                have co2 : W2.cell? ⟨bo, 0, none⟩ = some (.int .i64 (o : Int)) := box1 HW2.out.1.out
                have fo2 := Lib.frozen_of_heap HW2.out.1.out 0
                have HW3 : Hid (SI Value.string 73 q b bo 3 w9 (W2.setCell ⟨bo, 0, none⟩ (.int .i64 (o1 : Int))) s' (.int .i64 (o1 : Int)) ∧ KeepsFrom w9.heap.size W (W2.setCell ⟨bo, 0, none⟩ (.int .i64 (o1 : Int)))) := by
                  refine ⟨HW2.out.1.set _, ?_⟩
                  have hC : Chg (fun g => g = bo) W (W2.setCell ⟨bo, 0, none⟩ (.int .i64 (o1 : Int))) := (Chg.of_below HW2.out.2).trans (Chg.set (D := fun g => g = bo) (q := bo) 0 _ _ rfl)
                  exact keepsFrom_chg hC (fun g hg => by omega)
                clear hb2 co cn hq
                gi_wp2
                have h1 := HW.out.2.2
                exact ⟨HW3.out.2, i - o1, s', by omega, o1, rfl, by omega, HW3.out.1, by have := HW.out.2.1; rw [← HW.out.2.2.1] at this; exact this⟩
              case stop =>
                rintro _ _ _ _ hf _
                exact hf.elim
              case done =>
                rintro De2 k s Z hDe ⟨o, h1, h2, h3, h4⟩ hnn hKd2
                have hoi : o = i := by
                  have h5 := nxtW_none hnn
                  rcases Nat.lt_or_ge o i with h | h
                  · have h6 := (h4.has h).2
                    rw [h5] at h6
                    cases h6
                  · omega
                rw [hoi] at h3 h4
                have hL0 : s.L = [] := by
                  have := h4.2.2.2.2
                  cases hl : s.L with
                  | nil => rfl
                  | cons p L => rw [hl] at this; simp at this; omega
                have hsE : s = ⟨(N : Int) + (i : Int), i, []⟩ := by
                  have h6 := h4.1
                  have h7 := h4.2.1
                  cases s
                  simp only at h6 h7 hL0
                  subst h6 h7 hL0
                  rfl
                subst hsE
                have HZ : Hid (SI Value.string 73 q b bo 3 w9 Z ⟨(N : Int) + (i : Int), i, []⟩ (.int .i64 (i : Int)) ∧ Z.heap[De2]? = some (.deferred (some [])) ∧ w9.heap.size ≤ De2) := ⟨h3, hKd2, hDe⟩
                have hq := H9.out.2.2.2.2.2.2.2
                have co : Z.cell? ⟨bo, 0, none⟩ = some (.int .i64 (i : Int)) := box1 h3.out
                have cn : Z.cell? ⟨bn, 0, none⟩ = some (.int .i64 (N : Int)) := box1 (h3.chg.block H9.out.2.2.1 (by simp only [Wb]; omega))
                clear h1 h2 h3 h4 hoi hL0 hnn hKd2 hDe hq
                gi_wp2
                refine ⟨trivial, (callsIn_wide.2 (putT HZ.out.1.win (N : Int) _ (by have := HM.out; omega))).mono ?_⟩
                rintro e w10 ⟨rfl, k1, k2, k3⟩
                have e1 : putE (⟨(N : Int) + (i : Int), i, []⟩ : Wn ByteArray) (N : Int) = 130 := by
                  have g9 : (N : Int) < (N : Int) + (i : Int) := by have := HM.out; omega
                  simp [putE, g9]
                rw [e1]
                have H10 : Hid (SI Value.string 73 q b bo 3 w9 w10 ⟨(N : Int) + (i : Int), i, []⟩ (.int .i64 (i : Int)) ∧ w10.heap[De2]? = some (.deferred (some []))) := by
                  have hq := H9.out.2.2.2.2.2.2.2
                  simp only [putS, e1] at k1
                  exact ⟨HZ.out.1.put k1 k2, k2.block HZ.out.2.1 (by have := HZ.out.2.2; simp only [Wb]; omega)⟩
                clear k1 k2 k3 e1 co cn
                gi_wp2
                refine ⟨trivial, (callsIn_wide.2 (passT H10.out.1.win (by show (N : Int) + (i : Int) ≤ _; have := HM.out; omega))).mono ?_⟩
                rintro e w11 ⟨rfl, k1, k2, k3⟩
                have e1 : dropE (⟨(N : Int) + (i : Int), i, []⟩ : Wn ByteArray) ((N : Int) + (i : Int)) = 15 := by simp [dropE, hasN]
                have e2 : passS (⟨(N : Int) + (i : Int), i, []⟩ : Wn ByteArray) = ⟨(N : Int) + (i : Int), i, []⟩ := by simp [passS, hasN]
                rw [e1]
                have H11 : Hid (SI Value.string 73 q b bo 3 w9 w11 ⟨(N : Int) + (i : Int), i, []⟩ (.int .i64 (i : Int)) ∧ w11.heap[De2]? = some (.deferred (some []))) := by
                  have hq := H9.out.2.2.2.2.2.2.2
                  rw [e2] at k1
                  exact ⟨H10.out.1.put k1 k2, k2.block H10.out.2 (by have := HZ.out.2.2; simp only [Wb]; omega)⟩
                clear k1 k2 k3 e1 e2
                have cn : w11.cell? ⟨bn, 0, none⟩ = some (.int .i64 (N : Int)) := box1 (H11.out.1.chg.block H9.out.2.2.1 (by have hq := H9.out.2.2.2.2.2.2.2; simp only [Wb]; omega))
                have w2' : IntKind.i64.wrap ((N : Int) + (i : Int)) = (nM : Int) := by rw [IntWalk.i64_in _ (by have := HM.out; omega)]; have := HNM.out; omega
                gi_wp2
                refine ⟨trivial, (callsIn_wide.2 (putT H11.out.1.win (nM : Int) _ (by have := HM.out; have := HNM.out; omega))).mono ?_⟩
                rintro e w12 ⟨rfl, k1, k2, k3⟩
                have e1 : putE (⟨(N : Int) + (i : Int), i, []⟩ : Wn ByteArray) (nM : Int) = 0 := by
                  have h9 := HNM.out
                  have h8 := HM.out.1
                  have g9 : ¬ ((nM : Int) < (N : Int) + (i : Int)) := by omega
                  have g8 : ¬ ((i : Int) ≤ (nM : Int) - ((N : Int) + (i : Int))) := by omega
                  simp [putE, g9, g8, hasN]
                rw [e1]
                obtain ⟨SN, hSN⟩ : ∃ SN : Wn ByteArray, SN = putS (⟨(N : Int) + (i : Int), i, []⟩ : Wn ByteArray) (nM : Int) ⟨#[110, 101, 119]⟩ := ⟨_, rfl⟩
                have H12 : Hid (SI Value.string 73 q b bo 3 w9 w12 SN (.int .i64 (i : Int)) ∧ w12.heap[De2]? = some (.deferred (some [])) ∧ SN.L.length = 1 ∧ SN.nx ≤ 4611686018427387904) := by
                  have hq := H9.out.2.2.2.2.2.2.2
                  refine ⟨H11.out.1.put (by rw [hSN]; exact k1) k2, k2.block H11.out.2 (by have := HZ.out.2.2; simp only [Wb]; omega), ?_, ?_⟩
                  · rw [hSN]; simp [putS, e1]
                  · rw [hSN]; simp only [putS, e1, if_true]; have := HM.out; omega
                have co : w12.cell? ⟨bo, 0, none⟩ = some (.int .i64 (i : Int)) := box1 H12.out.1.out
                clear k1 k2 k3 e1 cn hSN
                gi_wp2
                refine ⟨trivial, (callsIn_wide.2 (heldT H12.out.1.win H12.out.2.2.2)).mono ?_⟩
                rintro e w13 ⟨v, rfl, hv, hb⟩
                obtain ⟨vb, vd, rfl⟩ := hv.shape
                simp only [srt_length, H12.out.2.2.1]
                have H13 : Hid (SI Value.string 73 q b bo 3 w9 w13 SN (.int .i64 (i : Int)) ∧ w13.heap[De2]? = some (.deferred (some [])) ∧ w13.heap[De]? = some (.deferred (some [])) ∧ w13.heap[B + 1]? = some (.cells #[.bool false] 4) ∧ Below B w w13 ∧ De < De2) := by
                  obtain ⟨_, _, k3, k4, k5, k6, k7, k8, k9⟩ := H9.out
                  have h1 := H12.out.1.below hb
                  have h2 := HZ.out.2.2
                  exact ⟨h1, (hb.block _ (Array.getElem?_eq_some_iff.1 H12.out.2.1).1).trans H12.out.2.1, h1.chg.block k6 (by simp only [Wb]; omega), h1.chg.block k4 (by simp only [Wb]; omega), k7.trans (h1.chg.below (fun g hg => by simp only [Wb] at hg; omega) (by omega)), by omega⟩
                have cr := box1 H13.out.2.2.2.1
                have fr := Lib.frozen_of_heap H13.out.2.2.2.1 0
                clear hv hb co
                gi_wp2
                have hq := H9.out.2.2.2.2.2.2.2
                obtain ⟨h1, h2, h3, h4, h5, h6⟩ := H13.out
                have hC : Chg (fun g => g = B + 1) w13 (w13.setCell ⟨B + 1, 0, none⟩ (.bool true)) := Chg.set (D := fun g => g = B + 1) (q := B + 1) 0 _ _ rfl
                have hbx := heap_setCell_cells h4 0 (.bool true)
                generalize w13.setCell ⟨B + 1, 0, none⟩ (.bool true) = w14 at *
                refine leave_marks [De2, De] w14 (by simp; omega) (fun r hr => ?_) (fun W' hC' => ?_)
                · simp only [List.mem_cons, List.not_mem_nil, or_false] at hr
                  rcases hr with rfl | rfl
                  · exact hC.block h2 (by omega)
                  · exact hC.block h3 (by omega)
                · have hr2 := box1 (hC'.block hbx (by simp; omega))
                  refine ⟨.bool true, ?_, rfl, ?_⟩
                  · rw [results_cells1 rfl]
                    go_simp
                  · have hs1 := h5.size
                    have hs2 := hC.size
                    have := (h5.trans (hC.below (fun g hg => by omega) (by omega))).trans (hC'.below (B := B) (fun g hg => by simp only [List.mem_cons, List.not_mem_nil, or_false] at hg; omega) (by omega))
                    rw [hq.1.1]
                    exact this
end Go.Proofs.Ytiaidmhobbeedaa
