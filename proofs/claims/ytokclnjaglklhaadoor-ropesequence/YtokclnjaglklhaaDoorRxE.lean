import Derived.Test.YtokclnjaglklhaaDoorRxD
import Derived.Test.YtokclnjaglklhaaDoorRxHN
import Derived.Test.YtokclnjaglklhaaDoorRtL
import Derived.Test.YtokclnjaglklhaaDoorRvB
import Derived.LoopIn
import Derived.Sort.CutIn
import Derived.Sort.QuietTacIn
/-! RopeSequence. -/
namespace Go.Proofs.YtokclnjaglklhaaDoor
open Go.RowKit Go.Lib Go.Shelf Go.Sort
set_option maxRecDepth 100000
attribute [local go_sem] Oper.semAt_some

set_option maxHeartbeats 16000000 in
theorem ropeSequence_any {w : World} {a : Option Addr} {n cap : Nat} {l : List (Int × Int)} (h : Rw pieceV 2 w a n cap l) (A B : Int) {b : Option Addr} {m capb : Nat} {S : List (Int × Int × Int × Int)} (hs : Rw actV 4 w b m capb S) (hBar : Bar w) :
    Calls Tryd.prog 3 #[.slice a n cap, .int .i64 A, .int .i64 B, .slice b m capb] w fun e w' => e = .returned (.bool true) ∧ Below w.heap.size w w' := by
  refine (callsIn_wide (n := 8)).1 ?_
  have hsr := hs.room
  have HPC : Hid (Rw pieceV 2 w a n cap l) := h
  have HS : Hid (Rw actV 4 w b m capb S) := hs
  have HBAR : Hid (Bar w) := hBar
  clear h hs hBar
  refine callsIn_of_wp_marks Tryd.func3 rfl trivial ?_ rfl
  simp only [Tryd.ntmps3, List.size_toArray, List.length_cons, List.length_nil, Nat.reduceAdd, Nat.reduceSub, Array.replicate_succ, Array.replicate_zero, List.push_toArray, List.append_toArray, List.nil_append, List.cons_append]
  gi_wp2
  obtain ⟨wr0, ewr⟩ : ∃ X, w.alloc (.cells #[.bool false] 4) = X := ⟨_, rfl⟩
  have hb0 : Below w.heap.size w wr0 := ewr ▸ (Below.refl _ _).alloc (Nat.le_refl _) _
  have hres : wr0.heap[w.heap.size]? = some (.cells #[.bool false] 4) := ewr ▸ World.alloc_heap_new _ _
  rw [ewr]
  clear ewr
  refine ⟨trivial, (callsIn_wide.2 (runs_any (HPC.out.below hb0))).mono ?_⟩
  rintro e w1 ⟨v1, L, rfl, ho1, hL, hb1⟩
  have hF := hL.from_
  have hcl := hL.cells_le
  obtain ⟨a1, c1, rfl⟩ := ho1.shape
  have HC := cells_any (ho1.rw_ layR) hF.text hF.few
  gi_wp2
  refine ⟨trivial, (callsIn_wide.2 HC).mono ?_⟩
  rintro e w2 ⟨v2, rfl, ho2, hb2⟩
  obtain ⟨a2, c2, rfl⟩ := ho2.shape
  have hR2 := ho2.rw_ layC
  have hB02 : Below w.heap.size w w2 := hb0.trans ((hb1.mono hb0.size).trans (hb2.mono (Nat.le_trans hb0.size hb1.size)))
  have hBar2 := HBAR.out.below hB02
  have hO := cellsOf_ok hF.text
  have hnn : (cellsOf L).length ≤ 1152 := by have := hL.few; omega
  have hCN : Cnt 2 (cellsOf L) := fun c hc => by
    obtain ⟨x, hx, hc⟩ := List.mem_flatMap.1 hc
    obtain ⟨r, _, rfl⟩ := List.mem_map.1 hc
    exact ⟨(hL.each x hx).lo, (hL.each x hx).hi⟩
  obtain ⟨R, hRR⟩ : ∃ R, cellsOf L = R := ⟨_, rfl⟩
  have HFR : Hid (∀ W, Below w2.heap.size w2 W → Calls Tryd.prog 7 #[.slice a1 L.length c1] W fun e w' => ∃ q, e = .returned (.tuple #[.pointer (some ⟨q, 0, none⟩), .int .i64 0]) ∧ Both w2 q 2 R a2 c2 w' ∧ Below W.heap.size W w' ∧ W.heap.size ≤ q) := fun W hW => by
    refine (from_any (((ho1.rw_ layR).below hb2).below hW) hF (hBar2.below hW)).mono ?_
    rintro e w' ⟨q, t, ts, rfl, k1, k2, k3, k4, k5⟩
    obtain ⟨e1, e2⟩ := from_rp hF k2 k3
    have hb : Below w2.heap.size w2 w' := hW.trans (k4.mono hW.size)
    rw [← hRR]
    exact ⟨q, rfl, ⟨⟨t, k1, e2, e1, hb⟩, hR2.below hb, hO, hCN⟩, k4, k5⟩
  have H2 : Hid (Below w.heap.size w w2 ∧ Bar w2 ∧ R.length ≤ 1152 ∧ Rw cellV 2 w2 a2 R.length c2 R ∧ w2.heap[w.heap.size]? = some (.cells #[.bool false] 4)) := by
    rw [← hRR]
    refine ⟨hB02, hBar2, hnn, hR2, ?_⟩
    have hs := hb0.size
    have hlt := (Array.getElem?_eq_some_iff.1 hres).1
    exact (hb2.block _ (by have := hb1.size; omega)).trans ((hb1.block _ hlt).trans hres)
  rw [hRR] at hnn ⊢
  clear hR2 hB02 hBar2 hO hCN hRR ho2 HC hcl hF hL ho1 hb2 hb1 hres hb0
  obtain ⟨nR, hnR⟩ : ∃ nR, R.length = nR := ⟨_, rfl⟩
  rw [hnR] at hnn H2 ⊢
  have HNR : Hid (R.length = nR) := hnR
  clear hnR
  have hnnI : (nR : Int) ≤ 1152 := by omega
  obtain ⟨fr, hfr⟩ : ∃ fr : Nat, A % ((nR : Int) + 1) = (fr : Int) := ⟨(A % ((nR : Int) + 1)).toNat, by have := Int.emod_nonneg A (b := (nR : Int) + 1) (by omega); omega⟩
  have hfrl : fr ≤ nR := by have := Int.emod_lt_of_pos A (b := (nR : Int) + 1) (by omega); omega
  have g1 : IntKind.i64.wrap ((nR : Int) + 1) = (nR : Int) + 1 := IntWalk.i64_in _ (by omega)
  have HRE : Hid (∀ w : World, Calls Tryd.prog 6 #[.int .i64 A, .int .i64 ((nR : Int) + 1)] w fun e w' => e = .returned (.int .i64 (fr : Int)) ∧ w' = w) := fun w => by rw [← hfr]; exact rest_any A ((nR : Int) + 1) (by omega) (by omega) w
  clear hfr
  gi_wp2
  refine ⟨trivial, (callsIn_wide.2 (HRE.out _)).mono ?_⟩
  rintro e w3 ⟨rfl, hw3⟩
  have H3 : Hid (w3 = w2.alloc (.cells #[.slice a2 nR c2] 26)) := hw3
  clear hw3
  gi_wp2
  obtain ⟨E2, hE2⟩ : ∃ E2, w2.heap.size = E2 := ⟨_, rfl⟩
  have hs3 : w3.heap.size = E2 + 1 := by rw [H3.out]; simp [hE2]
  rw [hE2, hs3]
  obtain ⟨w4, hw4⟩ : ∃ w4, w3.alloc (.cells #[.int .i64 (fr : Int)] 3) = w4 := ⟨_, rfl⟩
  rw [hw4]
  have H4 : Hid (w2.heap.size = E2 ∧ w4.heap[E2]? = some (.cells #[.slice a2 nR c2] 26) ∧ w4.heap[E2 + 1]? = some (.cells #[.int .i64 (fr : Int)] 3) ∧ w4.heap.size = E2 + 2 ∧ Below E2 w2 w4) := by
    have h3 := H3.out
    have hb3 : Below w2.heap.size w2 w3 := by rw [h3]; exact (Below.refl _ _).alloc (Nat.le_refl _) _
    have hb4 : Below w3.heap.size w3 w4 := by rw [← hw4]; exact (Below.refl _ _).alloc (Nat.le_refl _) _
    refine ⟨hE2, (hb4.block _ (by omega)).trans (by rw [h3, ← hE2]; exact World.alloc_heap_new _ _), by rw [← hw4, ← hs3]; exact World.alloc_heap_new _ _, by rw [← hw4]; simp [hs3], ?_⟩
    rw [← hE2]
    exact hb3.trans (hb4.mono (by omega))
  clear H3 hs3 hw4 hE2
  refine ⟨trivial, (callsIn_wide.2 (HFR.out w4 (by rw [H4.out.1]; exact H4.out.2.2.2.2))).mono ?_⟩
  rintro e w5 ⟨q, rfl, k1, k2, k3⟩
  have H5 : Hid (Both w2 q 2 R a2 c2 w5 ∧ Below w4.heap.size w4 w5 ∧ w4.heap.size ≤ q) := ⟨k1, k2, k3⟩
  clear k1 k2 k3 HFR
  obtain ⟨bQ, hbQ⟩ : ∃ bQ, w5.heap.size = bQ := ⟨_, rfl⟩
  obtain ⟨w6, hw6⟩ : ∃ w6, w5.alloc (.cells #[.pointer (some ⟨q, 0, none⟩)] 29) = w6 := ⟨_, rfl⟩
  have hb56 : Below w5.heap.size w5 w6 := by rw [← hw6]; exact (Below.refl _ _).alloc (Nat.le_refl _) _
  have hqlt : q < w5.heap.size := by
    obtain ⟨t, k1, _⟩ := H5.out.1.rope
    exact k1.lt
  have H6 : Hid (Both w2 q 2 R a2 c2 w6 ∧ w6.heap[E2]? = some (.cells #[.slice a2 nR c2] 26) ∧ w6.heap[E2 + 1]? = some (.cells #[.int .i64 (fr : Int)] 3) ∧ w6.heap[bQ]? = some (.cells #[.pointer (some ⟨q, 0, none⟩)] 29) ∧ w6.heap.size = bQ + 1 ∧ E2 + 2 ≤ q ∧ q < bQ ∧ w2.heap.size = E2) := by
    have h4 := H4.out
    have h5 := H5.out
    have hs := h5.2.1.size
    refine ⟨h5.1.still hb56, (hb56.block _ (by omega)).trans ((h5.2.1.block _ (by omega)).trans h4.2.1), (hb56.block _ (by omega)).trans ((h5.2.1.block _ (by omega)).trans h4.2.2.1), by rw [← hw6, ← hbQ]; exact World.alloc_heap_new _ _, by rw [← hw6]; simp [hbQ], by omega, by omega, h4.1⟩
  have f1 : w6.cell? ⟨E2 + 1, 0, none⟩ = some (.int .i64 (fr : Int)) := by rw [Lib.cell_of_heap H6.out.2.2.1]; rfl
  have f2 : w6.cell? ⟨bQ, 0, none⟩ = some (.pointer (some ⟨q, 0, none⟩)) := by rw [Lib.cell_of_heap H6.out.2.2.2.1]; rfl
  clear hb56 hqlt H4 H5
  have HCE : Hid (Calls Tryd.prog 8 #[.pointer (some ⟨q, 0, none⟩), .int .i64 (fr : Int)] w6 fun e w' => ∃ b0, e = .returned (.func (.func 17) #[] #[.pointer (some ⟨b0, 0, none⟩)]) ∧ Below w6.heap.size w6 w' ∧
      ∀ W, Laid w6 w' W → ∀ n, 4 ≤ n → SeqW Fence.wide n Tryd.prog 17 #[.pointer (some ⟨b0, 0, none⟩)] clE KpA (fun _ _ => True) (fun xs => xs = enF (fr : Int) (R.drop fr)) (fun pre => pre <+: enF (fr : Int) (R.drop fr)) W) := by
    obtain ⟨t, k1, k2, k3, k4⟩ := H6.out.1.rope
    have := ropeCells_later k1 k2 (okl_row (by rw [k3]; exact H6.out.1.ok)) fr
    rw [k3] at this
    exact this
  gi_wp2
  refine ⟨trivial, (callsIn_wide.2 HCE.out).mono ?_⟩
  rintro e w7 ⟨b0, rfl, k1, k2⟩
  have H7 : Hid (Below w6.heap.size w6 w7 ∧ ∀ W, Laid w6 w7 W → ∀ n, 4 ≤ n → SeqW Fence.wide n Tryd.prog 17 #[.pointer (some ⟨b0, 0, none⟩)] clE KpA (fun _ _ => True) (fun xs => xs = enF (fr : Int) (R.drop fr)) (fun pre => pre <+: enF (fr : Int) (R.drop fr)) W) := ⟨k1, k2⟩
  have f3 : w7.cell? ⟨E2, 0, none⟩ = some (.slice a2 nR c2) := by
    have h6 := H6.out
    rw [Lib.cell_of_heap ((k1.block _ (by omega)).trans h6.2.1)]
    rfl
  clear k1 k2 HCE f1 f2
  gi_wp2
  obtain ⟨bN, hbN⟩ : ∃ bN, w7.heap.size = bN := ⟨_, rfl⟩
  obtain ⟨bK, hbK⟩ : ∃ bK, bN + 1 = bK := ⟨_, rfl⟩
  rw [hbN, hbK]
  obtain ⟨w9, hw9⟩ : ∃ w9, (w7.alloc (.cells #[.slice a2 nR c2] 26)).alloc (.cells #[.bool true] 4) = w9 := ⟨_, rfl⟩
  rw [hw9]
  have HO : Hid (SQo w2 w6 w7 E2 bQ bN bK q) := by
    have h6 := H6.out
    exact ⟨h6.2.2.2.2.2.2.2, h6.2.2.2.2.2.1, h6.2.2.2.2.2.2.1, h6.2.2.2.2.1, by omega, by omega, H7.out.1.size⟩
  have H9 : Hid (SQ w2 w6 w7 E2 bQ bN bK q (.slice a2 nR c2) (fr : Int) w9 2 R a2 c2) := by
    have h6 := H6.out
    generalize hA1 : w7.alloc (.cells #[.slice a2 nR c2] 26) = A1 at hw9
    have s1 : A1.heap.size = bN + 1 := by rw [← hA1]; simp [hbN]
    have b1 : Below w7.heap.size w7 A1 := by rw [← hA1]; exact (Below.refl _ _).alloc (Nat.le_refl _) _
    have b2 : Below A1.heap.size A1 w9 := by rw [← hw9]; exact (Below.refl _ _).alloc (Nat.le_refl _) _
    have b3 : Below w7.heap.size w7 w9 := b1.trans (b2.mono (by omega))
    have b4 : Below w6.heap.size w6 w9 := H7.out.1.trans (b3.mono H7.out.1.size)
    have hs := H7.out.1.size
    refine ⟨h6.1.still b4, (b4.block _ (by omega)).trans h6.2.1, (b4.block _ (by omega)).trans h6.2.2.1, (b4.block _ (by omega)).trans h6.2.2.2.1, ?_, ?_, ⟨KpT.below b3, fun k _ hk => b3.block k hk⟩⟩
    · rw [HNR.out]
      exact (b2.block _ (by omega)).trans (by rw [← hA1, ← hbN]; exact World.alloc_heap_new _ _)
    · rw [← hw9, ← hbK, ← s1]
      exact World.alloc_heap_new _ _
  clear hbN hbK hw9 f3 H6
  gi_loopw [17] (fun vi wr => ∃ (i : Nat) (R1 : List (Int × Int)) (a3 : Option Addr) (c3 : Nat), vi = .int .i64 (i : Int) ∧ i ≤ 24 ∧ i ≤ m ∧ R1.length ≤ 1152 + 48 * i ∧ Hid (SQ w2 w6 w7 E2 bQ bN bK q (.slice a2 nR c2) (fr : Int) wr (2 + (i : Int)) R1 a3 c3)) (fun vi _ => 24 - (RowKit.intOf vi).toNat)
  case atStart => exact ⟨0, R, a2, c2, rfl, by omega, by omega, by have := HNR.out; omega, H9.out⟩
  case round =>
    obtain ⟨i, R1, a3, c3, rfl, hi, him, hl1, hS⟩ := hrel
    by_cases hgo : i < m ∧ i < 24
    · obtain ⟨g1, g2⟩ := hgo
      have d1 : (i : Int) < (m : Int) := by omega
      have d2 : (i : Int) < 24 := by omega
      have gi : IntKind.i64.wrap ((i : Int) + 1) = ((i + 1 : Nat) : Int) := by rw [IntWalk.i64_in _ (by omega)]; omega
      have HW : Below w.heap.size w wr := H2.out.1.trans (hS.out.both.rope.below.mono H2.out.1.size)
      obtain ⟨gs, os, x, hoa, hgs, hx, hc⟩ := (HS.out.below HW).at i g1
      subst hoa
      have k0 := hc 0 _ rfl
      have k1 := hc 1 _ rfl
      have k2 := hc 2 _ rfl
      have k3 := hc 3 _ rfl
      rw [Nat.add_zero] at k0
      obtain ⟨nR1, hnR1⟩ : ∃ nR1, R1.length = nR1 := ⟨_, rfl⟩
      have bq := hS.out.bq
      have bn := hS.out.bn
      rw [hnR1] at bn
      have cq : wr.cell? ⟨bQ, 0, none⟩ = some (.pointer (some ⟨q, 0, none⟩)) := by rw [Lib.cell_of_heap bq]; rfl
      have cn : wr.cell? ⟨bN, 0, none⟩ = some (.slice a3 nR1 c3) := by rw [Lib.cell_of_heap bn]; rfl
      have hgs2 : gs < w.heap.size := by
        obtain ⟨gs', os', x', hoa', hgs', _, _⟩ := HS.out.at i g1
        simp only [Option.some.injEq, Addr.mk.injEq, and_true] at hoa'
        omega
      obtain ⟨D, hD⟩ : ∃ D, wr.drew = D := ⟨_, rfl⟩
      have hbD : Below wr.heap.size wr D := by rw [← hD]; exact (Below.refl _ _).drew
      have HSD : Hid (SQ w2 w6 w7 E2 bQ bN bK q (.slice a2 nR c2) (fr : Int) D (2 + (i : Int)) R1 a3 c3 ∧ R1.length = nR1) := ⟨hS.out.below hbD, hnR1⟩
      have KEEP : Hid (∀ W, Below w.heap.size w W → W.heap[bQ]? = some (.cells #[.pointer (some ⟨q, 0, none⟩)] 29) → W.cell? ⟨bQ, 0, none⟩ = some (.pointer (some ⟨q, 0, none⟩)) ∧ W.cell? ⟨gs, os + i * 4, none⟩ = some (.int .i64 x.1) ∧ W.cell? ⟨gs, os + i * 4 + 1, none⟩ = some (.int .i64 x.2.1) ∧ W.cell? ⟨gs, os + i * 4 + 2, none⟩ = some (.int .i64 x.2.2.1) ∧ W.cell? ⟨gs, os + i * 4 + 3, none⟩ = some (.int .i64 x.2.2.2)) := by
        intro W hW hq
        have f : ∀ j, W.cell? ⟨gs, j, none⟩ = wr.cell? ⟨gs, j, none⟩ := fun j => (hW.cell (p := ⟨gs, j, none⟩) hgs2).trans (HW.cell (p := ⟨gs, j, none⟩) hgs2).symm
        exact ⟨by rw [Lib.cell_of_heap hq]; rfl, (f _).trans k0, (f _).trans k1, (f _).trans k2, (f _).trans k3⟩
      have HBW : Hid (∀ W M R a c, SQ w2 w6 w7 E2 bQ bN bK q (.slice a2 nR c2) (fr : Int) W M R a c → Below w.heap.size w W) := fun W M R a c h => H2.out.1.trans (h.both.rope.below.mono H2.out.1.size)
      have s0 := KEEP.out D (HBW.out _ _ _ _ _ HSD.out.1) HSD.out.1.bq
      have dn : D.cell? ⟨bN, 0, none⟩ = some (.slice a3 nR1 c3) := by have h := HSD.out.1.bn; rw [HSD.out.2] at h; rw [Lib.cell_of_heap h]; rfl
      have HA : Hid (Calls Tryd.prog 9 #[.pointer (some ⟨q, 0, none⟩), .slice a3 nR1 c3, .agg #[.int .i64 x.1, .int .i64 x.2.1, .int .i64 x.2.2.1, .int .i64 x.2.2.2]] D fun e W' => ∃ a' cap' R', e = .returned (.tuple #[.slice a' R'.length cap', .bool true]) ∧ Both w2 q (2 + (i : Int) + 1) R' a' cap' W' ∧ R'.length ≤ nR1 + 48 ∧ Upd q D W' ∧ R' = actR R1 x.1 x.2.1 x.2.2.1 x.2.2.2) := by
        have h := acts_is HSD.out.1.both (by have := HO.out.e2; have := HO.out.qlo; omega) H2.out.2.1 (by omega) (by omega) (by omega) x.1 x.2.1 x.2.2.1 x.2.2.2
        rw [HSD.out.2] at h
        exact h
      clear hc hx bq bn k0 k1 k2 k3 cq cn hbD hgs2 hnR1 HW
      gi_wp2
      refine wpIn_calm (wpIn_wide.2 ?_)
      refine wp_region_held_drew (S := (fun W => W.cell? ⟨bQ, 0, none⟩ = some (.pointer (some ⟨q, 0, none⟩)) ∧ W.cell? ⟨gs, os + i * 4, none⟩ = some (.int .i64 x.1) ∧ W.cell? ⟨gs, os + i * 4 + 1, none⟩ = some (.int .i64 x.2.1) ∧ W.cell? ⟨gs, os + i * 4 + 2, none⟩ = some (.int .i64 x.2.2.1) ∧ W.cell? ⟨gs, os + i * 4 + 3, none⟩ = some (.int .i64 x.2.2.2))) (by kernel_rfl) ?hS101 (fun hHeld => ?rest101)
      case hS101 => (first | exact s0 | (rw [hD]; exact s0))
      change wpAnyH _ _ _ _ _ _ _ _ wr.drew
      rw [hD]
      replace hHeld : (fun W => W.cell? ⟨bQ, 0, none⟩ = some (.pointer (some ⟨q, 0, none⟩)) ∧ W.cell? ⟨gs, os + i * 4, none⟩ = some (.int .i64 x.1) ∧ W.cell? ⟨gs, os + i * 4 + 1, none⟩ = some (.int .i64 x.2.1) ∧ W.cell? ⟨gs, os + i * 4 + 2, none⟩ = some (.int .i64 x.2.2.1) ∧ W.cell? ⟨gs, os + i * 4 + 3, none⟩ = some (.int .i64 x.2.2.2)) D := s0
      refine takeD (i := 0) (d := some 58) (v := ?vT102) rfl rfl (by kernel_rfl) (by kernel_rfl) (by kernel_rfl) (fun _ _ _ h => h) (Or.inl ⟨by rfl, ?hyT102⟩) (by assumption) ?rstT102
      case hyT102 => (intro w hSw; (try dsimp only at hSw); go_simp; (try with_reducible rfl))
      try simp only [Act.put, List.setIfInBounds_toArray, List.set_cons_zero, List.set_cons_succ]
      refine takeD (i := 2) (d := some 60) (v := ?vT103) rfl rfl (by kernel_rfl) (by kernel_rfl) (by kernel_rfl) (fun _ _ _ h => h) (Or.inl ⟨by rfl, ?hyT103⟩) (by assumption) ?rstT103
      case hyT103 => (intro w hSw; (try dsimp only at hSw); go_simp; (try with_reducible rfl))
      try simp only [Act.put, List.setIfInBounds_toArray, List.set_cons_zero, List.set_cons_succ]
      refine takeD (i := 3) (d := some 61) (v := ?vT104) rfl rfl (by kernel_rfl) (by kernel_rfl) (by kernel_rfl) (fun _ _ _ h => h) (Or.inl ⟨by rfl, ?hyT104⟩) (by assumption) ?rstT104
      case hyT104 => (intro w hSw; (try dsimp only at hSw); go_simp; (try with_reducible rfl))
      try simp only [Act.put, List.setIfInBounds_toArray, List.set_cons_zero, List.set_cons_succ]
      refine takeD (i := 4) (d := some 62) (v := ?vT105) rfl rfl (by kernel_rfl) (by kernel_rfl) (by kernel_rfl) (fun _ _ _ h => h) (Or.inl ⟨by rfl, ?hyT105⟩) (by assumption) ?rstT105
      case hyT105 => (intro w hSw; (try dsimp only at hSw); go_simp; (try with_reducible rfl))
      try simp only [Act.put, List.setIfInBounds_toArray, List.set_cons_zero, List.set_cons_succ]
      refine takeD (i := 5) (d := some 63) (v := ?vT106) rfl rfl (by kernel_rfl) (by kernel_rfl) (by kernel_rfl) (fun _ _ _ h => h) (Or.inl ⟨by rfl, ?hyT106⟩) (by assumption) ?rstT106
      case hyT106 => (intro w hSw; (try dsimp only at hSw); go_simp; (try with_reducible rfl))
      try simp only [Act.put, List.setIfInBounds_toArray, List.set_cons_zero, List.set_cons_succ]
      refine wpAnyH_ready (rs := [1]) (by kernel_rfl) (by simp) ?_
      refine AllReadyH.cons rfl (fun K hK => ?_) AllReadyH.nil
      go_simp
      clear hHeld
      refine hK.out _ _ ?hS107 (fun hHeld => ?rest107)
      case hS107 => exact s0
      clear hK K
      try simp only [Act.put, List.setIfInBounds_toArray, List.set_cons_zero, List.set_cons_succ]
      refine wpAnyH_ready (rs := [6]) (by kernel_rfl) (by simp) ?_
      refine AllReadyH.cons rfl (fun K hK => ?_) AllReadyH.nil
      go_simp
      refine HA.out.mono ?_
      rintro e W8 ⟨a4, c4, R4, rfl, j1, j2, j3, _⟩
      obtain ⟨m1, m2, m3⟩ := HSD.out.1.acts HO.out j1 j3
      rw [HSD.out.2] at m1
      obtain ⟨nR4, hnR4⟩ : ∃ nR4, R4.length = nR4 := ⟨_, rfl⟩
      rw [hnR4] at m2 m3 ⊢
      have b8 : Below w.heap.size w W8 := H2.out.1.trans (j1.rope.below.mono H2.out.1.size)
      have s8 := KEEP.out W8 b8 ((j3.block bQ (Array.getElem?_eq_some_iff.1 HSD.out.1.bq).1 (by have := HO.out.qhi; omega)).trans HSD.out.1.bq)
      have fz1 := Lib.frozen_of_heap m1 0
      have e1 : W8.cell? ⟨bN, 0, none⟩ = some (.slice a3 nR1 c3) := by rw [Lib.cell_of_heap m1]; rfl
      obtain ⟨W9, hW9⟩ : ∃ W9, W8.setCell ⟨bN, 0, none⟩ (.slice a4 nR4 c4) = W9 := ⟨_, rfl⟩
      rw [hW9] at m2 m3
      have fz2 := Lib.frozen_of_heap m2 0
      have e2 : W9.cell? ⟨bK, 0, none⟩ = some (.bool true) := by rw [Lib.cell_of_heap m2]; rfl
      obtain ⟨W10, hW10⟩ : ∃ W10, W9.setCell ⟨bK, 0, none⟩ (.bool true) = W10 := ⟨_, rfl⟩
      rw [hW10] at m3
      have hE2w : w.heap.size ≤ bN ∧ w.heap.size ≤ bK := by have h1 := HO.out; have h2 := H2.out.1.size; have h3 := h1.e2; have h4 := h1.qlo; have h5 := h1.qhi; have h6 := h1.s6; have h7 := h1.n7; have h8 := h1.k7; have h9 := h1.s67; omega
      have b9 : Below w.heap.size w W9 := by rw [← hW9]; exact b8.trans ((Below.refl _ _).setCell hE2w.1 _)
      have s9 := KEEP.out W9 b9 (by rw [← hW9]; exact (heap_set_ne _ (by have h1 := HO.out; have h5 := h1.qhi; have h6 := h1.s6; have h7 := h1.n7; have h9 := h1.s67; omega)).trans ((j3.block bQ (Array.getElem?_eq_some_iff.1 HSD.out.1.bq).1 (by have := HO.out.qhi; omega)).trans HSD.out.1.bq))
      have s10 := KEEP.out W10 (HBW.out _ _ _ _ _ m3) m3.bq
      have HS10 : Hid (SQ w2 w6 w7 E2 bQ bN bK q (.slice a2 nR c2) (fr : Int) W10 (2 + (i : Int) + 1) R4 a4 c4 ∧ R4.length = nR4 ∧ R4.length ≤ nR1 + 48) := ⟨m3, hnR4, j2⟩
      have e3 : W10.cell? ⟨bK, 0, none⟩ = some (.bool true) := by rw [Lib.cell_of_heap m3.bk]; rfl
      clear j1 j2 j3 m1 m2 m3 hnR4 b8 b9 hE2w
      clear hHeld
      refine hK.out _ _ ?hS108 (fun hHeld => ?rest108)
      case hS108 => exact s8
      clear hK K
      try simp only [Act.put, List.setIfInBounds_toArray, List.set_cons_zero, List.set_cons_succ]
      refine takeD (i := 7) (d := some 57) (v := ?vT109) rfl rfl (by kernel_rfl) (by kernel_rfl) (by kernel_rfl) (fun _ _ _ h => h) (Or.inl ⟨by rfl, ?hyT109⟩) (by assumption) ?rstT109
      case hyT109 => (intro w hSw; (try dsimp only at hSw); go_simp; (try with_reducible rfl))
      try simp only [Act.put, List.setIfInBounds_toArray, List.set_cons_zero, List.set_cons_succ]
      refine takeD (i := 8) (d := some 65) (v := ?vT110) rfl rfl (by kernel_rfl) (by kernel_rfl) (by kernel_rfl) (fun _ _ _ h => h) (Or.inl ⟨by rfl, ?hyT110⟩) (by assumption) ?rstT110
      case hyT110 => (intro w hSw; (try dsimp only at hSw); go_simp; (try with_reducible rfl))
      try simp only [Act.put, List.setIfInBounds_toArray, List.set_cons_zero, List.set_cons_succ]
      refine takeD (i := 9) (d := some 66) (v := ?vT111) rfl rfl (by kernel_rfl) (by kernel_rfl) (by kernel_rfl) (fun _ _ _ h => h) (Or.inl ⟨by rfl, ?hyT111⟩) (by assumption) ?rstT111
      case hyT111 => (intro w hSw; (try dsimp only at hSw); go_simp; (try with_reducible rfl))
      try simp only [Act.put, List.setIfInBounds_toArray, List.set_cons_zero, List.set_cons_succ]
      refine wpAnyH_ready (rs := [10]) (by kernel_rfl) (by simp) ?_
      refine AllReadyH.cons rfl (fun K hK => ?_) AllReadyH.nil
      go_simp
      clear hHeld
      refine hK.out _ _ ?hS112 (fun hHeld => ?rest112)
      case hS112 => exact s9
      clear hK K
      try simp only [Act.put, List.setIfInBounds_toArray, List.set_cons_zero, List.set_cons_succ]
      refine wpAnyH_ready (rs := [11]) (by kernel_rfl) (by simp) ?_
      refine AllReadyH.cons rfl (fun K hK => ?_) AllReadyH.nil
      go_simp
      clear hHeld
      refine hK.out _ _ ?hS113 (fun hHeld => ?rest113)
      case hS113 => exact s10
      clear hK K
      try simp only [Act.put, List.setIfInBounds_toArray, List.set_cons_zero, List.set_cons_succ]
      refine wpAnyH_done (by kernel_rfl) ?_ _
      gi_wp2
      go_roundw
      case rel => exact ⟨i + 1, R4, a4, c4, by first | rfl | go_num, by omega, by omega, by have h1 := HS10.out.2.2; have h2 := HSD.out.2; omega, by have h := HS10.out.1; rw [show (2 : Int) + ((i + 1 : Nat) : Int) = 2 + (i : Int) + 1 by omega]; exact h⟩
      case measure => simp [RowKit.intOf]; omega
    · have HI : Hid (i ≤ 24 ∧ R1.length ≤ 1152 + 48 * i) := ⟨hi, hl1⟩
      have dcs : (¬ (i : Int) < (m : Int)) ∨ ((i : Int) < (m : Int) ∧ ¬ (i : Int) < 24) := by omega
      have HEQ := fun bx W => run_eql_func_nil (P := Tryd.prog) W 34 _ _ _ (.func 17) #[] #[.pointer (some ⟨bx, 0, none⟩)] Tryd.underlying34
      obtain ⟨st, hst⟩ : ∃ st : Nat, B % ((nR : Int) + 1) = (st : Int) := ⟨(B % ((nR : Int) + 1)).toNat, by have := Int.emod_nonneg B (b := (nR : Int) + 1) (by omega); omega⟩
      have HRB : Hid (∀ w : World, Calls Tryd.prog 6 #[.int .i64 B, .int .i64 ((nR : Int) + 1)] w fun e w' => e = .returned (.int .i64 (st : Int)) ∧ w' = w) := fun w => by rw [← hst]; exact rest_any B ((nR : Int) + 1) (by omega) (by omega) w
      have cR : wr.cell? ⟨E2, 0, none⟩ = some (.slice a2 nR c2) := by rw [Lib.cell_of_heap hS.out.bR]; rfl
      clear hgo hi him hl1 hst
      rcases dcs with d1 | ⟨d1, d2⟩
      ·
        gi_wp2
        refine ⟨trivial, (callsIn_wide.2 (HRB.out _)).mono ?_⟩
        rintro e wz ⟨rfl, hz⟩
        obtain rfl := hz.symm
        clear hz
        gi_wp2
        obtain ⟨bS, hbS⟩ : ∃ bS, wr.heap.size = bS := ⟨_, rfl⟩
        obtain ⟨n1, hn1⟩ : ∃ n1, R1.length = n1 := ⟨_, rfl⟩
        rw [hbS]
        obtain ⟨W0, hW0⟩ : ∃ W0, (wr.alloc (.cells #[.int .i64 (st : Int)] 3)).alloc (.cells #[.int .i64 0] 3) = W0 := ⟨_, rfl⟩
        rw [hW0]
        have HBS : Hid (bK < bS ∧ w.heap.size < E2 ∧ n1 ≤ 2304) := by
          have h1 := (Array.getElem?_eq_some_iff.1 hS.out.bk).1
          have h2 := (Array.getElem?_eq_some_iff.1 H2.out.2.2.2.2).1
          have h3 := HO.out.e2
          have h4 := HI.out
          exact ⟨by omega, by omega, by omega⟩
        have HT0 : Hid (∃ M R2 a5 c5, SQ w2 w6 w7 E2 bQ bN bK q (.slice a2 nR c2) (fr : Int) W0 M R2 a5 c5 ∧ 1 ≤ M ∧ M ≤ 26 + 1152 * ((0 : Nat) : Int) ∧ R2.length = n1 ∧ EX w.heap.size bS (bS + 1) (st : Int) ((0 : Nat) : Int) [] W0 ∧ ([] : List Nat).Nodup ∧ bS < bS + 1) := by
          generalize hA1 : wr.alloc (.cells #[.int .i64 (st : Int)] 3) = A1 at hW0
          have s1 : A1.heap.size = bS + 1 := by rw [← hA1]; simp [hbS]
          have b1 : Below wr.heap.size wr A1 := by rw [← hA1]; exact (Below.refl _ _).alloc (Nat.le_refl _) _
          have b2 : Below A1.heap.size A1 W0 := by rw [← hW0]; exact (Below.refl _ _).alloc (Nat.le_refl _) _
          have b3 : Below wr.heap.size wr W0 := b1.trans (b2.mono (by omega))
          have hb := HBS.out
          have hsz2 := hS.out.both.rope.below
          have e2 := HO.out.e2
          refine ⟨_, _, _, _, hS.out.below b3, by omega, by have := HI.out.1; omega, hn1, ⟨?_, ?_, ?_, by simp, by simp⟩, by simp, by omega⟩
          · exact (b3.block _ (by have := hsz2.size; omega)).trans ((hsz2.block _ (by omega)).trans H2.out.2.2.2.2)
          · exact (b2.block _ (by omega)).trans (by rw [← hA1, ← hbS]; exact World.alloc_heap_new _ _)
          · rw [← hW0, ← s1]; exact World.alloc_heap_new _ _
        clear hbS hW0 hn1 hS H9 cR HEQ
        refine wpIn_loop (fun a' W => Hid (∃ (p bp : Nat) (rs : List Nat), a'.tmps.size = 138 ∧ a'.tmps[8]? = some (.pointer (some ⟨w.heap.size, 0, none⟩)) ∧ a'.tmps[10]? = some (.pointer (some ⟨E2, 0, none⟩)) ∧ a'.tmps[11]? = some (.pointer (some ⟨E2 + 1, 0, none⟩)) ∧ a'.tmps[12]? = some (.pointer (some ⟨bQ, 0, none⟩)) ∧ a'.tmps[14]? = some (.func (.func 17) #[] #[.pointer (some ⟨b0, 0, none⟩)]) ∧ a'.tmps[15]? = some (.pointer (some ⟨bN, 0, none⟩)) ∧ a'.tmps[16]? = some (.pointer (some ⟨bK, 0, none⟩)) ∧ a'.tmps[18]? = some (.pointer (some ⟨bS, 0, none⟩)) ∧ a'.tmps[19]? = some (.pointer (some ⟨bp, 0, none⟩)) ∧ a'.defers = rs.map mark ∧ p ≤ 2 ∧ Hid (∃ M R2 a5 c5, SQ w2 w6 w7 E2 bQ bN bK q (.slice a2 nR c2) (fr : Int) W M R2 a5 c5 ∧ 1 ≤ M ∧ M ≤ 26 + 1152 * (p : Int) ∧ R2.length = n1 ∧ EX w.heap.size bS bp (st : Int) (p : Int) rs W ∧ rs.Nodup ∧ bS < bp))) (fun a' W => 2 - (RowKit.intOf ((W.cell? ⟨(match a'.tmps.getD 19 undef with | .pointer (some ad) => ad.block | _ => 0), 0, none⟩).getD undef)).toNat) ?startA ?roundA
        case startA => exact ⟨0, bS + 1, [], rfl, rfl, rfl, rfl, rfl, rfl, rfl, rfl, rfl, rfl, rfl, by omega, HT0.out⟩
        case roundA =>
          rintro ⟨tm, df⟩ wq hinv
          obtain ⟨p, bp, rs, hsz, s8, s10, s11, s12, s14, s15, s16, s18, s19, hdf, hp2, HT⟩ := hinv.out
          clear hinv
          simp only at hsz s8 s10 s11 s12 s14 s15 s16 s18 s19 hdf
          subst hdf
          obtain ⟨u, rfl⟩ := arrU tm hsz
          simp only [List.getElem?_toArray, List.getElem?_cons_succ, List.getElem?_cons_zero, Option.some.injEq] at s8 s10 s11 s12 s14 s15 s16 s18 s19
          rw [s8, s10, s11, s12, s14, s15, s16, s18, s19]
          clear hsz s8 s10 s11 s12 s14 s15 s16 s18 s19
          have cp : wq.cell? ⟨bp, 0, none⟩ = some (.int .i64 (p : Int)) := by
            obtain ⟨M, R2, a5, c5, _, _, _, _, h5, _⟩ := HT.out
            rw [Lib.cell_of_heap h5.pass]; rfl
          by_cases hp : p < 2
          · have hpI : (p : Int) < 2 := by omega
            obtain ⟨bX, hbX⟩ : ∃ bX, wq.heap.size = bX := ⟨_, rfl⟩
            have cF : ∀ o, (wq.alloc o).cell? ⟨E2 + 1, 0, none⟩ = some (.int .i64 (fr : Int)) := fun o => by
              obtain ⟨M, R2, a5, c5, h1, _⟩ := HT.out
              rw [cell_old _ _ _ (Array.getElem?_eq_some_iff.1 h1.bF).1, Lib.cell_of_heap h1.bF]; rfl
            have cF0 : wq.cell? ⟨E2 + 1, 0, none⟩ = some (.int .i64 (fr : Int)) := by
              obtain ⟨M, R2, a5, c5, h1, _⟩ := HT.out
              rw [Lib.cell_of_heap h1.bF]; rfl
            gi_wp2
            have hpS : (p : Int) = ((p : Nat) : Int) := rfl
            obtain ⟨Wx, hWx⟩ : ∃ Wx, wq.alloc (.cells #[.int .i64 (fr : Int)] 3) = Wx := ⟨_, rfl⟩
            rw [hWx]
            have HD : Hid (Wx.heap.size = bX + 1 ∧ Below wq.heap.size wq Wx ∧ Wx.heap[bX]? = some (.cells #[.int .i64 (fr : Int)] 3) ∧ w7.heap.size ≤ bX ∧ w2.heap.size ≤ bX ∧ (∀ r ∈ rs, r < bX) ∧ bK < bX ∧ bS < bX ∧ bp < bX) := by
              obtain ⟨M, R2, a5, c5, k1, k2, k3, k4, k5, k6, k7⟩ := HT.out
              have h1 := k1.laid.1.size
              have h2 := k1.both.rope.below.size
              have h3 := (Array.getElem?_eq_some_iff.1 k1.bk).1
              have h4 := (Array.getElem?_eq_some_iff.1 k5.stop).1
              have h5 := (Array.getElem?_eq_some_iff.1 k5.pass).1
              refine ⟨by rw [← hWx]; simp [hbX], by rw [← hWx]; exact (Below.refl _ _).alloc (Nat.le_refl _) _, by rw [← hWx, ← hbX]; exact World.alloc_heap_new _ _, by omega, by omega, fun r hr => ?_, by omega, by omega, by omega⟩
              have := (Array.getElem?_eq_some_iff.1 (k5.mks r hr)).1
              omega
            have HX : Hid (∃ M0, M0 ≤ 26 + 1152 * (p : Int) ∧ BI w2 w6 w7 E2 bQ bN bK q (.slice a2 nR c2) (fr : Int) w.heap.size bS bp bX (st : Int) (p : Int) rs M0 n1 [] Wx) := by
              obtain ⟨M, R2, a5, c5, k1, k2, k3, k4, k5, k6, k7⟩ := HT.out
              exact ⟨M, k3, M, R2, a5, c5, k1.below HD.out.2.1, k2, by simp, k4, k5.below HD.out.2.1, by have := HD.out.2.2.1; simpa using this⟩
            obtain ⟨M0, hM0, hBI0⟩ := HX.out
            have hseq : SeqW Fence.wide 7 Tryd.prog 17 #[.pointer (some ⟨b0, 0, none⟩)] clE KpA (fun _ _ => True) (fun xs => xs = enF (fr : Int) (R.drop fr)) (fun pre => pre <+: enF (fr : Int) (R.drop fr)) Wx := by
              obtain ⟨M, R2, a5, c5, k1, _⟩ := hBI0
              exact H7.out.2 Wx k1.laid 7 (by omega)
            have HND : Hid (rs.Nodup ∧ bS < bp) := by
              obtain ⟨M, R2, a5, c5, _, _, _, _, _, k6, k7⟩ := HT.out
              exact ⟨k6, k7⟩
            have HCP : Hid (wq.cell? ⟨bp, 0, none⟩ = some (.int .i64 (p : Int))) := cp
            clear hWx cF cF0 cp HT HX
            refine rangeWa (α := Int × Int × Int) (F := Fence.wide) rfl rfl (by omega) (gf := 17) (lb := #[.pointer (some ⟨b0, 0, none⟩)]) rfl trivial (fun args w => rfl) hseq (fun h k => h.trans k) (fun B l W o o' hl h hc => KpA.put B l W o o' hl h hc) (Below.refl _ _) (fun x => rfl) (BI w2 w6 w7 E2 bQ bN bK q (.slice a2 nR c2) (fr : Int) w.heap.size bS bp bX (st : Int) (p : Int) rs M0 n1) (BO w2 w6 w7 E2 bQ bN bK q (.slice a2 nR c2) (fr : Int) w.heap.size bS bp bX (st : Int) (p : Int) rs M0 n1)
              (bi_own (by have := HD.out; omega) (by have := HD.out; omega) (fun r hr => by have h1 := HD.out.2.2.2.2.2.1 r hr; have h2 := HD.out.1; omega)) (fun c => bo_own (by have := HD.out; omega) (by have := HD.out; omega) (fun r hr => by have h1 := HD.out.2.2.2.2.2.1 r hr; have h2 := HD.out.1; omega) c) (fun x s A B row _ _ _ => trivial) hBI0
              (fun x W0 => { tmps := #[u 0, u 1, u 2, u 3, u 4, u 5, u 6, u 7, .pointer (some ⟨w.heap.size, 0, none⟩), u 9, .pointer (some ⟨E2, 0, none⟩), .pointer (some ⟨E2 + 1, 0, none⟩), .pointer (some ⟨bQ, 0, none⟩), u 13, .func (.func 17) #[] #[.pointer (some ⟨b0, 0, none⟩)], .pointer (some ⟨bN, 0, none⟩), .pointer (some ⟨bK, 0, none⟩), u 17, .pointer (some ⟨bS, 0, none⟩), .pointer (some ⟨bp, 0, none⟩), .pointer (some ⟨bX, 0, none⟩), .int .i64 x.1, .pointer (some ⟨W0.heap.size, 0, none⟩), u 23, u 24, u 25, u 26, u 27, u 28, u 29, u 30, u 31, u 32, u 33, u 34, u 35, u 36, u 37, u 38, u 39, u 40, u 41, u 42, u 43, u 44, u 45, u 46, u 47, u 48, u 49, u 50, u 51, u 52, u 53, u 54, u 55, u 56, u 57, u 58, u 59, u 60, u 61, u 62, u 63, u 64, u 65, u 66, u 67, u 68, u 69, u 70, u 71, u 72, u 73, u 74, u 75, .int .i64 (p : Int), .bool true, u 78, u 79, .int .i64 (fr : Int), .func (.func 17) #[] #[.pointer (some ⟨b0, 0, none⟩)], .int .i64 x.1, .agg #[.int .i32 x.2.1, .int .i64 x.2.2], u 84, u 85, u 86, u 87, u 88, u 89, u 90, u 91, u 92, u 93, u 94, u 95, u 96, u 97, u 98, u 99, u 100, u 101, u 102, u 103, u 104, u 105, u 106, u 107, u 108, u 109, u 110, u 111, u 112, u 113, u 114, u 115, u 116, u 117, u 118, u 119, u 120, u 121, u 122, u 123, u 124, u 125, u 126, u 127, u 128, u 129, u 130, u 131, u 132, u 133, u 134, u 135, u 136, u 137], defers := [] }) (fun x W => W.alloc (.cells #[.int .i32 x.2.1, .int .i64 x.2.2] 41)) (fun x W => (Below.refl _ _).alloc (Nat.le_refl _) _)
              (fun x W0 W => W.heap[W0.heap.size]? = some (.cells #[.int .i32 x.2.1, .int .i64 x.2.2] 41)) (fun x W => World.alloc_heap_new _ _)
              (fun x W0 W l o o' hb hl hc => (World.putObj_heap_other (by rintro rfl; rw [hb] at hl; cases hl; simp [Obj.isCells] at hc)).trans hb) (fun B x W => KpA.below ((Below.refl _ _).alloc (Nat.le_refl _) _)) ?assignP ?bodyP ?doneP ?stopP
            case assignP =>
              intro l x W K hK
              simp only [clE, List.size_toArray, List.zip_toArray, List.zip_cons_cons, List.zip_nil_right]
              gi_wp2
              exact hK
            case bodyP =>
              intro l pre x W0 W hBI _ hBx hSp
              obtain ⟨x1, x2, x3⟩ := x
              obtain ⟨e1, e2, e3⟩ := enF_next hSp
              simp only at e2 e3
              obtain ⟨g, off, hRB⟩ := bi_reads hBI H2.out.2.2.2.1 hSp hBx
              obtain ⟨ln, hln⟩ : ∃ ln, pre.length = ln := ⟨_, rfl⟩
              obtain ⟨nx, hnx⟩ : ∃ nx : Nat, fr + ln = nx := ⟨_, rfl⟩
              have enx : (fr : Int) + (pre.length : Int) = (nx : Int) := by omega
              rw [HNR.out] at e1
              rw [hln, hnx] at e1 e2
              obtain rfl : (nx : Int) = x1 := e2.symm
              obtain ⟨qa, r1, r2, r3, r4, r5, r6, r7, r8, r9⟩ := hRB
              subst qa
              rw [enx] at r2 r8 r9
              rw [show ((nx : Int)).toNat = nx from rfl] at r8 r9
              have HBI : Hid (BI w2 w6 w7 E2 bQ bN bK q (.slice (some ⟨g, off, none⟩) nR c2) (fr : Int) w.heap.size bS bp bX (st : Int) (p : Int) rs M0 n1 pre W) := hBI
              have HLN : Hid (pre.length = ln ∧ fr + ln = nx) := ⟨hln, hnx⟩
              clear hBI hBx hSp e3 enx
              have gs : IntKind.i64.wrap ((nx : Int) - (fr : Int)) = (ln : Int) := by rw [IntWalk.i64_in _ (by omega)]; omega
              have ga : IntKind.i64.wrap ((nx : Int) + 1) = (nx : Int) + 1 := by rw [IntWalk.i64_in _ (by omega)]
              have gm : IntKind.i64.wrap (((nx : Int) + 1).tmod 17) = ((nx : Int) + 1).tmod 17 := by
                have h0 : ((nx : Int) + 1).tmod 17 = ((nx : Int) + 1) % 17 := Int.tmod_eq_emod_of_nonneg (by omega)
                rw [h0, IntWalk.i64_in _ (by omega)]
              have hlt1 : ¬ (nR : Int) ≤ (nx : Int) := by omega
              have hlt2 : (nx : Int) < (nR : Int) := by omega
              have hge0 : (0 : Int) ≤ (nx : Int) := by omega
              have etn : ((nx : Int)).toNat = nx := rfl
              have fzx : W.frozen? ⟨bX, 0, none⟩ = false := by
                obtain ⟨M, R2, a5, c5, _, _, _, _, _, k6⟩ := HBI.out
                exact Lib.frozen_of_heap k6 0
              clear hln hnx
              have dcs2 : ((p : Int) = 0 ∧ (st : Int) ≤ (ln : Int)) ∨ ((p : Int) = 0 ∧ ¬ (st : Int) ≤ (ln : Int)) ∨ ¬ (p : Int) = 0 := by omega
              rcases dcs2 with ⟨q1, q2⟩ | ⟨q1, q2⟩ | q1
              ·
                have HE := HBI.out
                rw [q1] at HE
                gi_wp2
                exact bi_out HE HLN.out.1 (by have := HLN.out; omega) _ _ _
              · skip
                gi_wp2
                refine region_round_quiet (by kernel_rfl) (by kernel_rfl) (by kernel_rfl) ?_
                repeat (quiet_step_in (fail))
                refine wpQuietIn_nil ?_
                intro _ hw'
                obtain ⟨nq, hw''⟩ := hw'
                subst hw''
                clear r1 r3 r4 r5 r6 r7 r8 r9
                obtain ⟨W2, hW2⟩ : ∃ W2, (W.drewN nq).setCell ⟨bX, 0, none⟩ (.int .i64 ((nx : Int) + 1)) = W2 := ⟨_, rfl⟩
                have HST : Hid (∃ M R1 a3 c3, SQ w2 w6 w7 E2 bQ bN bK q (.slice (some ⟨g, off, none⟩) nR c2) (fr : Int) W2 M R1 a3 c3 ∧ 1 ≤ M ∧ M ≤ M0 + (ln : Int) ∧ R1.length = n1 ∧ EX w.heap.size bS bp (st : Int) (p : Int) rs W2 ∧ W2.heap[bX]? = some (.cells #[.int .i64 ((nx : Int) + 1)] 3) ∧ KpA Wx.heap.size W W2) := by
                  have hd := HD.out
                  have hb := HBS.out
                  have h := bi_step (k := nq) (B := Wx.heap.size) HBI.out HO.out hd.2.2.2.2.2.2.1 hd.2.2.2.2.2.2.2.1 hd.2.2.2.2.2.2.2.2 hd.2.2.2.2.2.1 (by have := HO.out; have h1 := this.e2; omega) (by omega) ((nx : Int) + 1)
                  rw [hW2, HLN.out.1] at h
                  exact h
                obtain ⟨M, R1, a3, c3, k1, k2, k3, k4, k5, k6, k7⟩ := HST.out
                have s1 : W2.cell? ⟨bX, 0, none⟩ = some (.int .i64 ((nx : Int) + 1)) := by rw [Lib.cell_of_heap k6]; rfl
                have s2 : W2.cell? ⟨bQ, 0, none⟩ = some (.pointer (some ⟨q, 0, none⟩)) := by rw [Lib.cell_of_heap k1.bq]; rfl
                have s3 : W2.cell? ⟨bN, 0, none⟩ = some (.slice a3 n1 c3) := by rw [Lib.cell_of_heap k1.bn, k4]; rfl
                have s4 : W2.cell? ⟨bK, 0, none⟩ = some (.bool true) := by rw [Lib.cell_of_heap k1.bk]; rfl
                have s5 : W2.cell? ⟨bp, 0, none⟩ = some (.int .i64 (p : Int)) := by rw [Lib.cell_of_heap k5.pass]; rfl
                have HS2 : Hid (SQ w2 w6 w7 E2 bQ bN bK q (.slice (some ⟨g, off, none⟩) nR c2) (fr : Int) W2 M R1 a3 c3 ∧ 1 ≤ M ∧ M ≤ M0 + (ln : Int) ∧ R1.length = n1 ∧ EX w.heap.size bS bp (st : Int) (p : Int) rs W2 ∧ W2.heap[bX]? = some (.cells #[.int .i64 ((nx : Int) + 1)] 3) ∧ KpA Wx.heap.size W W2) := ⟨k1, k2, k3, k4, k5, k6, k7⟩
                have HA : Hid (Calls Tryd.prog 9 #[.pointer (some ⟨q, 0, none⟩), .slice a3 n1 c3, .agg #[.int .i64 1, .int .i64 ((nx : Int) + 1), .int .i64 (p : Int), .int .i64 0]] W2 fun e W' => ∃ a' cap' R', e = .returned (.tuple #[.slice a' R'.length cap', .bool true]) ∧ Both w2 q (M + 1) R' a' cap' W' ∧ R'.length = n1 ∧ Upd q W2 W') := by
                  have h := acts_is HS2.out.1.both (by have := HO.out.e2; have := HO.out.qlo; omega) H2.out.2.1 k2 (by have := HLN.out; omega) (by have := HBS.out; omega) 1 ((nx : Int) + 1) (p : Int) 0
                  rw [k4] at h
                  refine h.mono ?_
                  rintro e W' ⟨a', cap', R', j1, j2, _, j3, j4⟩
                  exact ⟨a', cap', R', j1, j2, by rw [j4, actR_one, k4], j3⟩
                clear k1 k2 k3 k4 k5 k6 k7 HST
                rw [q1] at HA
                obtain ⟨z, hz⟩ : ∃ z, ((nx : Int) + 1).tmod 17 = z := ⟨_, rfl⟩
                rw [hz] at gm
                by_cases hm : z = 1
                · subst hm
                  gi_wp2
                  refine ⟨trivial, (callsIn_wide.2 HA.out).mono ?_⟩
                  rintro e W8 ⟨a4, c4, R4, rfl, j1, j2, j3⟩
                  obtain ⟨m1, m2, m3⟩ := HS2.out.1.acts HO.out j1 j3
                  have hd := HD.out
                  have hb := HBS.out
                  have ha := bi_act HS2.out.1 HS2.out.2.2.2.2.1 HS2.out.2.2.2.2.2.1 HO.out hd.2.2.2.2.2.2.1 hb.1 HND.out.2 hb.2.1 (show bX < Wx.heap.size by omega) j1 j3
                  rw [j2] at m2 m3 ha ⊢
                  rw [HS2.out.2.2.2.1] at m1
                  have fz1 := Lib.frozen_of_heap m1 0
                  have t1 : W8.cell? ⟨bN, 0, none⟩ = some (.slice a3 n1 c3) := by rw [Lib.cell_of_heap m1]; rfl
                  obtain ⟨W9, hW9⟩ : ∃ W9, W8.setCell ⟨bN, 0, none⟩ (.slice a4 n1 c4) = W9 := ⟨_, rfl⟩
                  rw [hW9] at m2 m3 ha
                  have fz2 := Lib.frozen_of_heap m2 0
                  have t2 : W9.cell? ⟨bK, 0, none⟩ = some (.bool true) := by rw [Lib.cell_of_heap m2]; rfl
                  obtain ⟨W10, hW10⟩ : ∃ W10, W9.setCell ⟨bK, 0, none⟩ (.bool true) = W10 := ⟨_, rfl⟩
                  rw [hW10] at m3 ha
                  have t3 : W10.cell? ⟨bK, 0, none⟩ = some (.bool true) := by rw [Lib.cell_of_heap m3.bk]; rfl
                  have HF := fun (Ix : Code → List (Int × Int × Int) → World → Prop) (a : Act) => bi_end (x := ((nx : Int), x2, x3)) ha.1 (by have := HS2.out.2.1; omega) (show M + 1 ≤ M0 + (ln : Int) + 1 by have := HS2.out.2.2.1; omega) j2 ha.2.1 ha.2.2.1 (HS2.out.2.2.2.2.2.2.trans ha.2.2.2) HLN.out Ix a
                  clear j1 j2 j3 m1 m2 m3 ha hd hb
                  gi_wp2
                  first | exact HF _ _ | (rw [q1] at HF; exact HF _ _)
                · have HF := fun (Ix : Code → List (Int × Int × Int) → World → Prop) (a : Act) => bi_end (x := ((nx : Int), x2, x3)) HS2.out.1 HS2.out.2.1 (show M ≤ M0 + (ln : Int) + 1 by have := HS2.out.2.2.1; omega) HS2.out.2.2.2.1 HS2.out.2.2.2.2.1 HS2.out.2.2.2.2.2.1 HS2.out.2.2.2.2.2.2 HLN.out Ix a
                  gi_wp2
                  first | exact HF _ _ | (rw [q1] at HF; exact HF _ _)
              · skip
                gi_wp2
                refine region_round_quiet (by kernel_rfl) (by kernel_rfl) (by kernel_rfl) ?_
                repeat (quiet_step_in (fail))
                refine wpQuietIn_nil ?_
                intro _ hw'
                obtain ⟨nq, hw''⟩ := hw'
                subst hw''
                clear r1 r3 r4 r5 r6 r7 r8 r9
                obtain ⟨W2, hW2⟩ : ∃ W2, (W.drewN nq).setCell ⟨bX, 0, none⟩ (.int .i64 ((nx : Int) + 1)) = W2 := ⟨_, rfl⟩
                have HST : Hid (∃ M R1 a3 c3, SQ w2 w6 w7 E2 bQ bN bK q (.slice (some ⟨g, off, none⟩) nR c2) (fr : Int) W2 M R1 a3 c3 ∧ 1 ≤ M ∧ M ≤ M0 + (ln : Int) ∧ R1.length = n1 ∧ EX w.heap.size bS bp (st : Int) (p : Int) rs W2 ∧ W2.heap[bX]? = some (.cells #[.int .i64 ((nx : Int) + 1)] 3) ∧ KpA Wx.heap.size W W2) := by
                  have hd := HD.out
                  have hb := HBS.out
                  have h := bi_step (k := nq) (B := Wx.heap.size) HBI.out HO.out hd.2.2.2.2.2.2.1 hd.2.2.2.2.2.2.2.1 hd.2.2.2.2.2.2.2.2 hd.2.2.2.2.2.1 (by have := HO.out; have h1 := this.e2; omega) (by omega) ((nx : Int) + 1)
                  rw [hW2, HLN.out.1] at h
                  exact h
                obtain ⟨M, R1, a3, c3, k1, k2, k3, k4, k5, k6, k7⟩ := HST.out
                have s1 : W2.cell? ⟨bX, 0, none⟩ = some (.int .i64 ((nx : Int) + 1)) := by rw [Lib.cell_of_heap k6]; rfl
                have s2 : W2.cell? ⟨bQ, 0, none⟩ = some (.pointer (some ⟨q, 0, none⟩)) := by rw [Lib.cell_of_heap k1.bq]; rfl
                have s3 : W2.cell? ⟨bN, 0, none⟩ = some (.slice a3 n1 c3) := by rw [Lib.cell_of_heap k1.bn, k4]; rfl
                have s4 : W2.cell? ⟨bK, 0, none⟩ = some (.bool true) := by rw [Lib.cell_of_heap k1.bk]; rfl
                have s5 : W2.cell? ⟨bp, 0, none⟩ = some (.int .i64 (p : Int)) := by rw [Lib.cell_of_heap k5.pass]; rfl
                have HS2 : Hid (SQ w2 w6 w7 E2 bQ bN bK q (.slice (some ⟨g, off, none⟩) nR c2) (fr : Int) W2 M R1 a3 c3 ∧ 1 ≤ M ∧ M ≤ M0 + (ln : Int) ∧ R1.length = n1 ∧ EX w.heap.size bS bp (st : Int) (p : Int) rs W2 ∧ W2.heap[bX]? = some (.cells #[.int .i64 ((nx : Int) + 1)] 3) ∧ KpA Wx.heap.size W W2) := ⟨k1, k2, k3, k4, k5, k6, k7⟩
                have HA : Hid (Calls Tryd.prog 9 #[.pointer (some ⟨q, 0, none⟩), .slice a3 n1 c3, .agg #[.int .i64 1, .int .i64 ((nx : Int) + 1), .int .i64 (p : Int), .int .i64 0]] W2 fun e W' => ∃ a' cap' R', e = .returned (.tuple #[.slice a' R'.length cap', .bool true]) ∧ Both w2 q (M + 1) R' a' cap' W' ∧ R'.length = n1 ∧ Upd q W2 W') := by
                  have h := acts_is HS2.out.1.both (by have := HO.out.e2; have := HO.out.qlo; omega) H2.out.2.1 k2 (by have := HLN.out; omega) (by have := HBS.out; omega) 1 ((nx : Int) + 1) (p : Int) 0
                  rw [k4] at h
                  refine h.mono ?_
                  rintro e W' ⟨a', cap', R', j1, j2, _, j3, j4⟩
                  exact ⟨a', cap', R', j1, j2, by rw [j4, actR_one, k4], j3⟩
                clear k1 k2 k3 k4 k5 k6 k7 HST
                obtain ⟨z, hz⟩ : ∃ z, ((nx : Int) + 1).tmod 17 = z := ⟨_, rfl⟩
                rw [hz] at gm
                by_cases hm : z = 1
                · subst hm
                  gi_wp2
                  refine ⟨trivial, (callsIn_wide.2 HA.out).mono ?_⟩
                  rintro e W8 ⟨a4, c4, R4, rfl, j1, j2, j3⟩
                  obtain ⟨m1, m2, m3⟩ := HS2.out.1.acts HO.out j1 j3
                  have hd := HD.out
                  have hb := HBS.out
                  have ha := bi_act HS2.out.1 HS2.out.2.2.2.2.1 HS2.out.2.2.2.2.2.1 HO.out hd.2.2.2.2.2.2.1 hb.1 HND.out.2 hb.2.1 (show bX < Wx.heap.size by omega) j1 j3
                  rw [j2] at m2 m3 ha ⊢
                  rw [HS2.out.2.2.2.1] at m1
                  have fz1 := Lib.frozen_of_heap m1 0
                  have t1 : W8.cell? ⟨bN, 0, none⟩ = some (.slice a3 n1 c3) := by rw [Lib.cell_of_heap m1]; rfl
                  obtain ⟨W9, hW9⟩ : ∃ W9, W8.setCell ⟨bN, 0, none⟩ (.slice a4 n1 c4) = W9 := ⟨_, rfl⟩
                  rw [hW9] at m2 m3 ha
                  have fz2 := Lib.frozen_of_heap m2 0
                  have t2 : W9.cell? ⟨bK, 0, none⟩ = some (.bool true) := by rw [Lib.cell_of_heap m2]; rfl
                  obtain ⟨W10, hW10⟩ : ∃ W10, W9.setCell ⟨bK, 0, none⟩ (.bool true) = W10 := ⟨_, rfl⟩
                  rw [hW10] at m3 ha
                  have t3 : W10.cell? ⟨bK, 0, none⟩ = some (.bool true) := by rw [Lib.cell_of_heap m3.bk]; rfl
                  have HF := fun (Ix : Code → List (Int × Int × Int) → World → Prop) (a : Act) => bi_end (x := ((nx : Int), x2, x3)) ha.1 (by have := HS2.out.2.1; omega) (show M + 1 ≤ M0 + (ln : Int) + 1 by have := HS2.out.2.2.1; omega) j2 ha.2.1 ha.2.2.1 (HS2.out.2.2.2.2.2.2.trans ha.2.2.2) HLN.out Ix a
                  clear j1 j2 j3 m1 m2 m3 ha hd hb
                  gi_wp2
                  exact HF _ _
                · have HF := fun (Ix : Code → List (Int × Int × Int) → World → Prop) (a : Act) => bi_end (x := ((nx : Int), x2, x3)) HS2.out.1 HS2.out.2.1 (show M ≤ M0 + (ln : Int) + 1 by have := HS2.out.2.2.1; omega) HS2.out.2.2.2.1 HS2.out.2.2.2.2.1 HS2.out.2.2.2.2.2.1 HS2.out.2.2.2.2.2.2 HLN.out Ix a
                  gi_wp2
                  exact HF _ _
            case doneP =>
              intro D xs W hDD hS hI hDm
              obtain ⟨M, R2, a5, c5, k1, k2, k3, k4, k5, k6⟩ := hI
              have hxl : (fr : Int) + (xs.length : Int) = (nR : Int) := by
                rw [hS, enF_len, List.length_drop, HNR.out]; omega
              rw [hxl] at k6
              have v2 : W.cell? ⟨bX, 0, none⟩ = some (.int .i64 (nR : Int)) := by rw [Lib.cell_of_heap k6]; rfl
              have v1 : W.cell? ⟨bp, 0, none⟩ = some (.int .i64 (p : Int)) := by rw [Lib.cell_of_heap k5.pass]; rfl
              have v3 : W.cell? ⟨E2, 0, none⟩ = some (.slice a2 nR c2) := by rw [Lib.cell_of_heap k1.bR]; rfl
              obtain ⟨bW, hbW⟩ : ∃ bW, W.heap.size = bW := ⟨_, rfl⟩
              have gp : IntKind.i64.wrap ((p : Int) + 1) = (p : Int) + 1 := by rw [IntWalk.i64_in _ (by omega)]
              have HPE := fun v hv => pass_end (v := v) k1 k2 (show M ≤ 26 + 1152 * ((p : Int) + 1) by omega) k4 k5 hDm (fun r hr => by have h1 := HD.out.2.2.2.2.2.1 r hr; have h2 := HD.out.1; omega) HND.out.1 (by have h1 := HD.out; have h2 := HBS.out; have h3 := HO.out.e2; omega) hp hv hbW
              clear k1 k2 k3 k4 k5 k6 hDm
              rcases (show (p : Int) = 1 ∨ ¬ (p : Int) = 1 by omega) with q1 | q1
              ·
                gi_wp2
                try refine ⟨HPE _ (by omega), ?_⟩
                rw [HCP.out]
                simp only [RowKit.intOf, Option.getD_some]
                omega
              ·
                gi_wp2
                try refine ⟨HPE _ (by omega), ?_⟩
                rw [HCP.out]
                simp only [RowKit.intOf, Option.getD_some]
                omega
            case stopP =>
              intro D c pre W hDD hS hI hDm
              obtain ⟨rfl, q0, M, R2, a5, c5, v, k1, k2, k3, k4, k5, k6⟩ := hI
              have v2 : W.cell? ⟨bX, 0, none⟩ = some (.int .i64 v) := by rw [Lib.cell_of_heap k6]; rfl
              have v1 : W.cell? ⟨bp, 0, none⟩ = some (.int .i64 (p : Int)) := by rw [Lib.cell_of_heap k5.pass]; rfl
              have v3 : W.cell? ⟨E2, 0, none⟩ = some (.slice a2 nR c2) := by rw [Lib.cell_of_heap k1.bR]; rfl
              obtain ⟨bW, hbW⟩ : ∃ bW, W.heap.size = bW := ⟨_, rfl⟩
              have gp : IntKind.i64.wrap ((p : Int) + 1) = (p : Int) + 1 := by rw [IntWalk.i64_in _ (by omega)]
              have HPE := fun v hv => pass_end (v := v) k1 k2 (show M ≤ 26 + 1152 * ((p : Int) + 1) by omega) k4 k5 hDm (fun r hr => by have h1 := HD.out.2.2.2.2.2.1 r hr; have h2 := HD.out.1; omega) HND.out.1 (by have h1 := HD.out; have h2 := HBS.out; have h3 := HO.out.e2; omega) hp hv hbW
              clear k1 k2 k3 k4 k5 k6 hDm
              have q1 : ¬ (p : Int) = 1 := by omega
              have q2 : p = 0 := by omega
              gi_wp2
              try refine ⟨HPE _ (by omega), ?_⟩
              rw [HCP.out]
              simp only [RowKit.intOf, Option.getD_some]
              omega
          · have hpI : ¬ (p : Int) < 2 := by omega
            obtain ⟨M, R2, a5, c5, k1, k2, k3, k4, k5, k6, k7⟩ := HT.out
            have v1 : wq.cell? ⟨bQ, 0, none⟩ = some (.pointer (some ⟨q, 0, none⟩)) := by rw [Lib.cell_of_heap k1.bq]; rfl
            have v2 : wq.cell? ⟨bN, 0, none⟩ = some (.slice a5 n1 c5) := by rw [Lib.cell_of_heap k1.bn, k4]; rfl
            have HIS : Hid (Calls Tryd.prog 10 #[.pointer (some ⟨q, 0, none⟩), .slice a5 n1 c5] wq fun e W' => e = .returned (.bool true) ∧ Below wq.heap.size wq W') := by
              have h := is_any k1.both.rope.self k1.both.row k1.both.ok (by have := HBS.out; omega)
              rw [k4] at h
              exact h
            gi_wp2
            refine ⟨trivial, (callsIn_wide.2 HIS.out).mono ?_⟩
            rintro e We ⟨rfl, hbe⟩
            have x1 := k5.below hbe
            have y1 := x1.res
            have fz := Lib.frozen_of_heap y1 0
            have y2 : We.cell? ⟨w.heap.size, 0, none⟩ = some (.bool false) := by rw [Lib.cell_of_heap y1]; rfl
            have HLV : Hid (Below w.heap.size w We ∧ EX w.heap.size bS bp (st : Int) (p : Int) rs We ∧ rs.Nodup) := ⟨(H2.out.1.trans (k1.both.rope.below.mono H2.out.1.size)).trans (hbe.mono ((H2.out.1.trans (k1.both.rope.below.mono H2.out.1.size)).size)), x1, k6⟩
            clear hbe k1 k2 k3 k4 k5 k6 k7 x1 HT cp v1 v2 y1
            gi_wp2
            have HMK : Hid (∀ r ∈ rs, r ≠ w.heap.size ∧ w.heap.size ≤ r) := fun r hr => by have := HLV.out.2.1.lo r hr; omega
            show LeavesInM _ _ _ _ _ _ (rs.map mark) _ _
            refine leave_marks rs _ HLV.out.2.2 (fun r hr => (heap_set_ne _ (HMK.out r hr).1).trans (HLV.out.2.1.mks r hr)) (fun W' hb hC => ?_)
            have h1 : W'.heap[w.heap.size]? = some (.cells #[.bool true] 4) := (hC _ (fun hm => (HMK.out _ hm).1 rfl)).trans (heap_set1 HLV.out.2.1.res _)
            have h2 : W'.cell? ⟨w.heap.size, 0, none⟩ = some (.bool true) := by rw [Lib.cell_of_heap h1]; rfl
            refine ⟨.bool true, ?_, rfl, ?_⟩
            · rw [results_cells1 (p := 8) (s := 4) rfl]
              go_simp
            · have hsc : Below w.heap.size We (We.setCell ⟨w.heap.size, 0, none⟩ (.bool true)) := (Below.refl w.heap.size We).setCell (Nat.le_refl _) _
              refine (HLV.out.1.trans hsc).trans ⟨hb.os, hb.tape, hb.output, hb.size, fun k hk => hC k (fun hm => ?_)⟩
              have := (HMK.out _ hm).2
              omega
      ·
        gi_wp2
        refine ⟨trivial, (callsIn_wide.2 (HRB.out _)).mono ?_⟩
        rintro e wz ⟨rfl, hz⟩
        obtain rfl := hz.symm
        clear hz
        gi_wp2
        obtain ⟨bS, hbS⟩ : ∃ bS, wr.heap.size = bS := ⟨_, rfl⟩
        obtain ⟨n1, hn1⟩ : ∃ n1, R1.length = n1 := ⟨_, rfl⟩
        rw [hbS]
        obtain ⟨W0, hW0⟩ : ∃ W0, (wr.alloc (.cells #[.int .i64 (st : Int)] 3)).alloc (.cells #[.int .i64 0] 3) = W0 := ⟨_, rfl⟩
        rw [hW0]
        have HBS : Hid (bK < bS ∧ w.heap.size < E2 ∧ n1 ≤ 2304) := by
          have h1 := (Array.getElem?_eq_some_iff.1 hS.out.bk).1
          have h2 := (Array.getElem?_eq_some_iff.1 H2.out.2.2.2.2).1
          have h3 := HO.out.e2
          have h4 := HI.out
          exact ⟨by omega, by omega, by omega⟩
        have HT0 : Hid (∃ M R2 a5 c5, SQ w2 w6 w7 E2 bQ bN bK q (.slice a2 nR c2) (fr : Int) W0 M R2 a5 c5 ∧ 1 ≤ M ∧ M ≤ 26 + 1152 * ((0 : Nat) : Int) ∧ R2.length = n1 ∧ EX w.heap.size bS (bS + 1) (st : Int) ((0 : Nat) : Int) [] W0 ∧ ([] : List Nat).Nodup ∧ bS < bS + 1) := by
          generalize hA1 : wr.alloc (.cells #[.int .i64 (st : Int)] 3) = A1 at hW0
          have s1 : A1.heap.size = bS + 1 := by rw [← hA1]; simp [hbS]
          have b1 : Below wr.heap.size wr A1 := by rw [← hA1]; exact (Below.refl _ _).alloc (Nat.le_refl _) _
          have b2 : Below A1.heap.size A1 W0 := by rw [← hW0]; exact (Below.refl _ _).alloc (Nat.le_refl _) _
          have b3 : Below wr.heap.size wr W0 := b1.trans (b2.mono (by omega))
          have hb := HBS.out
          have hsz2 := hS.out.both.rope.below
          have e2 := HO.out.e2
          refine ⟨_, _, _, _, hS.out.below b3, by omega, by have := HI.out.1; omega, hn1, ⟨?_, ?_, ?_, by simp, by simp⟩, by simp, by omega⟩
          · exact (b3.block _ (by have := hsz2.size; omega)).trans ((hsz2.block _ (by omega)).trans H2.out.2.2.2.2)
          · exact (b2.block _ (by omega)).trans (by rw [← hA1, ← hbS]; exact World.alloc_heap_new _ _)
          · rw [← hW0, ← s1]; exact World.alloc_heap_new _ _
        clear hbS hW0 hn1 hS H9 cR HEQ
        refine wpIn_loop (fun a' W => Hid (∃ (p bp : Nat) (rs : List Nat), a'.tmps.size = 138 ∧ a'.tmps[8]? = some (.pointer (some ⟨w.heap.size, 0, none⟩)) ∧ a'.tmps[10]? = some (.pointer (some ⟨E2, 0, none⟩)) ∧ a'.tmps[11]? = some (.pointer (some ⟨E2 + 1, 0, none⟩)) ∧ a'.tmps[12]? = some (.pointer (some ⟨bQ, 0, none⟩)) ∧ a'.tmps[14]? = some (.func (.func 17) #[] #[.pointer (some ⟨b0, 0, none⟩)]) ∧ a'.tmps[15]? = some (.pointer (some ⟨bN, 0, none⟩)) ∧ a'.tmps[16]? = some (.pointer (some ⟨bK, 0, none⟩)) ∧ a'.tmps[18]? = some (.pointer (some ⟨bS, 0, none⟩)) ∧ a'.tmps[19]? = some (.pointer (some ⟨bp, 0, none⟩)) ∧ a'.defers = rs.map mark ∧ p ≤ 2 ∧ Hid (∃ M R2 a5 c5, SQ w2 w6 w7 E2 bQ bN bK q (.slice a2 nR c2) (fr : Int) W M R2 a5 c5 ∧ 1 ≤ M ∧ M ≤ 26 + 1152 * (p : Int) ∧ R2.length = n1 ∧ EX w.heap.size bS bp (st : Int) (p : Int) rs W ∧ rs.Nodup ∧ bS < bp))) (fun a' W => 2 - (RowKit.intOf ((W.cell? ⟨(match a'.tmps.getD 19 undef with | .pointer (some ad) => ad.block | _ => 0), 0, none⟩).getD undef)).toNat) ?startB ?roundB
        case startB => exact ⟨0, bS + 1, [], rfl, rfl, rfl, rfl, rfl, rfl, rfl, rfl, rfl, rfl, rfl, by omega, HT0.out⟩
        case roundB =>
          rintro ⟨tm, df⟩ wq hinv
          obtain ⟨p, bp, rs, hsz, s8, s10, s11, s12, s14, s15, s16, s18, s19, hdf, hp2, HT⟩ := hinv.out
          clear hinv
          simp only at hsz s8 s10 s11 s12 s14 s15 s16 s18 s19 hdf
          subst hdf
          obtain ⟨u, rfl⟩ := arrU tm hsz
          simp only [List.getElem?_toArray, List.getElem?_cons_succ, List.getElem?_cons_zero, Option.some.injEq] at s8 s10 s11 s12 s14 s15 s16 s18 s19
          rw [s8, s10, s11, s12, s14, s15, s16, s18, s19]
          clear hsz s8 s10 s11 s12 s14 s15 s16 s18 s19
          have cp : wq.cell? ⟨bp, 0, none⟩ = some (.int .i64 (p : Int)) := by
            obtain ⟨M, R2, a5, c5, _, _, _, _, h5, _⟩ := HT.out
            rw [Lib.cell_of_heap h5.pass]; rfl
          by_cases hp : p < 2
          · have hpI : (p : Int) < 2 := by omega
            obtain ⟨bX, hbX⟩ : ∃ bX, wq.heap.size = bX := ⟨_, rfl⟩
            have cF : ∀ o, (wq.alloc o).cell? ⟨E2 + 1, 0, none⟩ = some (.int .i64 (fr : Int)) := fun o => by
              obtain ⟨M, R2, a5, c5, h1, _⟩ := HT.out
              rw [cell_old _ _ _ (Array.getElem?_eq_some_iff.1 h1.bF).1, Lib.cell_of_heap h1.bF]; rfl
            have cF0 : wq.cell? ⟨E2 + 1, 0, none⟩ = some (.int .i64 (fr : Int)) := by
              obtain ⟨M, R2, a5, c5, h1, _⟩ := HT.out
              rw [Lib.cell_of_heap h1.bF]; rfl
            gi_wp2
            have hpS : (p : Int) = ((p : Nat) : Int) := rfl
            obtain ⟨Wx, hWx⟩ : ∃ Wx, wq.alloc (.cells #[.int .i64 (fr : Int)] 3) = Wx := ⟨_, rfl⟩
            rw [hWx]
            have HD : Hid (Wx.heap.size = bX + 1 ∧ Below wq.heap.size wq Wx ∧ Wx.heap[bX]? = some (.cells #[.int .i64 (fr : Int)] 3) ∧ w7.heap.size ≤ bX ∧ w2.heap.size ≤ bX ∧ (∀ r ∈ rs, r < bX) ∧ bK < bX ∧ bS < bX ∧ bp < bX) := by
              obtain ⟨M, R2, a5, c5, k1, k2, k3, k4, k5, k6, k7⟩ := HT.out
              have h1 := k1.laid.1.size
              have h2 := k1.both.rope.below.size
              have h3 := (Array.getElem?_eq_some_iff.1 k1.bk).1
              have h4 := (Array.getElem?_eq_some_iff.1 k5.stop).1
              have h5 := (Array.getElem?_eq_some_iff.1 k5.pass).1
              refine ⟨by rw [← hWx]; simp [hbX], by rw [← hWx]; exact (Below.refl _ _).alloc (Nat.le_refl _) _, by rw [← hWx, ← hbX]; exact World.alloc_heap_new _ _, by omega, by omega, fun r hr => ?_, by omega, by omega, by omega⟩
              have := (Array.getElem?_eq_some_iff.1 (k5.mks r hr)).1
              omega
            have HX : Hid (∃ M0, M0 ≤ 26 + 1152 * (p : Int) ∧ BI w2 w6 w7 E2 bQ bN bK q (.slice a2 nR c2) (fr : Int) w.heap.size bS bp bX (st : Int) (p : Int) rs M0 n1 [] Wx) := by
              obtain ⟨M, R2, a5, c5, k1, k2, k3, k4, k5, k6, k7⟩ := HT.out
              exact ⟨M, k3, M, R2, a5, c5, k1.below HD.out.2.1, k2, by simp, k4, k5.below HD.out.2.1, by have := HD.out.2.2.1; simpa using this⟩
            obtain ⟨M0, hM0, hBI0⟩ := HX.out
            have hseq : SeqW Fence.wide 7 Tryd.prog 17 #[.pointer (some ⟨b0, 0, none⟩)] clE KpA (fun _ _ => True) (fun xs => xs = enF (fr : Int) (R.drop fr)) (fun pre => pre <+: enF (fr : Int) (R.drop fr)) Wx := by
              obtain ⟨M, R2, a5, c5, k1, _⟩ := hBI0
              exact H7.out.2 Wx k1.laid 7 (by omega)
            have HND : Hid (rs.Nodup ∧ bS < bp) := by
              obtain ⟨M, R2, a5, c5, _, _, _, _, _, k6, k7⟩ := HT.out
              exact ⟨k6, k7⟩
            have HCP : Hid (wq.cell? ⟨bp, 0, none⟩ = some (.int .i64 (p : Int))) := cp
            clear hWx cF cF0 cp HT HX
            refine rangeWa (α := Int × Int × Int) (F := Fence.wide) rfl rfl (by omega) (gf := 17) (lb := #[.pointer (some ⟨b0, 0, none⟩)]) rfl trivial (fun args w => rfl) hseq (fun h k => h.trans k) (fun B l W o o' hl h hc => KpA.put B l W o o' hl h hc) (Below.refl _ _) (fun x => rfl) (BI w2 w6 w7 E2 bQ bN bK q (.slice a2 nR c2) (fr : Int) w.heap.size bS bp bX (st : Int) (p : Int) rs M0 n1) (BO w2 w6 w7 E2 bQ bN bK q (.slice a2 nR c2) (fr : Int) w.heap.size bS bp bX (st : Int) (p : Int) rs M0 n1)
              (bi_own (by have := HD.out; omega) (by have := HD.out; omega) (fun r hr => by have h1 := HD.out.2.2.2.2.2.1 r hr; have h2 := HD.out.1; omega)) (fun c => bo_own (by have := HD.out; omega) (by have := HD.out; omega) (fun r hr => by have h1 := HD.out.2.2.2.2.2.1 r hr; have h2 := HD.out.1; omega) c) (fun x s A B row _ _ _ => trivial) hBI0
              (fun x W0 => { tmps := #[u 0, u 1, u 2, u 3, u 4, u 5, u 6, u 7, .pointer (some ⟨w.heap.size, 0, none⟩), u 9, .pointer (some ⟨E2, 0, none⟩), .pointer (some ⟨E2 + 1, 0, none⟩), .pointer (some ⟨bQ, 0, none⟩), u 13, .func (.func 17) #[] #[.pointer (some ⟨b0, 0, none⟩)], .pointer (some ⟨bN, 0, none⟩), .pointer (some ⟨bK, 0, none⟩), u 17, .pointer (some ⟨bS, 0, none⟩), .pointer (some ⟨bp, 0, none⟩), .pointer (some ⟨bX, 0, none⟩), .int .i64 x.1, .pointer (some ⟨W0.heap.size, 0, none⟩), u 23, u 24, u 25, u 26, u 27, u 28, u 29, u 30, u 31, u 32, u 33, u 34, u 35, u 36, u 37, u 38, u 39, u 40, u 41, u 42, u 43, u 44, u 45, u 46, u 47, u 48, u 49, u 50, u 51, u 52, u 53, u 54, u 55, u 56, u 57, u 58, u 59, u 60, u 61, u 62, u 63, u 64, u 65, u 66, u 67, u 68, u 69, u 70, u 71, u 72, u 73, u 74, u 75, .int .i64 (p : Int), .bool true, u 78, u 79, .int .i64 (fr : Int), .func (.func 17) #[] #[.pointer (some ⟨b0, 0, none⟩)], .int .i64 x.1, .agg #[.int .i32 x.2.1, .int .i64 x.2.2], u 84, u 85, u 86, u 87, u 88, u 89, u 90, u 91, u 92, u 93, u 94, u 95, u 96, u 97, u 98, u 99, u 100, u 101, u 102, u 103, u 104, u 105, u 106, u 107, u 108, u 109, u 110, u 111, u 112, u 113, u 114, u 115, u 116, u 117, u 118, u 119, u 120, u 121, u 122, u 123, u 124, u 125, u 126, u 127, u 128, u 129, u 130, u 131, u 132, u 133, u 134, u 135, u 136, u 137], defers := [] }) (fun x W => W.alloc (.cells #[.int .i32 x.2.1, .int .i64 x.2.2] 41)) (fun x W => (Below.refl _ _).alloc (Nat.le_refl _) _)
              (fun x W0 W => W.heap[W0.heap.size]? = some (.cells #[.int .i32 x.2.1, .int .i64 x.2.2] 41)) (fun x W => World.alloc_heap_new _ _)
              (fun x W0 W l o o' hb hl hc => (World.putObj_heap_other (by rintro rfl; rw [hb] at hl; cases hl; simp [Obj.isCells] at hc)).trans hb) (fun B x W => KpA.below ((Below.refl _ _).alloc (Nat.le_refl _) _)) ?assignP ?bodyP ?doneP ?stopP
            case assignP =>
              intro l x W K hK
              simp only [clE, List.size_toArray, List.zip_toArray, List.zip_cons_cons, List.zip_nil_right]
              gi_wp2
              exact hK
            case bodyP =>
              intro l pre x W0 W hBI _ hBx hSp
              obtain ⟨x1, x2, x3⟩ := x
              obtain ⟨e1, e2, e3⟩ := enF_next hSp
              simp only at e2 e3
              obtain ⟨g, off, hRB⟩ := bi_reads hBI H2.out.2.2.2.1 hSp hBx
              obtain ⟨ln, hln⟩ : ∃ ln, pre.length = ln := ⟨_, rfl⟩
              obtain ⟨nx, hnx⟩ : ∃ nx : Nat, fr + ln = nx := ⟨_, rfl⟩
              have enx : (fr : Int) + (pre.length : Int) = (nx : Int) := by omega
              rw [HNR.out] at e1
              rw [hln, hnx] at e1 e2
              obtain rfl : (nx : Int) = x1 := e2.symm
              obtain ⟨qa, r1, r2, r3, r4, r5, r6, r7, r8, r9⟩ := hRB
              subst qa
              rw [enx] at r2 r8 r9
              rw [show ((nx : Int)).toNat = nx from rfl] at r8 r9
              have HBI : Hid (BI w2 w6 w7 E2 bQ bN bK q (.slice (some ⟨g, off, none⟩) nR c2) (fr : Int) w.heap.size bS bp bX (st : Int) (p : Int) rs M0 n1 pre W) := hBI
              have HLN : Hid (pre.length = ln ∧ fr + ln = nx) := ⟨hln, hnx⟩
              clear hBI hBx hSp e3 enx
              have gs : IntKind.i64.wrap ((nx : Int) - (fr : Int)) = (ln : Int) := by rw [IntWalk.i64_in _ (by omega)]; omega
              have ga : IntKind.i64.wrap ((nx : Int) + 1) = (nx : Int) + 1 := by rw [IntWalk.i64_in _ (by omega)]
              have gm : IntKind.i64.wrap (((nx : Int) + 1).tmod 17) = ((nx : Int) + 1).tmod 17 := by
                have h0 : ((nx : Int) + 1).tmod 17 = ((nx : Int) + 1) % 17 := Int.tmod_eq_emod_of_nonneg (by omega)
                rw [h0, IntWalk.i64_in _ (by omega)]
              have hlt1 : ¬ (nR : Int) ≤ (nx : Int) := by omega
              have hlt2 : (nx : Int) < (nR : Int) := by omega
              have hge0 : (0 : Int) ≤ (nx : Int) := by omega
              have etn : ((nx : Int)).toNat = nx := rfl
              have fzx : W.frozen? ⟨bX, 0, none⟩ = false := by
                obtain ⟨M, R2, a5, c5, _, _, _, _, _, k6⟩ := HBI.out
                exact Lib.frozen_of_heap k6 0
              clear hln hnx
              have dcs2 : ((p : Int) = 0 ∧ (st : Int) ≤ (ln : Int)) ∨ ((p : Int) = 0 ∧ ¬ (st : Int) ≤ (ln : Int)) ∨ ¬ (p : Int) = 0 := by omega
              rcases dcs2 with ⟨q1, q2⟩ | ⟨q1, q2⟩ | q1
              ·
                have HE := HBI.out
                rw [q1] at HE
                gi_wp2
                exact bi_out HE HLN.out.1 (by have := HLN.out; omega) _ _ _
              · skip
                gi_wp2
                refine region_round_quiet (by kernel_rfl) (by kernel_rfl) (by kernel_rfl) ?_
                repeat (quiet_step_in (fail))
                refine wpQuietIn_nil ?_
                intro _ hw'
                obtain ⟨nq, hw''⟩ := hw'
                subst hw''
                clear r1 r3 r4 r5 r6 r7 r8 r9
                obtain ⟨W2, hW2⟩ : ∃ W2, (W.drewN nq).setCell ⟨bX, 0, none⟩ (.int .i64 ((nx : Int) + 1)) = W2 := ⟨_, rfl⟩
                have HST : Hid (∃ M R1 a3 c3, SQ w2 w6 w7 E2 bQ bN bK q (.slice (some ⟨g, off, none⟩) nR c2) (fr : Int) W2 M R1 a3 c3 ∧ 1 ≤ M ∧ M ≤ M0 + (ln : Int) ∧ R1.length = n1 ∧ EX w.heap.size bS bp (st : Int) (p : Int) rs W2 ∧ W2.heap[bX]? = some (.cells #[.int .i64 ((nx : Int) + 1)] 3) ∧ KpA Wx.heap.size W W2) := by
                  have hd := HD.out
                  have hb := HBS.out
                  have h := bi_step (k := nq) (B := Wx.heap.size) HBI.out HO.out hd.2.2.2.2.2.2.1 hd.2.2.2.2.2.2.2.1 hd.2.2.2.2.2.2.2.2 hd.2.2.2.2.2.1 (by have := HO.out; have h1 := this.e2; omega) (by omega) ((nx : Int) + 1)
                  rw [hW2, HLN.out.1] at h
                  exact h
                obtain ⟨M, R1, a3, c3, k1, k2, k3, k4, k5, k6, k7⟩ := HST.out
                have s1 : W2.cell? ⟨bX, 0, none⟩ = some (.int .i64 ((nx : Int) + 1)) := by rw [Lib.cell_of_heap k6]; rfl
                have s2 : W2.cell? ⟨bQ, 0, none⟩ = some (.pointer (some ⟨q, 0, none⟩)) := by rw [Lib.cell_of_heap k1.bq]; rfl
                have s3 : W2.cell? ⟨bN, 0, none⟩ = some (.slice a3 n1 c3) := by rw [Lib.cell_of_heap k1.bn, k4]; rfl
                have s4 : W2.cell? ⟨bK, 0, none⟩ = some (.bool true) := by rw [Lib.cell_of_heap k1.bk]; rfl
                have s5 : W2.cell? ⟨bp, 0, none⟩ = some (.int .i64 (p : Int)) := by rw [Lib.cell_of_heap k5.pass]; rfl
                have HS2 : Hid (SQ w2 w6 w7 E2 bQ bN bK q (.slice (some ⟨g, off, none⟩) nR c2) (fr : Int) W2 M R1 a3 c3 ∧ 1 ≤ M ∧ M ≤ M0 + (ln : Int) ∧ R1.length = n1 ∧ EX w.heap.size bS bp (st : Int) (p : Int) rs W2 ∧ W2.heap[bX]? = some (.cells #[.int .i64 ((nx : Int) + 1)] 3) ∧ KpA Wx.heap.size W W2) := ⟨k1, k2, k3, k4, k5, k6, k7⟩
                have HA : Hid (Calls Tryd.prog 9 #[.pointer (some ⟨q, 0, none⟩), .slice a3 n1 c3, .agg #[.int .i64 1, .int .i64 ((nx : Int) + 1), .int .i64 (p : Int), .int .i64 0]] W2 fun e W' => ∃ a' cap' R', e = .returned (.tuple #[.slice a' R'.length cap', .bool true]) ∧ Both w2 q (M + 1) R' a' cap' W' ∧ R'.length = n1 ∧ Upd q W2 W') := by
                  have h := acts_is HS2.out.1.both (by have := HO.out.e2; have := HO.out.qlo; omega) H2.out.2.1 k2 (by have := HLN.out; omega) (by have := HBS.out; omega) 1 ((nx : Int) + 1) (p : Int) 0
                  rw [k4] at h
                  refine h.mono ?_
                  rintro e W' ⟨a', cap', R', j1, j2, _, j3, j4⟩
                  exact ⟨a', cap', R', j1, j2, by rw [j4, actR_one, k4], j3⟩
                clear k1 k2 k3 k4 k5 k6 k7 HST
                rw [q1] at HA
                obtain ⟨z, hz⟩ : ∃ z, ((nx : Int) + 1).tmod 17 = z := ⟨_, rfl⟩
                rw [hz] at gm
                by_cases hm : z = 1
                · subst hm
                  gi_wp2
                  refine ⟨trivial, (callsIn_wide.2 HA.out).mono ?_⟩
                  rintro e W8 ⟨a4, c4, R4, rfl, j1, j2, j3⟩
                  obtain ⟨m1, m2, m3⟩ := HS2.out.1.acts HO.out j1 j3
                  have hd := HD.out
                  have hb := HBS.out
                  have ha := bi_act HS2.out.1 HS2.out.2.2.2.2.1 HS2.out.2.2.2.2.2.1 HO.out hd.2.2.2.2.2.2.1 hb.1 HND.out.2 hb.2.1 (show bX < Wx.heap.size by omega) j1 j3
                  rw [j2] at m2 m3 ha ⊢
                  rw [HS2.out.2.2.2.1] at m1
                  have fz1 := Lib.frozen_of_heap m1 0
                  have t1 : W8.cell? ⟨bN, 0, none⟩ = some (.slice a3 n1 c3) := by rw [Lib.cell_of_heap m1]; rfl
                  obtain ⟨W9, hW9⟩ : ∃ W9, W8.setCell ⟨bN, 0, none⟩ (.slice a4 n1 c4) = W9 := ⟨_, rfl⟩
                  rw [hW9] at m2 m3 ha
                  have fz2 := Lib.frozen_of_heap m2 0
                  have t2 : W9.cell? ⟨bK, 0, none⟩ = some (.bool true) := by rw [Lib.cell_of_heap m2]; rfl
                  obtain ⟨W10, hW10⟩ : ∃ W10, W9.setCell ⟨bK, 0, none⟩ (.bool true) = W10 := ⟨_, rfl⟩
                  rw [hW10] at m3 ha
                  have t3 : W10.cell? ⟨bK, 0, none⟩ = some (.bool true) := by rw [Lib.cell_of_heap m3.bk]; rfl
                  have HF := fun (Ix : Code → List (Int × Int × Int) → World → Prop) (a : Act) => bi_end (x := ((nx : Int), x2, x3)) ha.1 (by have := HS2.out.2.1; omega) (show M + 1 ≤ M0 + (ln : Int) + 1 by have := HS2.out.2.2.1; omega) j2 ha.2.1 ha.2.2.1 (HS2.out.2.2.2.2.2.2.trans ha.2.2.2) HLN.out Ix a
                  clear j1 j2 j3 m1 m2 m3 ha hd hb
                  gi_wp2
                  first | exact HF _ _ | (rw [q1] at HF; exact HF _ _)
                · have HF := fun (Ix : Code → List (Int × Int × Int) → World → Prop) (a : Act) => bi_end (x := ((nx : Int), x2, x3)) HS2.out.1 HS2.out.2.1 (show M ≤ M0 + (ln : Int) + 1 by have := HS2.out.2.2.1; omega) HS2.out.2.2.2.1 HS2.out.2.2.2.2.1 HS2.out.2.2.2.2.2.1 HS2.out.2.2.2.2.2.2 HLN.out Ix a
                  gi_wp2
                  first | exact HF _ _ | (rw [q1] at HF; exact HF _ _)
              · skip
                gi_wp2
                refine region_round_quiet (by kernel_rfl) (by kernel_rfl) (by kernel_rfl) ?_
                repeat (quiet_step_in (fail))
                refine wpQuietIn_nil ?_
                intro _ hw'
                obtain ⟨nq, hw''⟩ := hw'
                subst hw''
                clear r1 r3 r4 r5 r6 r7 r8 r9
                obtain ⟨W2, hW2⟩ : ∃ W2, (W.drewN nq).setCell ⟨bX, 0, none⟩ (.int .i64 ((nx : Int) + 1)) = W2 := ⟨_, rfl⟩
                have HST : Hid (∃ M R1 a3 c3, SQ w2 w6 w7 E2 bQ bN bK q (.slice (some ⟨g, off, none⟩) nR c2) (fr : Int) W2 M R1 a3 c3 ∧ 1 ≤ M ∧ M ≤ M0 + (ln : Int) ∧ R1.length = n1 ∧ EX w.heap.size bS bp (st : Int) (p : Int) rs W2 ∧ W2.heap[bX]? = some (.cells #[.int .i64 ((nx : Int) + 1)] 3) ∧ KpA Wx.heap.size W W2) := by
                  have hd := HD.out
                  have hb := HBS.out
                  have h := bi_step (k := nq) (B := Wx.heap.size) HBI.out HO.out hd.2.2.2.2.2.2.1 hd.2.2.2.2.2.2.2.1 hd.2.2.2.2.2.2.2.2 hd.2.2.2.2.2.1 (by have := HO.out; have h1 := this.e2; omega) (by omega) ((nx : Int) + 1)
                  rw [hW2, HLN.out.1] at h
                  exact h
                obtain ⟨M, R1, a3, c3, k1, k2, k3, k4, k5, k6, k7⟩ := HST.out
                have s1 : W2.cell? ⟨bX, 0, none⟩ = some (.int .i64 ((nx : Int) + 1)) := by rw [Lib.cell_of_heap k6]; rfl
                have s2 : W2.cell? ⟨bQ, 0, none⟩ = some (.pointer (some ⟨q, 0, none⟩)) := by rw [Lib.cell_of_heap k1.bq]; rfl
                have s3 : W2.cell? ⟨bN, 0, none⟩ = some (.slice a3 n1 c3) := by rw [Lib.cell_of_heap k1.bn, k4]; rfl
                have s4 : W2.cell? ⟨bK, 0, none⟩ = some (.bool true) := by rw [Lib.cell_of_heap k1.bk]; rfl
                have s5 : W2.cell? ⟨bp, 0, none⟩ = some (.int .i64 (p : Int)) := by rw [Lib.cell_of_heap k5.pass]; rfl
                have HS2 : Hid (SQ w2 w6 w7 E2 bQ bN bK q (.slice (some ⟨g, off, none⟩) nR c2) (fr : Int) W2 M R1 a3 c3 ∧ 1 ≤ M ∧ M ≤ M0 + (ln : Int) ∧ R1.length = n1 ∧ EX w.heap.size bS bp (st : Int) (p : Int) rs W2 ∧ W2.heap[bX]? = some (.cells #[.int .i64 ((nx : Int) + 1)] 3) ∧ KpA Wx.heap.size W W2) := ⟨k1, k2, k3, k4, k5, k6, k7⟩
                have HA : Hid (Calls Tryd.prog 9 #[.pointer (some ⟨q, 0, none⟩), .slice a3 n1 c3, .agg #[.int .i64 1, .int .i64 ((nx : Int) + 1), .int .i64 (p : Int), .int .i64 0]] W2 fun e W' => ∃ a' cap' R', e = .returned (.tuple #[.slice a' R'.length cap', .bool true]) ∧ Both w2 q (M + 1) R' a' cap' W' ∧ R'.length = n1 ∧ Upd q W2 W') := by
                  have h := acts_is HS2.out.1.both (by have := HO.out.e2; have := HO.out.qlo; omega) H2.out.2.1 k2 (by have := HLN.out; omega) (by have := HBS.out; omega) 1 ((nx : Int) + 1) (p : Int) 0
                  rw [k4] at h
                  refine h.mono ?_
                  rintro e W' ⟨a', cap', R', j1, j2, _, j3, j4⟩
                  exact ⟨a', cap', R', j1, j2, by rw [j4, actR_one, k4], j3⟩
                clear k1 k2 k3 k4 k5 k6 k7 HST
                obtain ⟨z, hz⟩ : ∃ z, ((nx : Int) + 1).tmod 17 = z := ⟨_, rfl⟩
                rw [hz] at gm
                by_cases hm : z = 1
                · subst hm
                  gi_wp2
                  refine ⟨trivial, (callsIn_wide.2 HA.out).mono ?_⟩
                  rintro e W8 ⟨a4, c4, R4, rfl, j1, j2, j3⟩
                  obtain ⟨m1, m2, m3⟩ := HS2.out.1.acts HO.out j1 j3
                  have hd := HD.out
                  have hb := HBS.out
                  have ha := bi_act HS2.out.1 HS2.out.2.2.2.2.1 HS2.out.2.2.2.2.2.1 HO.out hd.2.2.2.2.2.2.1 hb.1 HND.out.2 hb.2.1 (show bX < Wx.heap.size by omega) j1 j3
                  rw [j2] at m2 m3 ha ⊢
                  rw [HS2.out.2.2.2.1] at m1
                  have fz1 := Lib.frozen_of_heap m1 0
                  have t1 : W8.cell? ⟨bN, 0, none⟩ = some (.slice a3 n1 c3) := by rw [Lib.cell_of_heap m1]; rfl
                  obtain ⟨W9, hW9⟩ : ∃ W9, W8.setCell ⟨bN, 0, none⟩ (.slice a4 n1 c4) = W9 := ⟨_, rfl⟩
                  rw [hW9] at m2 m3 ha
                  have fz2 := Lib.frozen_of_heap m2 0
                  have t2 : W9.cell? ⟨bK, 0, none⟩ = some (.bool true) := by rw [Lib.cell_of_heap m2]; rfl
                  obtain ⟨W10, hW10⟩ : ∃ W10, W9.setCell ⟨bK, 0, none⟩ (.bool true) = W10 := ⟨_, rfl⟩
                  rw [hW10] at m3 ha
                  have t3 : W10.cell? ⟨bK, 0, none⟩ = some (.bool true) := by rw [Lib.cell_of_heap m3.bk]; rfl
                  have HF := fun (Ix : Code → List (Int × Int × Int) → World → Prop) (a : Act) => bi_end (x := ((nx : Int), x2, x3)) ha.1 (by have := HS2.out.2.1; omega) (show M + 1 ≤ M0 + (ln : Int) + 1 by have := HS2.out.2.2.1; omega) j2 ha.2.1 ha.2.2.1 (HS2.out.2.2.2.2.2.2.trans ha.2.2.2) HLN.out Ix a
                  clear j1 j2 j3 m1 m2 m3 ha hd hb
                  gi_wp2
                  exact HF _ _
                · have HF := fun (Ix : Code → List (Int × Int × Int) → World → Prop) (a : Act) => bi_end (x := ((nx : Int), x2, x3)) HS2.out.1 HS2.out.2.1 (show M ≤ M0 + (ln : Int) + 1 by have := HS2.out.2.2.1; omega) HS2.out.2.2.2.1 HS2.out.2.2.2.2.1 HS2.out.2.2.2.2.2.1 HS2.out.2.2.2.2.2.2 HLN.out Ix a
                  gi_wp2
                  exact HF _ _
            case doneP =>
              intro D xs W hDD hS hI hDm
              obtain ⟨M, R2, a5, c5, k1, k2, k3, k4, k5, k6⟩ := hI
              have hxl : (fr : Int) + (xs.length : Int) = (nR : Int) := by
                rw [hS, enF_len, List.length_drop, HNR.out]; omega
              rw [hxl] at k6
              have v2 : W.cell? ⟨bX, 0, none⟩ = some (.int .i64 (nR : Int)) := by rw [Lib.cell_of_heap k6]; rfl
              have v1 : W.cell? ⟨bp, 0, none⟩ = some (.int .i64 (p : Int)) := by rw [Lib.cell_of_heap k5.pass]; rfl
              have v3 : W.cell? ⟨E2, 0, none⟩ = some (.slice a2 nR c2) := by rw [Lib.cell_of_heap k1.bR]; rfl
              obtain ⟨bW, hbW⟩ : ∃ bW, W.heap.size = bW := ⟨_, rfl⟩
              have gp : IntKind.i64.wrap ((p : Int) + 1) = (p : Int) + 1 := by rw [IntWalk.i64_in _ (by omega)]
              have HPE := fun v hv => pass_end (v := v) k1 k2 (show M ≤ 26 + 1152 * ((p : Int) + 1) by omega) k4 k5 hDm (fun r hr => by have h1 := HD.out.2.2.2.2.2.1 r hr; have h2 := HD.out.1; omega) HND.out.1 (by have h1 := HD.out; have h2 := HBS.out; have h3 := HO.out.e2; omega) hp hv hbW
              clear k1 k2 k3 k4 k5 k6 hDm
              rcases (show (p : Int) = 1 ∨ ¬ (p : Int) = 1 by omega) with q1 | q1
              ·
                gi_wp2
                try refine ⟨HPE _ (by omega), ?_⟩
                rw [HCP.out]
                simp only [RowKit.intOf, Option.getD_some]
                omega
              ·
                gi_wp2
                try refine ⟨HPE _ (by omega), ?_⟩
                rw [HCP.out]
                simp only [RowKit.intOf, Option.getD_some]
                omega
            case stopP =>
              intro D c pre W hDD hS hI hDm
              obtain ⟨rfl, q0, M, R2, a5, c5, v, k1, k2, k3, k4, k5, k6⟩ := hI
              have v2 : W.cell? ⟨bX, 0, none⟩ = some (.int .i64 v) := by rw [Lib.cell_of_heap k6]; rfl
              have v1 : W.cell? ⟨bp, 0, none⟩ = some (.int .i64 (p : Int)) := by rw [Lib.cell_of_heap k5.pass]; rfl
              have v3 : W.cell? ⟨E2, 0, none⟩ = some (.slice a2 nR c2) := by rw [Lib.cell_of_heap k1.bR]; rfl
              obtain ⟨bW, hbW⟩ : ∃ bW, W.heap.size = bW := ⟨_, rfl⟩
              have gp : IntKind.i64.wrap ((p : Int) + 1) = (p : Int) + 1 := by rw [IntWalk.i64_in _ (by omega)]
              have HPE := fun v hv => pass_end (v := v) k1 k2 (show M ≤ 26 + 1152 * ((p : Int) + 1) by omega) k4 k5 hDm (fun r hr => by have h1 := HD.out.2.2.2.2.2.1 r hr; have h2 := HD.out.1; omega) HND.out.1 (by have h1 := HD.out; have h2 := HBS.out; have h3 := HO.out.e2; omega) hp hv hbW
              clear k1 k2 k3 k4 k5 k6 hDm
              have q1 : ¬ (p : Int) = 1 := by omega
              have q2 : p = 0 := by omega
              gi_wp2
              try refine ⟨HPE _ (by omega), ?_⟩
              rw [HCP.out]
              simp only [RowKit.intOf, Option.getD_some]
              omega
          · have hpI : ¬ (p : Int) < 2 := by omega
            obtain ⟨M, R2, a5, c5, k1, k2, k3, k4, k5, k6, k7⟩ := HT.out
            have v1 : wq.cell? ⟨bQ, 0, none⟩ = some (.pointer (some ⟨q, 0, none⟩)) := by rw [Lib.cell_of_heap k1.bq]; rfl
            have v2 : wq.cell? ⟨bN, 0, none⟩ = some (.slice a5 n1 c5) := by rw [Lib.cell_of_heap k1.bn, k4]; rfl
            have HIS : Hid (Calls Tryd.prog 10 #[.pointer (some ⟨q, 0, none⟩), .slice a5 n1 c5] wq fun e W' => e = .returned (.bool true) ∧ Below wq.heap.size wq W') := by
              have h := is_any k1.both.rope.self k1.both.row k1.both.ok (by have := HBS.out; omega)
              rw [k4] at h
              exact h
            gi_wp2
            refine ⟨trivial, (callsIn_wide.2 HIS.out).mono ?_⟩
            rintro e We ⟨rfl, hbe⟩
            have x1 := k5.below hbe
            have y1 := x1.res
            have fz := Lib.frozen_of_heap y1 0
            have y2 : We.cell? ⟨w.heap.size, 0, none⟩ = some (.bool false) := by rw [Lib.cell_of_heap y1]; rfl
            have HLV : Hid (Below w.heap.size w We ∧ EX w.heap.size bS bp (st : Int) (p : Int) rs We ∧ rs.Nodup) := ⟨(H2.out.1.trans (k1.both.rope.below.mono H2.out.1.size)).trans (hbe.mono ((H2.out.1.trans (k1.both.rope.below.mono H2.out.1.size)).size)), x1, k6⟩
            clear hbe k1 k2 k3 k4 k5 k6 k7 x1 HT cp v1 v2 y1
            gi_wp2
            have HMK : Hid (∀ r ∈ rs, r ≠ w.heap.size ∧ w.heap.size ≤ r) := fun r hr => by have := HLV.out.2.1.lo r hr; omega
            show LeavesInM _ _ _ _ _ _ (rs.map mark) _ _
            refine leave_marks rs _ HLV.out.2.2 (fun r hr => (heap_set_ne _ (HMK.out r hr).1).trans (HLV.out.2.1.mks r hr)) (fun W' hb hC => ?_)
            have h1 : W'.heap[w.heap.size]? = some (.cells #[.bool true] 4) := (hC _ (fun hm => (HMK.out _ hm).1 rfl)).trans (heap_set1 HLV.out.2.1.res _)
            have h2 : W'.cell? ⟨w.heap.size, 0, none⟩ = some (.bool true) := by rw [Lib.cell_of_heap h1]; rfl
            refine ⟨.bool true, ?_, rfl, ?_⟩
            · rw [results_cells1 (p := 8) (s := 4) rfl]
              go_simp
            · have hsc : Below w.heap.size We (We.setCell ⟨w.heap.size, 0, none⟩ (.bool true)) := (Below.refl w.heap.size We).setCell (Nat.le_refl _) _
              refine (HLV.out.1.trans hsc).trans ⟨hb.os, hb.tape, hb.output, hb.size, fun k hk => hC k (fun hm => ?_)⟩
              have := (HMK.out _ hm).2
              omega
end Go.Proofs.YtokclnjaglklhaaDoor
