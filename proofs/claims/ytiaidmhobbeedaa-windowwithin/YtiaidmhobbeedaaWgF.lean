import Derived.Test.YtiaidmhobbeedaaWgB
import Derived.Test.YtiaidmhobbeedaaWfC
import Derived.Sort.QuietTacIn
import Derived.Laws.EntriesVeiled
/-! WindowWithin. -/
namespace Go.Proofs.Ytiaidmhobbeedaa
open Go.RowKit Go.Lib
set_option maxRecDepth 100000
attribute [local go_sem] Oper.semAt_some
/-- A window and two counters, above a world that stands. -/
structure DI (q b o i : Nat) (W0 W : World) (S : Wn Int) (vo vi : Int) : Prop where
  win : WinI W q b S
  out : W.heap[o]? = some (.cells #[.int .i64 vo] 3)
  ins : W.heap[i]? = some (.cells #[.int .i64 vi] 3)
  chg : Chg (fun g => Wb q b g ∨ g = o ∨ g = i) W0 W
  ne : o ≠ i
theorem not_wb {W : World} {q b g : Nat} {S : Wn Int} {v : Value} {TO : TypeId} (h : WinI W q b S) (hg : W.heap[g]? = some (.cells #[v] TO)) : ¬ Wb q b g := by
  rintro (rfl | rfl)
  · have := h.box.symm.trans hg
    simp only [Option.some.injEq, Obj.cells.injEq] at this
    have h2 := congrArg Array.size this.1
    simp at h2
  · obtain ⟨xs, ck, hm, _⟩ := h.map
    have := hm.heap.symm.trans hg
    simp at this
theorem DI.put {q b o i : Nat} {W0 W W' : World} {S S' : Wn Int} {vo vi : Int} (h : DI q b o i W0 W S vo vi) (h1 : WinI W' q b S') (hC : Chg (Wb q b) W W') : DI q b o i W0 W' S' vo vi :=
  ⟨h1, hC.block h.out (not_wb h.win h.out), hC.block h.ins (not_wb h.win h.ins), h.chg.trans (hC.mono fun _ _ hg => .inl hg), h.ne⟩
theorem DI.chgD {q b o i : Nat} {W0 W W' : World} {S : Wn Int} {vo vi : Int} {D : Nat → Prop} (h : DI q b o i W0 W S vo vi) (hC : Chg D W W') (hq : ¬ D q) (hb : ¬ D b) (ho : ¬ D o) (hi : ¬ D i) (h0 : ∀ g, D g → W0.heap.size ≤ g) : DI q b o i W0 W' S vo vi :=
  ⟨h.win.chg hC hq hb, hC.block h.out ho, hC.block h.ins hi, h.chg.then hC (fun g hg => .inr (h0 g hg)), h.ne⟩
theorem DI.below {q b o i : Nat} {W0 W W' : World} {S : Wn Int} {vo vi : Int} (h : DI q b o i W0 W S vo vi) (hb : Below W.heap.size W W') : DI q b o i W0 W' S vo vi :=
  ⟨h.win.below hb, (hb.block _ (Array.getElem?_eq_some_iff.1 h.out).1).trans h.out, (hb.block _ (Array.getElem?_eq_some_iff.1 h.ins).1).trans h.ins, h.chg.trans (Chg.of_below hb), h.ne⟩
theorem DI.setO {q b o i : Nat} {W0 W : World} {S : Wn Int} {vo vi : Int} (h : DI q b o i W0 W S vo vi) (v : Int) : DI q b o i W0 (W.setCell ⟨o, 0, none⟩ (.int .i64 v)) S v vi := by
  have hC : Chg (fun g => g = o) W (W.setCell ⟨o, 0, none⟩ (.int .i64 v)) := Chg.set (D := fun g => g = o) (q := o) 0 _ _ rfl
  have hn := not_wb h.win h.out
  exact ⟨h.win.chg hC (fun e => hn (.inl e.symm)) (fun e => hn (.inr e.symm)), heap_setCell_cells h.out 0 _, hC.block h.ins (fun e => h.ne e.symm), h.chg.trans (hC.mono fun _ _ hg => .inr (.inl hg)), h.ne⟩
theorem DI.setI {q b o i : Nat} {W0 W : World} {S : Wn Int} {vo vi : Int} (h : DI q b o i W0 W S vo vi) (v : Int) : DI q b o i W0 (W.setCell ⟨i, 0, none⟩ (.int .i64 v)) S vo v := by
  have hC : Chg (fun g => g = i) W (W.setCell ⟨i, 0, none⟩ (.int .i64 v)) := Chg.set (D := fun g => g = i) (q := i) 0 _ _ rfl
  have hn := not_wb h.win h.ins
  exact ⟨h.win.chg hC (fun e => hn (.inl e.symm)) (fun e => hn (.inr e.symm)), hC.block h.out h.ne, heap_setCell_cells h.ins 0 _, h.chg.trans (hC.mono fun _ _ hg => .inr (.inr hg)), h.ne⟩
theorem DI.base {q b o i : Nat} {W0 W : World} {S : Wn Int} {vo vi : Int} (h : DI q b o i W0 W S vo vi) : DI q b o i W W S vo vi := ⟨h.win, h.out, h.ins, Chg.refl _ _, h.ne⟩
theorem DI.of {q b o i : Nat} {W0 W W' : World} {S S' : Wn Int} {vo vi vo' vi' : Int} (h : DI q b o i W0 W S vo vi) (k : DI q b o i W W' S' vo' vi') : DI q b o i W0 W' S' vo' vi' := ⟨k.win, k.out, k.ins, h.chg.trans k.chg, k.ne⟩
theorem DI.at_ {q b o i bx : Nat} {W0 W : World} {S : Wn Int} {vo vi : Int} (h : DI q b o i W0 W S vo vi) (hx : W0.heap[bx]? = some (.cells #[.pointer (some ⟨q, 0, none⟩)] 22)) (hn : ¬ (Wb q b bx ∨ bx = o ∨ bx = i)) (hb : S.nx + (S.L.length : Int) ≤ 4611686018427387904) : AtI bx q b S W :=
  ⟨h.win, h.chg.block hx hn, hb⟩
/-- Within's window where the number o is ready, if it is below the end. -/
def wS (m o : Nat) : Wn Int := ⟨(o : Int), 3, if o < 5 + m then [((o : Int), 10 * (o : Int))] else []⟩
theorem keeps_far {B B' : Nat} {W Z Z' : World} (h : KeepsFrom B W Z) (hC : Chg (fun g => B' ≤ g) Z Z') (hB : W.heap.size ≤ B') : KeepsFrom B W Z' :=
  ⟨Nat.le_trans h.size hC.size, fun k o hk ho hc => hC.block (h.same k o hk ho hc) (fun e => by have := (Array.getElem?_eq_some_iff.1 ho).1; omega)⟩
set_option maxHeartbeats 4000000 in
theorem windowWithin_any {w : World} (nx sz st : Int) (a : Option Addr) (tn cap : Nat) :
    Calls Try.prog 4 #[.agg #[.int .i64 nx, .int .i64 sz, .slice a tn cap, .int .i64 st]] w fun e w' => e = .returned (.bool true) ∧ Below w.heap.size w w' := by
  refine (callsIn_wide (n := 6)).1 ?_
  obtain ⟨z, hz, _, HP⟩ := pk_nat sz 30 (by omega) (by omega)
  obtain ⟨m, hm⟩ : ∃ m : Nat, m = 2 + z := ⟨_, rfl⟩
  have e1 : IntKind.i64.wrap (2 + (z : Int)) = (m : Int) := by rw [IntWalk.i64_in _ (by omega)]; omega
  have HM : Hid (2 ≤ m ∧ m ≤ 31) := ⟨by omega, by omega⟩
  have HP2 : Hid (∀ w, Calls Try.prog 10 #[.int .i64 sz, .int .i64 30] w fun e w' => e = .returned (.int .i64 (z : Int)) ∧ w' = w) := HP
  have HNW : Hid (∀ w, Calls Try.prog 11 #[.int .i64 5, .int .i64 3] w fun e w' => e = .returned (.tuple #[.pointer (some ⟨w.heap.size + 1, 0, none⟩), .int .i64 0]) ∧ WinI w' (w.heap.size + 1) w.heap.size ⟨5, 3, []⟩ ∧ Below w.heap.size w w' ∧ w'.heap.size = w.heap.size + 2) := fun w => newI_ok 5 3 (by decide) (by decide) (by decide) (by decide) w
  clear hm hz HP
  refine callsIn_of_wp_marks Try.func4 rfl trivial ?_ rfl
  simp only [Try.ntmps4, List.size_toArray, List.length_cons, List.length_nil, Nat.reduceAdd, Nat.reduceSub, Array.replicate_succ, Array.replicate_zero, List.push_toArray, List.append_toArray, List.nil_append, List.cons_append]
  obtain ⟨W0, hW0⟩ : ∃ W0, (w.alloc (.cells #[.int .i64 nx, .int .i64 sz, .slice a tn cap, .int .i64 st] 31)).alloc (.cells #[.bool false] 4) = W0 := ⟨_, rfl⟩
  have hb0 : Below w.heap.size w W0 := by rw [← hW0]; exact ((Below.refl _ _).alloc (Nat.le_refl _) _).alloc (by simp) _
  have hx0 : W0.heap[w.heap.size]? = some (.cells #[.int .i64 nx, .int .i64 sz, .slice a tn cap, .int .i64 st] 31) := by rw [← hW0]; exact (Below.heap_alloc _ _ _ (by simp)).trans (heap_alloc_new _ _)
  have hr0 : W0.heap[w.heap.size + 1]? = some (.cells #[.bool false] 4) := by
    rw [← hW0]
    have := heap_alloc_new (w.alloc (.cells #[.int .i64 nx, .int .i64 sz, .slice a tn cap, .int .i64 st] 31)) (.cells #[.bool false] 4)
    rwa [World.size_alloc] at this
  have hs0 : W0.heap.size = w.heap.size + 2 := by rw [← hW0]; simp
  have HB0 : Hid (Below w.heap.size w W0 ∧ W0.heap[w.heap.size]? = some (.cells #[.int .i64 nx, .int .i64 sz, .slice a tn cap, .int .i64 st] 31) ∧ W0.heap[w.heap.size + 1]? = some (.cells #[.bool false] 4) ∧ W0.heap.size = w.heap.size + 2) := ⟨hb0, hx0, hr0, hs0⟩
  obtain ⟨c0, c1, c2, c3⟩ := box4 hx0
  clear hb0 hx0 hr0 hs0
  gi_wp2
  refine ⟨trivial, (callsIn_wide.2 (HP2.out _)).mono ?_⟩
  rintro e w1 ⟨rfl, hw1⟩
  obtain rfl := hw1.symm
  clear hw1
  gi_wp2
  obtain ⟨w1, hw1⟩ : ∃ w1, W0.alloc (.cells #[.int .i64 (m : Int)] 3) = w1 := ⟨_, rfl⟩
  have hb1 : Below W0.heap.size W0 w1 := by rw [← hw1]; exact (Below.refl _ _).alloc (Nat.le_refl _) _
  have hn1 : w1.heap[W0.heap.size]? = some (.cells #[.int .i64 (m : Int)] 3) := by rw [← hw1]; exact heap_alloc_new _ _
  have hs1 : w1.heap.size = W0.heap.size + 1 := by rw [← hw1]; simp
  have H1 : Hid (Below W0.heap.size W0 w1 ∧ w1.heap[W0.heap.size]? = some (.cells #[.int .i64 (m : Int)] 3) ∧ w1.heap.size = W0.heap.size + 1) := ⟨hb1, hn1, hs1⟩
  rw [hw1]
  clear hw1 hb1 hn1 hs1 c0 c1 c2 c3
  gi_wp2
  refine ⟨trivial, (callsIn_wide.2 (HNW.out _)).mono ?_⟩
  rintro e w2 ⟨rfl, k1, k2, k3⟩
  have H2 : Hid (WinI w2 (w1.heap.size + 1) w1.heap.size ⟨5, 3, []⟩ ∧ Below w1.heap.size w1 w2 ∧ w2.heap.size = w1.heap.size + 2) := ⟨k1, k2, k3⟩
  clear k1 k2 k3
  gi_wp2
  obtain ⟨B, hB⟩ : ∃ B, w.heap.size = B := ⟨_, rfl⟩
  obtain ⟨q, hq⟩ : ∃ q, w1.heap.size + 1 = q := ⟨_, rfl⟩
  obtain ⟨b, hb⟩ : ∃ b, w1.heap.size = b := ⟨_, rfl⟩
  obtain ⟨bm, hbm⟩ : ∃ bm, W0.heap.size = bm := ⟨_, rfl⟩
  obtain ⟨bw, hbw⟩ : ∃ bw, w2.heap.size = bw := ⟨_, rfl⟩
  obtain ⟨w3, hw3⟩ : ∃ w3, w2.alloc (.cells #[.pointer (some ⟨w1.heap.size + 1, 0, none⟩)] 22) = w3 := ⟨_, rfl⟩
  have H3 : Hid (WinI w3 q b ⟨5, 3, []⟩ ∧ w3.heap[B]? = some (.cells #[.int .i64 nx, .int .i64 sz, .slice a tn cap, .int .i64 st] 31) ∧ w3.heap[B + 1]? = some (.cells #[.bool false] 4) ∧ w3.heap[bm]? = some (.cells #[.int .i64 (m : Int)] 3) ∧ w3.heap[bw]? = some (.cells #[.pointer (some ⟨q, 0, none⟩)] 22) ∧ Below B w w3 ∧ (w.heap.size = B ∧ bm = B + 2 ∧ b = B + 3 ∧ q = B + 4 ∧ bw = B + 5 ∧ w3.heap.size = B + 6)) := by
    obtain ⟨h0, h00, h01, h02⟩ := HB0.out
    obtain ⟨h1, h11, h12⟩ := H1.out
    obtain ⟨k1, k2, k3⟩ := H2.out
    have hb3 : Below w2.heap.size w2 w3 := by rw [← hw3]; exact (Below.refl _ _).alloc (Nat.le_refl _) _
    have hb23 : Below W0.heap.size W0 w3 := (h1.trans (k2.mono (by omega))).trans (hb3.mono (by omega))
    rw [hq, hb] at k1
    refine ⟨k1.below hb3, ?_, ?_, ?_, ?_, ?_, by omega, by omega, by omega, by omega, by omega, by rw [← hw3]; simp; omega⟩
    · rw [← hB]; exact (hb23.block _ (by omega)).trans h00
    · rw [← hB]; exact (hb23.block _ (by omega)).trans h01
    · rw [← hbm]; exact (hb3.block _ (by omega)).trans ((k2.block _ (by omega)).trans h11)
    · rw [← hw3, ← hbw, hq]; exact heap_alloc_new _ _
    · rw [← hB]; exact h0.trans (hb23.mono (by omega))
  rw [hw3, hq, hbm, hB, hbw]
  clear hq hb hbm hB hbw hw3 H1 H2 HB0 hW0 HNW HP2 e1
  refine ⟨trivial, (callsIn_wide.2 (putI H3.out.1 5 50 (by decide))).mono ?_⟩
  rintro e w4 ⟨rfl, k1, k2, k3⟩
  have hp : putE (⟨5, 3, []⟩ : Wn Int) 5 = 0 := by decide
  have hps : putS (⟨5, 3, []⟩ : Wn Int) 5 50 = wS m 5 := by
    have h1 : 5 < 5 + m := by have := HM.out; omega
    simp [putS, hp, wS, h1]
  rw [hps] at k1
  rw [hp]
  have H4 : Hid (WinI w4 q b (wS m 5) ∧ Chg (Wb q b) w3 w4 ∧ w4.heap.size = w3.heap.size) := ⟨k1, k2, k3⟩
  have c4 : w4.cell? ⟨bw, 0, none⟩ = some (.pointer (some ⟨q, 0, none⟩)) := box1 (k2.block H3.out.2.2.2.2.1 (by have h := H3.out.2.2.2.2.2.2; simp only [Wb]; omega))
  clear k1 k2 k3 hp hps
  have c5 : ∀ o1 o2, ((w4.alloc o1).alloc o2).cell? ⟨bw, 0, none⟩ = some (.pointer (some ⟨q, 0, none⟩)) := fun o1 o2 => ((((Below.refl w4.heap.size w4).alloc (Nat.le_refl _) o1).alloc (by simp) o2).cell (p := ⟨bw, 0, none⟩) (World.block_lt_of_cell? _ _ c4)).trans c4
  gi_wp2
  refine ⟨trivial, (callsIn_wide.2 (readyI q _)).mono ?_⟩
  rintro e w5 ⟨rfl, hw5⟩
  have H5 : Hid (w5 = ((w4.alloc (.cells #[.int .i64 5] 3)).alloc (.cells #[.int .i64 0] 3)).alloc (.cells #[.pointer (some ⟨q, 0, none⟩)] 22)) := hw5
  clear hw5 c4 c5
  have HEQ := fun bx W => run_eql_func_nil (P := Try.prog) W 38 _ _ _ (.func 28) #[] #[.pointer (some ⟨bx, 0, none⟩)] Try.underlying38
  gi_wp2
  obtain ⟨bo, hbo⟩ : ∃ bo, w4.heap.size = bo := ⟨_, rfl⟩
  obtain ⟨br, hbr⟩ : ∃ br, w5.heap.size = br := ⟨_, rfl⟩
  rw [hbo, hbr]
  obtain ⟨bi, hbi⟩ : ∃ bi, bo + 1 = bi := ⟨_, rfl⟩
  obtain ⟨bx, hbx⟩ : ∃ bx, bi + 1 = bx := ⟨_, rfl⟩
  rw [hbi, hbx]
  obtain ⟨w7, hw7⟩ : ∃ w7, w5.alloc (.cells #[.func (.func 28) #[] #[.pointer (some ⟨bx, 0, none⟩)]] 38) = w7 := ⟨_, rfl⟩
  have H7 : Hid (DI q b bo bi w7 w7 (wS m 5) 5 0 ∧ w7.heap[B]? = some (.cells #[.int .i64 nx, .int .i64 sz, .slice a tn cap, .int .i64 st] 31) ∧ w7.heap[B + 1]? = some (.cells #[.bool false] 4) ∧ w7.heap[bm]? = some (.cells #[.int .i64 (m : Int)] 3) ∧ w7.heap[bw]? = some (.cells #[.pointer (some ⟨q, 0, none⟩)] 22) ∧ w7.heap[bx]? = some (.cells #[.pointer (some ⟨q, 0, none⟩)] 22) ∧ w7.heap[br]? = some (.cells #[.func (.func 28) #[] #[.pointer (some ⟨bx, 0, none⟩)]] 38) ∧ Below B w w7 ∧ (w.heap.size = B ∧ bm = B + 2 ∧ b = B + 3 ∧ q = B + 4 ∧ bw = B + 5 ∧ bo = B + 6 ∧ bi = B + 7 ∧ bx = B + 8 ∧ br = B + 9 ∧ w7.heap.size = B + 10)) := by
    obtain ⟨h1, h2, h3, h4, h5, h6, h7, h8, h9, h10, h11, h12⟩ := H3.out
    obtain ⟨k1, k2, k3⟩ := H4.out
    have hw5 := H5.out
    have hs5 : w5.heap.size = w4.heap.size + 3 := by rw [hw5]; simp
    have hs7 : w7.heap.size = w5.heap.size + 1 := by rw [← hw7]; simp
    have hb45 : Below w4.heap.size w4 w5 := by rw [hw5]; exact (((Below.refl _ _).alloc (Nat.le_refl _) _).alloc (by simp) _).alloc (by simp; omega) _
    have hb57 : Below w5.heap.size w5 w7 := by rw [← hw7]; exact (Below.refl _ _).alloc (Nat.le_refl _) _
    have hb47 : Below w4.heap.size w4 w7 := hb45.trans (hb57.mono (by omega))
    have hst : ∀ g o, w3.heap[g]? = some o → ¬ Wb q b g → w7.heap[g]? = some o := fun g o hg hn => (hb47.block _ (by have := (Array.getElem?_eq_some_iff.1 hg).1; omega)).trans (k2.block hg hn)
    have hx1 : w5.heap[bo]? = some (.cells #[.int .i64 5] 3) := by
      rw [hw5, ← hbo]
      exact (Below.heap_alloc _ _ _ (by simp; omega)).trans ((Below.heap_alloc _ _ _ (by simp)).trans (heap_alloc_new _ _))
    have hx2 : w5.heap[bi]? = some (.cells #[.int .i64 0] 3) := by
      rw [hw5, ← hbi, ← hbo]
      refine (Below.heap_alloc _ _ _ (by simp)).trans ?_
      have := heap_alloc_new (w4.alloc (.cells #[.int .i64 5] 3)) (.cells #[.int .i64 0] 3)
      rwa [World.size_alloc] at this
    have hx3 : w5.heap[bx]? = some (.cells #[.pointer (some ⟨q, 0, none⟩)] 22) := by
      rw [hw5, ← hbx, ← hbi, ← hbo]
      have := heap_alloc_new ((w4.alloc (.cells #[.int .i64 5] 3)).alloc (.cells #[.int .i64 0] 3)) (.cells #[.pointer (some ⟨q, 0, none⟩)] 22)
      rwa [World.size_alloc, World.size_alloc] at this
    have hBw4 : Below B w w4 := h6.trans (k2.below (fun g hg => by simp only [Wb] at hg; omega) (by omega))
    refine ⟨⟨k1.below hb47, (hb57.block _ (by omega)).trans hx1, (hb57.block _ (by omega)).trans hx2, Chg.refl _ _, by omega⟩, hst _ _ h2 (by simp only [Wb]; omega), hst _ _ h3 (by simp only [Wb]; omega), hst _ _ h4 (by simp only [Wb]; omega), hst _ _ h5 (by simp only [Wb]; omega), (hb57.block _ (by omega)).trans hx3, by rw [← hw7, ← hbr]; exact heap_alloc_new _ _, hBw4.trans (hb47.mono (by omega)), h7, h8, h9, h10, h11, by omega, by omega, by omega, by omega, by omega⟩
  rw [hw7]
  clear hbo hbr hbi hbx hw7 H3 H4 H5
  have HQ : Hid (w.heap.size = B ∧ bm = B + 2 ∧ b = B + 3 ∧ q = B + 4 ∧ bw = B + 5 ∧ bo = B + 6 ∧ bi = B + 7 ∧ bx = B + 8 ∧ br = B + 9 ∧ w7.heap.size = B + 10) := H7.out.2.2.2.2.2.2.2.2
  refine rangeM (α := Int × Int) (σ := Wn Int) rfl rfl (by decide) (gf := 28) (lb := #[.pointer (some ⟨bx, 0, none⟩)]) rfl trivial (enters_of Try.func28 (by kernel_rfl) rfl) (seqI bx q b 5)
    (fun g hg => by have h := HQ.out; simp only [Wb] at hg; omega) (fun _ => rfl)
    (fun k s W => ∃ o i0 : Nat, k = 5 + m - o ∧ 5 ≤ o ∧ o ≤ 5 + m ∧ i0 + 5 ≤ o ∧ s = wS m o ∧ DI q b bo bi w7 W (wS m o) (o : Int) (i0 : Int))
    (fun k _ x s' W => ∃ o i0 p : Nat, k = 5 + m - o ∧ 5 ≤ o ∧ o < 5 + m ∧ i0 + 5 ≤ o ∧ p = o + 1 ∧ x = ((o : Int), 10 * (o : Int)) ∧ s' = ⟨(p : Int), 3, []⟩ ∧ DI q b bo bi w7 W ⟨(p : Int), 3, []⟩ (o : Int) (i0 : Int))
    (fun _ _ => False)
    ?hI ?hIx ?hPre ?hAt ?hStep m (wS m 5) ⟨5, 0, by omega, by omega, by omega, by omega, rfl, H7.out.1⟩
    (fun x => { tmps := #[.agg #[.int .i64 nx, .int .i64 sz, .slice a tn cap, .int .i64 st], .pointer (some ⟨B, 0, none⟩), .pointer (some ⟨B + 1, 0, none⟩), .pointer (some ⟨bm, 0, none⟩), .pointer (some ⟨bw, 0, none⟩), .int .i64 0, .int .i64 0, .pointer (some ⟨bo, 0, none⟩), .pointer (some ⟨bi, 0, none⟩), .pointer (some ⟨br, 0, none⟩), .int .i64 x.1, .int .i64 x.2, undef, undef, undef, undef, undef, .pointer (some ⟨B, 1, none⟩), .int .i64 sz, .int .i64 (z : Int), .int .i64 (m : Int), .tuple #[.pointer (some ⟨q, 0, none⟩), .int .i64 0], .tuple #[.pointer (some ⟨q, 0, none⟩), .int .i64 0], .pointer (some ⟨q, 0, none⟩), .int .i64 0, .int .i64 0, .bool false, .bool false, .pointer (some ⟨q, 0, none⟩), .bool false, .bool false, .pointer (some ⟨q, 0, none⟩), .int .i64 0, .int .i64 0, .bool false, .pointer (some ⟨q, 0, none⟩), .func (.func 28) #[] #[.pointer (some ⟨bx, 0, none⟩)], .func (.func 28) #[] #[.pointer (some ⟨bx, 0, none⟩)], .bool false, .func (.func 28) #[] #[.pointer (some ⟨bx, 0, none⟩)], .int .i64 x.1, .int .i64 x.2, undef, undef, undef, undef, undef, undef, undef, undef, undef, undef, undef, undef, undef, undef, undef, undef, undef, undef, undef, undef, undef, undef, undef, undef, undef, undef, undef, undef, undef, undef, undef, undef, undef, undef, undef, undef, undef, undef, undef, undef, undef, undef, undef, undef, undef, undef, undef, undef, undef, undef, undef, undef, undef, undef, undef, undef, undef, undef, undef, undef, undef, undef, undef, undef, undef, undef, undef, undef, undef, undef, undef, undef, undef, undef, undef, undef, undef, undef, undef, undef, undef, undef, undef, undef, undef, undef, undef, undef, undef, undef, undef, undef, undef, undef], defers := [] }) ?assign ?body ?done ?stop
  case hI =>
    intro k s
    refine ownW_of fun W W' ⟨o, i0, h1, h2, h3, h4, h5, h6⟩ hC => ⟨o, i0, h1, h2, h3, h4, h5, ?_⟩
    have h := HQ.out
    exact h6.chgD hC (by omega) (by omega) (by omega) (by omega) (fun g hg => hg)
  case hIx =>
    intro c
    exact ownW_of fun W W' h hC => h
  case hPre =>
    intro k s x s'
    refine ownW_of fun W W' ⟨o, i0, p, h1, h2, h3, h4, h5, h6, h7, h8⟩ hC => ⟨o, i0, p, h1, h2, h3, h4, h5, h6, h7, ?_⟩
    have h := HQ.out
    exact h8.chgD hC (by omega) (by omega) (by omega) (by omega) (fun g hg => hg)
  case hAt =>
    rintro k s W ⟨o, i0, h1, h2, h3, h4, h5, h6⟩
    have h := HQ.out
    have h7 := win_few h6.win
    have h8 := HM.out
    rw [h5]
    exact h6.at_ H7.out.2.2.2.2.2.1 (by simp only [Wb]; omega) (by show (o : Int) + _ ≤ _; omega)
  case hStep =>
    rintro k s x s' W1 W2 ⟨o, i0, h1, h2, h3, h4, h5, h6⟩ hn hA hC
    obtain ⟨n1, n2, n3, n4⟩ := nxtW_inv hn
    rw [h5] at n1 n2 n3 n4
    have hlt : o < 5 + m := by
      rcases Nat.lt_or_ge o (5 + m) with h | h
      · exact h
      · exfalso
        have h7 : ¬ o < 5 + m := by omega
        simp [wS, h7, hasN] at n4
    have hps : passS (wS m o) = ⟨((o + 1 : Nat) : Int), 3, []⟩ := by simp [passS, wS, hlt, hasN, delN]
    rw [hps] at n3
    refine ⟨o, i0, o + 1, h1, h2, hlt, h4, rfl, ?_, n3, h6.put (by have := hA.1; rw [n3] at this; exact this) hC⟩
    obtain ⟨x1, x2⟩ := x
    simp only [wS, hlt, if_true, getN, List.find?_cons, beq_self_eq_true, Option.map_some, Option.some.injEq] at n1 n2
    rw [n1, ← n2]
  case assign =>
    intro lp x W K hK
    simp only [encI]
    gi_wp2
    exact hK
  case body =>
    rintro lp k s x s' W hlp hrec ⟨o, i0, p, hk, ho5, hom, hi0, hp, rfl, rfl, hDI⟩
    obtain ⟨t, ht⟩ : ∃ t : Nat, t = 10 * o := ⟨_, rfl⟩
    have hm31 := HM.out.2
    have ht' : 10 * (o : Int) = (t : Int) := by omega
    have v1 : IntKind.i64.wrap (10 * (o : Int)) = (t : Int) := by rw [IntWalk.i64_in _ (by omega)]; exact ht'
    have v2 : IntKind.i64.wrap ((o : Int) + 1) = (p : Int) := by rw [IntWalk.i64_in _ (by omega)]; omega
    obtain ⟨M5, hM5⟩ : ∃ M5 : Nat, M5 = 5 + m := ⟨_, rfl⟩
    have v3 : IntKind.i64.wrap (5 + (m : Int)) = (M5 : Int) := by rw [IntWalk.i64_in _ (by omega)]; omega
    rw [ht']
    dsimp only
    have hq := HQ.out
    have co : W.cell? ⟨bo, 0, none⟩ = some (.int .i64 (o : Int)) := box1 hDI.out
    have fo := Lib.frozen_of_heap hDI.out 0
    have cw : W.cell? ⟨bw, 0, none⟩ = some (.pointer (some ⟨q, 0, none⟩)) := box1 (hDI.chg.block H7.out.2.2.2.2.1 (by simp only [Wb]; omega))
    have HD : Hid (DI q b bo bi w7 W ⟨(p : Int), 3, []⟩ (o : Int) (i0 : Int) ∧ k = 5 + m - o ∧ 5 ≤ o ∧ o < 5 + m ∧ i0 + 5 ≤ o ∧ p = o + 1 ∧ t = 10 * o ∧ M5 = 5 + m ∧ (∃ r, W.heap[lp]? = some (.loop r)) ∧ w7.heap.size ≤ lp) := ⟨hDI, hk, ho5, hom, hi0, hp, ht, hM5, hrec, hlp⟩
    have H2 : Hid (DI q b bo bi W (W.setCell ⟨bo, 0, none⟩ (.int .i64 (p : Int))) ⟨(p : Int), 3, []⟩ (p : Int) (i0 : Int)) := hDI.base.setO _
    have HNX : Hid (Calls Try.prog 14 #[.pointer (some ⟨q, 0, none⟩)] W fun e w' => e = .returned (.int .i64 (p : Int)) ∧ w' = W) := nextI hDI.win
    clear hDI hk ho5 hom hi0 hp ht hM5 hrec hlp hq ht' hm31
    gi_wp2
    refine ⟨trivial, CallsIn.inRound _ ((callsIn_wide.2 HNX.out).mono ?_)⟩
    rintro e W1 ⟨rfl, hW1⟩
    obtain rfl := hW1.symm
    clear hW1
    obtain ⟨W2, hW2⟩ : ∃ W2, W.setCell ⟨bo, 0, none⟩ (.int .i64 (p : Int)) = W2 := ⟨_, rfl⟩
    rw [hW2] at H2
    have hq := HQ.out
    have co2 : W2.cell? ⟨bo, 0, none⟩ = some (.int .i64 (p : Int)) := box1 H2.out.out
    have cm2 : W2.cell? ⟨bm, 0, none⟩ = some (.int .i64 (m : Int)) := box1 ((HD.out.1.chg.trans H2.out.chg).block H7.out.2.2.2.1 (by simp only [Wb]; omega))
    have cw2 : W2.cell? ⟨bw, 0, none⟩ = some (.pointer (some ⟨q, 0, none⟩)) := box1 ((HD.out.1.chg.trans H2.out.chg).block H7.out.2.2.2.2.1 (by simp only [Wb]; omega))
    clear hq
    by_cases hpm : p < M5
    · have g1 : (p : Int) < (M5 : Int) := by omega
      obtain ⟨t10, ht10⟩ : ∃ t10 : Nat, t10 = t + 10 := ⟨_, rfl⟩
      obtain ⟨t20, ht20⟩ : ∃ t20 : Nat, t20 = t + 20 := ⟨_, rfl⟩
      obtain ⟨p1, hp1⟩ : ∃ p1 : Nat, p1 = o + 2 := ⟨_, rfl⟩
      obtain ⟨ps, hps⟩ : ∃ ps : Int, IntKind.i64.wrap (st + (o : Int)) = ps := ⟨_, rfl⟩
      have hbd : o ≤ 40 ∧ t ≤ 400 ∧ p ≤ 41 := by have h1 := HD.out.2; have h2 := HM.out; omega
      have v4 : IntKind.i64.wrap ((t : Int) + 10) = (t10 : Int) := by rw [IntWalk.i64_in _ (by omega)]; omega
      have v5 : IntKind.i64.wrap ((t : Int) + 20) = (t20 : Int) := by rw [IntWalk.i64_in _ (by omega)]; omega
      have v6 : IntKind.i64.wrap ((o : Int) + 2) = (p1 : Int) := by rw [IntWalk.i64_in _ (by omega)]; omega
      have v7 : IntKind.i64.wrap ((p : Int) + 1) = (p1 : Int) := by rw [IntWalk.i64_in _ (by omega)]; have := HD.out.2.2.2.2.2.1; omega
      have hE : putE (⟨(p : Int), 3, []⟩ : Wn Int) (o : Int) = 130 := by
        have h1 : (o : Int) < (p : Int) := by have := HD.out.2.2.2.2.2.1; omega
        simp [putE, h1]
      have hE2 : putE (⟨(p : Int), 3, []⟩ : Wn Int) (p : Int) = 0 := by simp [putE, hasN]
      have hE3 : putE (⟨(p : Int), 3, [((p : Int), (t10 : Int))]⟩ : Wn Int) (p1 : Int) = 0 := by
        have h0 := HD.out.2.2.2.2.2.1
        have h1 : ¬ (p1 : Int) < (p : Int) := by omega
        have h2 : ¬ (3 : Int) ≤ (p1 : Int) - (p : Int) := by omega
        have h3 : ((p : Int) == (p1 : Int)) = false := beq_eq_false_iff_ne.2 (by omega)
        simp [putE, hasN, h1, h2, h3]
      have HN : Hid (t10 = t + 10 ∧ t20 = t + 20 ∧ p1 = o + 2 ∧ putE (⟨(p : Int), 3, []⟩ : Wn Int) (o : Int) = 130 ∧ putE (⟨(p : Int), 3, []⟩ : Wn Int) (p : Int) = 0 ∧ putE (⟨(p : Int), 3, [((p : Int), (t10 : Int))]⟩ : Wn Int) (p1 : Int) = 0 ∧ p < M5) := ⟨ht10, ht20, hp1, hE, hE2, hE3, hpm⟩
      have HPS : Hid (∀ w, Calls Try.prog 10 #[.int .i64 ps, .int .i64 3] w fun e w' => e = .returned (.int .i64 (ps % 3)) ∧ w' = w) := fun w => pk_any ps 3 (by decide) (by decide) w
      clear ht10 ht20 hp1 hbd hE hE2 hE3 hpm
      gi_wp2
      refine ⟨trivial, CallsIn.inRound _ ((callsIn_wide.2 (putI H2.out.win (o : Int) 0 (by have h1 := HD.out.2; have h2 := HM.out; omega))).mono ?_)⟩
      rintro e W3 ⟨rfl, k1, k2, k3⟩
      rw [HN.out.2.2.2.1]
      have H3 : Hid (DI q b bo bi W W3 ⟨(p : Int), 3, []⟩ (p : Int) (i0 : Int)) := by
        simp only [putS, HN.out.2.2.2.1] at k1
        exact H2.out.put k1 k2
      have hq := HQ.out
      have cw3 : W3.cell? ⟨bw, 0, none⟩ = some (.pointer (some ⟨q, 0, none⟩)) := box1 ((HD.out.1.chg.trans H3.out.chg).block H7.out.2.2.2.2.1 (by simp only [Wb]; omega))
      clear k1 k2 k3 hq co2 cm2 cw2 co fo cw
      gi_wp2
      refine ⟨trivial, CallsIn.inRound _ ((callsIn_wide.2 (putI H3.out.win (p : Int) (t10 : Int) (by have h1 := HD.out.2; have h2 := HM.out; omega))).mono ?_)⟩
      rintro e W4 ⟨rfl, k1, k2, k3⟩
      rw [HN.out.2.2.2.2.1]
      have H4 : Hid (DI q b bo bi W W4 ⟨(p : Int), 3, [((p : Int), (t10 : Int))]⟩ (p : Int) (i0 : Int)) := by
        simp only [putS, HN.out.2.2.2.2.1, if_true, List.nil_append] at k1
        exact H3.out.put k1 k2
      have hq := HQ.out
      have hx4 := (HD.out.1.chg.trans H4.out.chg).block H7.out.2.1 (by simp only [Wb]; omega)
      obtain ⟨d0, d1, d2, d3⟩ := box4 hx4
      have co4 : W4.cell? ⟨bo, 0, none⟩ = some (.int .i64 (p : Int)) := box1 H4.out.out
      have cm4 : W4.cell? ⟨bm, 0, none⟩ = some (.int .i64 (m : Int)) := box1 ((HD.out.1.chg.trans H4.out.chg).block H7.out.2.2.2.1 (by simp only [Wb]; omega))
      have cw4 : W4.cell? ⟨bw, 0, none⟩ = some (.pointer (some ⟨q, 0, none⟩)) := box1 ((HD.out.1.chg.trans H4.out.chg).block H7.out.2.2.2.2.1 (by simp only [Wb]; omega))
      clear k1 k2 k3 hq cw3 H3 hx4
      have ENDN : Hid (postM w7.heap.size (fun k s W => ∃ o i0 : Nat, k = 5 + m - o ∧ 5 ≤ o ∧ o ≤ 5 + m ∧ i0 + 5 ≤ o ∧ s = wS m o ∧ DI q b bo bi w7 W (wS m o) (o : Int) (i0 : Int)) (fun _ _ => False) k W .normal { tmps := #[], defers := [] } W4) := by
        obtain ⟨h1, h2, h3, h4, h5, h6, h7, h8, h9, h10⟩ := HD.out
        obtain ⟨n1, n2, n3, n4, n5, n6, n7⟩ := HN.out
        have hq := HQ.out
        have e1 : wS m p = ⟨(p : Int), 3, [((p : Int), (t10 : Int))]⟩ := by
          have h11 : p < 5 + m := by omega
          have h12 : 10 * (p : Int) = (t10 : Int) := by omega
          simp [wS, h11, h12]
        exact ⟨keepsFrom_chg H4.out.chg (fun g hg => by simp only [Wb] at hg; omega), 5 + m - p, wS m p, by omega, p, i0, rfl, by omega, by omega, by omega, rfl, by rw [e1]; exact h1.of H4.out⟩
      gi_wp2
      refine ⟨trivial, CallsIn.inRound _ ((callsIn_wide.2 (HPS.out _)).mono ?_)⟩
      rintro e W5 ⟨rfl, hW5⟩
      obtain rfl := hW5.symm
      clear hW5
      by_cases hr : ps % 3 = 0
      · have g2 : (ps % 3 == 0) = true := by rw [hr]; rfl
        generalize ps % 3 = rr at *
        by_cases hp1m : p1 < M5
        · have g3 : (p1 : Int) < (M5 : Int) := by omega
          have HP1 : Hid (p1 < M5) := hp1m
          clear hp1m hr
          gi_wp2
          refine ⟨trivial, CallsIn.inRound _ ((callsIn_wide.2 (putI H4.out.win (p1 : Int) (t20 : Int) (by have h1 := HD.out.2; have h2 := HM.out; have h3 := HN.out.2.2.1; omega))).mono ?_)⟩
          rintro e W5 ⟨rfl, k1, k2, k3⟩
          rw [HN.out.2.2.2.2.2.1]
          have H5 : Hid (DI q b bo bi W W5 ⟨(p : Int), 3, [((p : Int), (t10 : Int)), ((p1 : Int), (t20 : Int))]⟩ (p : Int) (i0 : Int)) := by
            simp only [putS, HN.out.2.2.2.2.2.1, if_true, List.cons_append, List.nil_append] at k1
            exact H4.out.put k1 k2
          have hq := HQ.out
          have cr5 : ∀ o1, (W5.alloc o1).cell? ⟨br, 0, none⟩ = some (.func (.func 28) #[] #[.pointer (some ⟨bx, 0, none⟩)]) := fun o1 => by
            have h := box1 ((HD.out.1.chg.trans H5.out.chg).block H7.out.2.2.2.2.2.2.1 (by simp only [Wb]; omega))
            exact (((Below.refl W5.heap.size W5).alloc (Nat.le_refl _) o1).cell (p := ⟨br, 0, none⟩) (World.block_lt_of_cell? _ _ h)).trans h
          clear k1 k2 k3 hq d0 d1 d2 d3 co4 cm4 cw4
          gi_wp2
          obtain ⟨be, hbe⟩ : ∃ be, W5.heap.size = be := ⟨_, rfl⟩
          obtain ⟨W6, hW6⟩ : ∃ W6, W5.alloc (.cells #[.int .i64 0] 33) = W6 := ⟨_, rfl⟩
          obtain ⟨i1, hi1⟩ : ∃ i1 : Nat, i1 = i0 + 1 := ⟨_, rfl⟩
          have H6 : Hid (DI q b bo bi W W6 ⟨(p : Int), 3, [((p : Int), (t10 : Int)), ((p1 : Int), (t20 : Int))]⟩ (p : Int) (i0 : Int) ∧ W6.heap[be]? = some (.cells #[.int .i64 0] 33) ∧ W.heap.size ≤ be ∧ be < W6.heap.size ∧ (∃ r, W6.heap[lp]? = some (.loop r)) ∧ i1 = i0 + 1 ∧ W.heap[bx]? = some (.cells #[.pointer (some ⟨q, 0, none⟩)] 22) ∧ w7.heap.size ≤ W.heap.size) := by
            have hq := HQ.out
            have hb6 : Below W5.heap.size W5 W6 := by rw [← hW6]; exact (Below.refl _ _).alloc (Nat.le_refl _) _
            have hs6 : W6.heap.size = W5.heap.size + 1 := by rw [← hW6]; simp
            obtain ⟨_, _, _, _, _, _, _, _, ⟨r, hr⟩, h10⟩ := HD.out
            have hr5 := H5.out.chg.block hr (by simp only [Wb]; omega)
            refine ⟨H5.out.below hb6, by rw [← hW6, ← hbe]; exact heap_alloc_new _ _, by rw [← hbe]; exact H5.out.chg.size, by omega, ⟨r, (hb6.block _ (Array.getElem?_eq_some_iff.1 hr5).1).trans hr5⟩, hi1, HD.out.1.chg.block H7.out.2.2.2.2.2.1 (by simp only [Wb]; omega), HD.out.1.chg.size⟩
          rw [hW6, hbe]
          clear hW6 hbe hi1 H5 cr5
          obtain ⟨_, hl0⟩ := H6.out.2.2.2.2.1
          refine rangeMN (α := Int × Int) (σ := Wn Int) rfl hl0 rfl (by decide) (gf := 28) (lb := #[.pointer (some ⟨bx, 0, none⟩)]) rfl trivial (enters_of Try.func28 (by kernel_rfl) rfl) ((seqI bx q b 3).inRound lp)
            (fun g hg => by have h := HQ.out; have h2 := H6.out.2.2; simp only [Wb] at hg; omega) (fun _ => rfl)
            (fun k s Z => k = 1 ∧ s = ⟨(p : Int), 3, [((p : Int), (t10 : Int)), ((p1 : Int), (t20 : Int))]⟩ ∧ DI q b bo bi W Z ⟨(p : Int), 3, [((p : Int), (t10 : Int)), ((p1 : Int), (t20 : Int))]⟩ (p : Int) (i0 : Int) ∧ Z.heap[be]? = some (.cells #[.int .i64 0] 33))
            (fun k _ x s' Z => x = ((p : Int), (t10 : Int)) ∧ DI q b bo bi W Z ⟨(p1 : Int), 3, [((p1 : Int), (t20 : Int))]⟩ (p : Int) (i0 : Int) ∧ Z.heap[be]? = some (.cells #[.int .i64 0] 33))
            (fun c Z => c = .exit 2 ∧ DI q b bo bi W Z ⟨(p1 : Int), 3, [((p1 : Int), (t20 : Int))]⟩ (p1 : Int) (i1 : Int))
            ?hI2 ?hIx2 ?hPre2 ?hAt2 ?hStep2 1 _ ⟨rfl, rfl, H6.out.1, H6.out.2.1⟩
            (fun x => { tmps := #[.agg #[.int .i64 nx, .int .i64 sz, .slice a tn cap, .int .i64 st], .pointer (some ⟨B, 0, none⟩), .pointer (some ⟨B + 1, 0, none⟩), .pointer (some ⟨bm, 0, none⟩), .pointer (some ⟨bw, 0, none⟩), .int .i64 0, .int .i64 0, .pointer (some ⟨bo, 0, none⟩), .pointer (some ⟨bi, 0, none⟩), .pointer (some ⟨br, 0, none⟩), .int .i64 (o : Int), .int .i64 (t : Int), .int .i64 130, .int .i64 0, .pointer (some ⟨be, 0, none⟩), .int .i64 x.1, .int .i64 x.2, .pointer (some ⟨B, 1, none⟩), .int .i64 sz, .int .i64 (z : Int), .int .i64 (m : Int), .tuple #[.pointer (some ⟨q, 0, none⟩), .int .i64 0], .tuple #[.pointer (some ⟨q, 0, none⟩), .int .i64 0], .pointer (some ⟨q, 0, none⟩), .int .i64 0, .int .i64 0, .bool false, .bool false, .pointer (some ⟨q, 0, none⟩), .bool false, .bool false, .pointer (some ⟨q, 0, none⟩), .int .i64 0, .int .i64 0, .bool false, .pointer (some ⟨q, 0, none⟩), .func (Fn.func 28) #[] #[.pointer (some ⟨bx, 0, none⟩)], .func (Fn.func 28) #[] #[.pointer (some ⟨bx, 0, none⟩)], .bool false, .func (Fn.func 28) #[] #[.pointer (some ⟨bx, 0, none⟩)], .int .i64 (o : Int), .int .i64 (t : Int), .int .i64 (o : Int), .int .i64 (o : Int), .bool false, .bool false, .int .i64 (t : Int), .int .i64 (o : Int), .int .i64 (t : Int), .bool false, .bool false, .bool false, .pointer (some ⟨q, 0, none⟩), .int .i64 (p : Int), .int .i64 (o : Int), .int .i64 (p : Int), .bool false, .bool false, .int .i64 (o : Int), .int .i64 (p : Int), .int .i64 (p : Int), .int .i64 (m : Int), .int .i64 (M5 : Int), .bool true, .pointer (some ⟨q, 0, none⟩), .int .i64 (o : Int), .int .i64 130, .pointer (some ⟨q, 0, none⟩), .int .i64 (o : Int), .int .i64 (p : Int), .int .i64 (o : Int), .int .i64 (t : Int), .int .i64 (t10 : Int), .int .i64 0, .int .i64 130, .bool false, .bool false, .int .i64 0, .bool false, .bool false, .pointer (some ⟨B, 3, none⟩), .int .i64 st, .int .i64 (o : Int), .int .i64 ps, .int .i64 rr, .bool true, .bool true, .int .i64 (p : Int), .int .i64 (p1 : Int), .int .i64 (m : Int), .int .i64 (M5 : Int), .bool true, .bool true, .pointer (some ⟨q, 0, none⟩), .int .i64 (o : Int), .int .i64 (p1 : Int), .int .i64 (o : Int), .int .i64 (t : Int), .int .i64 (t20 : Int), .int .i64 0, .func (Fn.func 28) #[] #[.pointer (some ⟨bx, 0, none⟩)], .int .i64 x.1, .int .i64 x.2, undef, undef, undef, undef, undef, undef, undef, undef, undef, undef, undef, undef, undef, undef, undef, undef, undef, undef, undef, undef, undef, undef, undef, undef, undef, undef, undef, undef, undef, undef, undef, undef, undef], defers := [] }) ?assign2 ?body2 ?done2 ?stop2
          case hI2 =>
            intro k s
            refine ownW_of fun Y Y' ⟨h1, h2, h3, h4⟩ hC => ⟨h1, h2, ?_, hC.block h4 (by have := H6.out.2.2; omega)⟩
            have h := HQ.out
            have h6 := H6.out.2.2
            exact h3.chgD hC (by omega) (by omega) (by omega) (by omega) (fun g hg => by omega)
          case hIx2 =>
            intro c
            refine ownW_of fun Y Y' ⟨h1, h3⟩ hC => ⟨h1, ?_⟩
            have h := HQ.out
            have h6 := H6.out.2.2
            exact h3.chgD hC (by omega) (by omega) (by omega) (by omega) (fun g hg => by omega)
          case hPre2 =>
            intro k s x s'
            refine ownW_of fun Y Y' ⟨h1, h3, h4⟩ hC => ⟨h1, ?_, hC.block h4 (by have := H6.out.2.2; omega)⟩
            have h := HQ.out
            have h6 := H6.out.2.2
            exact h3.chgD hC (by omega) (by omega) (by omega) (by omega) (fun g hg => by omega)
          case hAt2 =>
            rintro k s Y ⟨h1, h2, h3, h4⟩
            have h := HQ.out
            have h6 := HD.out.2
            have h7 := HM.out
            rw [h2]
            exact h3.at_ H6.out.2.2.2.2.2.2.1 (by simp only [Wb]; omega) (by show (p : Int) + ((2 : Nat) : Int) ≤ _; omega)
          case hStep2 =>
            rintro k s x s' Y1 Y2 ⟨h1, h2, h3, h4⟩ hn hA hC
            obtain ⟨n1, n2, n3, n4⟩ := nxtW_inv hn
            rw [h2] at n1 n2 n3 n4
            have h0 := HD.out.2.2.2.2.2.1
            have h01 := HN.out.2.2.1
            have hp1 : (p : Int) + 1 = (p1 : Int) := by omega
            have hps : passS (⟨(p : Int), 3, [((p : Int), (t10 : Int)), ((p1 : Int), (t20 : Int))]⟩ : Wn Int) = ⟨(p1 : Int), 3, [((p1 : Int), (t20 : Int))]⟩ := by
              have hne2 : ¬ (p1 : Int) = (p : Int) := by omega
              simp [passS, hasN, delN, hp1, hne2]
            rw [hps] at n3
            refine ⟨?_, h3.put (by have := hA.1; rw [n3] at this; exact this) hC, hC.block h4 (by have h := HQ.out; have h6 := H6.out.2.2; simp only [Wb]; omega)⟩
            obtain ⟨x1, x2⟩ := x
            simp only [getN, List.find?_cons, beq_self_eq_true, Option.map_some, Option.some.injEq] at n1 n2
            rw [n1, ← n2]
          case assign2 =>
            intro lp2 x Y K hK
            simp only [encI]
            gi_wp2
            exact hK
          case body2 =>
            rintro lp2 k2 s2 x s2' Y hlp2 _ ⟨rfl, hDY, hbe⟩
            dsimp only
            have hb7 : i0 ≤ 40 ∧ p ≤ 41 ∧ t10 = 10 * p := by have h1 := HD.out.2; have h2 := HM.out; have h3 := HN.out; omega
            have v8 : IntKind.i64.wrap (10 * (p : Int)) = (t10 : Int) := by rw [IntWalk.i64_in _ (by omega)]; omega
            have v9 : IntKind.i64.wrap ((i0 : Int) + 1) = (i1 : Int) := by rw [IntWalk.i64_in _ (by omega)]; have := H6.out.2.2.2.2.2.1; omega
            have ce : Y.cell? ⟨be, 0, none⟩ = some (.int .i64 0) := box1 hbe
            have co : Y.cell? ⟨bo, 0, none⟩ = some (.int .i64 (p : Int)) := box1 hDY.out
            have fo := Lib.frozen_of_heap hDY.out 0
            have hY1 := hDY.setO (p1 : Int)
            have ci : (Y.setCell ⟨bo, 0, none⟩ (.int .i64 (p1 : Int))).cell? ⟨bi, 0, none⟩ = some (.int .i64 (i0 : Int)) := box1 hY1.ins
            have fi := Lib.frozen_of_heap hY1.ins 0
            have HE : Hid (postM W6.heap.size (fun k (s : Wn Int) Z => k = 1 ∧ s = ⟨(p : Int), 3, [((p : Int), (t10 : Int)), ((p1 : Int), (t20 : Int))]⟩ ∧ DI q b bo bi W Z ⟨(p : Int), 3, [((p : Int), (t10 : Int)), ((p1 : Int), (t20 : Int))]⟩ (p : Int) (i0 : Int) ∧ Z.heap[be]? = some (.cells #[.int .i64 0] 33)) (fun c Z => c = .exit 2 ∧ DI q b bo bi W Z ⟨(p1 : Int), 3, [((p1 : Int), (t20 : Int))]⟩ (p1 : Int) (i1 : Int)) k2 Y (.exit 2) { tmps := #[], defers := [] } ((Y.setCell ⟨bo, 0, none⟩ (.int .i64 (p1 : Int))).setCell ⟨bi, 0, none⟩ (.int .i64 (i1 : Int)))) := by
              refine ⟨?_, rfl, hY1.setI _⟩
              have h := HQ.out
              have h6 := H6.out.2.2
              exact keepsFrom_chg ((hDY.base.setO (p1 : Int)).setI (i1 : Int)).chg (fun g hg => by simp only [Wb] at hg; omega)
            clear hDY hbe hb7 hY1
            gi_wp2
            exact HE.out
          case done2 =>
            rintro k2 s2 Y ⟨h1, h2, h3, h4⟩ hnn
            have h5 := nxtW_none hnn
            rw [h2] at h5
            simp [hasN] at h5
          case stop2 =>
            rintro c Y ⟨rfl, hDY⟩
            gi_wp2
            obtain ⟨h1, h2, h3, h4, h5, h6, h7, h8, h9, h10⟩ := HD.out
            obtain ⟨n1, n2, n3, n4, n5, n6, n7⟩ := HN.out
            have hq := HQ.out
            have h11 := HP1.out
            have h12 := H6.out.2.2.2.2.2.1
            have e1 : wS m p1 = ⟨(p1 : Int), 3, [((p1 : Int), (t20 : Int))]⟩ := by
              have h13 : p1 < 5 + m := by omega
              have h14 : 10 * (p1 : Int) = (t20 : Int) := by omega
              simp [wS, h13, h14]
            exact ⟨keepsFrom_chg hDY.chg (fun g hg => by simp only [Wb] at hg; omega), 5 + m - p1, wS m p1, by omega, p1, i1, rfl, by omega, by omega, by omega, rfl, by rw [e1]; exact h1.of hDY⟩
        · have g3 : ¬ (p1 : Int) < (M5 : Int) := by omega
          clear hr
          gi_wp2
          exact ENDN.out
      · have g2 : (ps % 3 == 0) = false := beq_eq_false_iff_ne.2 hr
        generalize ps % 3 = rr at *
        gi_wp2
        exact ENDN.out
    · have g1 : ¬ (p : Int) < (M5 : Int) := by omega
      gi_wp2
      obtain ⟨h1, h2, h3, h4, h5, h6, h7, h8, h9, h10⟩ := HD.out
      have hq := HQ.out
      have e1 : wS m p = ⟨(p : Int), 3, []⟩ := by have h11 : ¬ p < 5 + m := by omega
                                                  simp [wS, h11]
      exact ⟨keepsFrom_chg H2.out.chg (fun g hg => by simp only [Wb] at hg; omega), 5 + m - p, wS m p, by omega, p, i0, rfl, by omega, by omega, by omega, rfl, by rw [e1]; exact h1.of H2.out⟩
  case stop =>
    rintro _ _ _ _ hf _
    exact hf.elim
  case done =>
    rintro De k s Z hDe ⟨o, i0, h1, h2, h3, h4, h5, h6⟩ hnn hKd
    have hoE : o = 5 + m := by
      have h7 := nxtW_none hnn
      rw [h5] at h7
      rcases Nat.lt_or_ge o (5 + m) with h | h
      · simp [wS, h, hasN] at h7
      · omega
    have hsE : wS m o = ⟨(o : Int), 3, []⟩ := by
      have h8 : ¬ o < 5 + m := by omega
      simp [wS, h8]
    rw [hsE] at h6
    have hm31 := HM.out
    have v3 : IntKind.i64.wrap (5 + (m : Int)) = (o : Int) := by rw [IntWalk.i64_in _ (by omega)]; omega
    have HZ : Hid (DI q b bo bi w7 Z ⟨(o : Int), 3, []⟩ (o : Int) (i0 : Int) ∧ Z.heap[De]? = some (.deferred (some [])) ∧ w7.heap.size ≤ De ∧ i0 ≤ m) := ⟨h6, hKd, hDe, by omega⟩
    have g1 : (i0 : Int) ≤ (m : Int) := by omega
    have hq := HQ.out
    obtain ⟨Zd, hZd⟩ : ∃ Zd, Z.drew = Zd := ⟨_, rfl⟩
    have HZd : Hid (DI q b bo bi w7 Zd ⟨(o : Int), 3, []⟩ (o : Int) (i0 : Int) ∧ Zd.heap[De]? = some (.deferred (some [])) ∧ Zd.heap[B + 1]? = some (.cells #[.bool false] 4) ∧ w7.heap.size ≤ De) := by
      rw [← hZd]
      exact ⟨⟨h6.win.drew, h6.out, h6.ins, h6.chg.drew, h6.ne⟩, hKd, h6.chg.block H7.out.2.2.1 (by simp only [Wb]; omega), hDe⟩
    have co : Zd.cell? ⟨bo, 0, none⟩ = some (.int .i64 (o : Int)) := box1 HZd.out.1.out
    have ci : Zd.cell? ⟨bi, 0, none⟩ = some (.int .i64 (i0 : Int)) := box1 HZd.out.1.ins
    have cm : Zd.cell? ⟨bm, 0, none⟩ = some (.int .i64 (m : Int)) := box1 (HZd.out.1.chg.block H7.out.2.2.2.1 (by simp only [Wb]; omega))
    have cw : Zd.cell? ⟨bw, 0, none⟩ = some (.pointer (some ⟨q, 0, none⟩)) := box1 (HZd.out.1.chg.block H7.out.2.2.2.2.1 (by simp only [Wb]; omega))
    have cr := box1 HZd.out.2.2.1
    have fr := Lib.frozen_of_heap HZd.out.2.2.1 0
    have FINB : Hid (∀ w14 W' : World, Chg (fun g => g = B + 1) Zd w14 → Chg (fun g => g ∈ [De]) w14 W' → Below w.heap.size w W') := by
      intro w14 W' hC hC'
      have hb0 : Below B w Zd := H7.out.2.2.2.2.2.2.2.1.trans (HZd.out.1.chg.below (fun g hg => by simp only [Wb] at hg; omega) (by omega))
      have hs1 := hb0.size
      have hs2 := hC.size
      rw [hq.1]
      exact (hb0.trans (hC.below (fun g hg => by omega) (by omega))).trans (hC'.below (B := B) (fun g hg => by simp only [List.mem_cons, List.not_mem_nil, or_false] at hg; omega) (by omega))
    clear h1 h2 h3 h4 h5 h6 hoE hsE hnn hKd hDe hm31 hq HZ
    gi_wp2
    refine wpIn_calm ?_
    refine wpIn_region_any (by kernel_rfl) ?_
    change wpAnyIn _ _ _ _ _ _ _ _ _ Z.drew
    rw [hZd]
    refine wpAnyIn_ready (rs := [0, 1]) (by kernel_rfl) (by simp) (AllReadyIn.cons rfl (fun K hK => ?b109) (AllReadyIn.cons rfl (fun K hK => ?b110) AllReadyIn.nil))
    case b109 =>
      go_simp
      refine hK _ _ ?_
      clear hK K
      try simp only [Act.put, List.setIfInBounds_toArray, List.set_cons_zero, List.set_cons_succ]
      refine wpAnyIn_ready (rs := [1]) (by kernel_rfl) (by simp) (AllReadyIn.cons rfl (fun K hK => ?b54) AllReadyIn.nil)
      case b54 =>
        go_simp
        refine hK _ _ ?_
        clear hK K
        try simp only [Act.put, List.setIfInBounds_toArray, List.set_cons_zero, List.set_cons_succ]
        refine takeR (i := 2) (d := some 122) (v := ?vT1) rfl rfl rfl (by kernel_rfl) (by kernel_rfl) (by kernel_rfl) (fun _ _ _ h => h) ⟨Or.inl ⟨by rfl, ?hyT1⟩, fun _ => rfl⟩ ?rsT1
        case hyT1 => (intro w; go_simp; (try with_reducible rfl))
        try simp only [Act.put, List.setIfInBounds_toArray, List.set_cons_zero, List.set_cons_succ]
        refine takeR (i := 3) (d := some 123) (v := ?vT2) rfl rfl rfl (by kernel_rfl) (by kernel_rfl) (by kernel_rfl) (fun _ _ _ h => h) ⟨Or.inl ⟨by rfl, ?hyT2⟩, fun _ => rfl⟩ ?rsT2
        case hyT2 => (intro w; go_simp; (try with_reducible rfl))
        try simp only [Act.put, List.setIfInBounds_toArray, List.set_cons_zero, List.set_cons_succ]
        refine takeR (i := 4) (d := some 124) (v := ?vT3) rfl rfl rfl (by kernel_rfl) (by kernel_rfl) (by kernel_rfl) (fun _ _ _ h => h) ⟨Or.inl ⟨by rfl, ?hyT3⟩, fun _ => rfl⟩ ?rsT3
        case hyT3 => (intro w; go_simp; (try with_reducible rfl))
        try simp only [Act.put, List.setIfInBounds_toArray, List.set_cons_zero, List.set_cons_succ]
        refine wpAnyIn_ready (rs := [5, 6]) (by kernel_rfl) (by simp) (AllReadyIn.cons rfl (fun K hK => ?b52) (AllReadyIn.cons rfl (fun K hK => ?b53) AllReadyIn.nil))
        case b52 =>
          go_simp
          refine hK _ _ ?_
          clear hK K
          try simp only [Act.put, List.setIfInBounds_toArray, List.set_cons_zero, List.set_cons_succ]
          refine wpAnyIn_ready (rs := [6]) (by kernel_rfl) (by simp) (AllReadyIn.cons rfl (fun K hK => ?b27) AllReadyIn.nil)
          case b27 =>
            go_simp
            refine hK _ _ ?_
            clear hK K
            try simp only [Act.put, List.setIfInBounds_toArray, List.set_cons_zero, List.set_cons_succ]
            refine takeR (i := 7) (d := some 127) (v := ?vT4) rfl rfl rfl (by kernel_rfl) (by kernel_rfl) (by kernel_rfl) (fun _ _ _ h => h) ⟨Or.inl ⟨by rfl, ?hyT4⟩, fun _ => rfl⟩ ?rsT4
            case hyT4 => (intro w; go_simp; (try with_reducible rfl))
            try simp only [Act.put, List.setIfInBounds_toArray, List.set_cons_zero, List.set_cons_succ]
            refine takeR (i := 8) (d := some 128) (v := ?vT5) rfl rfl rfl (by kernel_rfl) (by kernel_rfl) (by kernel_rfl) (fun _ _ _ h => h) ⟨Or.inl ⟨by rfl, ?hyT5⟩, fun _ => rfl⟩ ?rsT5
            case hyT5 => (intro w; go_simp; (try with_reducible rfl))
            try simp only [Act.put, List.setIfInBounds_toArray, List.set_cons_zero, List.set_cons_succ]
            refine takeR (i := 9) (d := some 129) (v := ?vT6) rfl rfl rfl (by kernel_rfl) (by kernel_rfl) (by kernel_rfl) (fun _ _ _ h => h) ⟨Or.inl ⟨by rfl, ?hyT6⟩, fun _ => rfl⟩ ?rsT6
            case hyT6 => (intro w; go_simp; (try with_reducible rfl))
            try simp only [Act.put, List.setIfInBounds_toArray, List.set_cons_zero, List.set_cons_succ]
            refine wpAnyIn_ready (rs := [10, 12]) (by kernel_rfl) (by simp) (AllReadyIn.cons rfl (fun K hK => ?b25) (AllReadyIn.cons rfl (fun K hK => ?b26) AllReadyIn.nil))
            case b25 =>
              go_simp
              refine hK _ _ ?_
              clear hK K
              try simp only [Act.put, List.setIfInBounds_toArray, List.set_cons_zero, List.set_cons_succ]
              refine wpAnyIn_ready (rs := [11, 12]) (by kernel_rfl) (by simp) (AllReadyIn.cons rfl (fun K hK => ?b17) (AllReadyIn.cons rfl (fun K hK => ?b18) AllReadyIn.nil))
              case b17 =>
                go_simp
                refine ⟨trivial, (callsIn_wide.2 (nextI HZd.out.1.win)).mono ?_⟩
                rintro e w6 ⟨rfl, hw6⟩
                obtain rfl := hw6.symm
                clear hw6
                refine hK _ _ ?_
                clear hK K
                refine wpAnyIn_ready (rs := [12]) (by kernel_rfl) (by simp) (AllReadyIn.cons rfl (fun K hK => ?b11) AllReadyIn.nil)
                case b11 =>
                  go_simp
                  refine hK _ _ ?_
                  clear hK K
                  try simp only [Act.put, List.setIfInBounds_toArray, List.set_cons_zero, List.set_cons_succ]
                  refine takeR (i := 13) (d := some 133) (v := ?vT7) rfl rfl rfl (by kernel_rfl) (by kernel_rfl) (by kernel_rfl) (fun _ _ _ h => h) ⟨Or.inl ⟨by rfl, ?hyT7⟩, fun _ => rfl⟩ ?rsT7
                  case hyT7 => (intro w; go_simp; (try with_reducible rfl))
                  try simp only [Act.put, List.setIfInBounds_toArray, List.set_cons_zero, List.set_cons_succ]
                  refine takeR (i := 14) (d := some 134) (v := ?vT8) rfl rfl rfl (by kernel_rfl) (by kernel_rfl) (by kernel_rfl) (fun _ _ _ h => h) ⟨Or.inl ⟨by rfl, ?hyT8⟩, fun _ => rfl⟩ ?rsT8
                  case hyT8 => (intro w; go_simp; (try with_reducible rfl))
                  try simp only [Act.put, List.setIfInBounds_toArray, List.set_cons_zero, List.set_cons_succ]
                  refine takeR (i := 15) (d := some 135) (v := ?vT9) rfl rfl rfl (by kernel_rfl) (by kernel_rfl) (by kernel_rfl) (fun _ _ _ h => h) ⟨Or.inl ⟨by rfl, ?hyT9⟩, fun _ => rfl⟩ ?rsT9
                  case hyT9 => (intro w; go_simp; (try with_reducible rfl))
                  try simp only [Act.put, List.setIfInBounds_toArray, List.set_cons_zero, List.set_cons_succ]
                  refine wpAnyIn_ready (rs := [16]) (by kernel_rfl) (by simp) (AllReadyIn.cons rfl (fun K hK => ?b10) AllReadyIn.nil)
                  case b10 =>
                    go_simp
                    refine hK _ _ ?_
                    clear hK K
                    try simp only [Act.put, List.setIfInBounds_toArray, List.set_cons_zero, List.set_cons_succ]
                    refine wpAnyIn_done (by kernel_rfl) ?_ _
                    gi_wp2
                    have hq := HQ.out
                    obtain ⟨h1, h2, h4, h5⟩ := HZd.out
                    have hC : Chg (fun g => g = B + 1) Zd (Zd.setCell ⟨B + 1, 0, none⟩ (.bool true)) := Chg.set (D := fun g => g = B + 1) (q := B + 1) 0 _ _ rfl
                    have hbx := heap_setCell_cells h4 0 (.bool true)
                    generalize Zd.setCell ⟨B + 1, 0, none⟩ (.bool true) = w14 at *
                    refine leave_marks [De] w14 (by simp) (fun r hr => ?_) (fun W' hC' => ?_)
                    · simp only [List.mem_cons, List.not_mem_nil, or_false] at hr
                      rw [hr]
                      exact hC.block h2 (by omega)
                    · have hr2 := box1 (hC'.block hbx (by simp; omega))
                      refine ⟨.bool true, ?_, rfl, ?_⟩
                      · rw [results_cells1 rfl]
                        go_simp
                      · exact FINB.out w14 W' hC hC'
              case b18 =>
                go_simp
                refine hK _ _ ?_
                clear hK K
                try simp only [Act.put, List.setIfInBounds_toArray, List.set_cons_zero, List.set_cons_succ]
                refine takeR (i := 13) (d := some 133) (v := ?vT12) rfl rfl rfl (by kernel_rfl) (by kernel_rfl) (by kernel_rfl) (fun _ _ _ h => h) ⟨Or.inl ⟨by rfl, ?hyT12⟩, fun _ => rfl⟩ ?rsT12
                case hyT12 => (intro w; go_simp; (try with_reducible rfl))
                try simp only [Act.put, List.setIfInBounds_toArray, List.set_cons_zero, List.set_cons_succ]
                refine wpAnyIn_ready (rs := [11]) (by kernel_rfl) (by simp) (AllReadyIn.cons rfl (fun K hK => ?b16) AllReadyIn.nil)
                case b16 =>
                  go_simp
                  refine ⟨trivial, (callsIn_wide.2 (nextI HZd.out.1.win)).mono ?_⟩
                  rintro e w6 ⟨rfl, hw6⟩
                  obtain rfl := hw6.symm
                  clear hw6
                  refine hK _ _ ?_
                  clear hK K
                  refine takeR (i := 14) (d := some 134) (v := ?vT13) rfl rfl rfl (by kernel_rfl) (by kernel_rfl) (by kernel_rfl) (fun _ _ _ h => h) ⟨Or.inl ⟨by rfl, ?hyT13⟩, fun _ => rfl⟩ ?rsT13
                  case hyT13 => (intro w; go_simp; (try with_reducible rfl))
                  try simp only [Act.put, List.setIfInBounds_toArray, List.set_cons_zero, List.set_cons_succ]
                  refine takeR (i := 15) (d := some 135) (v := ?vT14) rfl rfl rfl (by kernel_rfl) (by kernel_rfl) (by kernel_rfl) (fun _ _ _ h => h) ⟨Or.inl ⟨by rfl, ?hyT14⟩, fun _ => rfl⟩ ?rsT14
                  case hyT14 => (intro w; go_simp; (try with_reducible rfl))
                  try simp only [Act.put, List.setIfInBounds_toArray, List.set_cons_zero, List.set_cons_succ]
                  refine wpAnyIn_ready (rs := [16]) (by kernel_rfl) (by simp) (AllReadyIn.cons rfl (fun K hK => ?b15) AllReadyIn.nil)
                  case b15 =>
                    go_simp
                    refine hK _ _ ?_
                    clear hK K
                    try simp only [Act.put, List.setIfInBounds_toArray, List.set_cons_zero, List.set_cons_succ]
                    refine wpAnyIn_done (by kernel_rfl) ?_ _
                    gi_wp2
                    have hq := HQ.out
                    obtain ⟨h1, h2, h4, h5⟩ := HZd.out
                    have hC : Chg (fun g => g = B + 1) Zd (Zd.setCell ⟨B + 1, 0, none⟩ (.bool true)) := Chg.set (D := fun g => g = B + 1) (q := B + 1) 0 _ _ rfl
                    have hbx := heap_setCell_cells h4 0 (.bool true)
                    generalize Zd.setCell ⟨B + 1, 0, none⟩ (.bool true) = w14 at *
                    refine leave_marks [De] w14 (by simp) (fun r hr => ?_) (fun W' hC' => ?_)
                    · simp only [List.mem_cons, List.not_mem_nil, or_false] at hr
                      rw [hr]
                      exact hC.block h2 (by omega)
                    · have hr2 := box1 (hC'.block hbx (by simp; omega))
                      refine ⟨.bool true, ?_, rfl, ?_⟩
                      · rw [results_cells1 rfl]
                        go_simp
                      · exact FINB.out w14 W' hC hC'
            case b26 =>
              go_simp
              refine hK _ _ ?_
              clear hK K
              try simp only [Act.put, List.setIfInBounds_toArray, List.set_cons_zero, List.set_cons_succ]
              refine takeR (i := 13) (d := some 133) (v := ?vT19) rfl rfl rfl (by kernel_rfl) (by kernel_rfl) (by kernel_rfl) (fun _ _ _ h => h) ⟨Or.inl ⟨by rfl, ?hyT19⟩, fun _ => rfl⟩ ?rsT19
              case hyT19 => (intro w; go_simp; (try with_reducible rfl))
              try simp only [Act.put, List.setIfInBounds_toArray, List.set_cons_zero, List.set_cons_succ]
              refine wpAnyIn_ready (rs := [10]) (by kernel_rfl) (by simp) (AllReadyIn.cons rfl (fun K hK => ?b24) AllReadyIn.nil)
              case b24 =>
                go_simp
                refine hK _ _ ?_
                clear hK K
                try simp only [Act.put, List.setIfInBounds_toArray, List.set_cons_zero, List.set_cons_succ]
                refine wpAnyIn_ready (rs := [11]) (by kernel_rfl) (by simp) (AllReadyIn.cons rfl (fun K hK => ?b23) AllReadyIn.nil)
                case b23 =>
                  go_simp
                  refine ⟨trivial, (callsIn_wide.2 (nextI HZd.out.1.win)).mono ?_⟩
                  rintro e w6 ⟨rfl, hw6⟩
                  obtain rfl := hw6.symm
                  clear hw6
                  refine hK _ _ ?_
                  clear hK K
                  refine takeR (i := 14) (d := some 134) (v := ?vT20) rfl rfl rfl (by kernel_rfl) (by kernel_rfl) (by kernel_rfl) (fun _ _ _ h => h) ⟨Or.inl ⟨by rfl, ?hyT20⟩, fun _ => rfl⟩ ?rsT20
                  case hyT20 => (intro w; go_simp; (try with_reducible rfl))
                  try simp only [Act.put, List.setIfInBounds_toArray, List.set_cons_zero, List.set_cons_succ]
                  refine takeR (i := 15) (d := some 135) (v := ?vT21) rfl rfl rfl (by kernel_rfl) (by kernel_rfl) (by kernel_rfl) (fun _ _ _ h => h) ⟨Or.inl ⟨by rfl, ?hyT21⟩, fun _ => rfl⟩ ?rsT21
                  case hyT21 => (intro w; go_simp; (try with_reducible rfl))
                  try simp only [Act.put, List.setIfInBounds_toArray, List.set_cons_zero, List.set_cons_succ]
                  refine wpAnyIn_ready (rs := [16]) (by kernel_rfl) (by simp) (AllReadyIn.cons rfl (fun K hK => ?b22) AllReadyIn.nil)
                  case b22 =>
                    go_simp
                    refine hK _ _ ?_
                    clear hK K
                    try simp only [Act.put, List.setIfInBounds_toArray, List.set_cons_zero, List.set_cons_succ]
                    refine wpAnyIn_done (by kernel_rfl) ?_ _
                    gi_wp2
                    have hq := HQ.out
                    obtain ⟨h1, h2, h4, h5⟩ := HZd.out
                    have hC : Chg (fun g => g = B + 1) Zd (Zd.setCell ⟨B + 1, 0, none⟩ (.bool true)) := Chg.set (D := fun g => g = B + 1) (q := B + 1) 0 _ _ rfl
                    have hbx := heap_setCell_cells h4 0 (.bool true)
                    generalize Zd.setCell ⟨B + 1, 0, none⟩ (.bool true) = w14 at *
                    refine leave_marks [De] w14 (by simp) (fun r hr => ?_) (fun W' hC' => ?_)
                    · simp only [List.mem_cons, List.not_mem_nil, or_false] at hr
                      rw [hr]
                      exact hC.block h2 (by omega)
                    · have hr2 := box1 (hC'.block hbx (by simp; omega))
                      refine ⟨.bool true, ?_, rfl, ?_⟩
                      · rw [results_cells1 rfl]
                        go_simp
                      · exact FINB.out w14 W' hC hC'
        case b53 =>
          go_simp
          refine hK _ _ ?_
          clear hK K
          try simp only [Act.put, List.setIfInBounds_toArray, List.set_cons_zero, List.set_cons_succ]
          refine wpAnyIn_ready (rs := [5]) (by kernel_rfl) (by simp) (AllReadyIn.cons rfl (fun K hK => ?b51) AllReadyIn.nil)
          case b51 =>
            go_simp
            refine hK _ _ ?_
            clear hK K
            try simp only [Act.put, List.setIfInBounds_toArray, List.set_cons_zero, List.set_cons_succ]
            refine takeR (i := 7) (d := some 127) (v := ?vT28) rfl rfl rfl (by kernel_rfl) (by kernel_rfl) (by kernel_rfl) (fun _ _ _ h => h) ⟨Or.inl ⟨by rfl, ?hyT28⟩, fun _ => rfl⟩ ?rsT28
            case hyT28 => (intro w; go_simp; (try with_reducible rfl))
            try simp only [Act.put, List.setIfInBounds_toArray, List.set_cons_zero, List.set_cons_succ]
            refine takeR (i := 8) (d := some 128) (v := ?vT29) rfl rfl rfl (by kernel_rfl) (by kernel_rfl) (by kernel_rfl) (fun _ _ _ h => h) ⟨Or.inl ⟨by rfl, ?hyT29⟩, fun _ => rfl⟩ ?rsT29
            case hyT29 => (intro w; go_simp; (try with_reducible rfl))
            try simp only [Act.put, List.setIfInBounds_toArray, List.set_cons_zero, List.set_cons_succ]
            refine takeR (i := 9) (d := some 129) (v := ?vT30) rfl rfl rfl (by kernel_rfl) (by kernel_rfl) (by kernel_rfl) (fun _ _ _ h => h) ⟨Or.inl ⟨by rfl, ?hyT30⟩, fun _ => rfl⟩ ?rsT30
            case hyT30 => (intro w; go_simp; (try with_reducible rfl))
            try simp only [Act.put, List.setIfInBounds_toArray, List.set_cons_zero, List.set_cons_succ]
            refine wpAnyIn_ready (rs := [10, 12]) (by kernel_rfl) (by simp) (AllReadyIn.cons rfl (fun K hK => ?b49) (AllReadyIn.cons rfl (fun K hK => ?b50) AllReadyIn.nil))
            case b49 =>
              go_simp
              refine hK _ _ ?_
              clear hK K
              try simp only [Act.put, List.setIfInBounds_toArray, List.set_cons_zero, List.set_cons_succ]
              refine wpAnyIn_ready (rs := [11, 12]) (by kernel_rfl) (by simp) (AllReadyIn.cons rfl (fun K hK => ?b41) (AllReadyIn.cons rfl (fun K hK => ?b42) AllReadyIn.nil))
              case b41 =>
                go_simp
                refine ⟨trivial, (callsIn_wide.2 (nextI HZd.out.1.win)).mono ?_⟩
                rintro e w6 ⟨rfl, hw6⟩
                obtain rfl := hw6.symm
                clear hw6
                refine hK _ _ ?_
                clear hK K
                refine wpAnyIn_ready (rs := [12]) (by kernel_rfl) (by simp) (AllReadyIn.cons rfl (fun K hK => ?b35) AllReadyIn.nil)
                case b35 =>
                  go_simp
                  refine hK _ _ ?_
                  clear hK K
                  try simp only [Act.put, List.setIfInBounds_toArray, List.set_cons_zero, List.set_cons_succ]
                  refine takeR (i := 13) (d := some 133) (v := ?vT31) rfl rfl rfl (by kernel_rfl) (by kernel_rfl) (by kernel_rfl) (fun _ _ _ h => h) ⟨Or.inl ⟨by rfl, ?hyT31⟩, fun _ => rfl⟩ ?rsT31
                  case hyT31 => (intro w; go_simp; (try with_reducible rfl))
                  try simp only [Act.put, List.setIfInBounds_toArray, List.set_cons_zero, List.set_cons_succ]
                  refine takeR (i := 14) (d := some 134) (v := ?vT32) rfl rfl rfl (by kernel_rfl) (by kernel_rfl) (by kernel_rfl) (fun _ _ _ h => h) ⟨Or.inl ⟨by rfl, ?hyT32⟩, fun _ => rfl⟩ ?rsT32
                  case hyT32 => (intro w; go_simp; (try with_reducible rfl))
                  try simp only [Act.put, List.setIfInBounds_toArray, List.set_cons_zero, List.set_cons_succ]
                  refine takeR (i := 15) (d := some 135) (v := ?vT33) rfl rfl rfl (by kernel_rfl) (by kernel_rfl) (by kernel_rfl) (fun _ _ _ h => h) ⟨Or.inl ⟨by rfl, ?hyT33⟩, fun _ => rfl⟩ ?rsT33
                  case hyT33 => (intro w; go_simp; (try with_reducible rfl))
                  try simp only [Act.put, List.setIfInBounds_toArray, List.set_cons_zero, List.set_cons_succ]
                  refine wpAnyIn_ready (rs := [16]) (by kernel_rfl) (by simp) (AllReadyIn.cons rfl (fun K hK => ?b34) AllReadyIn.nil)
                  case b34 =>
                    go_simp
                    refine hK _ _ ?_
                    clear hK K
                    try simp only [Act.put, List.setIfInBounds_toArray, List.set_cons_zero, List.set_cons_succ]
                    refine wpAnyIn_done (by kernel_rfl) ?_ _
                    gi_wp2
                    have hq := HQ.out
                    obtain ⟨h1, h2, h4, h5⟩ := HZd.out
                    have hC : Chg (fun g => g = B + 1) Zd (Zd.setCell ⟨B + 1, 0, none⟩ (.bool true)) := Chg.set (D := fun g => g = B + 1) (q := B + 1) 0 _ _ rfl
                    have hbx := heap_setCell_cells h4 0 (.bool true)
                    generalize Zd.setCell ⟨B + 1, 0, none⟩ (.bool true) = w14 at *
                    refine leave_marks [De] w14 (by simp) (fun r hr => ?_) (fun W' hC' => ?_)
                    · simp only [List.mem_cons, List.not_mem_nil, or_false] at hr
                      rw [hr]
                      exact hC.block h2 (by omega)
                    · have hr2 := box1 (hC'.block hbx (by simp; omega))
                      refine ⟨.bool true, ?_, rfl, ?_⟩
                      · rw [results_cells1 rfl]
                        go_simp
                      · exact FINB.out w14 W' hC hC'
              case b42 =>
                go_simp
                refine hK _ _ ?_
                clear hK K
                try simp only [Act.put, List.setIfInBounds_toArray, List.set_cons_zero, List.set_cons_succ]
                refine takeR (i := 13) (d := some 133) (v := ?vT36) rfl rfl rfl (by kernel_rfl) (by kernel_rfl) (by kernel_rfl) (fun _ _ _ h => h) ⟨Or.inl ⟨by rfl, ?hyT36⟩, fun _ => rfl⟩ ?rsT36
                case hyT36 => (intro w; go_simp; (try with_reducible rfl))
                try simp only [Act.put, List.setIfInBounds_toArray, List.set_cons_zero, List.set_cons_succ]
                refine wpAnyIn_ready (rs := [11]) (by kernel_rfl) (by simp) (AllReadyIn.cons rfl (fun K hK => ?b40) AllReadyIn.nil)
                case b40 =>
                  go_simp
                  refine ⟨trivial, (callsIn_wide.2 (nextI HZd.out.1.win)).mono ?_⟩
                  rintro e w6 ⟨rfl, hw6⟩
                  obtain rfl := hw6.symm
                  clear hw6
                  refine hK _ _ ?_
                  clear hK K
                  refine takeR (i := 14) (d := some 134) (v := ?vT37) rfl rfl rfl (by kernel_rfl) (by kernel_rfl) (by kernel_rfl) (fun _ _ _ h => h) ⟨Or.inl ⟨by rfl, ?hyT37⟩, fun _ => rfl⟩ ?rsT37
                  case hyT37 => (intro w; go_simp; (try with_reducible rfl))
                  try simp only [Act.put, List.setIfInBounds_toArray, List.set_cons_zero, List.set_cons_succ]
                  refine takeR (i := 15) (d := some 135) (v := ?vT38) rfl rfl rfl (by kernel_rfl) (by kernel_rfl) (by kernel_rfl) (fun _ _ _ h => h) ⟨Or.inl ⟨by rfl, ?hyT38⟩, fun _ => rfl⟩ ?rsT38
                  case hyT38 => (intro w; go_simp; (try with_reducible rfl))
                  try simp only [Act.put, List.setIfInBounds_toArray, List.set_cons_zero, List.set_cons_succ]
                  refine wpAnyIn_ready (rs := [16]) (by kernel_rfl) (by simp) (AllReadyIn.cons rfl (fun K hK => ?b39) AllReadyIn.nil)
                  case b39 =>
                    go_simp
                    refine hK _ _ ?_
                    clear hK K
                    try simp only [Act.put, List.setIfInBounds_toArray, List.set_cons_zero, List.set_cons_succ]
                    refine wpAnyIn_done (by kernel_rfl) ?_ _
                    gi_wp2
                    have hq := HQ.out
                    obtain ⟨h1, h2, h4, h5⟩ := HZd.out
                    have hC : Chg (fun g => g = B + 1) Zd (Zd.setCell ⟨B + 1, 0, none⟩ (.bool true)) := Chg.set (D := fun g => g = B + 1) (q := B + 1) 0 _ _ rfl
                    have hbx := heap_setCell_cells h4 0 (.bool true)
                    generalize Zd.setCell ⟨B + 1, 0, none⟩ (.bool true) = w14 at *
                    refine leave_marks [De] w14 (by simp) (fun r hr => ?_) (fun W' hC' => ?_)
                    · simp only [List.mem_cons, List.not_mem_nil, or_false] at hr
                      rw [hr]
                      exact hC.block h2 (by omega)
                    · have hr2 := box1 (hC'.block hbx (by simp; omega))
                      refine ⟨.bool true, ?_, rfl, ?_⟩
                      · rw [results_cells1 rfl]
                        go_simp
                      · exact FINB.out w14 W' hC hC'
            case b50 =>
              go_simp
              refine hK _ _ ?_
              clear hK K
              try simp only [Act.put, List.setIfInBounds_toArray, List.set_cons_zero, List.set_cons_succ]
              refine takeR (i := 13) (d := some 133) (v := ?vT43) rfl rfl rfl (by kernel_rfl) (by kernel_rfl) (by kernel_rfl) (fun _ _ _ h => h) ⟨Or.inl ⟨by rfl, ?hyT43⟩, fun _ => rfl⟩ ?rsT43
              case hyT43 => (intro w; go_simp; (try with_reducible rfl))
              try simp only [Act.put, List.setIfInBounds_toArray, List.set_cons_zero, List.set_cons_succ]
              refine wpAnyIn_ready (rs := [10]) (by kernel_rfl) (by simp) (AllReadyIn.cons rfl (fun K hK => ?b48) AllReadyIn.nil)
              case b48 =>
                go_simp
                refine hK _ _ ?_
                clear hK K
                try simp only [Act.put, List.setIfInBounds_toArray, List.set_cons_zero, List.set_cons_succ]
                refine wpAnyIn_ready (rs := [11]) (by kernel_rfl) (by simp) (AllReadyIn.cons rfl (fun K hK => ?b47) AllReadyIn.nil)
                case b47 =>
                  go_simp
                  refine ⟨trivial, (callsIn_wide.2 (nextI HZd.out.1.win)).mono ?_⟩
                  rintro e w6 ⟨rfl, hw6⟩
                  obtain rfl := hw6.symm
                  clear hw6
                  refine hK _ _ ?_
                  clear hK K
                  refine takeR (i := 14) (d := some 134) (v := ?vT44) rfl rfl rfl (by kernel_rfl) (by kernel_rfl) (by kernel_rfl) (fun _ _ _ h => h) ⟨Or.inl ⟨by rfl, ?hyT44⟩, fun _ => rfl⟩ ?rsT44
                  case hyT44 => (intro w; go_simp; (try with_reducible rfl))
                  try simp only [Act.put, List.setIfInBounds_toArray, List.set_cons_zero, List.set_cons_succ]
                  refine takeR (i := 15) (d := some 135) (v := ?vT45) rfl rfl rfl (by kernel_rfl) (by kernel_rfl) (by kernel_rfl) (fun _ _ _ h => h) ⟨Or.inl ⟨by rfl, ?hyT45⟩, fun _ => rfl⟩ ?rsT45
                  case hyT45 => (intro w; go_simp; (try with_reducible rfl))
                  try simp only [Act.put, List.setIfInBounds_toArray, List.set_cons_zero, List.set_cons_succ]
                  refine wpAnyIn_ready (rs := [16]) (by kernel_rfl) (by simp) (AllReadyIn.cons rfl (fun K hK => ?b46) AllReadyIn.nil)
                  case b46 =>
                    go_simp
                    refine hK _ _ ?_
                    clear hK K
                    try simp only [Act.put, List.setIfInBounds_toArray, List.set_cons_zero, List.set_cons_succ]
                    refine wpAnyIn_done (by kernel_rfl) ?_ _
                    gi_wp2
                    have hq := HQ.out
                    obtain ⟨h1, h2, h4, h5⟩ := HZd.out
                    have hC : Chg (fun g => g = B + 1) Zd (Zd.setCell ⟨B + 1, 0, none⟩ (.bool true)) := Chg.set (D := fun g => g = B + 1) (q := B + 1) 0 _ _ rfl
                    have hbx := heap_setCell_cells h4 0 (.bool true)
                    generalize Zd.setCell ⟨B + 1, 0, none⟩ (.bool true) = w14 at *
                    refine leave_marks [De] w14 (by simp) (fun r hr => ?_) (fun W' hC' => ?_)
                    · simp only [List.mem_cons, List.not_mem_nil, or_false] at hr
                      rw [hr]
                      exact hC.block h2 (by omega)
                    · have hr2 := box1 (hC'.block hbx (by simp; omega))
                      refine ⟨.bool true, ?_, rfl, ?_⟩
                      · rw [results_cells1 rfl]
                        go_simp
                      · exact FINB.out w14 W' hC hC'
    case b110 =>
      go_simp
      refine hK _ _ ?_
      clear hK K
      try simp only [Act.put, List.setIfInBounds_toArray, List.set_cons_zero, List.set_cons_succ]
      refine takeR (i := 2) (d := some 122) (v := ?vT55) rfl rfl rfl (by kernel_rfl) (by kernel_rfl) (by kernel_rfl) (fun _ _ _ h => h) ⟨Or.inl ⟨by rfl, ?hyT55⟩, fun _ => rfl⟩ ?rsT55
      case hyT55 => (intro w; go_simp; (try with_reducible rfl))
      try simp only [Act.put, List.setIfInBounds_toArray, List.set_cons_zero, List.set_cons_succ]
      refine wpAnyIn_ready (rs := [0]) (by kernel_rfl) (by simp) (AllReadyIn.cons rfl (fun K hK => ?b108) AllReadyIn.nil)
      case b108 =>
        go_simp
        refine hK _ _ ?_
        clear hK K
        try simp only [Act.put, List.setIfInBounds_toArray, List.set_cons_zero, List.set_cons_succ]
        refine takeR (i := 3) (d := some 123) (v := ?vT56) rfl rfl rfl (by kernel_rfl) (by kernel_rfl) (by kernel_rfl) (fun _ _ _ h => h) ⟨Or.inl ⟨by rfl, ?hyT56⟩, fun _ => rfl⟩ ?rsT56
        case hyT56 => (intro w; go_simp; (try with_reducible rfl))
        try simp only [Act.put, List.setIfInBounds_toArray, List.set_cons_zero, List.set_cons_succ]
        refine takeR (i := 4) (d := some 124) (v := ?vT57) rfl rfl rfl (by kernel_rfl) (by kernel_rfl) (by kernel_rfl) (fun _ _ _ h => h) ⟨Or.inl ⟨by rfl, ?hyT57⟩, fun _ => rfl⟩ ?rsT57
        case hyT57 => (intro w; go_simp; (try with_reducible rfl))
        try simp only [Act.put, List.setIfInBounds_toArray, List.set_cons_zero, List.set_cons_succ]
        refine wpAnyIn_ready (rs := [5, 6]) (by kernel_rfl) (by simp) (AllReadyIn.cons rfl (fun K hK => ?b106) (AllReadyIn.cons rfl (fun K hK => ?b107) AllReadyIn.nil))
        case b106 =>
          go_simp
          refine hK _ _ ?_
          clear hK K
          try simp only [Act.put, List.setIfInBounds_toArray, List.set_cons_zero, List.set_cons_succ]
          refine wpAnyIn_ready (rs := [6]) (by kernel_rfl) (by simp) (AllReadyIn.cons rfl (fun K hK => ?b81) AllReadyIn.nil)
          case b81 =>
            go_simp
            refine hK _ _ ?_
            clear hK K
            try simp only [Act.put, List.setIfInBounds_toArray, List.set_cons_zero, List.set_cons_succ]
            refine takeR (i := 7) (d := some 127) (v := ?vT58) rfl rfl rfl (by kernel_rfl) (by kernel_rfl) (by kernel_rfl) (fun _ _ _ h => h) ⟨Or.inl ⟨by rfl, ?hyT58⟩, fun _ => rfl⟩ ?rsT58
            case hyT58 => (intro w; go_simp; (try with_reducible rfl))
            try simp only [Act.put, List.setIfInBounds_toArray, List.set_cons_zero, List.set_cons_succ]
            refine takeR (i := 8) (d := some 128) (v := ?vT59) rfl rfl rfl (by kernel_rfl) (by kernel_rfl) (by kernel_rfl) (fun _ _ _ h => h) ⟨Or.inl ⟨by rfl, ?hyT59⟩, fun _ => rfl⟩ ?rsT59
            case hyT59 => (intro w; go_simp; (try with_reducible rfl))
            try simp only [Act.put, List.setIfInBounds_toArray, List.set_cons_zero, List.set_cons_succ]
            refine takeR (i := 9) (d := some 129) (v := ?vT60) rfl rfl rfl (by kernel_rfl) (by kernel_rfl) (by kernel_rfl) (fun _ _ _ h => h) ⟨Or.inl ⟨by rfl, ?hyT60⟩, fun _ => rfl⟩ ?rsT60
            case hyT60 => (intro w; go_simp; (try with_reducible rfl))
            try simp only [Act.put, List.setIfInBounds_toArray, List.set_cons_zero, List.set_cons_succ]
            refine wpAnyIn_ready (rs := [10, 12]) (by kernel_rfl) (by simp) (AllReadyIn.cons rfl (fun K hK => ?b79) (AllReadyIn.cons rfl (fun K hK => ?b80) AllReadyIn.nil))
            case b79 =>
              go_simp
              refine hK _ _ ?_
              clear hK K
              try simp only [Act.put, List.setIfInBounds_toArray, List.set_cons_zero, List.set_cons_succ]
              refine wpAnyIn_ready (rs := [11, 12]) (by kernel_rfl) (by simp) (AllReadyIn.cons rfl (fun K hK => ?b71) (AllReadyIn.cons rfl (fun K hK => ?b72) AllReadyIn.nil))
              case b71 =>
                go_simp
                refine ⟨trivial, (callsIn_wide.2 (nextI HZd.out.1.win)).mono ?_⟩
                rintro e w6 ⟨rfl, hw6⟩
                obtain rfl := hw6.symm
                clear hw6
                refine hK _ _ ?_
                clear hK K
                refine wpAnyIn_ready (rs := [12]) (by kernel_rfl) (by simp) (AllReadyIn.cons rfl (fun K hK => ?b65) AllReadyIn.nil)
                case b65 =>
                  go_simp
                  refine hK _ _ ?_
                  clear hK K
                  try simp only [Act.put, List.setIfInBounds_toArray, List.set_cons_zero, List.set_cons_succ]
                  refine takeR (i := 13) (d := some 133) (v := ?vT61) rfl rfl rfl (by kernel_rfl) (by kernel_rfl) (by kernel_rfl) (fun _ _ _ h => h) ⟨Or.inl ⟨by rfl, ?hyT61⟩, fun _ => rfl⟩ ?rsT61
                  case hyT61 => (intro w; go_simp; (try with_reducible rfl))
                  try simp only [Act.put, List.setIfInBounds_toArray, List.set_cons_zero, List.set_cons_succ]
                  refine takeR (i := 14) (d := some 134) (v := ?vT62) rfl rfl rfl (by kernel_rfl) (by kernel_rfl) (by kernel_rfl) (fun _ _ _ h => h) ⟨Or.inl ⟨by rfl, ?hyT62⟩, fun _ => rfl⟩ ?rsT62
                  case hyT62 => (intro w; go_simp; (try with_reducible rfl))
                  try simp only [Act.put, List.setIfInBounds_toArray, List.set_cons_zero, List.set_cons_succ]
                  refine takeR (i := 15) (d := some 135) (v := ?vT63) rfl rfl rfl (by kernel_rfl) (by kernel_rfl) (by kernel_rfl) (fun _ _ _ h => h) ⟨Or.inl ⟨by rfl, ?hyT63⟩, fun _ => rfl⟩ ?rsT63
                  case hyT63 => (intro w; go_simp; (try with_reducible rfl))
                  try simp only [Act.put, List.setIfInBounds_toArray, List.set_cons_zero, List.set_cons_succ]
                  refine wpAnyIn_ready (rs := [16]) (by kernel_rfl) (by simp) (AllReadyIn.cons rfl (fun K hK => ?b64) AllReadyIn.nil)
                  case b64 =>
                    go_simp
                    refine hK _ _ ?_
                    clear hK K
                    try simp only [Act.put, List.setIfInBounds_toArray, List.set_cons_zero, List.set_cons_succ]
                    refine wpAnyIn_done (by kernel_rfl) ?_ _
                    gi_wp2
                    have hq := HQ.out
                    obtain ⟨h1, h2, h4, h5⟩ := HZd.out
                    have hC : Chg (fun g => g = B + 1) Zd (Zd.setCell ⟨B + 1, 0, none⟩ (.bool true)) := Chg.set (D := fun g => g = B + 1) (q := B + 1) 0 _ _ rfl
                    have hbx := heap_setCell_cells h4 0 (.bool true)
                    generalize Zd.setCell ⟨B + 1, 0, none⟩ (.bool true) = w14 at *
                    refine leave_marks [De] w14 (by simp) (fun r hr => ?_) (fun W' hC' => ?_)
                    · simp only [List.mem_cons, List.not_mem_nil, or_false] at hr
                      rw [hr]
                      exact hC.block h2 (by omega)
                    · have hr2 := box1 (hC'.block hbx (by simp; omega))
                      refine ⟨.bool true, ?_, rfl, ?_⟩
                      · rw [results_cells1 rfl]
                        go_simp
                      · exact FINB.out w14 W' hC hC'
              case b72 =>
                go_simp
                refine hK _ _ ?_
                clear hK K
                try simp only [Act.put, List.setIfInBounds_toArray, List.set_cons_zero, List.set_cons_succ]
                refine takeR (i := 13) (d := some 133) (v := ?vT66) rfl rfl rfl (by kernel_rfl) (by kernel_rfl) (by kernel_rfl) (fun _ _ _ h => h) ⟨Or.inl ⟨by rfl, ?hyT66⟩, fun _ => rfl⟩ ?rsT66
                case hyT66 => (intro w; go_simp; (try with_reducible rfl))
                try simp only [Act.put, List.setIfInBounds_toArray, List.set_cons_zero, List.set_cons_succ]
                refine wpAnyIn_ready (rs := [11]) (by kernel_rfl) (by simp) (AllReadyIn.cons rfl (fun K hK => ?b70) AllReadyIn.nil)
                case b70 =>
                  go_simp
                  refine ⟨trivial, (callsIn_wide.2 (nextI HZd.out.1.win)).mono ?_⟩
                  rintro e w6 ⟨rfl, hw6⟩
                  obtain rfl := hw6.symm
                  clear hw6
                  refine hK _ _ ?_
                  clear hK K
                  refine takeR (i := 14) (d := some 134) (v := ?vT67) rfl rfl rfl (by kernel_rfl) (by kernel_rfl) (by kernel_rfl) (fun _ _ _ h => h) ⟨Or.inl ⟨by rfl, ?hyT67⟩, fun _ => rfl⟩ ?rsT67
                  case hyT67 => (intro w; go_simp; (try with_reducible rfl))
                  try simp only [Act.put, List.setIfInBounds_toArray, List.set_cons_zero, List.set_cons_succ]
                  refine takeR (i := 15) (d := some 135) (v := ?vT68) rfl rfl rfl (by kernel_rfl) (by kernel_rfl) (by kernel_rfl) (fun _ _ _ h => h) ⟨Or.inl ⟨by rfl, ?hyT68⟩, fun _ => rfl⟩ ?rsT68
                  case hyT68 => (intro w; go_simp; (try with_reducible rfl))
                  try simp only [Act.put, List.setIfInBounds_toArray, List.set_cons_zero, List.set_cons_succ]
                  refine wpAnyIn_ready (rs := [16]) (by kernel_rfl) (by simp) (AllReadyIn.cons rfl (fun K hK => ?b69) AllReadyIn.nil)
                  case b69 =>
                    go_simp
                    refine hK _ _ ?_
                    clear hK K
                    try simp only [Act.put, List.setIfInBounds_toArray, List.set_cons_zero, List.set_cons_succ]
                    refine wpAnyIn_done (by kernel_rfl) ?_ _
                    gi_wp2
                    have hq := HQ.out
                    obtain ⟨h1, h2, h4, h5⟩ := HZd.out
                    have hC : Chg (fun g => g = B + 1) Zd (Zd.setCell ⟨B + 1, 0, none⟩ (.bool true)) := Chg.set (D := fun g => g = B + 1) (q := B + 1) 0 _ _ rfl
                    have hbx := heap_setCell_cells h4 0 (.bool true)
                    generalize Zd.setCell ⟨B + 1, 0, none⟩ (.bool true) = w14 at *
                    refine leave_marks [De] w14 (by simp) (fun r hr => ?_) (fun W' hC' => ?_)
                    · simp only [List.mem_cons, List.not_mem_nil, or_false] at hr
                      rw [hr]
                      exact hC.block h2 (by omega)
                    · have hr2 := box1 (hC'.block hbx (by simp; omega))
                      refine ⟨.bool true, ?_, rfl, ?_⟩
                      · rw [results_cells1 rfl]
                        go_simp
                      · exact FINB.out w14 W' hC hC'
            case b80 =>
              go_simp
              refine hK _ _ ?_
              clear hK K
              try simp only [Act.put, List.setIfInBounds_toArray, List.set_cons_zero, List.set_cons_succ]
              refine takeR (i := 13) (d := some 133) (v := ?vT73) rfl rfl rfl (by kernel_rfl) (by kernel_rfl) (by kernel_rfl) (fun _ _ _ h => h) ⟨Or.inl ⟨by rfl, ?hyT73⟩, fun _ => rfl⟩ ?rsT73
              case hyT73 => (intro w; go_simp; (try with_reducible rfl))
              try simp only [Act.put, List.setIfInBounds_toArray, List.set_cons_zero, List.set_cons_succ]
              refine wpAnyIn_ready (rs := [10]) (by kernel_rfl) (by simp) (AllReadyIn.cons rfl (fun K hK => ?b78) AllReadyIn.nil)
              case b78 =>
                go_simp
                refine hK _ _ ?_
                clear hK K
                try simp only [Act.put, List.setIfInBounds_toArray, List.set_cons_zero, List.set_cons_succ]
                refine wpAnyIn_ready (rs := [11]) (by kernel_rfl) (by simp) (AllReadyIn.cons rfl (fun K hK => ?b77) AllReadyIn.nil)
                case b77 =>
                  go_simp
                  refine ⟨trivial, (callsIn_wide.2 (nextI HZd.out.1.win)).mono ?_⟩
                  rintro e w6 ⟨rfl, hw6⟩
                  obtain rfl := hw6.symm
                  clear hw6
                  refine hK _ _ ?_
                  clear hK K
                  refine takeR (i := 14) (d := some 134) (v := ?vT74) rfl rfl rfl (by kernel_rfl) (by kernel_rfl) (by kernel_rfl) (fun _ _ _ h => h) ⟨Or.inl ⟨by rfl, ?hyT74⟩, fun _ => rfl⟩ ?rsT74
                  case hyT74 => (intro w; go_simp; (try with_reducible rfl))
                  try simp only [Act.put, List.setIfInBounds_toArray, List.set_cons_zero, List.set_cons_succ]
                  refine takeR (i := 15) (d := some 135) (v := ?vT75) rfl rfl rfl (by kernel_rfl) (by kernel_rfl) (by kernel_rfl) (fun _ _ _ h => h) ⟨Or.inl ⟨by rfl, ?hyT75⟩, fun _ => rfl⟩ ?rsT75
                  case hyT75 => (intro w; go_simp; (try with_reducible rfl))
                  try simp only [Act.put, List.setIfInBounds_toArray, List.set_cons_zero, List.set_cons_succ]
                  refine wpAnyIn_ready (rs := [16]) (by kernel_rfl) (by simp) (AllReadyIn.cons rfl (fun K hK => ?b76) AllReadyIn.nil)
                  case b76 =>
                    go_simp
                    refine hK _ _ ?_
                    clear hK K
                    try simp only [Act.put, List.setIfInBounds_toArray, List.set_cons_zero, List.set_cons_succ]
                    refine wpAnyIn_done (by kernel_rfl) ?_ _
                    gi_wp2
                    have hq := HQ.out
                    obtain ⟨h1, h2, h4, h5⟩ := HZd.out
                    have hC : Chg (fun g => g = B + 1) Zd (Zd.setCell ⟨B + 1, 0, none⟩ (.bool true)) := Chg.set (D := fun g => g = B + 1) (q := B + 1) 0 _ _ rfl
                    have hbx := heap_setCell_cells h4 0 (.bool true)
                    generalize Zd.setCell ⟨B + 1, 0, none⟩ (.bool true) = w14 at *
                    refine leave_marks [De] w14 (by simp) (fun r hr => ?_) (fun W' hC' => ?_)
                    · simp only [List.mem_cons, List.not_mem_nil, or_false] at hr
                      rw [hr]
                      exact hC.block h2 (by omega)
                    · have hr2 := box1 (hC'.block hbx (by simp; omega))
                      refine ⟨.bool true, ?_, rfl, ?_⟩
                      · rw [results_cells1 rfl]
                        go_simp
                      · exact FINB.out w14 W' hC hC'
        case b107 =>
          go_simp
          refine hK _ _ ?_
          clear hK K
          try simp only [Act.put, List.setIfInBounds_toArray, List.set_cons_zero, List.set_cons_succ]
          refine wpAnyIn_ready (rs := [5]) (by kernel_rfl) (by simp) (AllReadyIn.cons rfl (fun K hK => ?b105) AllReadyIn.nil)
          case b105 =>
            go_simp
            refine hK _ _ ?_
            clear hK K
            try simp only [Act.put, List.setIfInBounds_toArray, List.set_cons_zero, List.set_cons_succ]
            refine takeR (i := 7) (d := some 127) (v := ?vT82) rfl rfl rfl (by kernel_rfl) (by kernel_rfl) (by kernel_rfl) (fun _ _ _ h => h) ⟨Or.inl ⟨by rfl, ?hyT82⟩, fun _ => rfl⟩ ?rsT82
            case hyT82 => (intro w; go_simp; (try with_reducible rfl))
            try simp only [Act.put, List.setIfInBounds_toArray, List.set_cons_zero, List.set_cons_succ]
            refine takeR (i := 8) (d := some 128) (v := ?vT83) rfl rfl rfl (by kernel_rfl) (by kernel_rfl) (by kernel_rfl) (fun _ _ _ h => h) ⟨Or.inl ⟨by rfl, ?hyT83⟩, fun _ => rfl⟩ ?rsT83
            case hyT83 => (intro w; go_simp; (try with_reducible rfl))
            try simp only [Act.put, List.setIfInBounds_toArray, List.set_cons_zero, List.set_cons_succ]
            refine takeR (i := 9) (d := some 129) (v := ?vT84) rfl rfl rfl (by kernel_rfl) (by kernel_rfl) (by kernel_rfl) (fun _ _ _ h => h) ⟨Or.inl ⟨by rfl, ?hyT84⟩, fun _ => rfl⟩ ?rsT84
            case hyT84 => (intro w; go_simp; (try with_reducible rfl))
            try simp only [Act.put, List.setIfInBounds_toArray, List.set_cons_zero, List.set_cons_succ]
            refine wpAnyIn_ready (rs := [10, 12]) (by kernel_rfl) (by simp) (AllReadyIn.cons rfl (fun K hK => ?b103) (AllReadyIn.cons rfl (fun K hK => ?b104) AllReadyIn.nil))
            case b103 =>
              go_simp
              refine hK _ _ ?_
              clear hK K
              try simp only [Act.put, List.setIfInBounds_toArray, List.set_cons_zero, List.set_cons_succ]
              refine wpAnyIn_ready (rs := [11, 12]) (by kernel_rfl) (by simp) (AllReadyIn.cons rfl (fun K hK => ?b95) (AllReadyIn.cons rfl (fun K hK => ?b96) AllReadyIn.nil))
              case b95 =>
                go_simp
                refine ⟨trivial, (callsIn_wide.2 (nextI HZd.out.1.win)).mono ?_⟩
                rintro e w6 ⟨rfl, hw6⟩
                obtain rfl := hw6.symm
                clear hw6
                refine hK _ _ ?_
                clear hK K
                refine wpAnyIn_ready (rs := [12]) (by kernel_rfl) (by simp) (AllReadyIn.cons rfl (fun K hK => ?b89) AllReadyIn.nil)
                case b89 =>
                  go_simp
                  refine hK _ _ ?_
                  clear hK K
                  try simp only [Act.put, List.setIfInBounds_toArray, List.set_cons_zero, List.set_cons_succ]
                  refine takeR (i := 13) (d := some 133) (v := ?vT85) rfl rfl rfl (by kernel_rfl) (by kernel_rfl) (by kernel_rfl) (fun _ _ _ h => h) ⟨Or.inl ⟨by rfl, ?hyT85⟩, fun _ => rfl⟩ ?rsT85
                  case hyT85 => (intro w; go_simp; (try with_reducible rfl))
                  try simp only [Act.put, List.setIfInBounds_toArray, List.set_cons_zero, List.set_cons_succ]
                  refine takeR (i := 14) (d := some 134) (v := ?vT86) rfl rfl rfl (by kernel_rfl) (by kernel_rfl) (by kernel_rfl) (fun _ _ _ h => h) ⟨Or.inl ⟨by rfl, ?hyT86⟩, fun _ => rfl⟩ ?rsT86
                  case hyT86 => (intro w; go_simp; (try with_reducible rfl))
                  try simp only [Act.put, List.setIfInBounds_toArray, List.set_cons_zero, List.set_cons_succ]
                  refine takeR (i := 15) (d := some 135) (v := ?vT87) rfl rfl rfl (by kernel_rfl) (by kernel_rfl) (by kernel_rfl) (fun _ _ _ h => h) ⟨Or.inl ⟨by rfl, ?hyT87⟩, fun _ => rfl⟩ ?rsT87
                  case hyT87 => (intro w; go_simp; (try with_reducible rfl))
                  try simp only [Act.put, List.setIfInBounds_toArray, List.set_cons_zero, List.set_cons_succ]
                  refine wpAnyIn_ready (rs := [16]) (by kernel_rfl) (by simp) (AllReadyIn.cons rfl (fun K hK => ?b88) AllReadyIn.nil)
                  case b88 =>
                    go_simp
                    refine hK _ _ ?_
                    clear hK K
                    try simp only [Act.put, List.setIfInBounds_toArray, List.set_cons_zero, List.set_cons_succ]
                    refine wpAnyIn_done (by kernel_rfl) ?_ _
                    gi_wp2
                    have hq := HQ.out
                    obtain ⟨h1, h2, h4, h5⟩ := HZd.out
                    have hC : Chg (fun g => g = B + 1) Zd (Zd.setCell ⟨B + 1, 0, none⟩ (.bool true)) := Chg.set (D := fun g => g = B + 1) (q := B + 1) 0 _ _ rfl
                    have hbx := heap_setCell_cells h4 0 (.bool true)
                    generalize Zd.setCell ⟨B + 1, 0, none⟩ (.bool true) = w14 at *
                    refine leave_marks [De] w14 (by simp) (fun r hr => ?_) (fun W' hC' => ?_)
                    · simp only [List.mem_cons, List.not_mem_nil, or_false] at hr
                      rw [hr]
                      exact hC.block h2 (by omega)
                    · have hr2 := box1 (hC'.block hbx (by simp; omega))
                      refine ⟨.bool true, ?_, rfl, ?_⟩
                      · rw [results_cells1 rfl]
                        go_simp
                      · exact FINB.out w14 W' hC hC'
              case b96 =>
                go_simp
                refine hK _ _ ?_
                clear hK K
                try simp only [Act.put, List.setIfInBounds_toArray, List.set_cons_zero, List.set_cons_succ]
                refine takeR (i := 13) (d := some 133) (v := ?vT90) rfl rfl rfl (by kernel_rfl) (by kernel_rfl) (by kernel_rfl) (fun _ _ _ h => h) ⟨Or.inl ⟨by rfl, ?hyT90⟩, fun _ => rfl⟩ ?rsT90
                case hyT90 => (intro w; go_simp; (try with_reducible rfl))
                try simp only [Act.put, List.setIfInBounds_toArray, List.set_cons_zero, List.set_cons_succ]
                refine wpAnyIn_ready (rs := [11]) (by kernel_rfl) (by simp) (AllReadyIn.cons rfl (fun K hK => ?b94) AllReadyIn.nil)
                case b94 =>
                  go_simp
                  refine ⟨trivial, (callsIn_wide.2 (nextI HZd.out.1.win)).mono ?_⟩
                  rintro e w6 ⟨rfl, hw6⟩
                  obtain rfl := hw6.symm
                  clear hw6
                  refine hK _ _ ?_
                  clear hK K
                  refine takeR (i := 14) (d := some 134) (v := ?vT91) rfl rfl rfl (by kernel_rfl) (by kernel_rfl) (by kernel_rfl) (fun _ _ _ h => h) ⟨Or.inl ⟨by rfl, ?hyT91⟩, fun _ => rfl⟩ ?rsT91
                  case hyT91 => (intro w; go_simp; (try with_reducible rfl))
                  try simp only [Act.put, List.setIfInBounds_toArray, List.set_cons_zero, List.set_cons_succ]
                  refine takeR (i := 15) (d := some 135) (v := ?vT92) rfl rfl rfl (by kernel_rfl) (by kernel_rfl) (by kernel_rfl) (fun _ _ _ h => h) ⟨Or.inl ⟨by rfl, ?hyT92⟩, fun _ => rfl⟩ ?rsT92
                  case hyT92 => (intro w; go_simp; (try with_reducible rfl))
                  try simp only [Act.put, List.setIfInBounds_toArray, List.set_cons_zero, List.set_cons_succ]
                  refine wpAnyIn_ready (rs := [16]) (by kernel_rfl) (by simp) (AllReadyIn.cons rfl (fun K hK => ?b93) AllReadyIn.nil)
                  case b93 =>
                    go_simp
                    refine hK _ _ ?_
                    clear hK K
                    try simp only [Act.put, List.setIfInBounds_toArray, List.set_cons_zero, List.set_cons_succ]
                    refine wpAnyIn_done (by kernel_rfl) ?_ _
                    gi_wp2
                    have hq := HQ.out
                    obtain ⟨h1, h2, h4, h5⟩ := HZd.out
                    have hC : Chg (fun g => g = B + 1) Zd (Zd.setCell ⟨B + 1, 0, none⟩ (.bool true)) := Chg.set (D := fun g => g = B + 1) (q := B + 1) 0 _ _ rfl
                    have hbx := heap_setCell_cells h4 0 (.bool true)
                    generalize Zd.setCell ⟨B + 1, 0, none⟩ (.bool true) = w14 at *
                    refine leave_marks [De] w14 (by simp) (fun r hr => ?_) (fun W' hC' => ?_)
                    · simp only [List.mem_cons, List.not_mem_nil, or_false] at hr
                      rw [hr]
                      exact hC.block h2 (by omega)
                    · have hr2 := box1 (hC'.block hbx (by simp; omega))
                      refine ⟨.bool true, ?_, rfl, ?_⟩
                      · rw [results_cells1 rfl]
                        go_simp
                      · exact FINB.out w14 W' hC hC'
            case b104 =>
              go_simp
              refine hK _ _ ?_
              clear hK K
              try simp only [Act.put, List.setIfInBounds_toArray, List.set_cons_zero, List.set_cons_succ]
              refine takeR (i := 13) (d := some 133) (v := ?vT97) rfl rfl rfl (by kernel_rfl) (by kernel_rfl) (by kernel_rfl) (fun _ _ _ h => h) ⟨Or.inl ⟨by rfl, ?hyT97⟩, fun _ => rfl⟩ ?rsT97
              case hyT97 => (intro w; go_simp; (try with_reducible rfl))
              try simp only [Act.put, List.setIfInBounds_toArray, List.set_cons_zero, List.set_cons_succ]
              refine wpAnyIn_ready (rs := [10]) (by kernel_rfl) (by simp) (AllReadyIn.cons rfl (fun K hK => ?b102) AllReadyIn.nil)
              case b102 =>
                go_simp
                refine hK _ _ ?_
                clear hK K
                try simp only [Act.put, List.setIfInBounds_toArray, List.set_cons_zero, List.set_cons_succ]
                refine wpAnyIn_ready (rs := [11]) (by kernel_rfl) (by simp) (AllReadyIn.cons rfl (fun K hK => ?b101) AllReadyIn.nil)
                case b101 =>
                  go_simp
                  refine ⟨trivial, (callsIn_wide.2 (nextI HZd.out.1.win)).mono ?_⟩
                  rintro e w6 ⟨rfl, hw6⟩
                  obtain rfl := hw6.symm
                  clear hw6
                  refine hK _ _ ?_
                  clear hK K
                  refine takeR (i := 14) (d := some 134) (v := ?vT98) rfl rfl rfl (by kernel_rfl) (by kernel_rfl) (by kernel_rfl) (fun _ _ _ h => h) ⟨Or.inl ⟨by rfl, ?hyT98⟩, fun _ => rfl⟩ ?rsT98
                  case hyT98 => (intro w; go_simp; (try with_reducible rfl))
                  try simp only [Act.put, List.setIfInBounds_toArray, List.set_cons_zero, List.set_cons_succ]
                  refine takeR (i := 15) (d := some 135) (v := ?vT99) rfl rfl rfl (by kernel_rfl) (by kernel_rfl) (by kernel_rfl) (fun _ _ _ h => h) ⟨Or.inl ⟨by rfl, ?hyT99⟩, fun _ => rfl⟩ ?rsT99
                  case hyT99 => (intro w; go_simp; (try with_reducible rfl))
                  try simp only [Act.put, List.setIfInBounds_toArray, List.set_cons_zero, List.set_cons_succ]
                  refine wpAnyIn_ready (rs := [16]) (by kernel_rfl) (by simp) (AllReadyIn.cons rfl (fun K hK => ?b100) AllReadyIn.nil)
                  case b100 =>
                    go_simp
                    refine hK _ _ ?_
                    clear hK K
                    try simp only [Act.put, List.setIfInBounds_toArray, List.set_cons_zero, List.set_cons_succ]
                    refine wpAnyIn_done (by kernel_rfl) ?_ _
                    gi_wp2
                    have hq := HQ.out
                    obtain ⟨h1, h2, h4, h5⟩ := HZd.out
                    have hC : Chg (fun g => g = B + 1) Zd (Zd.setCell ⟨B + 1, 0, none⟩ (.bool true)) := Chg.set (D := fun g => g = B + 1) (q := B + 1) 0 _ _ rfl
                    have hbx := heap_setCell_cells h4 0 (.bool true)
                    generalize Zd.setCell ⟨B + 1, 0, none⟩ (.bool true) = w14 at *
                    refine leave_marks [De] w14 (by simp) (fun r hr => ?_) (fun W' hC' => ?_)
                    · simp only [List.mem_cons, List.not_mem_nil, or_false] at hr
                      rw [hr]
                      exact hC.block h2 (by omega)
                    · have hr2 := box1 (hC'.block hbx (by simp; omega))
                      refine ⟨.bool true, ?_, rfl, ?_⟩
                      · rw [results_cells1 rfl]
                        go_simp
                      · exact FINB.out w14 W' hC hC'
end Go.Proofs.Ytiaidmhobbeedaa
