import Derived.Test.YtmeciikfnbbllaaGreatDoorGaX
import Derived.Test.YtmeciikfnbbllaaGreatDoorGaE
import Derived.Test.YtmeciikfnbbllaaGreatDoorGaC
import Derived.Deep.RegionHeld3
namespace Go.Proofs.YtmeciikfnbbllaaGreatDoor
open Go.RowKit Go.Lib
set_option maxRecDepth 100000
theorem takeD {P : Program} {md : Region.Mode} {ops : Array Oper} {Q : Exit → Act → World → Prop} {S : World → Prop} {i : Nat} {oi : Oper} {d : Option Nat} {v : Value} {fuel : Nat} {listed : Array Bool} {a : Act} {w : World} (hi : ops[i]? = some oi) (hd : oi.dst = d)
    (hs : Region.noSelect ops = true) (hf : Region.free md ops listed i = true) (hr : (Region.ready md ops listed).contains i = true)
    (hQ : ∀ c a w, Q (.panic c) (a.put oi.dst v) w → Q (.panic c) a w) (hy : YieldsIf P ops S oi v a) (hS : S w)
    (h : wpAnyH P md ops Q S fuel (listed.setIfInBounds i true) (a.put d v) w) : wpAnyH P md ops Q S (fuel + 1) listed a w := by
  subst hd
  exact wpAnyH_take hi hs hf hr hQ hy hS h
theorem ctx_ok : SthOk ctxL := fun s hs => by
  simp only [ctxL, List.mem_singleton] at hs
  subst hs
  simp
def ctxI (p n : Int) : List Sth := withL 2 p n ctxL 0
theorem ctxI_eq {p n : Int} (h0 : 0 ≤ p) (h1 : p ≤ 1048576) : ctxI p n = (if 0 < p then [(0, 0, p)] else []) ++ [(2, 0, n), (0, p, 2097152)] := by
  unfold ctxI ctxL withL withL withOne
  rw [if_pos ⟨h0, by simp only [wid]; omega⟩]
  simp
theorem ctxI_ok {p n : Int} (h0 : 0 ≤ p) (h1 : p ≤ 1048576) (h2 : 0 ≤ n) (h3 : n ≤ 4194304) : SthOk (ctxI p n) := fun s hs => by
  rw [ctxI_eq h0 h1] at hs
  split at hs <;> simp at hs <;> rcases hs with rfl | rfl | rfl <;> simp <;> omega
theorem ctxI_len {p n : Int} (h0 : 0 ≤ p) (h1 : p ≤ 1048576) : (ctxI p n).length ≤ 3 := by
  rw [ctxI_eq h0 h1]
  split <;> simp
theorem place_ctx {p n k : Int} (h0 : 0 ≤ p) (h1 : p ≤ 1048576) (hk : 0 ≤ k) (hk2 : k < 2097152) : placeL 0 k (ctxI p n) 0 = if k < p then k else k + n := by
  rw [ctxI_eq h0 h1]
  by_cases hp : 0 < p
  · rw [if_pos hp]
    simp only [List.cons_append, List.nil_append, placeL]
    by_cases h : k < p
    · rw [if_pos ⟨trivial, hk, h⟩, if_pos h]; omega
    · rw [if_neg (fun hh => h hh.2.2), if_neg (fun hh => absurd hh.1 (by decide)), if_pos ⟨trivial, by omega, hk2⟩, if_neg h]; omega
  · rw [if_neg hp]
    simp only [List.nil_append, placeL]
    rw [if_neg (fun hh => absurd hh.1 (by decide)), if_pos ⟨trivial, by omega, hk2⟩, if_neg (by omega)]
    omega
theorem place_ins {p n : Int} (h0 : 0 ≤ p) (h1 : p ≤ 1048576) (hn : 0 < n) : placeL 2 0 (ctxI p n) 0 = p := by
  rw [ctxI_eq h0 h1]
  by_cases hp : 0 < p
  · rw [if_pos hp]
    simp only [List.cons_append, List.nil_append, placeL]
    rw [if_neg (fun hh => absurd hh.1 (by decide)), if_pos ⟨trivial, by omega, hn⟩]; omega
  · rw [if_neg hp]
    simp only [List.nil_append, placeL]
    rw [if_pos ⟨trivial, by omega, hn⟩]; omega
set_option maxHeartbeats 8000000 in
theorem gCaret_any {o : OpV} {x : Int} {a : Option Addr} {m cap : Nat} {w : World} (hR : Sp.Rng w a m cap o.l) (hs : o.s.size ≤ 2097152) :
    Calls Tryz.prog 33 #[.int .i64 x, opVal o (.slice a m cap)] w fun e w' => e = .returned (.tuple #[.int .i64 (caretP x o).1, .int .i64 (caretP x o).2]) ∧ Below w.heap.size w w' := by
  have HE : Hid (∀ (W : World), Below w.heap.size w W → Calls Tryz.prog 61 #[opVal o (.slice a m cap)] W fun e w' => e = .returned (.int .i64 (ownP o)) ∧ Below W.heap.size W w') := fun W hb => gOwn_any (hR.below hb) hs
  have HW : Hid (∀ (W : World), Calls Tryz.prog 64 #[opVal o (.slice a m cap)] W fun e w' => e = .returned (.int .i64 (widthP o)) ∧ Below W.heap.size W w') := fun W => gWidth_any hs W
  have hwd : ownP o = 0 → 0 ≤ widthP o ∧ widthP o ≤ 256 := fun h => (right_of h).wd
  have hpp : ownP o = 0 → o.k = 1 → 0 ≤ o.p ∧ o.p ≤ 1048576 := fun h hk => ⟨((right_of h).ins hk).1, ((right_of h).ins hk).2.1⟩
  obtain ⟨q, hq⟩ : ∃ q, caretP x o = q := ⟨_, rfl⟩
  rw [hq]
  unfold caretP at hq
  generalize ownP o = z at *
  generalize widthP o = wd at *
  clear hR hs
  obtain ⟨c, n, k, p, s, l, tc, tn, on⟩ := o
  simp only [opVal] at *
  obtain ⟨W0, hW0⟩ : ∃ W0, w.alloc (Obj.cells #[.int .i64 c, .int .i64 n, .int .i64 k, .int .i64 p, .string s, .slice a m cap, .int .i64 tc, .int .i64 tn, .bool on] 33) = W0 := ⟨_, rfl⟩
  have hX : W0.heap[w.heap.size]? = some (Obj.cells #[.int .i64 c, .int .i64 n, .int .i64 k, .int .i64 p, .string s, .slice a m cap, .int .i64 tc, .int .i64 tn, .bool on] 33) := by rw [← hW0]; exact heap_alloc_new _ _
  have hB0 : Below w.heap.size w W0 := by rw [← hW0]; exact (Below.refl w.heap.size w).alloc (Nat.le_refl _) _
  have alt : w.heap.size < W0.heap.size := (Array.getElem?_eq_some_iff.1 hX).1
  obtain ⟨ak0, ak1, ak2, ak3, ak4, ak5, ak6, ak7, ak8⟩ := box9 hX
  go_enter Tryz.func33, Tryz.ntmps33
  go_wp2_with fail
  refine (HE.out W0 hB0).mono ?_
  rintro e w1 ⟨rfl, hcur⟩
  have hB1 := hB0.trans (hcur.mono hB0.size)
  have hX1 := (hcur.block _ alt).trans hX
  have alt1 : w.heap.size < w1.heap.size := (Array.getElem?_eq_some_iff.1 hX1).1
  clear HE hcur hX hB0 alt hW0 ak0 ak1 ak2 ak3 ak4 ak5 ak6 ak7 ak8
  obtain ⟨ak0, ak1, ak2, ak3, ak4, ak5, ak6, ak7, ak8⟩ := box9 hX1
  by_cases hz : z = 0
  · subst hz
    rw [if_neg (by simp)] at hq
    obtain ⟨hw0, hw1⟩ := hwd rfl
    have hpp := hpp rfl
    clear hwd
    by_cases h1 : x < 0
    · rw [if_pos (.inl h1)] at hq
      subst hq
      go_wp2_with fail
      go_ret2
      exact ⟨rfl, hB1⟩
    · have t1 : decide (x < 0) = false := decide_eq_false h1
      by_cases h2 : 1048576 < x
      · rw [if_pos (.inr h2)] at hq
        subst hq
        go_wp2_with fail
        go_ret2
        exact ⟨rfl, hB1⟩
      · rw [if_neg (by omega)] at hq
        have t2 : decide (1048576 < x) = false := decide_eq_false h2
        by_cases hk : k = 1
        · subst hk
          obtain ⟨p0, p1⟩ := hpp rfl
          by_cases h0 : x = 0
          · subst h0
            rw [if_pos (.inr p0)] at hq
            subst hq
            go_wp2_with fail
            go_ret2
            exact ⟨rfl, hB1⟩
          · have t0 : (x == 0) = false := beq_eq_false_iff_ne.2 h0
            have t00 : decide (x = 0) = false := decide_eq_false h0
            have ex : IntKind.i64.wrap (x - 1) = x - 1 := IntWalk.i64_in _ (by omega)
            have hpl := place_ctx (n := wd) p0 p1 (k := x - 1) (by omega) (by omega)
            obtain ⟨y, hy⟩ : ∃ y, placeL 0 (x - 1) (ctxI p wd) 0 = y := ⟨_, rfl⟩
            have hy0 : y = if x - 1 < p then x - 1 else x - 1 + wd := by rw [← hy]; exact hpl
            have hlen := ctxI_len (n := wd) p0 p1
            have hok := ctxI_ok p0 p1 hw0 (by omega : wd ≤ 4194304)
            have HP : Hid (∀ (W : World) va vc, Rw sthF 3 W va (ctxI p wd).length vc (ctxI p wd) → Calls Tryz.prog 65 #[.slice va (ctxI p wd).length vc, .int .i64 0, .int .i64 (x - 1)] W fun e w' => e = .returned (.int .i64 y) ∧ Below W.heap.size W w') := fun W va vc hr => by
              have := place_any hr (by omega) hok 0 (x - 1) (by omega)
              rw [hy] at this
              exact this
            have hyb : 0 ≤ y ∧ y ≤ 1048832 := by rw [hy0]; split <;> omega
            have hq2 : q = if 1048576 < y + 1 then (0, 24) else (y + 1, 0) := by
              rw [← hq]
              by_cases hxp : x ≤ p
              · have e : y = x - 1 := by rw [hy0, if_pos (by omega)]
                rw [if_pos (.inr hxp), e, if_neg (by omega), show x - 1 + 1 = x by omega]
              · have e : y = x - 1 + wd := by rw [hy0, if_neg (by omega)]
                rw [if_neg (by omega), e, show x - 1 + wd + 1 = x + wd by omega]
            clear hq hpl hy0 hy hok hpp
            obtain ⟨nr, hnr⟩ : ∃ nr, (ctxI p wd).length = nr := ⟨_, rfl⟩
            have ey : IntKind.i64.wrap (y + 1) = y + 1 := IntWalk.i64_in _ (by omega)
            go_wp2_with fail
            refine wp_region_held_drew (S := (fun W => W.cell? ⟨w.heap.size, 0, none⟩ = some (.int .i64 c) ∧ W.cell? ⟨w.heap.size, 1, none⟩ = some (.int .i64 n) ∧ W.cell? ⟨w.heap.size, 2, none⟩ = some (.int .i64 1) ∧ W.cell? ⟨w.heap.size, 3, none⟩ = some (.int .i64 p) ∧ W.cell? ⟨w.heap.size, 4, none⟩ = some (.string s) ∧ W.cell? ⟨w.heap.size, 5, none⟩ = some (.slice a m cap) ∧ W.cell? ⟨w.heap.size, 6, none⟩ = some (.int .i64 tc) ∧ W.cell? ⟨w.heap.size, 7, none⟩ = some (.int .i64 tn) ∧ W.cell? ⟨w.heap.size, 8, none⟩ = some (.bool on))) (by kernel_rfl) ?hS1 (fun hHeld => ?rest1)
            case hS1 => exact box9 hX1
            refine takeD (i := 1) (d := some 30) (v := ?vT2) rfl rfl (by kernel_rfl) (by kernel_rfl) (by kernel_rfl) (fun _ _ _ h => h) (Or.inl ⟨by rfl, ?hyT2⟩) (by assumption) ?rstT2
            case hyT2 => (intro w hSw; (try dsimp only at hSw); go_simp; (try with_reducible rfl))
            try simp only [Act.put, List.setIfInBounds_toArray, List.set_cons_zero, List.set_cons_succ]
            refine takeD (i := 2) (d := some 31) (v := ?vT3) rfl rfl (by kernel_rfl) (by kernel_rfl) (by kernel_rfl) (fun _ _ _ h => h) (Or.inl ⟨by rfl, ?hyT3⟩) (by assumption) ?rstT3
            case hyT3 => (intro w hSw; (try dsimp only at hSw); go_simp; (try with_reducible rfl))
            try simp only [Act.put, List.setIfInBounds_toArray, List.set_cons_zero, List.set_cons_succ]
            refine takeD (i := 3) (d := some 32) (v := ?vT4) rfl rfl (by kernel_rfl) (by kernel_rfl) (by kernel_rfl) (fun _ _ _ h => h) (Or.inl ⟨by rfl, ?hyT4⟩) (by assumption) ?rstT4
            case hyT4 => (intro w hSw; (try dsimp only at hSw); go_simp; (try with_reducible rfl))
            try simp only [Act.put, List.setIfInBounds_toArray, List.set_cons_zero, List.set_cons_succ]
            refine wpAnyH_ready (rs := [0]) (by kernel_rfl) (by simp) ?_
            refine AllReadyH.cons rfl (fun K hK => ?_) AllReadyH.nil
            go_simp
            refine (context_any _).mono ?_
            rintro e w2 ⟨ca, cc, rfl, hrow, hb2⟩
            have hb2 : Below w1.heap.size w1 w2 := (below_drewN (Below.refl _ _) 1).trans hb2
            have hX2 := (hb2.block _ alt1).trans hX1
            clear hHeld
            refine hK.out _ _ ?hS5 (fun hHeld => ?rest5)
            case hS5 => exact box9 hX2
            clear hK K
            try simp only [Act.put, List.setIfInBounds_toArray, List.set_cons_zero, List.set_cons_succ]
            refine wpAnyH_ready (rs := [4]) (by kernel_rfl) (by simp) ?_
            refine AllReadyH.cons rfl (fun K hK => ?_) AllReadyH.nil
            go_simp
            refine (HW.out _).mono ?_
            rintro e w3 ⟨rfl, hb3⟩
            have hrow3 := hrow.below hb3
            have hb13 := hb2.trans (hb3.mono hb2.size)
            have hX3 := (hb13.block _ alt1).trans hX1
            clear hHeld
            refine hK.out _ _ ?hS6 (fun hHeld => ?rest6)
            case hS6 => exact box9 hX3
            clear hK K
            try simp only [Act.put, List.setIfInBounds_toArray, List.set_cons_zero, List.set_cons_succ]
            refine wpAnyH_ready (rs := [5]) (by kernel_rfl) (by simp) ?_
            refine AllReadyH.cons rfl (fun K hK => ?_) AllReadyH.nil
            go_simp
            refine (with_any hrow3 (by omega) ctx_ok 2 p wd (by omega)).mono ?_
            rintro e w4 ⟨va, vc, rfl, ho4, hb4⟩
            have hb14 := hb13.trans (hb4.mono hb13.size)
            have hX4 := (hb14.block _ alt1).trans hX1
            clear hHeld
            refine hK.out _ _ ?hS7 (fun hHeld => ?rest7)
            case hS7 => exact box9 hX4
            clear hK K
            try simp only [Act.put, List.setIfInBounds_toArray, List.set_cons_zero, List.set_cons_succ]
            refine takeD (i := 6) (d := some 7) (v := ?vT8) rfl rfl (by kernel_rfl) (by kernel_rfl) (by kernel_rfl) (fun _ _ _ h => h) (Or.inl ⟨by rfl, ?hyT8⟩) (by assumption) ?rstT8
            case hyT8 => (intro w hSw; (try dsimp only at hSw); go_simp; (try with_reducible rfl))
            try simp only [Act.put, List.setIfInBounds_toArray, List.set_cons_zero, List.set_cons_succ]
            refine wpAnyH_done (by kernel_rfl) ?_ _
            have hrow4 := ho4.rw_ layH
            clear ho4 hrow hrow3 hb2 hb3 hb4 hb13 hHeld ak0 ak1 ak2 ak3 ak4 ak5 ak6 ak7 ak8
            have hB4 := hB1.trans (hb14.mono hB1.size)
            go_wp2_with fail
            refine (HP.out _ _ _ hrow4).mono ?_
            rintro e w5 ⟨rfl, hb5⟩
            have hB5 := hB4.trans (hb5.mono hB4.size)
            clear hb5 HP HW hrow4 hb14 hB4
            by_cases hg : 1048576 < y + 1
            · rw [if_pos hg] at hq2
              subst hq2
              go_wp2_with fail
              go_ret2
              exact ⟨rfl, hB5⟩
            · rw [if_neg hg] at hq2
              subst hq2
              have t4 : decide (1048576 < y + 1) = false := decide_eq_false hg
              go_wp2_with fail
              go_ret2
              exact ⟨rfl, hB5⟩
        · rw [if_pos (.inl hk)] at hq
          subst hq
          have t3 : (k == 1) = false := beq_eq_false_iff_ne.2 hk
          have t4 : decide (k = 1) = false := decide_eq_false hk
          go_wp2_with fail
          go_ret2
          exact ⟨rfl, hB1⟩
  · rw [if_pos hz] at hq
    subst hq
    have t3 : (z == 0) = false := beq_eq_false_iff_ne.2 hz
    have t4 : decide (z = 0) = false := decide_eq_false hz
    go_wp2_with fail
    go_ret2
    exact ⟨rfl, hB1⟩
end Go.Proofs.YtmeciikfnbbllaaGreatDoor
