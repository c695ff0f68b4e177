import Derived.Test.YthkfcocakhekaaaDoorXeP
namespace Go.Proofs.YthkfcocakhekaaaDoor
open Go.RowKit Go.Lib
set_option maxRecDepth 100000

theorem box7' {W : World} {b : Nat} {T : TypeId} {v0 v1 v2 v3 v4 v5 v6 : Value} (h : W.heap[b]? = some (.cells #[v0, v1, v2, v3, v4, v5, v6] T)) :
    W.cell? ⟨b, 0, none⟩ = some v0 ∧ W.cell? ⟨b, 1, none⟩ = some v1 ∧ W.cell? ⟨b, 2, none⟩ = some v2 ∧ W.cell? ⟨b, 3, none⟩ = some v3 ∧ W.cell? ⟨b, 4, none⟩ = some v4 ∧ W.cell? ⟨b, 5, none⟩ = some v5 ∧ W.cell? ⟨b, 6, none⟩ = some v6 := by
  simp only [Lib.cell_of_heap h]
  exact ⟨rfl, rfl, rfl, rfl, rfl, rfl, rfl⟩
set_option maxHeartbeats 8000000 in
theorem caretStays_any (len i j : Int) (e : Bool) (a1 a2 a6 : Option Addr) (m1 m2 m6 cap1 cap2 cap6 : Nat) (w : World) (hB : Bar w) (hT : Txs w) {S : List SpecM} (hS : Rw specF 5 w a1 m1 cap1 S) (hO : OkSpecs w S) :
    Calls Tryd.prog 3 #[.agg #[.int .i64 len, .slice a1 m1 cap1, .slice a2 m2 cap2, .int .i64 i, .int .i64 j, .bool e, .slice a6 m6 cap6]] w fun r w' => r = .returned (.bool true) ∧ Below w.heap.size w w' := by
  have HG : Tryd.prog.eqGuardType Tryd.prog.depth 35 = false := by kernel_rfl
  obtain ⟨n, hn⟩ : ∃ n : Nat, len % 30 = (n : Int) := ⟨(len % 30).toNat, by omega⟩
  have hn30 : n < 30 := by omega
  obtain ⟨c, hc⟩ : ∃ k : Nat, i % ((n : Int) + 1) = (k : Int) := ⟨(i % ((n : Int) + 1)).toNat, by have := Int.emod_nonneg i (show (n : Int) + 1 ≠ 0 by omega); omega⟩
  have hcn : c ≤ n := by have := Int.emod_lt_of_pos i (show 0 < (n : Int) + 1 by omega); omega
  have HW1 : Hid (∀ W, Calls Tryd.prog 9 #[.int .i64 len, .int .i64 30] W fun e w' => e = .returned (.int .i64 (n : Int)) ∧ W = w') := fun W => by rw [← hn]; exact (within_any len 30 (by omega) (by omega) W).mono fun e w' h => ⟨h.1, h.2.symm⟩
  have HW2 : Hid (∀ W, Calls Tryd.prog 9 #[.int .i64 i, .int .i64 ((n : Int) + 1)] W fun e w' => e = .returned (.int .i64 (c : Int)) ∧ W = w') := fun W => by rw [← hc]; exact (within_any i _ (by omega) (by omega) W).mono fun e w' h => ⟨h.1, h.2.symm⟩
  have HN : Hid (∀ W, Calls Tryd.prog 14 #[.int .i64 0] W fun r w' => r = .returned (.int .i64 0) ∧ W = w') := fun W => (num_any 0 W).mono fun e w' h => ⟨h.1, h.2.symm⟩
  obtain ⟨R, hRe⟩ : ∃ R : List CellW, ((List.range n).map fun i => (((0, 0), ((i : Nat) : Int), 0) : CellW)) = R := ⟨_, rfl⟩
  have hRl : R.length = n := by rw [← hRe]; simp
  have HR0 : Hid (∀ k : Nat, k < n → R[k]? = some ((0, 0), (k : Int), 0)) := fun k hk => by rw [← hRe, List.getElem?_map, List.getElem?_range hk]; rfl
  have HSm : Hid (Small 0 R) := fun x hx => by
    rw [← hRe] at hx
    obtain ⟨k, _, rfl⟩ := List.mem_map.1 hx
    simp
  have HRow : Hid (∀ W, Calls Tryd.prog 10 #[.int .i64 (n : Int)] W fun e w' => ∃ (va : Option Addr) (vm vc : Nat), e = .returned (.slice va vm vc) ∧ Rw cellW 4 w' va vm vc R ∧ Below W.heap.size W w') := fun W => by
    refine (row_any n (by omega) W).mono ?_
    rintro e2 w1 ⟨v, rfl, ho, hb⟩
    rw [hRe] at ho
    obtain ⟨xa, xc, rfl⟩ := ho.shape
    exact ⟨_, _, _, rfl, ho.rw_ layW, hb⟩
  have HRun : Hid (∀ W, Below w.heap.size w W → Calls Tryd.prog 11 #[.slice a1 m1 cap1, .int .i64 1, .int .i64 (n : Int)] W fun e w' => ∃ va vm vc L, e = .returned (.slice va vm vc) ∧ OwnF opF 9 41 w' W.heap.size (.slice va vm vc) L ∧ OwnRs w' W.heap.size L ∧ RunOk 1 0 n (L.map (·.1)) ∧ L.length ≤ 12 ∧ Below W.heap.size W w') := fun W hb => run_any (hS.below hb) (fun x hx => by obtain ⟨zs, hz⟩ := hO x hx; exact ⟨zs, hz.below hb⟩) (by omega) (hT.below hb)
  have HBar : Hid (∀ W, Below w.heap.size w W → Bar W) := fun W hb => hB.below hb
  have HIns : Hid (∀ W, Calls Tryd.prog 16 #[.int .i64 1, .int .i64 1, .int .i64 2, .string ⟨#[120]⟩] W fun e w' => e = .returned (opVal ⟨1, 1, 1, 2, ⟨#[120]⟩, [], 0, 0, false⟩ (.slice none 0 0)) ∧ Below W.heap.size W w') := fun W => ins_any 1 1 2 ⟨#[120]⟩ W
  have HC3 : Hid (∀ W, Below w.heap.size w W → Calls Tryd.prog 12 #[.int .i64 3, opVal ⟨1, 1, 1, 2, ⟨#[120]⟩, [], 0, 0, false⟩ (.slice none 0 0)] W fun e w' => e = .returned (.tuple #[.int .i64 4, .int .i64 0]) ∧ Below W.heap.size W w') := fun W hb => by
    have := Caret_any (o := ⟨1, 1, 1, 2, ⟨#[120]⟩, [], 0, 0, false⟩) (x := 3) (a := none) (m := 0) (cap := 0) (w := W) (rng_of_rw (rw_nil W)) (by show (⟨#[120]⟩ : ByteArray).size ≤ _; decide) (hB.below hb)
    rw [show caretP 3 ⟨1, 1, 1, 2, ⟨#[120]⟩, [], 0, 0, false⟩ = (4, 0) by decide +kernel] at this
    exact this
  have e1 : IntKind.i64.wrap ((n : Int) + 1) = (n : Int) + 1 := IntWalk.i64_in _ (by omega)
  clear hn hc hT hS hO hB hRe
  obtain ⟨W0, hW0⟩ : ∃ W0, w.alloc (Obj.cells #[.int .i64 len, .slice a1 m1 cap1, .slice a2 m2 cap2, .int .i64 i, .int .i64 j, .bool e, .slice a6 m6 cap6] 25) = W0 := ⟨_, rfl⟩
  have hX : W0.heap[w.heap.size]? = some (Obj.cells #[.int .i64 len, .slice a1 m1 cap1, .slice a2 m2 cap2, .int .i64 i, .int .i64 j, .bool e, .slice a6 m6 cap6] 25) := by rw [← hW0]; exact alloc_last _ _ _ rfl
  have hB0 : Below w.heap.size w W0 := by rw [← hW0]; exact (Below.refl w.heap.size w).alloc (Nat.le_refl _) _
  have alt : w.heap.size < W0.heap.size := (Array.getElem?_eq_some_iff.1 hX).1
  obtain ⟨k0, k1, k2, k3, k4, k5, k6⟩ := box7' hX
  go_enter Tryd.func3, Tryd.ntmps3
  go_wp2_with fail
  refine (HW1.out _).mono ?_
  rintro e2 w1 ⟨rfl, rfl⟩
  go_wp2_with fail
  refine (HRow.out _).mono ?_
  rintro e2 w2 ⟨ra, rm, rc, rfl, hrw, hb2⟩
  have hX2 := (hb2.block _ alt).trans hX
  have hB2 := hB0.trans (hb2.mono hB0.size)
  have alt2 : w.heap.size < w2.heap.size := (Array.getElem?_eq_some_iff.1 hX2).1
  clear k0 k1 k2 k3 k4 k5 k6 hX hb2 hW0 hB0 alt
  obtain ⟨k0, k1, k2, k3, k4, k5, k6⟩ := box7' hX2
  go_wp2_with fail
  refine (HW2.out _).mono ?_
  rintro e2 w3 ⟨rfl, rfl⟩
  go_wp2_with fail
  refine (HRun.out _ hB2).mono ?_
  rintro e2 w4 ⟨la, lm, lc, L, rfl, hol, hrs, hrun, h12, hb4⟩
  have hB4 := hB2.trans (hb4.mono hB2.size)
  have hRw4 := hrw.below hb4
  have hlw := hol.rw_ layO
  have hll := hlw.len
  obtain ⟨hfo, hat⟩ := run_at (.inl rfl) (L.map (·.1)) 0 R 0 (by rw [hRl]; exact hrun) (by omega) HSm.out (by rw [hRl, List.length_map]; omega) (by rw [List.length_map]; omega) (by rw [List.length_map]; omega)
  have HL : Hid (Rw opF 9 w4 la lm lc L) := hlw
  have HRs : Hid (OwnRs w4 w2.heap.size L) := hrs
  have HAT : Hid (∀ j o, (L.map (·.1))[j]? = some o → Made 1 (((0 + j : Nat) : Int) + 1) (foldV R ((L.map (·.1)).take j)).length o ∧ (foldV R ((L.map (·.1)).take j)).length ≤ 900) := hat
  have HRW : Hid (Rw cellW 4 w4 ra rm rc R) := hRw4
  have HOK : Hid (OkOps w4 L) := fun x hx => by
    obtain ⟨xa, xm, xc, e3, hr⟩ := (hrs x hx).rd
    cases e3
    refine ⟨hr, ?_⟩
    obtain ⟨j, hj⟩ := List.getElem?_of_mem hx
    have := (hat j x.1 (by rw [List.getElem?_map, hj]; rfl)).1.size
    omega
  have HFO : Hid (FoldOk R (L.map (·.1))) := hfo
  have HC0 : Hid (CarS R c c) := ⟨by omega, by
    rcases Nat.eq_zero_or_pos c with h0 | h0
    · exact .inl ⟨h0, h0⟩
    · refine .inr ⟨h0, h0, 0, ?_⟩
      rw [HR0.out (c - 1) (by omega)]
      simp only [Option.some.injEq, Prod.mk.injEq, and_true, true_and]
      omega⟩
  clear hrw hRw4 hol hrs hrun hlw hfo hat k0 k1 k2 k3 k4 k5 k6 hX2 hb4 HW1 HW2 HRow HRun HSm HR0
  have hlm : lm ≤ 12 := by omega
  go_wp2_with fail
  go_loopw [7, 8, 9, 10] (fun vg vi v9 v10 W => ∃ (q g : Nat), vi = .int .i64 (q : Int) ∧ vg = .int .i64 (g : Int) ∧ q ≤ lm ∧ Hid (CarS (foldV R ((L.map (·.1)).take q)) c g) ∧ Below w4.heap.size w4 W) (fun _ vi _ _ _ => lm - (RowKit.intOf vi).toNat)
  case atStart => exact ⟨0, c, rfl, rfl, Nat.zero_le _, HC0, Below.refl _ _⟩
  case round =>
    obtain ⟨q, g, rfl, rfl, hq, HC, hb⟩ := hrel
    by_cases hlt : q < lm
    · obtain ⟨g0, off, x, rfl, hg0, hx, c0, c1, c2, c3, c4, c5, c6, c7, c8⟩ := HL.out.at9 hb q hlt
      have hxo : (L.map (·.1))[q]? = some x.1 := by rw [List.getElem?_map, hx]; rfl
      obtain ⟨hmd, h900⟩ := HAT.out q x.1 hxo
      have hid : isIdP 1 (((0 + q : Nat) : Int) + 1) = true := by unfold isIdP; rw [decide_eq_true_iff]; omega
      obtain ⟨g', hcar, hcs⟩ := caret_step hid (by decide) h900 hmd HC.out
      rw [← foldV_next R (L.map (·.1)) q x.1 hxo] at hcs
      have HCS : Hid (CarS (foldV R ((L.map (·.1)).take (q + 1))) c g') := hcs
      have hrx := ((HOK.out x (List.mem_of_getElem? hx)).1).below hb
      have hlx : x.1.l.length ≤ 900 := by
        rcases hmd.kind with ⟨p, i, _, _, e3⟩ | ⟨k, on, _, e3⟩ | ⟨k, l, _, _, e3, _, _, _, hL⟩
        · rw [e3]; simp [insV]
        · rw [e3]; simp
        · rw [e3]; simp only; omega
      have hsx := hmd.size
      have hmx : x.2.2.1 ≤ 1000000000 := by have := hrx.len; omega
      have HCp : Hid (Calls Tryd.prog 13 #[opVal x.1 (.slice x.2.1 x.2.2.1 x.2.2.2)] wr fun e w' => ∃ a' cap', e = .returned (opVal x.1 (.slice a' x.2.2.1 cap')) ∧ Sp.Rng w' a' x.2.2.1 cap' x.1.l ∧ Below wr.heap.size wr w') := (copy_any hrx hmx).mono fun e2 w5 ⟨a', cap', he, ho, hb5⟩ => ⟨a', cap', he, rng_of_rw (ho.rw_ layG), hb5⟩
      have HCa : Hid (∀ W a' cap', Sp.Rng W a' x.2.2.1 cap' x.1.l → Below w.heap.size w W → Calls Tryd.prog 12 #[.int .i64 (g : Int), opVal x.1 (.slice a' x.2.2.1 cap')] W fun e w' => e = .returned (.tuple #[.int .i64 (g' : Int), .int .i64 0]) ∧ Below W.heap.size W w') := fun W a' cap' hr hbW => by
        have := Caret_any (x := (g : Int)) hr (by omega) (HBar.out W hbW)
        rw [hcar] at this
        exact this
      have hbw := hB4.trans (hb.mono hB4.size)
      clear hmd h900 hid hcar hcs hrx hlx hsx hmx hx hxo
      obtain ⟨⟨oc, on_, ok, op_, os, ol, otc, otn, oo⟩, xa, xm, xcap⟩ := x
      simp only [opVal] at *
      have b1 : (q : Int) < (lm : Int) := by omega
      have b0 : (0 : Int) ≤ (q : Int) := by omega
      go_wp2_with fail
      refine HCp.out.mono ?_
      rintro e2 w5 ⟨ya, yc, rfl, hry, hb5⟩
      have HCb := HCa.out w5 ya yc hry (hbw.trans (hb5.mono hbw.size))
      have hb6 := hb.trans (hb5.mono hb.size)
      clear c0 c1 c2 c3 c4 c5 c6 c7 c8 HCp HCa hry hb5 hbw
      go_wp2_with fail
      refine HCb.mono ?_
      rintro e2 w6 ⟨rfl, hb7⟩
      have hb8 := hb6.trans (hb7.mono hb6.size)
      clear HCb hb6 hb7
      go_wp2_with fail
      refine (HN.out _).mono ?_
      rintro e2 w7 ⟨rfl, rfl⟩
      go_wp2_with fail
      go_roundw
      case rel => exact ⟨q + 1, g', by go_num, rfl, by omega, HCS, hb8⟩
      case measure => simp [RowKit.intOf]; omega
    · obtain rfl : q = lm := by omega
      have etk : (L.map (·.1)).take q = L.map (·.1) := List.take_of_length_le (by rw [List.length_map]; omega)
      rw [etk] at HC
      have hbw := hB4.trans (hb.mono hB4.size)
      have HF : Hid (Calls Tryd.prog 15 #[.slice ra rm rc, .slice la q lc] wr fun e w' => ∃ (a' : Option Addr) (m' cap' : Nat), e = .returned (.tuple #[.slice a' m' cap', .bool true]) ∧ Rw cellW 4 w' a' m' cap' (foldV R (L.map (·.1))) ∧ Below wr.heap.size wr w') := fold_any (HRW.out.below hb) (HL.out.below hb) (HOK.out.below hb) HFO.out
      have b1 : decide ((q : Int) < (q : Int)) = false := decide_eq_false (by omega)
      generalize foldV R (L.map (·.1)) = X at *
      clear HRW HL HOK HFO HAT HRs etk
      go_wp2_with fail
      refine HF.out.mono ?_
      rintro e2 w5 ⟨fa, fm, fc, rfl, hfw, hb5⟩
      have hbw5 := hbw.trans (hb5.mono hbw.size)
      clear HF hb5 hbw hb
      simp only [opVal] at *
      go_wp2_with fail
      refine (HIns.out _).mono ?_
      rintro e2 w6 ⟨rfl, hb6⟩
      have hbw6 := hbw5.trans (hb6.mono hbw5.size)
      have hfw6 := hfw.below hb6
      go_wp2_with fail
      refine (HC3.out _ hbw6).mono ?_
      rintro e2 w7 ⟨rfl, hb7⟩
      have hbw7 := hbw6.trans (hb7.mono hbw6.size)
      have hfw7 := hfw6.below hb7
      clear hb6 hb7 hbw5 hbw6 hfw hfw6 HIns HC3
      go_wp2_with fail
      refine (HN.out _).mono ?_
      rintro e2 w8 ⟨rfl, rfl⟩
      obtain ⟨hgX, hCC⟩ := HC.out
      rcases hCC with ⟨rfl, rfl⟩ | ⟨hc0, hg0, hh, hget⟩
      · clear HC hgX
        go_wp2_with fail
        go_ret
        exact ⟨rfl, hbw7⟩
      · have hXl := hfw7.len
        have hXr := hfw7.room
        simp only [maxLen] at hXr
        obtain ⟨g1, hg1⟩ : ∃ k : Nat, g - 1 = k := ⟨_, rfl⟩
        obtain ⟨c1, hc1⟩ : ∃ k : Nat, c - 1 = k := ⟨_, rfl⟩
        obtain ⟨gx, ox, y, rfl, hgx, hy, hcl⟩ := hfw7.at g1 (by omega)
        rw [hg1] at hget
        rw [hget] at hy
        cases hy
        have x0 := hcl 0 _ rfl
        have x1 := hcl 1 _ rfl
        have x2 := hcl 2 _ rfl
        simp only [Nat.add_zero] at x0
        rw [show (c : Int) - 1 = (c1 : Int) by omega] at x2
        have w1 : IntKind.i64.wrap ((g : Int) - 1) = (g1 : Int) := by rw [IntWalk.i64_in _ (by omega)]; omega
        have w2' : IntKind.i64.wrap ((c : Int) - 1) = (c1 : Int) := by rw [IntWalk.i64_in _ (by omega)]; omega
        have t1 : ((c : Int) == 0) = false := beq_eq_false_iff_ne.2 (by omega)
        have t1' : (c == 0) = false := beq_eq_false_iff_ne.2 (by omega)
        have t2 : (0 : Int) < (g : Int) := by omega
        have t3 : (g : Int) ≤ (fm : Int) := by omega
        have t4 : (g1 : Int) < (fm : Int) := by omega
        have t5 : (0 : Int) ≤ (g1 : Int) := by omega
        have eqi : ∀ W, (Op.equalIn 10000 35 (.agg #[.int .i64 0, .int .i64 0]) (.agg #[.int .i64 0, .int .i64 0])).run Tryd.prog W = .ok true W := fun W => by rw [run_eqID]; simp
        clear hcl hget HC hfw7 hgX hXl
        go_wp2_with fail
        go_ret
        exact ⟨rfl, hbw7⟩
end Go.Proofs.YthkfcocakhekaaaDoor
