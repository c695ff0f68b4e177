import Derived.Test.YtggdocnnbgcniaaDoorTxtF
import Derived.ProofKit
import Derived.OpenShut
import Derived.Deep.DeepHandedRow
import Derived.Lib.LaidTab
import Derived.Test.YtggdocnnbgcniaaDoorQfA
import Derived.Test.YtggdocnnbgcniaaDoorQcDH
import Derived.Test.YtggdocnnbgcniaaDoorQeBE
import Derived.Test.YtggdocnnbgcniaaDoorQeAD
import Derived.Test.YtggdocnnbgcniaaDoorOpLR
import Derived.SizedLaws
namespace Go.Proofs.YtggdocnnbgcniaaDoor
open Go.ChangeShapes Go.WideShapes Go.ChangeAt Go.RowKit

theorem own : ownKnob Tryd.prog.godebug = none := by kernel_rfl
theorem gBar : Tryd.prog.globalNamed "redraft/utext.barred" = some 0 := by kernel_rfl
theorem gBarType : (Tryd.prog.globals[0]?).map (·.type) = some 148 := by kernel_rfl
theorem cellsArr : Tryd.prog.cellsOf 148 = 10 := by kernel_rfl
theorem cellsStr : Tryd.prog.cellsOf 147 = 2 := by kernel_rfl
theorem cells32 : Tryd.prog.cellsOf 21 = 1 := by kernel_rfl

theorem pairCells {H : Type} {enc : TypeId × Value → H} {W : World} {base m : Nat} {sp : Nat → Bool} {held : Bool} {l : List Value} {lo hi : Int} {p : List MemPlace}
    (h : DataW.trod enc Tryd.prog W base sp held m 147 l = some (.agg [.lit (.int .i32 lo), .lit (.int .i32 hi)], p)) : l = [.int .i32 lo, .int .i32 hi] := by
  obtain ⟨y0, y1, n, hx, hl, h0, h1⟩ := trod_struct2 Tryd.underlying147 h
  rw [cellsStr] at hl
  simp only [cells32] at h0 h1
  obtain ⟨a, e0, f0, _⟩ := DataW.trod_int Tryd.underlying21 h0
  obtain ⟨b, e1, f1, _⟩ := DataW.trod_int Tryd.underlying21 h1
  subst f0 f1
  simp only [Prod.mk.injEq, DataW.agg.injEq, List.cons.injEq, DataW.lit.injEq, Lit.int.injEq] at hx
  obtain ⟨⟨⟨_, ra⟩, ⟨_, rb⟩, _⟩, _⟩ := hx
  subst ra rb
  match l, hl, e0, e1 with
  | [x, y], _, e0, e1 =>
    simp at e0 e1
    simp [e0, e1]

/-- WHAT THE ROW's LIST GIVES: the table's block. -/
theorem table {W : World} {cs0 : Array Value} {f0 : Nat} {p0 : List MemPlace} (hv0 : World.var? Tryd.prog W "redraft/utext.barred" = some cs0)
    (hd0 : DataW.trod (fun _ => ()) Tryd.prog W 0 (fun _ => true) false f0 148 cs0.toList = some (.agg [.agg [.lit (.int .i32 0), .lit (.int .i32 8)], .agg [.lit (.int .i32 11), .lit (.int .i32 31)], .agg [.lit (.int .i32 127), .lit (.int .i32 159)], .agg [.lit (.int .i32 64976), .lit (.int .i32 65007)], .agg [.lit (.int .i32 65279), .lit (.int .i32 65279)]], p0)) :
    ∃ t fr, W.heap[0]? = some (.cells barCells t fr) := by
  obtain ⟨xs, m, _, hx, hlen, hn, hel⟩ := DataW.trod_array Tryd.underlying148 hd0
  rw [cellsArr] at hlen
  rw [cellsStr] at hel
  have hcs : cs0.toList = barCells.toList := by
    match xs, hn, hx with
    | [x0, x1, x2, x3, x4], _, hx =>
      simp only [Prod.mk.injEq, DataW.agg.injEq, List.map_cons, List.map_nil, List.cons.injEq] at hx
      obtain ⟨⟨r0, r1, r2, r3, r4, _⟩, _⟩ := hx
      have q0 := pairCells ((hel 0 (by decide)).trans (congrArg some (Prod.ext r0.symm rfl)))
      have q1 := pairCells ((hel 1 (by decide)).trans (congrArg some (Prod.ext r1.symm rfl)))
      have q2 := pairCells ((hel 2 (by decide)).trans (congrArg some (Prod.ext r2.symm rfl)))
      have q3 := pairCells ((hel 3 (by decide)).trans (congrArg some (Prod.ext r3.symm rfl)))
      have q4 := pairCells ((hel 4 (by decide)).trans (congrArg some (Prod.ext r4.symm rfl)))
      generalize cs0.toList = l at *
      match l, hlen, q0, q1, q2, q3, q4 with
      | [c0, c1, c2, c3, c4, c5, c6, c7, c8, c9], _, q0, q1, q2, q3, q4 =>
        simp at q0 q1 q2 q3 q4
        simp [barCells, q0, q1, q2, q3, q4]
  have hcs' : cs0 = barCells := Array.toList_inj.1 hcs
  subst hcs'
  unfold World.var? at hv0
  rw [gBar] at hv0
  simp only [Option.bind_some] at hv0
  split at hv0
  · rename_i c t fr he
    refine ⟨t, fr, ?_⟩
    rw [he]
    simp only [Option.some.injEq] at hv0
    rw [hv0]
  · cases hv0
end Go.Proofs.YtggdocnnbgcniaaDoor

/-! OpRefused. -/
namespace Go.Proofs.YtggdocnnbgcniaaDoor
open Go.RowKit Go.Lib
set_option maxRecDepth 100000

/-- A step in memory. -/
structure StepV where
  k : Int
  o : OpV
  a : Option Addr
  m : Nat
  cap : Nat
  o2 : OpV
  a2 : Option Addr
  m2 : Nat
  cap2 : Nat
  tot : Int
  ln : ByteArray
def stepF (x : StepV) : List Value := [.int .i64 x.k, .int .i64 x.o.c, .int .i64 x.o.n, .int .i64 x.o.k, .int .i64 x.o.p, .string x.o.s, .slice x.a x.m x.cap, .int .i64 x.o.tc, .int .i64 x.o.tn, .bool x.o.on, .int .i64 x.o2.c, .int .i64 x.o2.n, .int .i64 x.o2.k, .int .i64 x.o2.p, .string x.o2.s, .slice x.a2 x.m2 x.cap2, .int .i64 x.o2.tc, .int .i64 x.o2.tn, .bool x.o2.on, .int .i64 x.tot, .string x.ln]
theorem layS : Lay stepF 21 := ⟨fun _ => rfl, by decide, fun x u hu => by
  simp only [stepF, List.mem_cons, List.not_mem_nil, or_false] at hu
  rcases hu with h | h | h | h | h | h | h | h | h | h | h | h | h | h | h | h | h | h | h | h | h <;> (subst h; rfl)⟩
/-- A step whose first operation can be read. -/
def StepOk (W : World) (x : StepV) : Prop := Sp.Rng W x.a x.m x.cap x.o.l ∧ x.m * 16 ≤ 140737488351232 ∧ x.o.s.size ≤ 9223372036854775807
set_option maxHeartbeats 16000000 in
theorem opRefused_any {w : World} {aC : Option Addr} {nC cC : Nat} {zs : List (Int × Int)} (hC : Rw cellV 2 w aC nC cC zs) {aS : Option Addr} {nS cS : Nat} {L : List StepV} (hS : Rw stepF 21 w aS nS cS L) (hok : ∀ x ∈ L, StepOk w x) (hBar : Bar w) (hPow : Pow w) (hDeb : Deb w) :
    Calls Tryd.prog 4 #[.agg #[.slice aC nC cC, .slice aS nS cS]] w fun e w' => e = .returned (.bool true) ∧ Below w.heap.size w w' := by
  go_enter Tryd.func4, Tryd.ntmps4
  go_wp2_with fail
  generalize hWB : w.alloc (Obj.cells #[.slice aC nC cC, .slice aS nS cS] 60) = WB
  have hB0 : Below w.heap.size w WB := hWB ▸ (Below.refl w.heap.size w).alloc (Nat.le_refl _) _
  have hbp : WB.heap[w.heap.size]? = some (.cells #[.slice aC nC cC, .slice aS nS cS] 60) := hWB ▸ alloc_last _ _ _ rfl
  clear hWB
  refine (opFixed_any WB (hBar.below hB0) (hPow.below hB0) (hDeb.below hB0)).mono ?_
  rintro e wf ⟨rfl, hbf⟩
  have hBf : Below w.heap.size w wf := hB0.trans (hbf.mono hB0.size)
  have hbpf := (hbf.block _ (Array.getElem?_eq_some_iff.1 hbp).1).trans hbp
  have hCf := hC.below hBf
  clear hC hbf hbp hB0
  have pf0 : wf.cell? ⟨w.heap.size, 0, none⟩ = some (.slice aC nC cC) := by rw [Lib.cell_of_heap hbpf]; rfl
  go_wp2_with fail
  refine (made_any hCf).mono ?_
  rintro e w0 ⟨v1, rfl, ho1, hb1⟩
  obtain ⟨a1, c1, rfl⟩ := ho1.shape
  have HR := runsW_any (ho1.rw_ layC) (Nat.le_trans (madeP_len zs) (by decide)) (madeP_ok zs) (madeP_cnt zs)
  have hB1 : Below w.heap.size w w0 := hBf.trans (hb1.mono hBf.size)
  have hbp1 := (hb1.block _ (Array.getElem?_eq_some_iff.1 hbpf).1).trans hbpf
  have HML := madeP_len zs
  have HMO : Hid (∀ c ∈ madeP zs, okR c.1) := madeP_ok zs
  clear ho1 hb1 hbpf hBf hCf pf0
  generalize madeP zs = M at *
  go_wp2_with fail
  refine HR.mono ?_
  rintro e w2 ⟨v2, L2, rfl, ho2, hF, hcl, hb2⟩
  obtain ⟨a2, c2, rfl⟩ := ho2.shape
  have hB2 : Below w.heap.size w w2 := hB1.trans (hb2.mono hB1.size)
  have hbp2 := (hb2.block _ (Array.getElem?_eq_some_iff.1 hbp1).1).trans hbp1
  have HFR := from_any (ho2.rw_ layR) hF (hBar.below hB2)
  have HLA : Hid (∀ W q, (∃ t ts, RopeAt W q t ∧ Built ts t ∧ Parts L2 ts) → Below w2.heap.size w2 W → Holds w2 q M W) := fun W q ⟨t, ts, k1, k2, k3⟩ hb => by
    obtain ⟨e1, e2⟩ := from_rp hF k2 k3
    exact ⟨t, k1, e2, e1.trans hcl, hb⟩
  have HB2 : Hid (Below w.heap.size w w2) := hB2
  have HBAR : Hid (Bar w2) := hBar.below hB2
  have hs0 := hB2.size
  have hs1 := (Array.getElem?_eq_some_iff.1 hbp2).1
  have HBP : Hid (∀ W, Below w2.heap.size w2 W → W.cell? ⟨w.heap.size, 1, none⟩ = some (.slice aS nS cS)) := fun W hb => by
    have := (hb.block _ hs1).trans hbp2
    rw [Lib.cell_of_heap this]
    rfl
  have HS : Hid (Rw stepF 21 w2 aS nS cS L) := hS.below hB2
  have HOK : Hid (∀ x ∈ L, StepOk w2 x) := fun x hx => by obtain ⟨h1, h2, h3⟩ := hok x hx; exact ⟨h1.below hB2, h2, h3⟩
  have hnS := hS.room
  clear hbp1 hbp2 ho2 hF hcl hb2 hB1 hB2 hS hok hBar hPow hDeb HR
  go_wp2_with fail
  refine HFR.mono ?_
  rintro e w3 ⟨q, t, ts, rfl, hRp, hBt, hPt, hb3, hq3⟩
  have hH0 := HLA.out _ q ⟨t, ts, hRp, hBt, hPt⟩ hb3
  clear HLA HFR hRp hBt hPt hb3
  unfold ptr
  go_wp2_with fail
  go_loopw [6] (fun vi W => ∃ (i : Nat) (R : List (Int × Int)), vi = .int .i64 (i : Int) ∧ i ≤ 60 ∧ Holds w2 q R W ∧ (∀ c ∈ R, okR c.1) ∧ R.length ≤ 400 + 256 * i) (fun vi _ => 60 - (RowKit.intOf vi).toNat)
  case atStart => exact ⟨0, M, rfl, by omega, hH0, HMO.out, by omega⟩
  case round =>
    obtain ⟨i, R, rfl, hi60, hH, hO, hlen⟩ := hrel
    have p1 := HBP.out _ hH.below
    by_cases hin : i < nS ∧ i < 60
    · obtain ⟨hin1, hin2⟩ := hin
      have b1 : (i : Int) < (nS : Int) := by omega
      have b2 : (i : Int) < 60 := by omega
      obtain ⟨g, off, x, rfl, hg, hx, hc⟩ := HS.out.at i hin1
      obtain ⟨hrx, hmx, hsx⟩ := HOK.out _ (List.mem_of_getElem? hx)
      obtain ⟨xk, ⟨c, n, k, p, s, l, tc, tn, on⟩, a, m, cap, xo2, xa2, xm2, xc2, xt, xl⟩ := x
      simp only at hrx hmx hsx
      have k1 := ((hH.below.cell (p := ⟨g, off + i * 21 + 1, none⟩) hg).trans (hc 1 _ rfl))
      have k2 := ((hH.below.cell (p := ⟨g, off + i * 21 + 2, none⟩) hg).trans (hc 2 _ rfl))
      have k3 := ((hH.below.cell (p := ⟨g, off + i * 21 + 3, none⟩) hg).trans (hc 3 _ rfl))
      have k4 := ((hH.below.cell (p := ⟨g, off + i * 21 + 4, none⟩) hg).trans (hc 4 _ rfl))
      have k5 := ((hH.below.cell (p := ⟨g, off + i * 21 + 5, none⟩) hg).trans (hc 5 _ rfl))
      have k6 := ((hH.below.cell (p := ⟨g, off + i * 21 + 6, none⟩) hg).trans (hc 6 _ rfl))
      have k7 := ((hH.below.cell (p := ⟨g, off + i * 21 + 7, none⟩) hg).trans (hc 7 _ rfl))
      have k8 := ((hH.below.cell (p := ⟨g, off + i * 21 + 8, none⟩) hg).trans (hc 8 _ rfl))
      have k9 := ((hH.below.cell (p := ⟨g, off + i * 21 + 9, none⟩) hg).trans (hc 9 _ rfl))
      have kk2 : wr.cell? ⟨g, off + i * 21 + 1 + 1, none⟩ = _ := (congrArg (fun z => wr.cell? ⟨g, z, none⟩) (show off + i * 21 + 1 + 1 = off + i * 21 + 2 by omega)).trans k2
      have kk3 : wr.cell? ⟨g, off + i * 21 + 1 + 2, none⟩ = _ := (congrArg (fun z => wr.cell? ⟨g, z, none⟩) (show off + i * 21 + 1 + 2 = off + i * 21 + 3 by omega)).trans k3
      have kk4 : wr.cell? ⟨g, off + i * 21 + 1 + 3, none⟩ = _ := (congrArg (fun z => wr.cell? ⟨g, z, none⟩) (show off + i * 21 + 1 + 3 = off + i * 21 + 4 by omega)).trans k4
      have kk5 : wr.cell? ⟨g, off + i * 21 + 1 + 4, none⟩ = _ := (congrArg (fun z => wr.cell? ⟨g, z, none⟩) (show off + i * 21 + 1 + 4 = off + i * 21 + 5 by omega)).trans k5
      have kk6 : wr.cell? ⟨g, off + i * 21 + 1 + 5, none⟩ = _ := (congrArg (fun z => wr.cell? ⟨g, z, none⟩) (show off + i * 21 + 1 + 5 = off + i * 21 + 6 by omega)).trans k6
      have kk7 : wr.cell? ⟨g, off + i * 21 + 1 + 6, none⟩ = _ := (congrArg (fun z => wr.cell? ⟨g, z, none⟩) (show off + i * 21 + 1 + 6 = off + i * 21 + 7 by omega)).trans k7
      have kk8 : wr.cell? ⟨g, off + i * 21 + 1 + 7, none⟩ = _ := (congrArg (fun z => wr.cell? ⟨g, z, none⟩) (show off + i * 21 + 1 + 7 = off + i * 21 + 8 by omega)).trans k8
      have kk9 : wr.cell? ⟨g, off + i * 21 + 1 + 8, none⟩ = _ := (congrArg (fun z => wr.cell? ⟨g, z, none⟩) (show off + i * 21 + 1 + 8 = off + i * 21 + 9 by omega)).trans k9
      have T1 := copied4_any (o := ⟨c, n, k, p, s, l, tc, tn, on⟩) (hrx.below hH.below) hmx
      simp only [opVal] at T1
      have HO : Hid (∀ c ∈ R, okR c.1) := hO
      have hRl := hH.len
      clear hc hx hrx hO HOK HS
      go_wp2_with fail
      refine T1.mono ?_
      rintro e X1 ⟨a1, cap1, rfl, hr1, hc1⟩
      have hH1 := hH.still hc1
      clear T1 p1 hc1 k1 k2 k3 k4 k5 k6 k7 k8 k9 kk2 kk3 kk4 kk5 kk6 kk7 kk8 kk9
      go_upto_region 9 with fail
      generalize hX2 : X1.alloc (Obj.cells #[.int .i64 c, .int .i64 n, .int .i64 k, .int .i64 p, .string s, .slice a1 m cap1, .int .i64 tc, .int .i64 tn, .bool on] 48) = X2
      have hc2 : Below X1.heap.size X1 X2 := hX2 ▸ (Below.refl X1.heap.size X1).alloc (Nat.le_refl _) _
      have hb2 : X2.heap[X1.heap.size]? = some (.cells #[.int .i64 c, .int .i64 n, .int .i64 k, .int .i64 p, .string s, .slice a1 m cap1, .int .i64 tc, .int .i64 tn, .bool on] 48) := hX2 ▸ alloc_last _ _ _ rfl
      clear hX2
      have hqo : X1.heap.size ≠ q := hH1.ne (Nat.le_refl _)
      have hH2 := hH1.still hc2
      have hl2 : Sp.Rng X2 a1 m cap1 l := rng_of_rw (hr1.below hc2)
      have hml : l.length = m := hl2.len
      have HML2 : Hid (l.length = m) := hml
      clear hr1 hc2 hH1 hml
      have T2 := hH2.self.runsR HO.out
      go_wp2_with fail
      refine T2.mono ?_
      rintro e X3 ⟨a3, c3, rfl, hr3, _, hc3⟩
      clear T2
      have T3 := cells4_any hr3 (rowRuns_text HO.out) (by rw [rowRuns_cells]; exact hRl)
      rw [rowRuns_cells] at T3
      go_wp2_with fail
      refine T3.mono ?_
      rintro e X4 ⟨v4, rfl, ho4, hc4⟩
      obtain ⟨a4, c4, rfl⟩ := ho4.shape
      clear T3
      have hC4 : Below X2.heap.size X2 X4 := hc3.trans (hc4.mono hc3.size)
      have hw4 := ho4.rw_ layC
      have hb4 := (hC4.block _ (Array.getElem?_eq_some_iff.1 hb2).1).trans hb2
      have hH4 := hH2.still hC4
      have hl4 := hl2.below hC4
      clear hr3 ho4 hc3 hc4 hC4 hb2 hl2 hH2
      obtain ⟨y0, y1, y2, y3, y4, y5, y6, y7, y8⟩ := box9 hb4
      have T4 := opCheck_any (o := ⟨c, n, k, p, s, l, tc, tn, on⟩) (total := (R.length : Int)) hl4 hsx (HBAR.out.below hH4.below)
      obtain ⟨C, hCk⟩ : ∃ C, opCheck ⟨c, n, k, p, s, l, tc, tn, on⟩ (R.length : Int) = C := ⟨_, rfl⟩
      rw [hCk] at T4
      have HCK : Hid (opCheck ⟨c, n, k, p, s, l, tc, tn, on⟩ (R.length : Int) = C) := hCk
      clear hCk
      simp only [opVal] at T4
      go_wp2_with fail
      refine T4.mono ?_
      rintro e X5 ⟨rfl, hc5⟩
      have hw5 := hw4.below hc5
      have hb5 := (hc5.block _ (Array.getElem?_eq_some_iff.1 hb4).1).trans hb4
      have hH5 := hH4.still hc5
      have hl5 := hl4.below hc5
      clear y0 y1 y2 y3 y4 y5 y6 y7 y8
      clear T4 hc5 hw4 hb4 hl4 hH4
      obtain ⟨y0, y1, y2, y3, y4, y5, y6, y7, y8⟩ := box9 hb5
      have T5 := apply_nil (w := X5) (o := ⟨c, n, k, p, s, l, tc, tn, on⟩) (v := .slice a1 m cap1)
      simp only [opVal] at T5
      go_wp2_with fail
      refine T5.mono ?_
      rintro e X6 ⟨rfl, hc6⟩
      have hw6 := hw5.below hc6
      have hb6 := (hc6.block _ (Array.getElem?_eq_some_iff.1 hb5).1).trans hb5
      have hH6 := hH5.still hc6
      have hl6 := hl5.below hc6
      clear y0 y1 y2 y3 y4 y5 y6 y7 y8
      clear T5 hc6 hw5 hb5 hl5 hH5
      have HCN : Hid (∀ c ∈ R, 0 ≤ c.2 ∧ c.2 ≤ 1048576) := hH6.bounds
      by_cases hC0 : C ≠ 0
      · have t1 : (C == 0) = false := beq_eq_false_iff_ne.2 hC0
        have t2 : (C != 0) = true := by simp [hC0]
        have t3 : (C != C) = false := by simp
        have t4 : decide (C = 0) = false := decide_eq_false hC0
        have HC0 : Hid (C ≠ 0) := hC0
        clear hC0
        obtain ⟨y0, y1, y2, y3, y4, y5, y6, y7, y8⟩ := box9 hb6
        have T6 := apply_no hH6 hl6 hsx HBAR.out HCK.out HC0.out
        simp only [opVal] at T6
        go_wp2_with fail
        refine T6.mono ?_
        rintro e X7 ⟨rfl, hc7⟩
        have hw7 := hw6.below hc7
        have hb7 := (hc7.block _ (Array.getElem?_eq_some_iff.1 hb6).1).trans hb6
        have hl7 := hl6.below hc7
        have hH7 := hH6.still hc7
        clear y0 y1 y2 y3 y4 y5 y6 y7 y8
        clear T6 hc7 hw6 hb6 hl6 hH6
        have T8 := hH7.self.runsR HO.out
        go_wp2_with fail
        refine T8.mono ?_
        rintro e X8 ⟨arX8, crX8, rfl, hr8, _, hc8⟩
        clear T8
        have T9 := cells4_any hr8 (rowRuns_text HO.out) (by rw [rowRuns_cells]; exact hH7.len)
        rw [rowRuns_cells] at T9
        go_wp2_with fail
        refine T9.mono ?_
        rintro e X9 ⟨v9, rfl, ho9, hc9⟩
        obtain ⟨aX9, cX9, rfl⟩ := ho9.shape
        clear T9
        have hcc : Below X7.heap.size X7 X9 := hc8.trans (hc9.mono hc8.size)
        have hnX9 := ho9.rw_ layC
        clear hr8 ho9 hc8 hc9
        have hw9 := hw7.below hcc
        have hb9 := (hcc.block _ (Array.getElem?_eq_some_iff.1 hb7).1).trans hb7
        have hl9 := hl7.below hcc
        have hH9 := hH7.still hcc
        clear hcc hw7 hb7 hl7 hH7
        obtain ⟨y0, y1, y2, y3, y4, y5, y6, y7, y8⟩ := box9 hb9
        have T11 := bumped4_any (d := 0) (l := []) hw9 (by rw [bmp_nil]; exact hnX9) (rw_nil _) srt_nil (by omega) HCN.out hRl (by omega)
        go_wp2_with fail
        refine T11.mono ?_
        rintro e X10 ⟨rfl, hc10⟩
        have hH10 := hH9.still hc10
        clear y0 y1 y2 y3 y4 y5 y6 y7 y8
        clear T11 hc10
        go_wp2_with fail
        go_roundw
        case rel => first | exact ⟨i + 1, R, by go_num, by omega, hH10, HO.out, by omega⟩ | ((repeat apply Exists.intro); exact ⟨⟨i + 1, R, by go_num, by omega, hH10, HO.out, by omega⟩, rfl⟩)
        case measure => simp [RowKit.intOf]; omega
      · obtain rfl : C = 0 := by omega
        clear hC0
        have hkd := (opCheck_zero HCK.out).2.2.1
        simp only at hkd
        have hk4 : k = 1 ∨ k = 2 ∨ k = 3 ∨ k = 4 := by omega
        clear hkd
        rcases hk4 with rfl | rfl | rfl | rfl
        · obtain ⟨pk, rs, e1, e2, e3, e4, e5, e6⟩ := ck_ins_of HCK.out rfl
          simp only at e1 e3
          subst e1
          obtain ⟨y0, y1, y2, y3, y4, y5, y6, y7, y8⟩ := box9 hb6
          have T6 := apply_insAny hH6 hq3 HBAR.out hl6 HCK.out e2 e3 e4 e5 e6
          simp only [opVal] at T6
          have HO2 : Hid (∀ c ∈ putL R pk rs 0, okR c.1) := putL_ok HO.out e3.ok
          have hl3 : (putL R pk rs 0).length ≤ 400 + 256 * (i + 1) := by rw [putL_len]; omega
          clear e2 e3 e4 e5 e6
          go_wp2_with fail
          refine T6.mono ?_
          rintro e X7 ⟨rfl, hH7, hU7⟩
          have hw7 := hH6.cellU hU7 hw6
          have hb7 := hU7.box hb6 hqo
          have hl7 := (hH6.pieceU hU7 (rw_piece hl6)).rng
          clear y0 y1 y2 y3 y4 y5 y6 y7 y8
          clear T6 hU7 hw6 hb6 hl6 hH6
          obtain ⟨R2, hR2⟩ : ∃ R2, putL R pk rs 0 = R2 := ⟨_, rfl⟩
          rw [hR2] at hH7 HO2 hl3
          clear hR2
          have T8 := hH7.self.runsR HO2.out
          go_wp2_with fail
          refine T8.mono ?_
          rintro e X8 ⟨arX8, crX8, rfl, hr8, _, hc8⟩
          clear T8
          have T9 := cells4_any hr8 (rowRuns_text HO2.out) (by rw [rowRuns_cells]; exact hH7.len)
          rw [rowRuns_cells] at T9
          go_wp2_with fail
          refine T9.mono ?_
          rintro e X9 ⟨v9, rfl, ho9, hc9⟩
          obtain ⟨aX9, cX9, rfl⟩ := ho9.shape
          clear T9
          have hcc : Below X7.heap.size X7 X9 := hc8.trans (hc9.mono hc8.size)
          have hnX9 := ho9.rw_ layC
          clear hr8 ho9 hc8 hc9
          have hw9 := hw7.below hcc
          have hb9 := (hcc.block _ (Array.getElem?_eq_some_iff.1 hb7).1).trans hb7
          have hl9 := hl7.below hcc
          have hH9 := hH7.still hcc
          clear hcc hw7 hb7 hl7 hH7
          obtain ⟨y0, y1, y2, y3, y4, y5, y6, y7, y8⟩ := box9 hb9
          go_wp2_with fail
          go_roundw
          case rel => first | exact ⟨i + 1, R2, by go_num, by omega, hH9, HO2.out, hl3⟩ | ((repeat apply Exists.intro); exact ⟨⟨i + 1, R2, by go_num, by omega, hH9, HO2.out, hl3⟩, rfl⟩)
          case measure => simp [RowKit.intOf]; omega
        · obtain ⟨_, hsr, hbd, hf32⟩ := ck_rng_of HCK.out (by simp)
          simp only at hsr hbd hf32
          have HSR : Hid (Srt l) := hsr
          have HBD : Hid (∀ x ∈ l, 0 ≤ x.1 ∧ x.2 ≤ (R.length : Int)) := hbd
          have hm32 : m ≤ 32768 := by have := HML2.out; omega
          clear hsr hbd hf32
          by_cases hout : ∃ c ∈ bmp l (1) 0 R, 1048576 < c.2
          · have HOUT : Hid (∃ c ∈ bmp l (1) 0 R, 1048576 < c.2) := hout
            clear hout
            obtain ⟨y0, y1, y2, y3, y4, y5, y6, y7, y8⟩ := box9 hb6
            have T6 := apply_above hH6 HBAR.out hl6 hsx HCK.out HOUT.out
            simp only [opVal] at T6
            go_wp2_with fail
            refine T6.mono ?_
            rintro e X7 ⟨rfl, hc7⟩
            have hw7 := hw6.below hc7
            have hb7 := (hc7.block _ (Array.getElem?_eq_some_iff.1 hb6).1).trans hb6
            have hl7 := hl6.below hc7
            have hH7 := hH6.still hc7
            clear y0 y1 y2 y3 y4 y5 y6 y7 y8
            clear T6 hc7 hw6 hb6 hl6 hH6
            have T8 := hH7.self.runsR HO.out
            go_wp2_with fail
            refine T8.mono ?_
            rintro e X8 ⟨arX8, crX8, rfl, hr8, _, hc8⟩
            clear T8
            have T9 := cells4_any hr8 (rowRuns_text HO.out) (by rw [rowRuns_cells]; exact hH7.len)
            rw [rowRuns_cells] at T9
            go_wp2_with fail
            refine T9.mono ?_
            rintro e X9 ⟨v9, rfl, ho9, hc9⟩
            obtain ⟨aX9, cX9, rfl⟩ := ho9.shape
            clear T9
            have hcc : Below X7.heap.size X7 X9 := hc8.trans (hc9.mono hc8.size)
            have hnX9 := ho9.rw_ layC
            clear hr8 ho9 hc8 hc9
            have hw9 := hw7.below hcc
            have hb9 := (hcc.block _ (Array.getElem?_eq_some_iff.1 hb7).1).trans hb7
            have hl9 := hl7.below hcc
            have hH9 := hH7.still hcc
            clear hcc hw7 hb7 hl7 hH7
            obtain ⟨y0, y1, y2, y3, y4, y5, y6, y7, y8⟩ := box9 hb9
            have T10 := stops_any (c := c) (n := n) (p := p) (s := s) (tc := tc) (tn := tn) (on := on) (k := 2) (by decide) (rw_piece hl9) (fun x hx => ⟨(HBD.out x hx).1, HSR.out.some_ x hx, by have := (HBD.out x hx).2; omega⟩) hw9 hRl (by omega)
            simp only [opVal] at T10
            go_wp2_with fail
            refine T10.mono ?_
            rintro e X10 ⟨b, rfl, hbt, hbf, hc10⟩
            obtain rfl : b = true := by
              cases b with
              | true => rfl
              | false => exact (by exfalso; obtain ⟨c0, hc0, hx0⟩ := HOUT.out; have := stop_ok2 (hbf rfl) HCN.out c0 hc0; omega)
            have hw10 := hw9.below hc10
            have hn10 := hnX9.below hc10
            have hb10 := (hc10.block _ (Array.getElem?_eq_some_iff.1 hb9).1).trans hb9
            have hH10 := hH9.still hc10
            clear y0 y1 y2 y3 y4 y5 y6 y7 y8
            clear T10 hbt hbf hc10 hw9 hb9 hl9 hH9
            obtain ⟨y0, y1, y2, y3, y4, y5, y6, y7, y8⟩ := box9 hb10
            have T11 := bumped4_any (d := 0) (l := []) hw10 (by rw [bmp_nil]; exact hn10) (rw_nil _) srt_nil (by omega) HCN.out hRl (by omega)
            go_wp2_with fail
            refine T11.mono ?_
            rintro e X11 ⟨rfl, hc11⟩
            have hH11 := hH10.still hc11
            clear y0 y1 y2 y3 y4 y5 y6 y7 y8
            clear T11 hc11
            go_wp2_with fail
            go_roundw
            case rel => first | exact ⟨i + 1, R, by go_num, by omega, hH11, HO.out, by omega⟩ | ((repeat apply Exists.intro); exact ⟨⟨i + 1, R, by go_num, by omega, hH11, HO.out, by omega⟩, rfl⟩)
            case measure => simp [RowKit.intOf]; omega
          · have HIN : Hid (∀ c ∈ bmp l (1) 0 R, 0 ≤ c.2 ∧ c.2 ≤ 1048576) := fun c hc => by
              obtain ⟨y, hy, e⟩ := bmp_mem hc
              have h1 := HCN.out y hy
              have h2 : ¬ 1048576 < c.2 := fun e => hout ⟨c, hc, e⟩
              rcases e with rfl | rfl
              · exact h1
              · simp only at h2 ⊢
                omega
            clear hout
            obtain ⟨y0, y1, y2, y3, y4, y5, y6, y7, y8⟩ := box9 hb6
            have T6 := apply_aboveOk hH6 hq3 HBAR.out hl6 hsx HCK.out HIN.out
            simp only [opVal] at T6
            go_wp2_with fail
            refine T6.mono ?_
            rintro e X7 ⟨rfl, hH7, hU7⟩
            have hw7 := hH6.cellU hU7 hw6
            have hb7 := hU7.box hb6 hqo
            have hl7 := (hH6.pieceU hU7 (rw_piece hl6)).rng
            clear y0 y1 y2 y3 y4 y5 y6 y7 y8
            clear T6 hU7 hw6 hb6 hl6 hH6
            have HO2 : Hid (∀ c ∈ bmp l (1) 0 R, okR c.1) := bmp_okR HO.out
            have T8 := hH7.self.runsR HO2.out
            go_wp2_with fail
            refine T8.mono ?_
            rintro e X8 ⟨arX8, crX8, rfl, hr8, _, hc8⟩
            clear T8
            have T9 := cells4_any hr8 (rowRuns_text HO2.out) (by rw [rowRuns_cells]; exact hH7.len)
            rw [rowRuns_cells] at T9
            go_wp2_with fail
            refine T9.mono ?_
            rintro e X9 ⟨v9, rfl, ho9, hc9⟩
            obtain ⟨aX9, cX9, rfl⟩ := ho9.shape
            clear T9
            have hcc : Below X7.heap.size X7 X9 := hc8.trans (hc9.mono hc8.size)
            have hnX9 := ho9.rw_ layC
            clear hr8 ho9 hc8 hc9
            clear hnX9
            have hw9 := hw7.below hcc
            have hb9 := (hcc.block _ (Array.getElem?_eq_some_iff.1 hb7).1).trans hb7
            have hl9 := hl7.below hcc
            have hH9 := hH7.still hcc
            clear hcc hw7 hb7 hl7 hH7
            obtain ⟨y0, y1, y2, y3, y4, y5, y6, y7, y8⟩ := box9 hb9
            have T10 := stops_any (c := c) (n := n) (p := p) (s := s) (tc := tc) (tn := tn) (on := on) (k := 2) (by decide) (rw_piece hl9) (fun x hx => ⟨(HBD.out x hx).1, HSR.out.some_ x hx, by have := (HBD.out x hx).2; omega⟩) hw9 hRl (by omega)
            simp only [opVal] at T10
            go_wp2_with fail
            refine T10.mono ?_
            rintro e X10 ⟨b, rfl, hbt, hbf, hc10⟩
            obtain rfl : b = false := by
              cases b with
              | false => rfl
              | true => exact (by exfalso; obtain ⟨c0, hc0, hx0⟩ := stop_out2 (hbt rfl); have := HIN.out c0 hc0; omega)
            have hw10 := hw9.below hc10
            have hb10 := (hc10.block _ (Array.getElem?_eq_some_iff.1 hb9).1).trans hb9
            have hH10 := hH9.still hc10
            clear y0 y1 y2 y3 y4 y5 y6 y7 y8
            clear T10 hbt hbf hc10 hw9 hb9 hl9 hH9
            obtain ⟨y0, y1, y2, y3, y4, y5, y6, y7, y8⟩ := box9 hb10
            go_wp2_with fail
            go_roundw
            case rel => first | exact ⟨i + 1, bmp l (1) 0 R, by go_num, by omega, hH10, HO2.out, by rw [bmp_len]; omega⟩ | ((repeat apply Exists.intro); exact ⟨⟨i + 1, bmp l (1) 0 R, by go_num, by omega, hH10, HO2.out, by rw [bmp_len]; omega⟩, rfl⟩)
            case measure => simp [RowKit.intOf]; omega
        · obtain ⟨_, hsr, hbd, hf32⟩ := ck_rng_of HCK.out (by simp)
          simp only at hsr hbd hf32
          have HSR : Hid (Srt l) := hsr
          have HBD : Hid (∀ x ∈ l, 0 ≤ x.1 ∧ x.2 ≤ (R.length : Int)) := hbd
          have hm32 : m ≤ 32768 := by have := HML2.out; omega
          clear hsr hbd hf32
          by_cases hout : ∃ c ∈ bmp l (-1) 0 R, c.2 < 0
          · have HOUT : Hid (∃ c ∈ bmp l (-1) 0 R, c.2 < 0) := hout
            clear hout
            obtain ⟨y0, y1, y2, y3, y4, y5, y6, y7, y8⟩ := box9 hb6
            have T6 := apply_below hH6 HBAR.out hl6 hsx HCK.out HOUT.out
            simp only [opVal] at T6
            go_wp2_with fail
            refine T6.mono ?_
            rintro e X7 ⟨rfl, hc7⟩
            have hw7 := hw6.below hc7
            have hb7 := (hc7.block _ (Array.getElem?_eq_some_iff.1 hb6).1).trans hb6
            have hl7 := hl6.below hc7
            have hH7 := hH6.still hc7
            clear y0 y1 y2 y3 y4 y5 y6 y7 y8
            clear T6 hc7 hw6 hb6 hl6 hH6
            have T8 := hH7.self.runsR HO.out
            go_wp2_with fail
            refine T8.mono ?_
            rintro e X8 ⟨arX8, crX8, rfl, hr8, _, hc8⟩
            clear T8
            have T9 := cells4_any hr8 (rowRuns_text HO.out) (by rw [rowRuns_cells]; exact hH7.len)
            rw [rowRuns_cells] at T9
            go_wp2_with fail
            refine T9.mono ?_
            rintro e X9 ⟨v9, rfl, ho9, hc9⟩
            obtain ⟨aX9, cX9, rfl⟩ := ho9.shape
            clear T9
            have hcc : Below X7.heap.size X7 X9 := hc8.trans (hc9.mono hc8.size)
            have hnX9 := ho9.rw_ layC
            clear hr8 ho9 hc8 hc9
            have hw9 := hw7.below hcc
            have hb9 := (hcc.block _ (Array.getElem?_eq_some_iff.1 hb7).1).trans hb7
            have hl9 := hl7.below hcc
            have hH9 := hH7.still hcc
            clear hcc hw7 hb7 hl7 hH7
            obtain ⟨y0, y1, y2, y3, y4, y5, y6, y7, y8⟩ := box9 hb9
            have T10 := stops_any (c := c) (n := n) (p := p) (s := s) (tc := tc) (tn := tn) (on := on) (k := 3) (by decide) (rw_piece hl9) (fun x hx => ⟨(HBD.out x hx).1, HSR.out.some_ x hx, by have := (HBD.out x hx).2; omega⟩) hw9 hRl (by omega)
            simp only [opVal] at T10
            go_wp2_with fail
            refine T10.mono ?_
            rintro e X10 ⟨b, rfl, hbt, hbf, hc10⟩
            obtain rfl : b = true := by
              cases b with
              | true => rfl
              | false => exact (by exfalso; obtain ⟨c0, hc0, hx0⟩ := HOUT.out; have := stop_ok3 (hbf rfl) HCN.out c0 hc0; omega)
            have hw10 := hw9.below hc10
            have hn10 := hnX9.below hc10
            have hb10 := (hc10.block _ (Array.getElem?_eq_some_iff.1 hb9).1).trans hb9
            have hH10 := hH9.still hc10
            clear y0 y1 y2 y3 y4 y5 y6 y7 y8
            clear T10 hbt hbf hc10 hw9 hb9 hl9 hH9
            obtain ⟨y0, y1, y2, y3, y4, y5, y6, y7, y8⟩ := box9 hb10
            have T11 := bumped4_any (d := 0) (l := []) hw10 (by rw [bmp_nil]; exact hn10) (rw_nil _) srt_nil (by omega) HCN.out hRl (by omega)
            go_wp2_with fail
            refine T11.mono ?_
            rintro e X11 ⟨rfl, hc11⟩
            have hH11 := hH10.still hc11
            clear y0 y1 y2 y3 y4 y5 y6 y7 y8
            clear T11 hc11
            go_wp2_with fail
            go_roundw
            case rel => first | exact ⟨i + 1, R, by go_num, by omega, hH11, HO.out, by omega⟩ | ((repeat apply Exists.intro); exact ⟨⟨i + 1, R, by go_num, by omega, hH11, HO.out, by omega⟩, rfl⟩)
            case measure => simp [RowKit.intOf]; omega
          · have HIN : Hid (∀ c ∈ bmp l (-1) 0 R, 0 ≤ c.2 ∧ c.2 ≤ 1048576) := fun c hc => by
              obtain ⟨y, hy, e⟩ := bmp_mem hc
              have h1 := HCN.out y hy
              have h2 : ¬ c.2 < 0 := fun e => hout ⟨c, hc, e⟩
              rcases e with rfl | rfl
              · exact h1
              · simp only at h2 ⊢
                omega
            clear hout
            obtain ⟨y0, y1, y2, y3, y4, y5, y6, y7, y8⟩ := box9 hb6
            have T6 := apply_belowOk hH6 hq3 HBAR.out hl6 hsx HCK.out HIN.out
            simp only [opVal] at T6
            go_wp2_with fail
            refine T6.mono ?_
            rintro e X7 ⟨rfl, hH7, hU7⟩
            have hw7 := hH6.cellU hU7 hw6
            have hb7 := hU7.box hb6 hqo
            have hl7 := (hH6.pieceU hU7 (rw_piece hl6)).rng
            clear y0 y1 y2 y3 y4 y5 y6 y7 y8
            clear T6 hU7 hw6 hb6 hl6 hH6
            have HO2 : Hid (∀ c ∈ bmp l (-1) 0 R, okR c.1) := bmp_okR HO.out
            have T8 := hH7.self.runsR HO2.out
            go_wp2_with fail
            refine T8.mono ?_
            rintro e X8 ⟨arX8, crX8, rfl, hr8, _, hc8⟩
            clear T8
            have T9 := cells4_any hr8 (rowRuns_text HO2.out) (by rw [rowRuns_cells]; exact hH7.len)
            rw [rowRuns_cells] at T9
            go_wp2_with fail
            refine T9.mono ?_
            rintro e X9 ⟨v9, rfl, ho9, hc9⟩
            obtain ⟨aX9, cX9, rfl⟩ := ho9.shape
            clear T9
            have hcc : Below X7.heap.size X7 X9 := hc8.trans (hc9.mono hc8.size)
            have hnX9 := ho9.rw_ layC
            clear hr8 ho9 hc8 hc9
            clear hnX9
            have hw9 := hw7.below hcc
            have hb9 := (hcc.block _ (Array.getElem?_eq_some_iff.1 hb7).1).trans hb7
            have hl9 := hl7.below hcc
            have hH9 := hH7.still hcc
            clear hcc hw7 hb7 hl7 hH7
            obtain ⟨y0, y1, y2, y3, y4, y5, y6, y7, y8⟩ := box9 hb9
            have T10 := stops_any (c := c) (n := n) (p := p) (s := s) (tc := tc) (tn := tn) (on := on) (k := 3) (by decide) (rw_piece hl9) (fun x hx => ⟨(HBD.out x hx).1, HSR.out.some_ x hx, by have := (HBD.out x hx).2; omega⟩) hw9 hRl (by omega)
            simp only [opVal] at T10
            go_wp2_with fail
            refine T10.mono ?_
            rintro e X10 ⟨b, rfl, hbt, hbf, hc10⟩
            obtain rfl : b = false := by
              cases b with
              | false => rfl
              | true => exact (by exfalso; obtain ⟨c0, hc0, hx0⟩ := stop_out3 (hbt rfl); have := HIN.out c0 hc0; omega)
            have hw10 := hw9.below hc10
            have hb10 := (hc10.block _ (Array.getElem?_eq_some_iff.1 hb9).1).trans hb9
            have hH10 := hH9.still hc10
            clear y0 y1 y2 y3 y4 y5 y6 y7 y8
            clear T10 hbt hbf hc10 hw9 hb9 hl9 hH9
            obtain ⟨y0, y1, y2, y3, y4, y5, y6, y7, y8⟩ := box9 hb10
            go_wp2_with fail
            go_roundw
            case rel => first | exact ⟨i + 1, bmp l (-1) 0 R, by go_num, by omega, hH10, HO2.out, by rw [bmp_len]; omega⟩ | ((repeat apply Exists.intro); exact ⟨⟨i + 1, bmp l (-1) 0 R, by go_num, by omega, hH10, HO2.out, by rw [bmp_len]; omega⟩, rfl⟩)
            case measure => simp [RowKit.intOf]; omega
        · obtain ⟨y0, y1, y2, y3, y4, y5, y6, y7, y8⟩ := box9 hb6
          have T6 := apply_status hH6 hl6 hsx HBAR.out HCK.out
          simp only [opVal] at T6
          go_wp2_with fail
          refine T6.mono ?_
          rintro e X7 ⟨rfl, hc7⟩
          have hw7 := hw6.below hc7
          have hb7 := (hc7.block _ (Array.getElem?_eq_some_iff.1 hb6).1).trans hb6
          have hl7 := hl6.below hc7
          have hH7 := hH6.still hc7
          clear y0 y1 y2 y3 y4 y5 y6 y7 y8
          clear T6 hc7 hw6 hb6 hl6 hH6
          have T8 := hH7.self.runsR HO.out
          go_wp2_with fail
          refine T8.mono ?_
          rintro e X8 ⟨arX8, crX8, rfl, hr8, _, hc8⟩
          clear T8
          have T9 := cells4_any hr8 (rowRuns_text HO.out) (by rw [rowRuns_cells]; exact hH7.len)
          rw [rowRuns_cells] at T9
          go_wp2_with fail
          refine T9.mono ?_
          rintro e X9 ⟨v9, rfl, ho9, hc9⟩
          obtain ⟨aX9, cX9, rfl⟩ := ho9.shape
          clear T9
          have hcc : Below X7.heap.size X7 X9 := hc8.trans (hc9.mono hc8.size)
          have hnX9 := ho9.rw_ layC
          clear hr8 ho9 hc8 hc9
          have hw9 := hw7.below hcc
          have hb9 := (hcc.block _ (Array.getElem?_eq_some_iff.1 hb7).1).trans hb7
          have hl9 := hl7.below hcc
          have hH9 := hH7.still hcc
          clear hcc hw7 hb7 hl7 hH7
          obtain ⟨y0, y1, y2, y3, y4, y5, y6, y7, y8⟩ := box9 hb9
          have T11 := bumped4_any (d := 0) (l := []) hw9 (by rw [bmp_nil]; exact hnX9) (rw_nil _) srt_nil (by omega) HCN.out hRl (by omega)
          go_wp2_with fail
          refine T11.mono ?_
          rintro e X10 ⟨rfl, hc10⟩
          have hH10 := hH9.still hc10
          clear y0 y1 y2 y3 y4 y5 y6 y7 y8
          clear T11 hc10
          go_wp2_with fail
          go_roundw
          case rel => first | exact ⟨i + 1, R, by go_num, by omega, hH10, HO.out, by omega⟩ | ((repeat apply Exists.intro); exact ⟨⟨i + 1, R, by go_num, by omega, hH10, HO.out, by omega⟩, rfl⟩)
          case measure => simp [RowKit.intOf]; omega
    · by_cases hin1 : i < nS
      · have b1 : (i : Int) < (nS : Int) := by omega
        have b2 : ¬ (i : Int) < 60 := fun e => hin ⟨hin1, by omega⟩
        clear hin
        go_wp2_with fail
        go_ret
        exact ⟨rfl, HB2.out.trans (hH.below.mono HB2.out.size)⟩
      · have b1 : ¬ (i : Int) < (nS : Int) := by omega
        clear hin
        go_wp2_with fail
        go_ret
        exact ⟨rfl, HB2.out.trans (hH.below.mono HB2.out.size)⟩
end Go.Proofs.YtggdocnnbgcniaaDoor

/-! The opener of a Play. -/
namespace Go.Proofs.YtggdocnnbgcniaaDoor
open Go.ChangeShapes Go.WideShapes Go.ChangeAt Go.RowKit Go.WideMaps Go.WideElems Go.Lib
set_option maxRecDepth 100000

theorem cellsI64 : Tryd.prog.cellsOf 3 = 1 := by kernel_rfl
theorem cellsKind : Tryd.prog.cellsOf 43 = 1 := by kernel_rfl
theorem cellsBool : Tryd.prog.cellsOf 4 = 1 := by kernel_rfl
theorem cellsStrg : Tryd.prog.cellsOf 9 = 1 := by kernel_rfl
theorem cellsRgs : Tryd.prog.cellsOf 46 = 1 := by kernel_rfl
theorem cellsRg : Tryd.prog.cellsOf 100 = 2 := by kernel_rfl
theorem cellsID : Tryd.prog.cellsOf 42 = 2 := by kernel_rfl
theorem cellsHead : Tryd.prog.cellsOf 45 = 3 := by kernel_rfl
theorem cellsOp9 : Tryd.prog.cellsOf 48 = 9 := by kernel_rfl
theorem cellsStep : Tryd.prog.cellsOf 64 = 21 := by kernel_rfl
theorem cellsSteps : Tryd.prog.cellsOf 58 = 1 := by kernel_rfl
theorem cellsPlay : Tryd.prog.cellsOf 60 = 2 := by kernel_rfl
theorem cellsCell : Tryd.prog.cellsOf 83 = 2 := by kernel_rfl
theorem cellsCells : Tryd.prog.cellsOf 22 = 1 := by kernel_rfl
theorem bytesRg : Tryd.prog.bytesOf 100 = 16 := by kernel_rfl
theorem reach_is : reachBytes = 140737488351232 := rfl
theorem array2 {α : Type} {cs : Array α} (h : cs.size = 2) : ∃ c0 c1, cs = #[c0, c1] := by
  obtain ⟨l⟩ := cs
  match l, h with
  | [c0, c1], _ => exact ⟨c0, c1, rfl⟩
theorem list_ofE {α : Type} {P : Nat → α → Prop} : ∀ m : Nat, (∀ j, j < m → ∃ x, P j x) → ∃ l : List α, l.length = m ∧ ∀ (j : Nat) x, l[j]? = some x → P j x
  | 0, _ => ⟨[], rfl, fun j x h => by simp at h⟩
  | m + 1, h => by
    obtain ⟨l, hl, hp⟩ := list_ofE m (fun j hj => h j (by omega))
    obtain ⟨x, hx⟩ := h m (by omega)
    refine ⟨l ++ [x], by simp [hl], fun j y hy => ?_⟩
    by_cases hj : j < l.length
    · rw [List.getElem?_append_left hj] at hy
      exact hp j y hy
    · rw [List.getElem?_append_right (by omega)] at hy
      obtain ⟨hk, rfl⟩ := List.getElem?_eq_some_iff.1 hy
      simp at hk
      have : j = m := by omega
      subst this
      simpa using hx
/-- A row of elements whose cells are opened one by one, each with a fact. -/
theorem rw_of_cells {α : Type} {f : α → List Value} {k : Nat} (hf : Lay f k) {W : World} {a : Addr} {len cap : Nat} {P : α → Prop} (hl : len ≤ cap) (hm : cap ≤ maxLen)
    (hel : ∀ j, j < len → ∃ p : α, P p ∧ ∃ cs, W.cells? 0 (a.add (j * k)) k = some cs ∧ cs = f p) : ∃ l : List α, Rw f k W (some a) len cap l ∧ ∀ x ∈ l, P x := by
  by_cases h0 : len = 0
  · subst h0
    exact ⟨[], ⟨rfl, ⟨hl, hm⟩, fun h => absurd h (Nat.lt_irrefl _)⟩, fun x hx => by cases hx⟩
  · have hk := hf.pos
    obtain ⟨g, off, spot⟩ := a
    have hcell : ∀ j, j < len → ∃ p : α, P p ∧ ∀ i v, (f p)[i]? = some v → W.cell? (((⟨g, off, spot⟩ : Addr).add (j * k)).add i) = some v := fun j hj => by
      obtain ⟨p, hP, cs, hcs, rfl⟩ := hel j hj
      obtain ⟨_, _, hc⟩ := World.cells?_some hcs
      refine ⟨p, hP, fun i v hv => ?_⟩
      obtain ⟨hi, _⟩ := List.getElem?_eq_some_iff.1 hv
      exact (hc i (by rw [hf.len] at hi; exact hi)).trans hv
    have hspot : spot = none := by
      obtain ⟨p, _, h1⟩ := hcell 0 (by omega)
      have hlp : 0 < (f p).length := by rw [hf.len]; exact hk
      have := h1 0 _ (List.getElem?_eq_getElem hlp)
      simpa [Addr.add] using World.cell?_spot this
    subst hspot
    obtain ⟨l, hll, hp⟩ := list_ofE len hcell
    refine ⟨l, ⟨hll, ⟨hl, hm⟩, fun _ => ⟨g, off, rfl, ?_, fun j x hj i v hv => ?_⟩⟩, fun x hx => ?_⟩
    · obtain ⟨p, _, h1⟩ := hcell 0 (by omega)
      have hlp : 0 < (f p).length := by rw [hf.len]; exact hk
      exact World.block_lt_of_cell? _ _ (by
        have := h1 0 _ (List.getElem?_eq_getElem hlp)
        rw [addr_add', addr_add'] at this
        exact this)
    · have := (hp j x hj).2 i v hv
      rw [addr_add', addr_add'] at this
      exact this
    · obtain ⟨j, hj⟩ := List.getElem?_of_mem hx
      exact (hp j x hj).1
theorem weightsAll_mem {H : Type} {P : Program} {e : TypeId} {q : Nat → Bool} : ∀ {ds : List (DataW H)} {d : DataW H}, d ∈ ds → (DataW.weightsAll P e ds).all q = true → (d.weights P e).all q = true
  | [], _, h, _ => by cases h
  | x :: r, d, h, ha => by
    simp only [DataW.weightsAll, List.all_append, Bool.and_eq_true] at ha
    rcases List.mem_cons.1 h with rfl | h
    · exact ha.1
    · exact weightsAll_mem h ha.2
theorem open_cell2 {H : Type} {enc : TypeId × Value → H} {W : World} {fuel : Nat} {cs : List Value} {x : DataW H × List MemPlace}
    (h : DataW.trod enc Tryd.prog W 0 (fun _ => true) true fuel 83 cs = some x) : ∃ p : Int × Int, cs = cellV p := by
  obtain ⟨xs, m, _, hx, hl, hlen, hel⟩ := DataW.trod_struct Tryd.underlying83 h
  rw [cellsCell] at hl
  match cs, hl, xs, hlen, hel with
  | [c0, c1], _, [y0, y1], _, hel =>
    have q0 : DataW.trod enc Tryd.prog W 0 (fun _ => true) true m 21 [c0] = some y0 := by simpa [cells32] using hel 0 _ rfl
    have q1 : DataW.trod enc Tryd.prog W 0 (fun _ => true) true m 3 [c1] = some y1 := by simpa [cellsI64] using hel 1 _ rfl
    obtain ⟨x0, e0, _, _⟩ := DataW.trod_int Tryd.underlying21 q0
    obtain ⟨x1, e1, _, _⟩ := DataW.trod_int Tryd.underlying3 q1
    simp only [List.cons.injEq, and_true] at e0 e1
    subst e0 e1
    exact ⟨(x0, x1), rfl⟩
theorem open_cells1 {H : Type} {enc : TypeId × Value → H} {W : World} {fuel : Nat} {c : Value} {y : DataW H × List MemPlace}
    (h : DataW.trod enc Tryd.prog W 0 (fun _ => true) true fuel 22 [c] = some y) : ∃ a n cap L, c = .slice a n cap ∧ Rw cellV 2 W a n cap L := by
  rcases DataW.trod_slice Tryd.underlying22 h with ⟨hc, _⟩ | ⟨a, len, cap, elems, rest, m, _, hc, hx, _, hl, hm, hlen, hel, _, _⟩
  · simp only [List.cons.injEq, and_true] at hc
    exact ⟨none, 0, 0, [], hc, rw_nil W⟩
  · simp only [List.cons.injEq, and_true] at hc
    obtain ⟨L, hr, _⟩ := rw_of_cells layC hl hm (a := a) (W := W) (P := fun _ => True) (fun j hj => by
      have he := hel j hj
      rw [List.getElem?_eq_getElem (by omega : j < elems.length), cellsCell] at he
      obtain ⟨cs, hcs, htr⟩ := Option.bind_eq_some_iff.1 he
      obtain ⟨p, hcsp⟩ := open_cell2 htr
      exact ⟨p, trivial, cs, hcs, hcsp⟩)
    exact ⟨some a, len, cap, L, hc, hr⟩
theorem open_rg {H : Type} {enc : TypeId × Value → H} {W : World} {fuel : Nat} {cs : List Value} {x : DataW H × List MemPlace}
    (h : DataW.trod enc Tryd.prog W 0 (fun _ => true) true fuel 100 cs = some x) : ∃ p : Int × Int, cs = rngV p := by
  obtain ⟨xs, m, _, hx, hl, hlen, hel⟩ := DataW.trod_struct Tryd.underlying100 h
  rw [cellsRg] at hl
  match cs, hl, xs, hlen, hel with
  | [c0, c1], _, [y0, y1], _, hel =>
    have q0 : DataW.trod enc Tryd.prog W 0 (fun _ => true) true m 3 [c0] = some y0 := by simpa [cellsI64] using hel 0 _ rfl
    have q1 : DataW.trod enc Tryd.prog W 0 (fun _ => true) true m 3 [c1] = some y1 := by simpa [cellsI64] using hel 1 _ rfl
    obtain ⟨x0, e0, _, _⟩ := DataW.trod_int Tryd.underlying3 q0
    obtain ⟨x1, e1, _, _⟩ := DataW.trod_int Tryd.underlying3 q1
    simp only [List.cons.injEq, and_true] at e0 e1
    subst e0 e1
    exact ⟨(x0, x1), rfl⟩
theorem open_rgs {H : Type} {enc : TypeId × Value → H} {W : World} {fuel : Nat} {c : Value} {y : DataW H × List MemPlace}
    (h : DataW.trod enc Tryd.prog W 0 (fun _ => true) true fuel 46 [c] = some y) (hz : (y.1.weights Tryd.prog 46).all (· ≤ reachBytes) = true) : ∃ a n cap l, c = .slice a n cap ∧ Rw rngV 2 W a n cap l ∧ n * 16 ≤ 140737488351232 := by
  rcases DataW.trod_slice Tryd.underlying46 h with ⟨hc, _⟩ | ⟨a, len, cap, elems, rest, m, _, hc, hx, _, hl, hm, hlen, hel, _, _⟩
  · simp only [List.cons.injEq, and_true] at hc
    exact ⟨none, 0, 0, [], hc, rw_nil W, by omega⟩
  · simp only [List.cons.injEq, and_true] at hc
    have hz' : (DataW.weightsEach Tryd.prog [46] [y.1]).all (· ≤ reachBytes) = true := by simpa [DataW.weightsEach] using hz
    rw [hx] at hz'
    have h1 := sized_slice hz' (j := 0) rfl rfl Tryd.underlying46
    rw [bytesRg, reach_is] at h1
    simp only [List.length_map] at h1
    obtain ⟨L, hr, _⟩ := rw_of_cells layRo hl hm (a := a) (W := W) (P := fun _ => True) (fun j hj => by
      have he := hel j hj
      rw [List.getElem?_eq_getElem (by omega : j < elems.length), cellsRg] at he
      obtain ⟨cs, hcs, htr⟩ := Option.bind_eq_some_iff.1 he
      obtain ⟨p, hcsp⟩ := open_rg htr
      exact ⟨p, trivial, cs, hcs, hcsp⟩)
    exact ⟨some a, len, cap, L, hc, hr, by omega⟩
theorem open_id2 {H : Type} {enc : TypeId × Value → H} {W : World} {fuel : Nat} {cs : List Value} {x : DataW H × List MemPlace}
    (h : DataW.trod enc Tryd.prog W 0 (fun _ => true) true fuel 42 cs = some x) : ∃ a b, cs = [.int .i64 a, .int .i64 b] := by
  obtain ⟨xs, m, _, hx, hl, hlen, hel⟩ := DataW.trod_array Tryd.underlying42 h
  rw [cellsID] at hl
  rw [cellsI64] at hel
  match cs, hl, xs, hlen, hx, hel with
  | [c0, c1], _, [y0, y1], _, hx, hel =>
    have q0 : DataW.trod enc Tryd.prog W 0 (fun _ => true) true m 3 [c0] = some y0 := by simpa using hel 0 (by decide)
    have q1 : DataW.trod enc Tryd.prog W 0 (fun _ => true) true m 3 [c1] = some y1 := by simpa using hel 1 (by decide)
    obtain ⟨a, e0, _, _⟩ := DataW.trod_int Tryd.underlying3 q0
    obtain ⟨b, e1, _, _⟩ := DataW.trod_int Tryd.underlying3 q1
    simp only [List.cons.injEq, and_true] at e0 e1
    subst e0 e1
    exact ⟨a, b, rfl⟩
theorem open_head {H : Type} {enc : TypeId × Value → H} {W : World} {fuel : Nat} {cs : List Value} {x : DataW H × List MemPlace}
    (h : DataW.trod enc Tryd.prog W 0 (fun _ => true) true fuel 45 cs = some x) : ∃ a b k, cs = [.int .i64 a, .int .i64 b, .int .i64 k] := by
  obtain ⟨xs, m, _, hx, hl, hlen, hel⟩ := DataW.trod_struct Tryd.underlying45 h
  rw [cellsHead] at hl
  match cs, hl, xs, hlen, hx, hel with
  | [c0, c1, c2], _, [y0, y1], _, hx, hel =>
    have q0 : DataW.trod enc Tryd.prog W 0 (fun _ => true) true m 42 [c0, c1] = some y0 := by simpa [cellsID] using hel 0 _ rfl
    have q1 : DataW.trod enc Tryd.prog W 0 (fun _ => true) true m 43 [c2] = some y1 := by simpa [cellsKind] using hel 1 _ rfl
    obtain ⟨a, b, e0⟩ := open_id2 q0
    obtain ⟨k, e1, _, _⟩ := DataW.trod_int Tryd.underlying43 q1
    simp only [List.cons.injEq, and_true] at e0 e1
    obtain ⟨rfl, rfl⟩ := e0
    subst e1
    exact ⟨a, b, k, rfl⟩
def opC (o : OpV) (a : Option Addr) (m cap : Nat) : List Value := [.int .i64 o.c, .int .i64 o.n, .int .i64 o.k, .int .i64 o.p, .string o.s, .slice a m cap, .int .i64 o.tc, .int .i64 o.tn, .bool o.on]
theorem open_op {H : Type} {enc : TypeId × Value → H} {W : World} {fuel : Nat} {cs : List Value} {x : DataW H × List MemPlace}
    (h : DataW.trod enc Tryd.prog W 0 (fun _ => true) true fuel 48 cs = some x) (hz : (x.1.weights Tryd.prog 48).all (· ≤ reachBytes) = true) :
    ∃ (o : OpV) (a : Option Addr) (m cap : Nat), cs = opC o a m cap ∧ Sp.Rng W a m cap o.l ∧ m * 16 ≤ 140737488351232 ∧ o.s.size ≤ 9223372036854775807 := by
  obtain ⟨xs, f, _, hx, hl, hlen, hel⟩ := DataW.trod_struct Tryd.underlying48 h
  rw [cellsOp9] at hl
  match cs, hl, xs, hlen, hx, hel with
  | [c0, c1, c2, c3, c4, c5, c6, c7, c8], _, [y0, y1, y2, y3, y4, y5], _, hx, hel =>
    have q0 : DataW.trod enc Tryd.prog W 0 (fun _ => true) true f 45 [c0, c1, c2] = some y0 := by simpa [cellsHead] using hel 0 _ rfl
    have q1 : DataW.trod enc Tryd.prog W 0 (fun _ => true) true f 3 [c3] = some y1 := by simpa [cellsI64] using hel 1 _ rfl
    have q2 : DataW.trod enc Tryd.prog W 0 (fun _ => true) true f 9 [c4] = some y2 := by simpa [cellsStrg] using hel 2 _ rfl
    have q3 : DataW.trod enc Tryd.prog W 0 (fun _ => true) true f 46 [c5] = some y3 := by simpa [cellsRgs] using hel 3 _ rfl
    have q4 : DataW.trod enc Tryd.prog W 0 (fun _ => true) true f 42 [c6, c7] = some y4 := by simpa [cellsID] using hel 4 _ rfl
    have q5 : DataW.trod enc Tryd.prog W 0 (fun _ => true) true f 4 [c8] = some y5 := by simpa [cellsBool] using hel 5 _ rfl
    have hd : x.1 = .agg [y0.1, y1.1, y2.1, y3.1, y4.1, y5.1] := by
      have := congrArg Prod.fst hx
      simpa using this
    rw [hd] at hz
    have hz3 : (y3.1.weights Tryd.prog 46).all (· ≤ reachBytes) = true := by
      simp only [DataW.weights, Tryd.underlying48, List.map_cons, List.map_nil, DataW.weightsEach, List.all_append, Bool.and_eq_true] at hz
      exact hz.2.2.2.1
    obtain ⟨a0, b0, k0, e0⟩ := open_head q0
    obtain ⟨p, e1, _, _⟩ := DataW.trod_int Tryd.underlying3 q1
    obtain ⟨s, e2, _, hs⟩ := DataW.trod_string Tryd.underlying9 q2
    obtain ⟨ra, rm, rc, l, e3, hr, hm⟩ := open_rgs q3 hz3
    obtain ⟨ta, tb, e4⟩ := open_id2 q4
    obtain ⟨on, e5, _⟩ := DataW.trod_bool Tryd.underlying4 q5
    simp only [List.cons.injEq, and_true] at e0 e1 e2 e4 e5
    obtain ⟨rfl, rfl, rfl⟩ := e0
    obtain ⟨rfl, rfl⟩ := e4
    subst e1 e2 e3 e5
    simp only [maxLen] at hs
    exact ⟨⟨a0, b0, k0, p, s, l, ta, tb, on⟩, ra, rm, rc, rfl, rng_of_rw hr, hm, hs⟩
theorem open_step {H : Type} {enc : TypeId × Value → H} {W : World} {fuel : Nat} {cs : List Value} {x : DataW H × List MemPlace}
    (h : DataW.trod enc Tryd.prog W 0 (fun _ => true) true fuel 64 cs = some x) (hz : (x.1.weights Tryd.prog 64).all (· ≤ reachBytes) = true) : ∃ p : StepV, StepOk W p ∧ cs = stepF p := by
  obtain ⟨xs, f, _, hx, hl, hlen, hel⟩ := DataW.trod_struct Tryd.underlying64 h
  rw [cellsStep] at hl
  match cs, hl, xs, hlen, hx, hel with
  | [c0, c1, c2, c3, c4, c5, c6, c7, c8, c9, c10, c11, c12, c13, c14, c15, c16, c17, c18, c19, c20], _, [y0, y1, y2, y3, y4], _, hx, hel =>
    have q0 : DataW.trod enc Tryd.prog W 0 (fun _ => true) true f 3 [c0] = some y0 := by simpa [cellsI64] using hel 0 _ rfl
    have q1 : DataW.trod enc Tryd.prog W 0 (fun _ => true) true f 48 [c1, c2, c3, c4, c5, c6, c7, c8, c9] = some y1 := by simpa [cellsOp9] using hel 1 _ rfl
    have q2 : DataW.trod enc Tryd.prog W 0 (fun _ => true) true f 48 [c10, c11, c12, c13, c14, c15, c16, c17, c18] = some y2 := by simpa [cellsOp9] using hel 2 _ rfl
    have q3 : DataW.trod enc Tryd.prog W 0 (fun _ => true) true f 3 [c19] = some y3 := by simpa [cellsI64] using hel 3 _ rfl
    have q4 : DataW.trod enc Tryd.prog W 0 (fun _ => true) true f 9 [c20] = some y4 := by simpa [cellsStrg] using hel 4 _ rfl
    have hd : x.1 = .agg [y0.1, y1.1, y2.1, y3.1, y4.1] := by
      have := congrArg Prod.fst hx
      simpa using this
    rw [hd] at hz
    simp only [DataW.weights, Tryd.underlying64, List.map_cons, List.map_nil, DataW.weightsEach, List.all_append, Bool.and_eq_true] at hz
    obtain ⟨k, e0, _, _⟩ := DataW.trod_int Tryd.underlying3 q0
    obtain ⟨o1, a1, m1, k1, e1, r1, z1, s1⟩ := open_op q1 hz.2.1
    obtain ⟨o2, a2, m2, k2, e2, r2, z2, s2⟩ := open_op q2 hz.2.2.1
    obtain ⟨t, e3, _, _⟩ := DataW.trod_int Tryd.underlying3 q3
    obtain ⟨ln, e4, _, _⟩ := DataW.trod_string Tryd.underlying9 q4
    refine ⟨⟨k, o1, a1, m1, k1, o2, a2, m2, k2, t, ln⟩, ⟨r1, z1, s1⟩, ?_⟩
    have e : [c0, c1, c2, c3, c4, c5, c6, c7, c8, c9, c10, c11, c12, c13, c14, c15, c16, c17, c18, c19, c20] = [c0] ++ [c1, c2, c3, c4, c5, c6, c7, c8, c9] ++ [c10, c11, c12, c13, c14, c15, c16, c17, c18] ++ [c19] ++ [c20] := rfl
    rw [e, e0, e1, e2, e3, e4]
    rfl
/-- A Play, opened. -/
theorem open_play {H : Type} {enc : TypeId × Value → H} {W : World} {base : Nat} {v : Value} {d : DataW H} {p : List MemPlace}
    (hv : Value.okWide Tryd.prog W .any base 60 v) (h : DataW.Trod enc Tryd.prog W 0 (fun _ => true) true 60 v d p) (hz : (d.weights Tryd.prog 60).all (· ≤ reachBytes) = true) :
    ∃ (aC aS : Option Addr) (nC cC nS cS : Nat) (zs : List (Int × Int)) (L : List StepV), v = .agg #[.slice aC nC cC, .slice aS nS cS] ∧ Rw cellV 2 W aC nC cC zs ∧ Rw stepF 21 W aS nS cS L ∧ ∀ x ∈ L, StepOk W x := by
  obtain ⟨cs, rfl, hsz⟩ := okWide_struct Tryd.underlying60 hv
  obtain ⟨c0, c1, rfl⟩ := array2 (hsz.trans cellsPlay)
  obtain ⟨fuel, hf⟩ := h
  obtain ⟨xs, m, _, hx, _, hlen, hel⟩ := DataW.trod_struct Tryd.underlying60 hf
  match xs, hlen, hx, hel with
  | [y0, y1], _, hx, hel =>
    have q0 : DataW.trod enc Tryd.prog W 0 (fun _ => true) true m 22 [c0] = some y0 := by simpa [Value.cells, cellsCells] using hel 0 _ rfl
    have q1 : DataW.trod enc Tryd.prog W 0 (fun _ => true) true m 58 [c1] = some y1 := by simpa [Value.cells, cellsSteps] using hel 1 _ rfl
    have hd : d = .agg [y0.1, y1.1] := by
      have := congrArg Prod.fst hx
      simpa using this
    rw [hd] at hz
    simp only [DataW.weights, Tryd.underlying60, List.map_cons, List.map_nil, DataW.weightsEach, List.all_append, Bool.and_eq_true] at hz
    have hz1 := hz.2.1
    obtain ⟨a0, n0, k0, zs, e0, h0⟩ := open_cells1 q0
    rcases DataW.trod_slice Tryd.underlying58 q1 with ⟨hc, _⟩ | ⟨a, len, cap, elems, rest, f, _, hc, hx1, _, hl, hm, hln, hel1, _, _⟩
    · simp only [List.cons.injEq, and_true] at hc
      subst e0 hc
      exact ⟨_, _, _, _, _, _, zs, [], rfl, h0, rw_nil W, fun x hx => by cases hx⟩
    · simp only [List.cons.injEq, and_true] at hc
      rw [hx1] at hz1
      simp only [DataW.weights, Tryd.underlying58, List.all_cons, Bool.and_eq_true, List.all_append] at hz1
      obtain ⟨L, hr, hP⟩ := rw_of_cells layS hl hm (a := a) (W := W) (P := StepOk W) (fun j hj => by
        have he := hel1 j hj
        rw [List.getElem?_eq_getElem (by omega : j < elems.length), cellsStep] at he
        obtain ⟨cs, hcs, htr⟩ := Option.bind_eq_some_iff.1 he
        obtain ⟨p, hp, hcsp⟩ := open_step htr (weightsAll_mem (List.mem_map.2 ⟨_, List.getElem_mem (by omega), rfl⟩) hz1.2.1)
        exact ⟨p, hp, cs, hcs, hcsp⟩)
      subst e0 hc
      exact ⟨_, _, _, _, _, _, zs, L, rfl, h0, hr, hP⟩
end Go.Proofs.YtggdocnnbgcniaaDoor
