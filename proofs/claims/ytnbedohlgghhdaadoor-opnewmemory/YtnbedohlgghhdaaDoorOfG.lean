import Derived.Test.YtnbedohlgghhdaaDoorOfEF
/-! OpNewMemory. -/
namespace Go.Proofs.YtnbedohlgghhdaaDoor
open Go.RowKit Go.Lib Sp
set_option maxRecDepth 100000

/-- A deed in memory. -/
def deedF (x : (Int × Int) × (Option Addr × Nat × Nat) × (Option Addr × Nat × Nat)) : List Value := [.int .i64 x.1.1, .int .i64 x.1.2, .slice x.2.1.1 x.2.1.2.1 x.2.1.2.2, .slice x.2.2.1 x.2.2.2.1 x.2.2.2.2]
theorem layD : Lay deedF 4 := ⟨fun _ => rfl, by decide, fun x u hu => by simp [deedF] at hu; rcases hu with rfl | rfl | rfl | rfl <;> rfl⟩
theorem kindD : Kind Tryd.prog 22 30 4 64 := kind_of Tryd.underlying22 (z := .agg #[.int .i64 0, .int .i64 0, .slice none 0 0, .slice none 0 0]) (by kernel_rfl) rfl
/-- A deed whose lists can be read. -/
def DeedOk (W : World) (x : (Int × Int) × (Option Addr × Nat × Nat) × (Option Addr × Nat × Nat)) : Prop := (∃ zs, Rw rune1 1 W x.2.1.1 x.2.1.2.1 x.2.1.2.2 zs) ∧ ∃ ys, Rw int1 1 W x.2.2.1 x.2.2.2.1 x.2.2.2.2 ys
theorem own_lit1 {α : Type} {f : α → List Value} {k : Nat} {T : TypeId} (hf : Lay f k) {W : World} {B g : Nat} {x : α} {cs : Array Value} (hcs : f x = cs.toList) (h : W.heap[g]? = some (.cells cs T)) (hB : B ≤ g) : OwnF f k T W B (.slice (some ⟨g, 0, none⟩) 1 1) [x] := by
  have h1 : (flatF f [x]) = cs.toList := by simp [flatF, hcs]
  have h2 : cs.size = k := by rw [← Array.length_toList, ← hcs]; exact hf.len x
  unfold OwnF
  rw [h1]
  exact ⟨by simp [h2], .inr ⟨g, 1, cs, rfl, hB, h, Nat.le_refl _, by decide, by omega, by rw [List.take_of_length_le (by simp [h2])]⟩⟩
theorem appendD {w : World} {B g : Nat} {x : (Int × Int) × (Option Addr × Nat × Nat) × (Option Addr × Nat × Nat)} (h : OwnF deedF 4 30 w B (.slice (some ⟨g, 0, none⟩) 1 1) [x]) (hB : B ≤ w.heap.size) {b : Option Addr} {m capb : Nat} {L : List ((Int × Int) × (Option Addr × Nat × Nat) × (Option Addr × Nat × Nat))} (hy : Rw deedF 4 w b m capb L) (hs : (1 + m) * 64 ≤ 140737488355328) (ty : TypeId) :
    ∃ a' cap' w', (Builtin.append_ #[22, 22] ty #[.slice (some ⟨g, 0, none⟩) 1 1, .slice b m capb]).run Tryd.prog w = .ok (.slice a' (1 + m) cap') w' ∧ OwnF deedF 4 30 w' B (.slice a' (1 + m) cap') (x :: L) ∧ Below B w w' := by
  by_cases hm : 0 < m
  · obtain ⟨g', cap', w', hr, ho, hb, _, _⟩ := appendF kindD layD h hB hy hm hs (by simp; omega) ty
    exact ⟨_, cap', w', hr, ho, hb⟩
  · obtain rfl : m = 0 := by omega
    obtain ⟨a', cap', w', hr, ho, hb, _⟩ := appendF_all kindD layD h hB hy (by simp) (by simp) ty
    exact ⟨a', cap', w', hr, ho, hb⟩

theorem rng_ltN {w : World} {a : Option Addr} {m cap : Nat} {l : List (Int × Int)} (h : Rng w a m cap l) (h0 : 0 < m) : ∀ g off, a = some ⟨g, off, none⟩ → g < w.heap.size := fun g off e => by
  obtain ⟨g', off', ha, hg, _⟩ := h.cells 0 h0
  rw [e] at ha
  cases ha
  exact hg
set_option maxHeartbeats 16000000 in
theorem opNewMemory_any {w : World} {a0 : Option Addr} {n0 cap0 : Nat} {L : List ((Int × Int) × (Option Addr × Nat × Nat) × (Option Addr × Nat × Nat))} (hL : Rw deedF 4 w a0 n0 cap0 L) (hok : ∀ x ∈ L, DeedOk w x) (hn0 : n0 * 64 ≤ 140737488351232) (hw : Bar w) (hp : Pow w) (hd : Deb w) (he : Errs w) :
    Calls Tryd.prog 3 #[.slice a0 n0 cap0] w fun e w' => e = .returned (.bool true) ∧ Below w.heap.size w w' := by
  have HW : Hid (∀ W, Below w.heap.size w W → Bar W ∧ Pow W ∧ Deb W ∧ Errs W) := fun W hb => ⟨hw.below hb, hp.below hb, hd.below hb, he.below hb⟩
  obtain ⟨W1, e1⟩ : ∃ W1, ((w.alloc (.cells #[.slice none 0 0, .slice none 0 0, .int .i64 0] 26)).alloc (.cells #[.int .i64 0, .int .i64 2, .int .i64 4] 3)).alloc (.cells #[.int .i64 1, .int .i64 0, .slice none 0 0, .slice (some ⟨w.heap.size + 1, 0, none⟩) 3 3] 30) = W1 := ⟨_, rfl⟩
  have b1 : Below w.heap.size w W1 := by rw [← e1]; exact (((Below.refl w.heap.size w).alloc (Nat.le_refl _) _).alloc (by simp) _).alloc (by simp; omega) _
  have s1 : w.heap.size + 3 = W1.heap.size := by rw [← e1]; simp
  have hbb1 : W1.heap[w.heap.size]? = some (.cells #[.slice none 0 0, .slice none 0 0, .int .i64 0] 26) := by rw [← e1]; exact (Below.heap_alloc _ _ _ (by simp; omega)).trans ((Below.heap_alloc _ _ _ (by simp)).trans (alloc_last _ _ _ rfl))
  have hin1 : W1.heap[w.heap.size + 1]? = some (.cells #[.int .i64 0, .int .i64 2, .int .i64 4] 3) := by rw [← e1]; exact (Below.heap_alloc _ _ _ (by simp)).trans (alloc_last _ _ _ (by simp))
  have hli1 : W1.heap[w.heap.size + 2]? = some (.cells #[.int .i64 1, .int .i64 0, .slice none 0 0, .slice (some ⟨w.heap.size + 1, 0, none⟩) 3 3] 30) := by rw [← e1]; exact alloc_last _ _ _ (by simp)
  obtain ⟨aD, capD, XK, rD, oD, bD⟩ := appendD (B := w.heap.size + 2) (x := ((1, 0), (none, 0, 0), (some ⟨w.heap.size + 1, 0, none⟩, 3, 3))) (own_lit1 layD rfl hli1 (Nat.le_refl _)) (by omega) (hL.below b1) (by omega) 22
  have hsK := bD.size
  have bK : Below w.heap.size w XK := b1.trans (bD.mono (by omega))
  have hbbK := (bD.block _ (by omega)).trans hbb1
  have hinK := (bD.block _ (by omega)).trans hin1
  have HDk : Hid (∀ x ∈ ((1, 0), ((none : Option Addr), 0, 0), (some ⟨w.heap.size + 1, 0, none⟩, 3, 3)) :: L, ∀ C, Chg (fun g => g = w.heap.size) XK C → DeedOk C x) := by
    intro x hx C hC
    rcases List.mem_cons.1 hx with rfl | hx
    · refine ⟨⟨[], rw_nil _⟩, [0, 2, 4], rfl, ⟨Nat.le_refl _, by simp [maxLen]⟩, fun _ => ⟨w.heap.size + 1, 0, rfl, ?_, fun j y hj i v hv => ?_⟩⟩
      · exact Nat.lt_of_lt_of_le (Array.getElem?_eq_some_iff.1 hinK).1 hC.size
      · have hh := hC.block hinK (by omega)
        simp only [World.cell?, hh]
        match j, hj with
        | 0, hj => simp at hj; subst hj; match i, hv with | 0, hv => simpa [int1] using hv
        | 1, hj => simp at hj; subst hj; match i, hv with | 0, hv => simpa [int1] using hv
        | 2, hj => simp at hj; subst hj; match i, hv with | 0, hv => simpa [int1] using hv
    · obtain ⟨⟨zs, h1⟩, ys, h2⟩ := hok x hx
      have key : ∀ {α : Type} {f : α → List Value} {k : Nat} {aa : Option Addr} {nn cc : Nat} {ll : List α}, Rw f k w aa nn cc ll → Rw f k C aa nn cc ll := fun {α f k aa nn cc ll} hr => hr.blocks (fun g off e h0 => by
        obtain ⟨g', off', e', hg', _⟩ := hr.cells h0
        rw [e] at e'
        cases e'
        exact (hC.2 g (Nat.lt_of_lt_of_le hg' bK.size) (by omega)).trans (bK.block g hg')) (Nat.le_trans bK.size hC.size)
      exact ⟨⟨zs, key h1⟩, ys, key h2⟩
  have HDr : Hid (∀ C, Chg (fun g => g = w.heap.size) XK C → Rw deedF 4 C aD (1 + n0) capD (((1, 0), ((none : Option Addr), 0, 0), (some ⟨w.heap.size + 1, 0, none⟩, 3, 3)) :: L)) := fun C hC => (oD.rw_ layD).blocks (fun g off e h0 => hC.2 g (by
      obtain ⟨g', off', e', hg', _⟩ := (oD.rw_ layD).cells h0
      rw [e] at e'; cases e'; exact hg') (fun e2 => by
      rcases oD.2 with ⟨e3, h3⟩ | ⟨g', cap', cur, e3, hB3, _⟩
      · simp at h3
      · simp only [Value.slice.injEq] at e3
        rw [e] at e3
        have := e3.1
        simp only [Option.some.injEq, Addr.mk.injEq, and_true] at this
        omega)) hC.size
  have HBK : Hid (Below w.heap.size w XK) := bK
  have HBook0 : Hid (Book XK w.heap.size (.slice none 0 0) (.slice none 0 0) 0 []) := ⟨hbbK, ownF_nil _ _, ownF_nil _ _, fun g hg => by simp [Value.ownBlock] at hg, fun x hx => by cases hx⟩
  have hbbl : w.heap.size < XK.heap.size := by omega
  clear hL hok hw hp hd he oD bD hbbK hinK b1 hbb1 hin1 hli1 bK s1
  obtain ⟨DL, hDL⟩ : ∃ DL, ((1, 0), ((none : Option Addr), 0, 0), (some ⟨w.heap.size + 1, 0, none⟩, 3, 3)) :: L = DL := ⟨_, rfl⟩
  rw [hDL] at HDk HDr
  clear hDL
  rw [← e1] at rD
  clear e1 hsK
  go_enter Tryd.func3, Tryd.ntmps3
  go_wp2_with (at_builtin; refine wpList_append_hr rfl _ _ 22 rfl _ _ rfl rfl rD ?_)
  clear rD
  go_loopw [4, 5, 6, 7, 8, 9, 10, 11, 12, 13, 14, 15, 16] (fun v4 _ _ _ _ _ _ _ _ _ _ _ _ w' => ∃ (i : Nat) (vg vw : Value) (G : List ((((Option Addr × Nat × Nat)) × ((Option Addr × Nat × Nat))) × List (Int × Int))), v4 = .int .i64 i ∧ i ≤ 60 ∧ i ≤ 1 + n0 ∧ Book w' w.heap.size vg vw (4 * (i : Int)) G ∧ G.length = 8 * i ∧ Chg (fun g => g = w.heap.size) XK w' ∧ (∀ g, vg.ownBlock = some g → XK.heap.size ≤ g) ∧ (∀ g, vw.ownBlock = some g → XK.heap.size ≤ g) ∧ Below w.heap.size w w') (fun v4 _ _ _ _ _ _ _ _ _ _ _ _ _ => 60 - (RowKit.intOf v4).toNat)
  case atStart => exact ⟨0, _, _, [], rfl, by omega, by omega, HBook0.out, rfl, Chg.refl _ _, fun g hg => by simp [Value.ownBlock] at hg, fun g hg => by simp [Value.ownBlock] at hg, HBK.out⟩
  case round =>
    obtain ⟨i, vg, vw, G, rfl, hi60, hin, hbk, hGl, hcx, hgg, hgw, hbw⟩ := hrel
    by_cases hi : i < 1 + n0 ∧ i < 60
    · obtain ⟨hi1, hi2⟩ := hi
      have hiI1 : (i : Int) < 1 + (n0 : Int) := by omega
      have hiI2 : (i : Int) < 60 := by omega
      have hrw := HDr.out wr hcx
      obtain ⟨gD, offD, x, eD, hgD, hx, hcD⟩ := hrw.at i hi1
      have hDok := HDk.out x (List.mem_of_getElem? hx) wr hcx
      subst eD
      obtain ⟨⟨dk, dp⟩, ⟨ta, n1, c1⟩, pa, n2, c2⟩ := x
      have q0 := hcD 0 (.int .i64 dk) rfl
      have q1 := hcD 1 (.int .i64 dp) rfl
      have q2 := hcD 2 (.slice ta n1 c1) rfl
      have q3 := hcD 3 (.slice pa n2 c2) rfl
      simp only [Nat.add_zero] at q0
      obtain ⟨⟨zs, hT⟩, ys, hP⟩ := hDok
      have HR := right_num (dk := dk) (dp := dp) hT hP 64 (by omega) (i : Int)
      simp only [deedV] at HR
      have HBK0 : Hid (Book wr w.heap.size vg vw (4 * (i : Int)) G) := hbk
      have hgl : ∀ g, vg.ownBlock = some g → g < wr.heap.size := fun g hg => hbk.got.lt hg
      have hwl : ∀ g, vw.ownBlock = some g → g < wr.heap.size := fun g hg => hbk.want.lt hg
      have HGG : Hid (∀ g, vg.ownBlock = some g → XK.heap.size ≤ g ∧ g < wr.heap.size) := fun g hg => ⟨hgg g hg, hgl g hg⟩
      have HGW : Hid (∀ g, vw.ownBlock = some g → XK.heap.size ≤ g ∧ g < wr.heap.size) := fun g hg => ⟨hgw g hg, hwl g hg⟩
      have HCX : Hid (Chg (fun g => g = w.heap.size) XK wr) := hcx
      have HBW : Hid (Below w.heap.size w wr) := hbw
      have HGL : Hid (G.length = 8 * i) := hGl
      have hsx := hcx.size
      clear hbk hgl hwl hgg hgw hcx hbw hGl hT hP hcD hx hrw
      go_wp2_with fail
      refine HR.mono ?_
      rintro e w1 ⟨o, a, m, cap, rfl, sn, rg, ad, hb1⟩
      have hs1 := hb1.size
      have HML : Hid (m = o.l.length) := rg.len.symm
      have hfew : m ≤ 1000 := by have := sn.few; have := HML.out; omega
      have hosz := sn.size
      simp only [opVal]
      clear q0 q1 q2 q3 HR
      go_upto_region 7 with fail
      obtain ⟨w2, e2⟩ : ∃ w2, w1.alloc (.cells #[.int .i64 o.c, .int .i64 o.n, .int .i64 o.k, .int .i64 o.p, .string o.s, .slice a m cap, .int .i64 o.tc, .int .i64 o.tn, .bool o.on] 38) = w2 := ⟨_, rfl⟩
      rw [e2]
      have b2 : Below w1.heap.size w1 w2 := by rw [← e2]; exact (Below.refl _ _).alloc (Nat.le_refl _) _
      have s2 : w1.heap.size + 1 ≤ w2.heap.size := by rw [← e2]; simp
      have x2 : w2.heap[w1.heap.size]? = some (.cells #[.int .i64 o.c, .int .i64 o.n, .int .i64 o.k, .int .i64 o.p, .string o.s, .slice a m cap, .int .i64 o.tc, .int .i64 o.tn, .bool o.on] 38) := by rw [← e2]; exact heap_alloc_new _ _
      have b12 := hb1.trans (b2.mono hs1)
      have st2 : St w XK w.heap.size w1.heap.size wr.heap.size (w1.heap.size + 1) o a m cap w2 vg vw (4 * (i : Int)) G := ⟨HBK0.out.below b12, x2, rg.below b2, HBW.out.trans (b12.mono HBW.out.size), HCX.out.trans (Chg.of_below b12), fun g hg => ⟨(HGG.out g hg).1, .inl (HGG.out g hg).2⟩, fun g hg => ⟨(HGW.out g hg).1, .inl (HGW.out g hg).2⟩, s2, ⟨Nat.le_refl _, hbbl, hsx, hs1, by omega⟩, fun g off e h0 => ⟨ad g off e, by have := rng_ltN rg h0 g off e; omega⟩⟩
      clear e2 b2 x2 b12 hb1 rg
      have HST2 : Hid (St w XK w.heap.size w1.heap.size wr.heap.size (w1.heap.size + 1) o a m cap w2 vg vw (4 * (i : Int)) G) := st2
      have t2 := HW.out w2 st2.bw
      have HP := print_right (o := o) st2.rng sn.own (by omega) t2.1 t2.2.1 t2.2.2.1
      simp only [opVal] at HP
      obtain ⟨f0, f1, f2, f3, f4, f5, f6, f7, f8⟩ := box9 st2.box
      clear t2 st2
      go_wp2_with fail
      refine HP.mono ?_
      rintro e w3 ⟨rfl, hb3⟩
      have st3 := HST2.out.below hb3
      clear HP f0 f1 f2 f3 f4 f5 f6 f7 f8 HST2 hb3
      have HC := clone_sane (o := o) sn st3.rng
      simp only [opVal] at HC
      obtain ⟨f0, f1, f2, f3, f4, f5, f6, f7, f8⟩ := box9 st3.box
      have HST3 : Hid (St w XK w.heap.size w1.heap.size wr.heap.size (w1.heap.size + 1) o a m cap w3 vg vw (4 * (i : Int)) G) := st3
      have s3 := st3.size
      clear st3
      generalize hS : bs (printP o) = S at *
      go_wp2_with fail
      refine HC.mono ?_
      rintro e w4 ⟨a9, c9, rfl, ho4, hb4⟩
      clear HC f0 f1 f2 f3 f4 f5 f6 f7 f8
      have s4 := hb4.size
      go_upto_region 10 with fail
      obtain ⟨w5, e5⟩ : ∃ w5, w4.alloc (.cells #[.int .i64 o.c, .int .i64 o.n, .int .i64 o.k, .int .i64 o.p, .string o.s, .slice a9 m c9, .int .i64 o.tc, .int .i64 o.tn, .bool o.on] 38) = w5 := ⟨_, rfl⟩
      rw [e5]
      have b5 : Below w4.heap.size w4 w5 := by rw [← e5]; exact (Below.refl _ _).alloc (Nat.le_refl _) _
      have x5 : w5.heap[w4.heap.size]? = some (.cells #[.int .i64 o.c, .int .i64 o.n, .int .i64 o.k, .int .i64 o.p, .string o.s, .slice a9 m c9, .int .i64 o.tc, .int .i64 o.tn, .bool o.on] 38) := by rw [← e5]; exact heap_alloc_new _ _
      have st5 := (HST3.out.below hb4).below b5
      have HTK := st5.takes (by omega) (by omega) (by have := HGL.out; omega) (B0 := w3.heap.size) s3 (ho4.below b5) (by omega) (fun x hx => (HST3.out.pairs x hx).mono (fun g hg e => by have := (ho4.below b5).ge e; omega))
      obtain ⟨f0, f1, f2, f3, f4, f5, f6, f7, f8⟩ := box9 x5
      clear e5 b5 x5 hb4 HST3 st5
      have HO4 : Hid (OwnF rangeV 2 60 w4 w3.heap.size (.slice a9 m c9) o.l) := ho4
      clear ho4
      go_wp2_with fail
      refine HTK.mono ?_
      rintro e w6 ⟨⟨v6, rfl⟩, ⟨vg6, vw6, G6, st6, hl6, hn6⟩, hC6⟩
      clear HTK f0 f1 f2 f3 f4 f5 f6 f7 f8 hC6 HO4
      have s6 := st6.size
      have HST6 : Hid (St w XK w.heap.size w1.heap.size wr.heap.size (w1.heap.size + 1) o a m cap w6 vg6 vw6 (4 * (i : Int) + 1) G6) := st6
      have HN6 : Hid (G6.length = G.length + 2) := hl6
      have HV := covers_sane (o := o) sn st6.rng (HW.out w6 st6.bw).1
      simp only [opVal] at HV
      obtain ⟨f0, f1, f2, f3, f4, f5, f6, f7, f8⟩ := box9 st6.box
      clear st6 hl6 hn6
      go_wp2_with fail
      refine HV.mono ?_
      rintro e w7 ⟨a10, m10, c10, rfl, hm10, ho7, hb7⟩
      clear HV f0 f1 f2 f3 f4 f5 f6 f7 f8
      have st7 := HST6.out.below hb7
      have s7 := hb7.size
      have HI := inverse_sane (o := o) sn st7.rng (HW.out w7 st7.bw).1
      simp only [opVal] at HI
      obtain ⟨f0, f1, f2, f3, f4, f5, f6, f7, f8⟩ := box9 st7.box
      have hz10 : ((m10 : Int) == 0) = false := beq_eq_false_iff_ne.2 (by
        have := List.length_pos_iff.2 sn.cov.1
        omega)
      have hm10k : m10 ≤ 1000 := by have := sn.cov.2; omega
      have HM10 : Hid (m10 = (coveredP o).length) := hm10
      have HO7 : Hid (OwnF rangeV 2 60 w7 w6.heap.size (.slice a10 m10 c10) (coveredP o)) := ho7
      have HST7 : Hid (St w XK w.heap.size w1.heap.size wr.heap.size (w1.heap.size + 1) o a m cap w7 vg6 vw6 (4 * (i : Int) + 1) G6) := st7
      clear hm10 ho7 hb7 st7
      go_wp2_with fail
      refine HI.mono ?_
      rintro e w8 ⟨o8, a11, m11, c11, rfl, hm11, ho8, hb8⟩
      obtain rfl : m11 = m10 := by have := HM10.out; omega
      clear HI f0 f1 f2 f3 f4 f5 f6 f7 f8 hm11
      have s8 := hb8.size
      go_upto_region 15 with fail
      obtain ⟨w9, e9⟩ : ∃ w9, w8.alloc (.cells #[.int .i64 o8.c, .int .i64 o8.n, .int .i64 o8.k, .int .i64 o8.p, .string o8.s, .slice a11 m11 c11, .int .i64 o8.tc, .int .i64 o8.tn, .bool o8.on] 38) = w9 := ⟨_, rfl⟩
      rw [e9]
      have b9 : Below w8.heap.size w8 w9 := by rw [← e9]; exact (Below.refl _ _).alloc (Nat.le_refl _) _
      have s9 : w8.heap.size < w9.heap.size := by rw [← e9]; simp
      have x9 : w9.heap[w8.heap.size]? = some (.cells #[.int .i64 o8.c, .int .i64 o8.n, .int .i64 o8.k, .int .i64 o8.p, .string o8.s, .slice a11 m11 c11, .int .i64 o8.tc, .int .i64 o8.tn, .bool o8.on] 38) := by rw [← e9]; exact heap_alloc_new _ _
      have st9 := (HST7.out.below hb8).below b9
      have ho79 := (HO7.out.below hb8).below b9
      have HT2 := st9.takes (by omega) (by omega) (by have := HN6.out; have := HGL.out; omega) (B0 := w6.heap.size) s6 ho79 (by omega) (fun x hx => (HST6.out.pairs x hx).mono (fun g hg e => by have := ho79.ge e; omega))
      have HO9 : Hid (OwnF rangeV 2 60 w9 w7.heap.size (.slice a11 m11 c11) (coveredP o)) := ho8.below b9
      have HX9 : Hid (w9.heap[w8.heap.size]? = some (.cells #[.int .i64 o8.c, .int .i64 o8.n, .int .i64 o8.k, .int .i64 o8.p, .string o8.s, .slice a11 m11 c11, .int .i64 o8.tc, .int .i64 o8.tn, .bool o8.on] 38)) := x9
      obtain ⟨f0, f1, f2, f3, f4, f5, f6, f7, f8⟩ := box9 x9
      clear e9 b9 x9 hb8 st9 ho79 ho8
      go_wp2_with fail
      refine HT2.mono ?_
      rintro e w10 ⟨⟨v10, rfl⟩, ⟨vg10, vw10, G10, st10, hl10, hn10⟩, hC10⟩
      clear HT2 f0 f1 f2 f3 f4 f5 f6 f7 f8
      have s10 := hC10.size
      have L10 : ∀ g, (Value.slice a10 m11 c10).ownBlock = some g → g < w7.heap.size := fun g hg => HO7.out.lt hg
      have V6 : ∀ g, vg6.ownBlock = some g → g < w6.heap.size := fun g hg => HST6.out.book.got.lt hg
      have U6 : ∀ g, vw6.ownBlock = some g → g < w6.heap.size := fun g hg => HST6.out.book.want.lt hg
      have key10 : ∀ g, w7.heap.size ≤ g → ¬ TakeD w.heap.size vg6 vw6 (.slice a10 m11 c10) g := fun g q e => by
        rcases e with e | e | e | e
        · omega
        · have := V6 g e; omega
        · have := U6 g e; omega
        · have := L10 g e; omega
      have x10 := hC10.block HX9.out (key10 _ s8)
      have ho10 := hC10.own HO9.out (fun g hg => key10 g (HO9.out.ge hg))
      have HT3 := st10.takes (by omega) (by omega) (by have := HN6.out; have := HGL.out; omega) (B0 := w7.heap.size) (by omega) ho10 (by omega) (fun x hx => by
        rcases hn10 x hx with h | h
        · exact (HST6.out.pairs x h).mono (fun g hg e => by have := ho10.ge e; omega)
        · exact h.mono (fun g hg e => by
            have h1 := ho10.ge e
            have h2 := HO9.out.lt e
            rcases hg with q | q
            · have := L10 g q; omega
            · omega))
      obtain ⟨f0, f1, f2, f3, f4, f5, f6, f7, f8⟩ := box9 x10
      have HN10 : Hid (G10.length = G6.length + 2) := hl10
      clear st10 hl10 hn10 hC10 L10 V6 U6 key10 x10 ho10
      go_wp2_with fail
      refine HT3.mono ?_
      rintro e w11 ⟨⟨v11, rfl⟩, ⟨vg11, vw11, G11, st11, hl11, hn11⟩, hC11⟩
      clear HT3 f0 f1 f2 f3 f4 f5 f6 f7 f8 hn11
      have s11 := st11.size
      have HST11 : Hid (St w XK w.heap.size w1.heap.size wr.heap.size (w1.heap.size + 1) o a m cap w11 vg11 vw11 (4 * (i : Int) + 1 + 1 + 1) G11) := st11
      have HN11 : Hid (G11.length = G10.length + 2) := hl11
      have t11 := HW.out w11 st11.bw
      have HPa := parse_sane (o := o) sn w11 t11.1 t11.2.1 t11.2.2.1 t11.2.2.2
      rw [hS] at HPa
      simp only [opVal] at HPa
      clear st11 hl11 t11 hC11
      go_wp2_with fail
      refine HPa.mono ?_
      rintro e w12 ⟨a13, m13, c13, rfl, hm13, ho12, hb12⟩
      obtain rfl : m13 = m := by have := HML.out; omega
      clear HPa hm13
      have s12 := hb12.size
      go_upto_region 20 with fail
      obtain ⟨w13, e13⟩ : ∃ w13, w12.alloc (.cells #[.int .i64 o.c, .int .i64 o.n, .int .i64 o.k, .int .i64 o.p, .string o.s, .slice a13 m13 c13, .int .i64 o.tc, .int .i64 o.tn, .bool o.on] 38) = w13 := ⟨_, rfl⟩
      rw [e13]
      have b13 : Below w12.heap.size w12 w13 := by rw [← e13]; exact (Below.refl _ _).alloc (Nat.le_refl _) _
      have x13 : w13.heap[w12.heap.size]? = some (.cells #[.int .i64 o.c, .int .i64 o.n, .int .i64 o.k, .int .i64 o.p, .string o.s, .slice a13 m13 c13, .int .i64 o.tc, .int .i64 o.tn, .bool o.on] 38) := by rw [← e13]; exact heap_alloc_new _ _
      have st13 := (HST11.out.below hb12).below b13
      have ho13 := ho12.below b13
      have HT4 := st13.takes (by omega) (by omega) (by have := HN11.out; have := HN10.out; have := HN6.out; have := HGL.out; omega) (B0 := w11.heap.size) s11 ho13 (by omega) (fun x hx => (HST11.out.pairs x hx).mono (fun g hg e => by have := ho13.ge e; omega))
      obtain ⟨f0, f1, f2, f3, f4, f5, f6, f7, f8⟩ := box9 x13
      clear e13 b13 x13 hb12 st13 ho13 ho12
      go_wp2_with fail
      refine HT4.mono ?_
      rintro e w14 ⟨⟨v14, rfl⟩, ⟨vg14, vw14, G14, st14, hl14, hn14⟩, hC14⟩
      clear HT4 f0 f1 f2 f3 f4 f5 f6 f7 f8 hn14 hC14
      have t14 := HW.out w14 st14.bw
      have HP2 := print_right (o := o) st14.rng sn.own (by omega) t14.1 t14.2.1 t14.2.2.1
      rw [hS] at HP2
      simp only [opVal] at HP2
      obtain ⟨f0, f1, f2, f3, f4, f5, f6, f7, f8⟩ := box9 st14.box
      have HST14 : Hid (St w XK w.heap.size w1.heap.size wr.heap.size (w1.heap.size + 1) o a m13 cap w14 vg14 vw14 (4 * (i : Int) + 1 + 1 + 1 + 1) G14) := st14
      have HN14 : Hid (G14.length = G11.length + 2) := hl14
      clear st14 hl14 t14
      go_wp2_with fail
      refine HP2.mono ?_
      rintro e w15 ⟨rfl, hb15⟩
      clear HP2 f0 f1 f2 f3 f4 f5 f6 f7 f8
      have st15 := HST14.out.below hb15
      have hG8 : G14.length = 8 * (i + 1) := by have := HN14.out; have := HN11.out; have := HN10.out; have := HN6.out; have := HGL.out; omega
      have HHo := hold_any st15.book (by omega)
      have HST15 : Hid (St w XK w.heap.size w1.heap.size wr.heap.size (w1.heap.size + 1) o a m13 cap w15 vg14 vw14 (4 * (i : Int) + 1 + 1 + 1 + 1) G14) := st15
      have HG8 : Hid (G14.length = 8 * (i + 1)) := hG8
      clear st15 hb15 hG8
      go_wp2_with fail
      refine HHo.mono ?_
      rintro e w16 ⟨rfl, hb16⟩
      have st16 := HST15.out.below hb16
      have hbook := st16.book
      rw [show 4 * (i : Int) + 1 + 1 + 1 + 1 = 4 * ((i + 1 : Nat) : Int) by omega] at hbook
      have HB16 : Hid (Book w16 w.heap.size vg14 vw14 (4 * ((i + 1 : Nat) : Int)) G14) := hbook
      have HC16 : Hid (Chg (fun g => g = w.heap.size) XK w16) := st16.cx
      have HGE16 : Hid ((∀ g, vg14.ownBlock = some g → XK.heap.size ≤ g) ∧ (∀ g, vw14.ownBlock = some g → XK.heap.size ≤ g)) := ⟨fun g hg => (st16.gge g hg).1, fun g hg => (st16.wge g hg).1⟩
      have HBW16 : Hid (Below w.heap.size w w16) := st16.bw
      clear st16 hbook hb16 HHo
      go_wp2_with fail
      go_roundw
      case rel => exact ⟨i + 1, vg14, vw14, G14, by go_num, by omega, by omega, HB16.out, HG8.out, HC16.out, HGE16.out.1, HGE16.out.2, HBW16.out⟩
      case measure => simp [RowKit.intOf]; omega
    · have hi3 : ¬ ((i : Int) < 1 + (n0 : Int)) ∨ ((i : Int) < 1 + (n0 : Int) ∧ ¬ (i : Int) < 60) := by omega
      have HBW : Hid (Below w.heap.size w wr) := hbw
      clear hbk hGl hcx hgg hgw hbw
      rcases hi3 with h | ⟨h, h2⟩
      · have d1 : decide ((i : Int) < 1 + (n0 : Int)) = false := decide_eq_false h
        go_wp2_with fail
        go_ret
        exact ⟨rfl, HBW.out⟩
      · have d1 : decide ((i : Int) < 1 + (n0 : Int)) = true := decide_eq_true h
        have d2 : decide ((i : Int) < 60) = false := decide_eq_false h2
        go_wp2_with fail
        go_ret
        exact ⟨rfl, HBW.out⟩
end Go.Proofs.YtnbedohlgghhdaaDoor
