import Derived.Test.YtnbedohlgghhdaaDoorOfAB
/-! The sentences' own take. -/
namespace Go.Proofs.YtnbedohlgghhdaaDoor
open Go.RowKit Go.Lib
set_option maxRecDepth 100000

theorem box2 {W : World} {b : Nat} {T : TypeId} {v0 v1 : Value} (h : W.heap[b]? = some (.cells #[v0, v1] T)) : W.cell? ⟨b, 0, none⟩ = some v0 ∧ W.cell? ⟨b, 1, none⟩ = some v1 := by
  simp only [Lib.cell_of_heap h]
  exact ⟨rfl, rfl⟩
def TakeD (bb : Nat) (vg vw v : Value) (g : Nat) : Prop := g = bb ∨ vg.ownBlock = some g ∨ vw.ownBlock = some g ∨ v.ownBlock = some g
/-- Where the lists of a pair lie. -/
def PairIn (D : Nat → Prop) (x : ((Option Addr × Nat × Nat) × (Option Addr × Nat × Nat)) × List (Int × Int)) : Prop := (∀ g off, x.1.1.1 = some ⟨g, off, none⟩ → 0 < x.1.1.2.1 → D g) ∧ (∀ g off, x.1.2.1 = some ⟨g, off, none⟩ → 0 < x.1.2.2.1 → D g)
/-- What take leaves. -/
def takeP (W : World) (bb : Nat) (vg vw : Value) (mk : Int) (G : List (((Option Addr × Nat × Nat) × (Option Addr × Nat × Nat)) × List (Int × Int))) (a : Option Addr) (n cap : Nat) (W' : World) : Prop :=
  ∃ (vg' vw' : Value) (x1 x2 x3 : (Option Addr × Nat × Nat)) (M1 M2 : List (Int × Int)), Book W' bb vg' vw' (mk + 1) (G ++ [(((a, n, cap), x1), M1), ((x2, x3), M2)]) ∧ Chg (TakeD bb vg vw (.slice a n cap)) W W' ∧
    (∀ g, vg'.ownBlock = some g → vg.ownBlock = some g ∨ W.heap.size ≤ g) ∧ (∀ g, vw'.ownBlock = some g → vw.ownBlock = some g ∨ W.heap.size ≤ g) ∧
    (∀ x ∈ [(((a, n, cap), x1), M1), ((x2, x3), M2)], PairIn (fun g => (Value.slice a n cap).ownBlock = some g ∨ W.heap.size ≤ g) x)

set_option maxHeartbeats 16000000 in
theorem take_any {W : World} {bb : Nat} {vg vw : Value} {mk : Int} {G : List (((Option Addr × Nat × Nat) × (Option Addr × Nat × Nat)) × List (Int × Int))} (H : Book W bb vg vw mk G) (hmk : 0 ≤ mk) (hmk2 : mk ≤ 1000000) (hG : G.length ≤ 100000) {B0 : Nat} {a : Option Addr} {n cap : Nat} {l : List (Int × Int)} (hl : OwnF rangeV 2 60 W B0 (.slice a n cap) l) (hn : n ≤ 1000000)
    (hfr : ∀ x ∈ G, (∀ g off, x.1.1.1 = some ⟨g, off, none⟩ → 0 < x.1.1.2.1 → (Value.slice a n cap).ownBlock ≠ some g) ∧ (∀ g off, x.1.2.1 = some ⟨g, off, none⟩ → 0 < x.1.2.2.1 → (Value.slice a n cap).ownBlock ≠ some g)) :
    Calls Tryd.prog 7 #[.pointer (some ⟨bb, 0, none⟩), .slice a n cap] W fun e W' => (∃ v, e = .returned v) ∧ takeP W bb vg vw mk G a n cap W' := by
  obtain ⟨ag, cg, hvg⟩ := H.got.shape
  obtain ⟨aq, cq, hvw⟩ := H.want.shape
  rw [List.length_map] at hvg hvw
  subst hvg hvw
  have hll : l.length = n := (hl.rw_ layG).len
  have lbb := (Array.getElem?_eq_some_iff.1 H.box).1
  have hlb : ∀ g, (Value.slice a n cap).ownBlock = some g → g ≠ bb := fun g hg e => by
    obtain ⟨cs, fr, h⟩ := hl.blockType hg
    rw [e, H.box] at h
    simp at h
  have hlg : ∀ g, (Value.slice a n cap).ownBlock = some g → (Value.slice ag G.length cg).ownBlock ≠ some g := fun g hg e => by
    obtain ⟨cs, fr, h⟩ := hl.blockType hg
    obtain ⟨cs', fr', h'⟩ := H.got.blockType e
    rw [h] at h'
    simp at h'
  have hlw : ∀ g, (Value.slice a n cap).ownBlock = some g → (Value.slice aq G.length cq).ownBlock ≠ some g := fun g hg e => by
    obtain ⟨cs, fr, h⟩ := hl.blockType hg
    obtain ⟨cs', fr', h'⟩ := H.want.blockType e
    rw [h] at h'
    simp at h'
  have hgb : (Value.slice ag G.length cg).ownBlock ≠ some bb := fun e => by
    obtain ⟨cs', fr', h'⟩ := H.got.blockType e
    rw [H.box] at h'
    simp at h'
  have hwb : (Value.slice aq G.length cq).ownBlock ≠ some bb := fun e => by
    obtain ⟨cs', fr', h'⟩ := H.want.blockType e
    rw [H.box] at h'
    simp at h'
  obtain ⟨m, hm⟩ : ∃ m, mk + 1 = m := ⟨_, rfl⟩
  have hm0 : 1 ≤ m := by omega
  have hm1 : m ≤ 1000001 := by omega
  obtain ⟨W1, e1, hb1, hC1⟩ := setBoxG H.box 2 (.int .i64 m) #[.slice ag G.length cg, .slice aq G.length cq, .int .i64 m] rfl
  have hl1 : OwnF rangeV 2 60 W1 B0 (.slice a n cap) l := hC1.own hl (fun g hg e => hlb g hg e)
  have hs1 : W1.heap.size = W.heap.size := by rw [← e1]; simp [World.setCell]
  obtain ⟨c0, c1, c2⟩ := box3 H.box
  have f2 := Lib.frozen_of_heap H.box 2
  have HH : Hid (Book W bb (.slice ag G.length cg) (.slice aq G.length cq) mk G) := H
  have HLB : Hid (∀ g, (Value.slice a n cap).ownBlock = some g → g ≠ bb ∧ (Value.slice ag G.length cg).ownBlock ≠ some g ∧ (Value.slice aq G.length cq).ownBlock ≠ some g) := fun g hg => ⟨hlb g hg, hlg g hg, hlw g hg⟩
  have HFR : Hid (∀ x ∈ G, (∀ g off, x.1.1.1 = some ⟨g, off, none⟩ → 0 < x.1.1.2.1 → (Value.slice a n cap).ownBlock ≠ some g) ∧ (∀ g off, x.1.2.1 = some ⟨g, off, none⟩ → 0 < x.1.2.2.1 → (Value.slice a n cap).ownBlock ≠ some g)) := hfr
  have HGB : Hid ((Value.slice ag G.length cg).ownBlock ≠ some bb ∧ (Value.slice aq G.length cq).ownBlock ≠ some bb) := ⟨hgb, hwb⟩
  have HLL : Hid (l.length = n) := hll
  have HLL1 : Hid (OwnF rangeV 2 60 W1 B0 (.slice a n cap) l) := hl1
  have HLT : Hid (∀ g, (Value.slice a n cap).ownBlock = some g → g < W.heap.size) := fun g hg => hl.lt hg
  have HC1 : Hid (Chg (fun g => g = bb) W W1) := hC1
  clear H hfr hl hl1 hlb hlg hlw hgb hwb hll hC1
  go_enter Tryd.func7, Tryd.ntmps7
  go_wp2_with fail
  clear c0 c1 c2 f2 e1
  go_loopw [4, 5] (fun v4 v5 w' => ∃ i : Nat, i ≤ n ∧ v5 = .int .i64 i ∧ OwnF rangeV 2 60 w' W.heap.size v4 (mkL m i) ∧ OwnF rangeV 2 60 w' B0 (.slice a n cap) (mixM m i l) ∧ Chg (fun g => (Value.slice a n cap).ownBlock = some g) W1 w') (fun _ v5 _ => n - (RowKit.intOf v5).toNat)
  case atStart => exact ⟨0, by omega, rfl, ownF_nil _ _, HLL1.out, Chg.refl _ _⟩
  case round =>
    obtain ⟨i, hin, rfl, how, hol, hC⟩ := hrel
    have hbr := hC.block hb1 (fun e => (HLB.out bb e).1 rfl)
    obtain ⟨c0, c1, c2⟩ := box3 hbr
    have hsr := hC.size
    by_cases hi : i < n
    · have hiI : (i : Int) < (n : Int) := by omega
      have hlen := HLL.out
      obtain ⟨gl, rfl, hgB, hglr, hfz, hcl⟩ := ownR_ptr hol (by omega)
      have hgl0 : gl < W.heap.size := HLT.out gl rfl
      obtain ⟨old, hold⟩ : ∃ old, (mixM m i l)[i]? = some old := ⟨_, List.getElem?_eq_getElem (by simp [mixM, mkL_length]; omega)⟩
      obtain ⟨d0, d1⟩ := hcl i old hold
      have z0 := hfz (i * 2)
      have z1 := hfz (i * 2 + 1)
      have hol2 := ownR_set2 hol i (-m) (i : Int)
      rw [mixM_set m i l (by omega)] at hol2
      obtain ⟨W2, e2⟩ : ∃ W2, (wr.setCell ⟨gl, i * 2, none⟩ (.int .i64 (-m))).setCell ⟨gl, i * 2 + 1, none⟩ (.int .i64 (i : Int)) = W2 := ⟨_, rfl⟩
      rw [e2] at hol2
      have hC2 : Chg (fun g => (Value.slice (some ⟨gl, 0, none⟩) n cap).ownBlock = some g) wr W2 := by
        rw [← e2]
        exact (Chg.set (D := fun g => (Value.slice (some ⟨gl, 0, none⟩) n cap).ownBlock = some g) (q := gl) _ _ _ rfl).trans (Chg.set (D := fun g => (Value.slice (some ⟨gl, 0, none⟩) n cap).ownBlock = some g) (q := gl) _ _ _ rfl)
      have how2 : OwnF rangeV 2 60 W2 W.heap.size u4 (mkL m i) := hC2.own how (fun g hg e => by
        have h1 := how.ge hg
        have e3 : gl = g := by simpa [Value.ownBlock] using e
        omega)
      obtain ⟨aw, cw, rfl⟩ := how2.shape
      have hlw := mkL_length m i
      rw [hlw] at how2 ⊢
      have hm2 : (mixM m (i + 1) l)[i]? = some (-m, (i : Int)) := by
        rw [← mixM_set m i l (by omega), List.getElem?_set_self (by simp [mixM, mkL_length]; omega)]
      have d2 : W2.cell? ⟨gl, i * 2, none⟩ = some (.int .i64 (-m)) ∧ W2.cell? ⟨gl, i * 2 + 1, none⟩ = some (.int .i64 (i : Int)) := by
        obtain ⟨g', e', _, _, _, hc'⟩ := ownR_ptr hol2 (by omega)
        cases e'
        exact hc' i _ hm2
      obtain ⟨d20, d21⟩ := d2
      have hs2 := hC2.size
      obtain ⟨g3, c3, W3, r3, o3, b3, k3, s3, l3⟩ := appendF_one kindG layG how2 (by omega) (-m, (i : Int)) #[.int .i64 (-m), .int .i64 (i : Int)] rfl 60 (by rw [hlw]; omega) (by rw [hlw]; omega) 36
      rw [hlw] at r3 o3
      have hol3 : OwnF rangeV 2 60 W3 B0 (.slice (some ⟨gl, 0, none⟩) n cap) (mixM m (i + 1) l) := (keeps_chg k3 (b3.mono (Nat.zero_le _)) (D := fun g => W.heap.size ≤ g) (fun g hg => how2.ge hg)).own hol2 (fun g hg e => by
        have e3 : gl = g := by simpa [Value.ownBlock] using hg
        omega)
      have hC3 : Chg (fun g => (Value.slice (some ⟨gl, 0, none⟩) n cap).ownBlock = some g) W1 W3 := ⟨(hC.1.trans hC2.1).trans (b3.mono (Nat.zero_le _)), fun g hg hd => ((k3 g (by omega) (fun e => by have := how2.ge e; omega)).trans (hC2.2 g (by omega) hd)).trans (hC.2 g hg hd)⟩
      rw [← mkL_succ] at o3
      clear hlw how hol hC how2 hol2 hC2 b3 k3 l3 hfz hcl hold hm2 hbr
      go_wp2_with (at_builtin; refine wpList_append_hr rfl _ _ 36 rfl _ _ rfl rfl r3 ?_)
      go_roundw
      case rel => exact ⟨i + 1, by omega, by go_num, o3, hol3, hC3⟩
      case measure => simp [RowKit.intOf]; omega
    · obtain rfl : i = n := by omega
      have hmix : mixM m i l = mkL m i := by
        unfold mixM
        rw [List.drop_eq_nil_of_le (by rw [HLL.out]; exact Nat.le_refl _), List.append_nil]
      rw [hmix] at hol
      obtain ⟨aw, cw, rfl⟩ := how.shape
      have hlw := mkL_length m i
      rw [hlw] at how ⊢
      have WGE : Hid (∀ g, (Value.slice aw i cw).ownBlock = some g → W.heap.size ≤ g ∧ g < wr.heap.size) := fun g hg => ⟨how.ge hg, how.lt hg⟩
      have VGL : Hid (∀ g, (Value.slice ag G.length cg).ownBlock = some g → g < W.heap.size) := fun g hg => HH.out.got.lt hg
      have VWL : Hid (∀ g, (Value.slice aq G.length cq).ownBlock = some g → g < W.heap.size) := fun g hg => HH.out.want.lt hg
      have HOL : Hid (OwnF rangeV 2 60 wr 0 (.slice a i cap) (mkL m i)) := hol.mono (Nat.zero_le _)
      have HOW : Hid (OwnF rangeV 2 60 wr 0 (.slice aw i cw) (mkL m i)) := how.mono (Nat.zero_le _)
      have HCr : Hid (Chg (fun g => (Value.slice a i cap).ownBlock = some g) W1 wr) := hC
      clear how hol hC hmix hlw
      go_upto_region 8 with fail
      obtain ⟨X5, e5⟩ : ∃ X5, wr.alloc (.cells #[.int .i64 (-m), .int .i64 (-1)] 60) = X5 := ⟨_, rfl⟩
      rw [e5]
      have b5 : Below wr.heap.size wr X5 := by rw [← e5]; exact (Below.refl _ _).alloc (Nat.le_refl _) _
      have hx5 : X5.heap[wr.heap.size]? = some (.cells #[.int .i64 (-m), .int .i64 (-1)] 60) := by rw [← e5]; exact heap_alloc_new _ _
      have s5 : wr.heap.size < X5.heap.size := by rw [← e5]; simp
      have bl5 : Below X5.heap.size X5 (X5.alloc (.cells #[.int .i64 (-m), .int .i64 (-1), .int .i64 (-m), .int .i64 (-1)] 60)) := (Below.refl _ _).alloc (Nat.le_refl _) _
      obtain ⟨g6, cap6, X6, r6, o6, b6, k6, at6, rd6, tb6⟩ := appendF_old kindG layG ((HOL.out.below b5).below bl5) (Nat.zero_le _) (rw_lit2 layG X5 (-m, -1) (-m, -1) #[.int .i64 (-m), .int .i64 (-1), .int .i64 (-m), .int .i64 (-1)] rfl 60) (by omega) (by omega) (by omega) 36
      have C6 : Chg (fun g => (Value.slice a i cap).ownBlock = some g) X5 X6 := (Chg.of_below bl5).trans (keeps_chg k6 (b6.mono (Nat.zero_le _)) (fun g hg => hg))
      have s6 := C6.size
      have nb6 : ¬ (Value.slice a i cap).ownBlock = some bb := fun e => (HLB.out bb e).1 rfl
      have nx6 : ¬ (Value.slice a i cap).ownBlock = some wr.heap.size := fun e => by have := HLT.out _ e; omega
      have hb5 := (b5.block _ (by omega)).trans hbr
      have hb6 := C6.block hb5 nb6
      have hx6 := C6.block hx5 nx6
      obtain ⟨x50, x51⟩ := box2 hx5
      clear c0 c1 c2 hbr e5
      go_upto_region 9 with (at_builtin; refine wpList_append_hr rfl _ _ 36 rfl _ _ rfl rfl r6 ?_)
      clear r6 x50 x51
      have C06 : Chg (fun g => g = bb ∨ (Value.slice a i cap).ownBlock = some g) W X6 := (((HC1.out.mono (fun g _ h => .inl h)).trans (HCr.out.mono (fun g _ h => .inr h))).trans (Chg.of_below b5)).trans (C6.mono (fun g _ h => .inr h))
      have got6 := C06.own HH.out.got (fun g hg e => e.elim (fun e => HGB.out.1 (e ▸ hg)) (fun e => (HLB.out g e).2.1 hg))
      have want6 := C06.own HH.out.want (fun g hg e => e.elim (fun e => HGB.out.2 (e ▸ hg)) (fun e => (HLB.out g e).2.2 hg))
      have bl6 : Below X6.heap.size X6 (X6.alloc (.cells #[.slice a i cap, .slice (some ⟨g6, 0, none⟩) (i + 2) cap6] 36)) := (Below.refl _ _).alloc (Nat.le_refl _) _
      obtain ⟨g7, cap7, X7, r7, o7, b7, k7, at7⟩ := appendF kindSl laySl (got6.below bl6) (Nat.zero_le _) (rw_lit2 laySl X6 (a, i, cap) (some ⟨g6, 0, none⟩, i + 2, cap6) #[.slice a i cap, .slice (some ⟨g6, 0, none⟩) (i + 2) cap6] rfl 36) (by omega) (by rw [List.length_map]; omega) (by rw [List.length_map]; omega) 24
      rw [List.length_map] at r7 o7
      have C7 : Chg (fun g => (Value.slice ag G.length cg).ownBlock = some g) X6 X7 := (Chg.of_below bl6).trans (keeps_chg k7 (b7.mono (Nat.zero_le _)) (fun g hg => hg))
      have s7 := C7.size
      have nx7 : ¬ (Value.slice ag G.length cg).ownBlock = some wr.heap.size := fun e => by have := VGL.out _ e; omega
      have hb7 := C7.block hb6 HGB.out.1
      have hx7 := C7.block hx6 nx7
      obtain ⟨X8, e8, hb8, C8⟩ := setBoxG hb7 0 (.slice (some ⟨g7, 0, none⟩) (G.length + 2) cap7) #[.slice (some ⟨g7, 0, none⟩) (G.length + 2) cap7, .slice aq G.length cq, .int .i64 m] rfl
      have s8 := C8.size
      have hx8 := C8.block hx7 (by omega)
      have how8 : OwnF rangeV 2 60 X8 0 (.slice aw i cw) (mkL m i) := C8.own (C7.own (C6.own (HOW.out.below b5) (fun g hg e => by have := (WGE.out g hg).1; have := HLT.out g e; omega)) (fun g hg e => by have := (WGE.out g hg).1; have := VGL.out g e; omega)) (fun g hg e => by have := (WGE.out g hg).1; omega)
      have want8 := C8.own (C7.own want6 (fun g hg e => HH.out.apart g e hg)) (fun g hg e => HGB.out.2 (e ▸ hg))
      obtain ⟨c60, c61, c62⟩ := box3 hb6
      obtain ⟨c70, c71, c72⟩ := box3 hb7
      have f70 := Lib.frozen_of_heap hb7 0
      go_upto_region 10 with (at_builtin; refine wpList_append_hr rfl _ _ 24 rfl _ _ rfl rfl r7 ?_)
      try rw [e8]
      clear r7 c60 c61 c62 c70 c71 c72 f70 e8
      obtain ⟨c80, c81, c82⟩ := box3 hb8
      obtain ⟨x80, x81⟩ := box2 hx8
      have HFIN : Hid (∀ (g9 cap9 : Nat) (X9 : World) (g10 cap10 : Nat) (X10 X11 : World), OwnF rangeV 2 60 X9 0 (.slice (some ⟨g9, 0, none⟩) (i + 2) cap9) (mkL m i ++ [(-m, -1), (-m, -1)]) → Rw rangeV 2 X9 aw i cw (mkL m i) → (∀ q, (Value.slice aw i cw).ownBlock = some q → ∃ cs fr, X9.heap[q]? = some (.cells cs 60 fr)) → Chg (fun g => (Value.slice aw i cw).ownBlock = some g) X8 X9 → ((Value.slice aw i cw).ownBlock = some g9 ∨ X8.heap.size < g9) →
        OwnF slV 1 36 X10 0 (.slice (some ⟨g10, 0, none⟩) (G.length + 2) cap10) ((G.map fun x => x.1.2) ++ [(aw, i, cw), (some ⟨g9, 0, none⟩, i + 2, cap9)]) → Chg (fun g => (Value.slice aq G.length cq).ownBlock = some g) X9 X10 → ((Value.slice aq G.length cq).ownBlock = some g10 ∨ X9.heap.size < g10) →
        X11.heap[bb]? = some (.cells #[.slice (some ⟨g7, 0, none⟩) (G.length + 2) cap7, .slice (some ⟨g10, 0, none⟩) (G.length + 2) cap10, .int .i64 m] 26) → Chg (fun g => g = bb) X10 X11 →
        takeP W bb (.slice ag G.length cg) (.slice aq G.length cq) mk G a i cap X11) := by
        intro g9 cap9 X9 g10 cap10 X10 X11 o9 rd9 tb9 C9 at9 o10 C10 at10 hb11 C11
        have t9 := C9.size
        have t10 := C10.size
        have t11 := C11.size
        have at6' : (Value.slice a i cap).ownBlock = some g6 ∨ X5.heap.size ≤ g6 := at6.imp id (fun e => by rw [e]; simp)
        have at7' : (Value.slice ag G.length cg).ownBlock = some g7 ∨ X6.heap.size ≤ g7 := at7.imp id (fun e => by rw [e]; simp)
        have g6w : ∀ g, (Value.slice aw i cw).ownBlock = some g → g ≠ g6 := fun g hg e => by
          have h1 := WGE.out g hg
          rcases at6' with h | h
          · have := HLT.out g6 h; omega
          · omega
        have g6g : (Value.slice ag G.length cg).ownBlock ≠ some g6 := fun e => by
          have h1 := VGL.out g6 e
          rcases at6' with h | h
          · exact (HLB.out g6 h).2.1 e
          · omega
        have g6q : (Value.slice aq G.length cq).ownBlock ≠ some g6 := fun e => by
          have h1 := VWL.out g6 e
          rcases at6' with h | h
          · exact (HLB.out g6 h).2.2 e
          · omega
        have g6b : g6 ≠ bb := fun e => by
          rcases at6' with h | h
          · exact (HLB.out g6 h).1 e
          · omega
        have g7w : ∀ g, (Value.slice aw i cw).ownBlock = some g → g ≠ g7 := fun g hg e => by
          have h1 := WGE.out g hg
          rcases at7' with h | h
          · have := VGL.out g7 h; omega
          · omega
        have g7q : (Value.slice aq G.length cq).ownBlock ≠ some g7 := fun e => by
          have h1 := VWL.out g7 e
          rcases at7' with h | h
          · exact HH.out.apart g7 h e
          · omega
        have g7b : g7 ≠ bb := fun e => by
          rcases at7' with h | h
          · exact HGB.out.1 (e ▸ h)
          · omega
        have g9q : (Value.slice aq G.length cq).ownBlock ≠ some g9 := fun e => by
          have h1 := VWL.out g9 e
          rcases at9 with h | h
          · have := (WGE.out g9 h).1; omega
          · omega
        have g9b : g9 ≠ bb := fun e => by
          rcases at9 with h | h
          · have := (WGE.out g9 h).1; omega
          · omega
        have g10b : g10 ≠ bb := fun e => by
          rcases at10 with h | h
          · exact HGB.out.2 (e ▸ h)
          · omega
        have T1 : TR X11 (a, i, cap) (mkL m i) := by
          have h6 : TR X6 (a, i, cap) (mkL m i) := ⟨rd6, fun g off e h0 => tb6 g (by simp only at e; rw [e]; rfl)⟩
          refine ((((h6.chg C7 ?_).chg C8 ?_).chg C9 ?_).chg C10 ?_).chg C11 ?_
          all_goals
            intro g off e h0 hd
            simp only at e h0
            subst e
            have hq : (Value.slice (some ⟨g, off, none⟩) i cap).ownBlock = some g := rfl
            have h1 := HLB.out g hq
            have h2 := HLT.out g hq
            first | exact h1.2.1 hd | exact h1.2.2 hd | exact h1.1 hd | (have := (WGE.out g hd).1; omega)
        have T2 : TR X11 (some ⟨g6, 0, none⟩, i + 2, cap6) (mkL m i ++ [(-m, -1), (-m, -1)]) := by
          refine ((((o6.tr.chg C7 ?_).chg C8 ?_).chg C9 ?_).chg C10 ?_).chg C11 ?_
          all_goals
            intro g off e h0 hd
            cases e
            first | exact g6g hd | exact g6b hd | exact g6w _ hd rfl | exact g6q hd
        have T3 : TR X11 (aw, i, cw) (mkL m i) := by
          have h9 : TR X9 (aw, i, cw) (mkL m i) := ⟨rd9, fun g off e h0 => tb9 g (by simp only at e; rw [e]; rfl)⟩
          refine (h9.chg C10 ?_).chg C11 ?_
          all_goals
            intro g off e h0 hd
            simp only at e h0
            subst e
            have h1 := WGE.out g rfl
            first | (have := VWL.out g hd; omega) | omega
        have T4 : TR X11 (some ⟨g9, 0, none⟩, i + 2, cap9) (mkL m i ++ [(-m, -1), (-m, -1)]) := by
          refine (o9.tr.chg C10 ?_).chg C11 ?_
          all_goals
            intro g off e h0 hd
            cases e
            first | exact g9q hd | exact g9b hd
        have hsW := C06.size
        have CW : Chg (TakeD bb (.slice ag G.length cg) (.slice aq G.length cq) (.slice a i cap)) W X11 := by
          refine ⟨((((C06.1.trans C7.1).trans C8.1).trans C9.1).trans C10.1).trans C11.1, fun g hg hd => ?_⟩
          have d1 : ¬ g = bb := fun e => hd (.inl e)
          have d2 : ¬ (Value.slice ag G.length cg).ownBlock = some g := fun e => hd (.inr (.inl e))
          have d3 : ¬ (Value.slice aq G.length cq).ownBlock = some g := fun e => hd (.inr (.inr (.inl e)))
          have d4 : ¬ (Value.slice a i cap).ownBlock = some g := fun e => hd (.inr (.inr (.inr e)))
          have d5 : ¬ (Value.slice aw i cw).ownBlock = some g := fun e => by have := (WGE.out g e).1; omega
          exact (C11.2 g (by omega) d1).trans ((C10.2 g (by omega) d3).trans ((C9.2 g (by omega) d5).trans ((C8.2 g (by omega) d1).trans ((C7.2 g (by omega) d2).trans (C06.2 g hg (fun e => e.elim d1 d4))))))
        have hold : ∀ (x : Option Addr × Nat × Nat) (L : List (Int × Int)), TR W x L → (∀ g off, x.1 = some ⟨g, off, none⟩ → 0 < x.2.1 → (Value.slice a i cap).ownBlock ≠ some g) → TR X11 x L := fun x L hT hf => hT.chg CW (fun g off e h0 hd => by
          obtain ⟨cs, fr, ht⟩ := hT.2 g off e h0
          rcases hd with h | h | h | h
          · rw [h, HH.out.box] at ht; simp at ht
          · obtain ⟨cs', fr', h'⟩ := HH.out.got.blockType h
            rw [ht] at h'; simp at h'
          · obtain ⟨cs', fr', h'⟩ := HH.out.want.blockType h
            rw [ht] at h'; simp at h'
          · exact hf g off e h0 h)
        have GOT : OwnF slV 1 36 X11 0 (.slice (some ⟨g7, 0, none⟩) (G.length + 2) cap7) ((G.map fun x => x.1.1) ++ [(a, i, cap), (some ⟨g6, 0, none⟩, i + 2, cap6)]) := by
          refine C11.own (C10.own (C9.own (C8.own o7 ?_) ?_) ?_) ?_
          all_goals
            intro g hg hd
            have e3 : g7 = g := by simpa [Value.ownBlock] using hg
            subst e3
            first | exact g7b hd | exact g7w _ hd rfl | exact g7q hd
        have l7 := o7.lt (g := g7) rfl
        refine ⟨.slice (some ⟨g7, 0, none⟩) (G.length + 2) cap7, .slice (some ⟨g10, 0, none⟩) (G.length + 2) cap10, (aw, i, cw), (some ⟨g6, 0, none⟩, i + 2, cap6), (some ⟨g9, 0, none⟩, i + 2, cap9), mkL m i, mkL m i ++ [(-m, -1), (-m, -1)], ⟨?_, ?_, ?_, ?_, ?_⟩, CW, ?_, ?_, ?_⟩
        · rw [hm]; exact hb11
        · simpa using GOT
        · have := C11.own o10 (fun g hg hd => by
            have e3 : g10 = g := by simpa [Value.ownBlock] using hg
            subst e3
            exact g10b hd)
          simpa using this
        · intro g hg e
          have e3 : g7 = g := by simpa [Value.ownBlock] using hg
          have e4 : g10 = g := by simpa [Value.ownBlock] using e
          rcases at10 with h | h
          · exact g7q (by rw [h, e4, e3])
          · omega
        · intro x hx
          rcases List.mem_append.1 hx with hx | hx
          · exact ⟨hold _ _ (HH.out.rd x hx).1 (HFR.out x hx).1, hold _ _ (HH.out.rd x hx).2 (HFR.out x hx).2⟩
          · simp only [List.mem_cons, List.not_mem_nil, or_false] at hx
            rcases hx with rfl | rfl
            · exact ⟨T1, T3⟩
            · exact ⟨T2, T4⟩
        · intro g hg
          have e3 : g7 = g := by simpa [Value.ownBlock] using hg
          subst e3
          exact at7'.imp id (fun h => by omega)
        · intro g hg
          have e3 : g10 = g := by simpa [Value.ownBlock] using hg
          subst e3
          exact at10.imp id (fun h => by omega)
        · intro x hx
          simp only [List.mem_cons, List.not_mem_nil, or_false] at hx
          rcases hx with rfl | rfl
          · refine ⟨fun g off e _ => .inl ?_, fun g off e _ => .inr ?_⟩
            · simp only at e; rw [e]; rfl
            · simp only at e; exact (WGE.out g (by rw [e]; rfl)).1
          · refine ⟨fun g off e _ => ?_, fun g off e _ => .inr ?_⟩
            · cases e; exact at6'.imp id (fun h => by omega)
            · cases e
              rcases at9 with h | h
              · exact (WGE.out _ h).1
              · omega
      have hbc := hb8
      refine wp_region_held_drew (S := (fun W => ∀ p : Addr, p.block = wr.heap.size → W.cell? p = X8.cell? p)) (by kernel_rfl) ?hS1 (fun hHeld => ?rest1)
      case hS1 => (intro p hp; rfl)
      refine takeD (i := 0) (d := some 60) (v := ?vT2) rfl rfl (by kernel_rfl) (by kernel_rfl) (by kernel_rfl) (fun _ _ _ h => h) (Or.inl ⟨by rfl, ?hyT2⟩) (by assumption) ?rstT2
      case hyT2 => (intro w hSw; (try dsimp only at hSw); go_simp; (try with_reducible rfl))
      try simp only [Act.put, List.setIfInBounds_toArray, List.set_cons_zero, List.set_cons_succ]
      refine takeD (i := 1) (d := some 61) (v := ?vT3) rfl rfl (by kernel_rfl) (by kernel_rfl) (by kernel_rfl) (fun _ _ _ h => h) (Or.inl ⟨by rfl, ?hyT3⟩) (by assumption) ?rstT3
      case hyT3 => (intro w hSw; (try dsimp only at hSw); go_simp; (try with_reducible rfl))
      try simp only [Act.put, List.setIfInBounds_toArray, List.set_cons_zero, List.set_cons_succ]
      refine takeD (i := 2) (d := some 62) (v := ?vT4) rfl rfl (by kernel_rfl) (by kernel_rfl) (by kernel_rfl) (fun _ _ _ h => h) (Or.inl ⟨by rfl, ?hyT4⟩) (by assumption) ?rstT4
      case hyT4 => (intro w hSw; (try dsimp only at hSw); go_simp; (try with_reducible rfl))
      try simp only [Act.put, List.setIfInBounds_toArray, List.set_cons_zero, List.set_cons_succ]
      refine takeD (i := 3) (d := some 63) (v := ?vT5) rfl rfl (by kernel_rfl) (by kernel_rfl) (by kernel_rfl) (fun _ _ _ h => h) (Or.inl ⟨by rfl, ?hyT5⟩) (by assumption) ?rstT5
      case hyT5 => (intro w hSw; (try dsimp only at hSw); go_simp; (try with_reducible rfl))
      try simp only [Act.put, List.setIfInBounds_toArray, List.set_cons_zero, List.set_cons_succ]
      refine takeD (i := 5) (d := some 65) (v := ?vT6) rfl rfl (by kernel_rfl) (by kernel_rfl) (by kernel_rfl) (fun _ _ _ h => h) (Or.inl ⟨by rfl, ?hyT6⟩) (by assumption) ?rstT6
      case hyT6 => (intro w hSw; (try dsimp only at hSw); go_simp; (try with_reducible rfl))
      try simp only [Act.put, List.setIfInBounds_toArray, List.set_cons_zero, List.set_cons_succ]
      refine takeD (i := 6) (d := some 66) (v := ?vT7) rfl rfl (by kernel_rfl) (by kernel_rfl) (by kernel_rfl) (fun _ _ _ h => h) (Or.inl ⟨by rfl, ?hyT7⟩) (by assumption) ?rstT7
      case hyT7 => (intro w hSw; (try dsimp only at hSw); go_simp; (try with_reducible rfl))
      try simp only [Act.put, List.setIfInBounds_toArray, List.set_cons_zero, List.set_cons_succ]
      refine takeD (i := 7) (d := some 67) (v := ?vT8) rfl rfl (by kernel_rfl) (by kernel_rfl) (by kernel_rfl) (fun _ _ _ h => h) (Or.inl ⟨by rfl, ?hyT8⟩) (by assumption) ?rstT8
      case hyT8 => (intro w hSw; (try dsimp only at hSw); go_simp; (try with_reducible rfl))
      try simp only [Act.put, List.setIfInBounds_toArray, List.set_cons_zero, List.set_cons_succ]
      refine takeD (i := 8) (d := some 68) (v := ?vT9) rfl rfl (by kernel_rfl) (by kernel_rfl) (by kernel_rfl) (fun _ _ _ h => h) (Or.inl ⟨by rfl, ?hyT9⟩) (by assumption) ?rstT9
      case hyT9 => (intro w hSw; (try dsimp only at hSw); go_simp; (try with_reducible rfl))
      try simp only [Act.put, List.setIfInBounds_toArray, List.set_cons_zero, List.set_cons_succ]
      refine wpAnyH_ready (rs := [4, 9]) (by kernel_rfl) (by simp) (AllReadyH.cons rfl (fun K hK => ?b56) (AllReadyH.cons rfl (fun K hK => ?b57) AllReadyH.nil))
      case b56 =>
        obtain ⟨l0, l1, l2⟩ := box3 hbc
        go_simp
        clear l0 l1 l2
        clear hHeld
        refine hK.out _ _ ?hS58 (fun hHeld => ?rest58)
        case hS58 => (intro p hp; rfl)
        clear hK K
        try simp only [Act.put, List.setIfInBounds_toArray, List.set_cons_zero, List.set_cons_succ]
        refine wpAnyH_ready (rs := [9]) (by kernel_rfl) (by simp) (AllReadyH.cons rfl (fun K hK => ?b20) AllReadyH.nil)
        case b20 =>
          go_simp
          obtain ⟨Y8, hY8⟩ : ∃ Y8, (X8.alloc (.cells #[.int .i64 (-m), .int .i64 (-1), .int .i64 (-m), .int .i64 (-1)] 60)).drew = Y8 := ⟨_, rfl⟩
          rw [hY8]
          have bY8 : Below X8.heap.size X8 Y8 := by rw [← hY8]; exact ((Below.refl _ _).alloc (Nat.le_refl _) _).drew
          have sY8 : X8.heap.size < Y8.heap.size := by rw [← hY8]; simp [World.drew]
          have yY8 : Rw rangeV 2 Y8 (some ⟨X8.heap.size, 0, none⟩) 2 2 [(-m, -1), (-m, -1)] := by rw [← hY8]; exact (rw_lit2 layG X8 (-m, -1) (-m, -1) #[.int .i64 (-m), .int .i64 (-1), .int .i64 (-m), .int .i64 (-1)] rfl 60).below (Below.refl _ _).drew
          obtain ⟨g9, cap9, X9, r9, o9, b9, k9, at9, rd9, tb9⟩ := appendF_old kindG layG (how8.below bY8) (Nat.zero_le _) yY8 (by omega) (by omega) (by omega) 36
          have C9 : Chg (fun g => (Value.slice aw i cw).ownBlock = some g) X8 X9 := (Chg.of_below bY8).trans (keeps_chg k9 (b9.mono (Nat.zero_le _)) (fun g hg => hg))
          have DB : ¬ (Value.slice aw i cw).ownBlock = some bb := fun e => by have := (WGE.out bb e).1; omega
          have DX : ¬ (Value.slice aw i cw).ownBlock = some wr.heap.size := fun e => by have := (WGE.out _ e).2; omega
          have s9 := C9.size
          have at9' : (Value.slice aw i cw).ownBlock = some g9 ∨ X8.heap.size < g9 := at9.imp id (fun e => by omega)
          clear hY8
          have hbc2 := (bY8.block _ (by omega)).trans hbc
          clear hbc
          have hbc := hbc2
          clear hbc2
          clear hHeld
          refine hK.out _ _ ?hS21 (fun hHeld => ?rest21)
          case hS21 => (intro p hp; exact bY8.cell (by omega))
          clear hK K
          try simp only [Act.put, List.setIfInBounds_toArray, List.set_cons_zero, List.set_cons_succ]
          refine wpAnyH_ready (rs := [10]) (by kernel_rfl) (by simp) (AllReadyH.cons rfl (fun K hK => ?b18) AllReadyH.nil)
          case b18 =>
            rw [if_pos (by rfl)]
            refine wp_append_hr (.tmp 66) (.tmp 69) 36 (some 70) rfl rfl _ _ rfl rfl r9 ?_
            have hbc2 := C9.block hb8 DB
            clear hbc
            have hbc := hbc2
            clear hbc2
            clear hHeld
            refine hK.out _ _ ?hS19 (fun hHeld => ?rest19)
            case hS19 => (intro p hp; exact Chg.cell C9 (by omega) (by rw [hp]; exact DX))
            clear hK K
            try simp only [Act.put, List.setIfInBounds_toArray, List.set_cons_zero, List.set_cons_succ]
            refine wpAnyH_ready (rs := [11]) (by kernel_rfl) (by simp) (AllReadyH.cons rfl (fun K hK => ?b16) AllReadyH.nil)
            case b16 =>
              have want9 := (C9.own want8 (fun g hg e => by have := (WGE.out g e).1; have := VWL.out g hg; omega)).below ((Below.refl X9.heap.size X9).alloc (Nat.le_refl _) (.cells #[.slice aw i cw, .slice (some ⟨g9, 0, none⟩) (i + 2) cap9] 36))
              obtain ⟨g10, cap10, X10, r10, o10, b10, k10, at10⟩ := appendF kindSl laySl want9 (Nat.zero_le _) (rw_lit2 laySl X9 (aw, i, cw) (some ⟨g9, 0, none⟩, i + 2, cap9) #[.slice aw i cw, .slice (some ⟨g9, 0, none⟩) (i + 2) cap9] rfl 36) (by omega) (by rw [List.length_map]; omega) (by rw [List.length_map]; omega) 24
              rw [List.length_map] at r10 o10
              have a10 : Chg (fun g => (Value.slice aq G.length cq).ownBlock = some g) X9 X10 := (Chg.of_below ((Below.refl X9.heap.size X9).alloc (Nat.le_refl _) (.cells #[.slice aw i cw, .slice (some ⟨g9, 0, none⟩) (i + 2) cap9] 36))).trans (keeps_chg k10 (b10.mono (Nat.zero_le _)) (fun g hg => hg))
              have DB10 : ¬ (Value.slice aq G.length cq).ownBlock = some bb := HGB.out.2
              have DX10 : ¬ (Value.slice aq G.length cq).ownBlock = some wr.heap.size := fun e => by have := VWL.out _ e; omega
              have s10 := a10.size
              have at10' : (Value.slice aq G.length cq).ownBlock = some g10 ∨ X9.heap.size < g10 := at10.imp id (fun e => by rw [e]; simp)
              have hbc2 := (((Below.refl X9.heap.size X9).alloc (Nat.le_refl _) (.cells #[.slice aw i cw, .slice (some ⟨g9, 0, none⟩) (i + 2) cap9] 36)).block _ (Array.getElem?_eq_some_iff.1 hbc).1).trans hbc
              clear hbc
              have hbc := hbc2
              clear hbc2
              go_simp
              clear hHeld
              refine hK.out _ _ ?hS17 (fun hHeld => ?rest17)
              case hS17 => (intro p hp; exact (((Below.refl X9.heap.size X9).alloc (Nat.le_refl _) (.cells #[.slice aw i cw, .slice (some ⟨g9, 0, none⟩) (i + 2) cap9] 36)).cell (by omega)).trans (Chg.cell C9 (by omega) (by rw [hp]; exact DX)))
              clear hK K
              try simp only [Act.put, List.setIfInBounds_toArray, List.set_cons_zero, List.set_cons_succ]
              refine wpAnyH_ready (rs := [12]) (by kernel_rfl) (by simp) (AllReadyH.cons rfl (fun K hK => ?b14) AllReadyH.nil)
              case b14 =>
                rw [if_pos (by rfl)]
                refine wp_append_hr (.tmp 64) (.tmp 71) 24 (some 72) rfl rfl _ _ rfl rfl r10 ?_
                clear hHeld
                refine hK.out _ _ ?hS15 (fun hHeld => ?rest15)
                case hS15 => (intro p hp; exact (Chg.cell a10 (by omega) (by rw [hp]; exact DX10)).trans (Chg.cell C9 (by omega) (by rw [hp]; exact DX)))
                clear hK K
                try simp only [Act.put, List.setIfInBounds_toArray, List.set_cons_zero, List.set_cons_succ]
                refine takeD (i := 13) (d := some 73) (v := ?vT10) rfl rfl (by kernel_rfl) (by kernel_rfl) (by kernel_rfl) (fun _ _ _ h => h) (Or.inl ⟨by rfl, ?hyT10⟩) (by assumption) ?rstT10
                case hyT10 => (intro w hSw; (try dsimp only at hSw); go_simp; (try with_reducible rfl))
                try simp only [Act.put, List.setIfInBounds_toArray, List.set_cons_zero, List.set_cons_succ]
                refine takeD (i := 14) (d := some 74) (v := ?vT11) rfl rfl (by kernel_rfl) (by kernel_rfl) (by kernel_rfl) (fun _ _ _ h => h) (Or.inl ⟨by rfl, ?hyT11⟩) (by assumption) ?rstT11
                case hyT11 => (intro w hSw; (try dsimp only at hSw); go_simp; (try with_reducible rfl))
                try simp only [Act.put, List.setIfInBounds_toArray, List.set_cons_zero, List.set_cons_succ]
                refine wpAnyH_ready (rs := [15]) (by kernel_rfl) (by simp) (AllReadyH.cons rfl (fun K hK => ?b12) AllReadyH.nil)
                case b12 =>
                  have hb10 := a10.block (C9.block hb8 DB) DB10
                  obtain ⟨p0, p1, p2⟩ := box3 hb10
                  have fp1 := Lib.frozen_of_heap hb10 1
                  obtain ⟨X11, e11, hb11, C11⟩ := setBoxG hb10 1 (.slice (some ⟨g10, 0, none⟩) (G.length + 2) cap10) #[(.slice (some ⟨g7, 0, none⟩) (G.length + 2) cap7), (.slice (some ⟨g10, 0, none⟩) (G.length + 2) cap10), .int .i64 m] rfl
                  go_simp
                  try rw [e11]
                  clear hHeld
                  refine hK.out _ _ ?hS13 (fun hHeld => ?rest13)
                  case hS13 => (intro p hp; exact ((Chg.cell C11 (by omega) (by omega)).trans (Chg.cell a10 (by omega) (by rw [hp]; exact DX10))).trans (Chg.cell C9 (by omega) (by rw [hp]; exact DX)))
                  clear hK K
                  try simp only [Act.put, List.setIfInBounds_toArray, List.set_cons_zero, List.set_cons_succ]
                  refine wpAnyH_done (by kernel_rfl) ?_ _
                  go_wp2_with fail
                  go_end0
                  exact ⟨⟨_, rfl⟩, HFIN.out g9 cap9 X9 g10 cap10 X10 X11 o9 rd9 tb9 C9 at9' o10 a10 at10' hb11 C11⟩
      case b57 =>
        go_simp
        obtain ⟨Y8, hY8⟩ : ∃ Y8, (X8.alloc (.cells #[.int .i64 (-m), .int .i64 (-1), .int .i64 (-m), .int .i64 (-1)] 60)).drew = Y8 := ⟨_, rfl⟩
        rw [hY8]
        have bY8 : Below X8.heap.size X8 Y8 := by rw [← hY8]; exact ((Below.refl _ _).alloc (Nat.le_refl _) _).drew
        have sY8 : X8.heap.size < Y8.heap.size := by rw [← hY8]; simp [World.drew]
        have yY8 : Rw rangeV 2 Y8 (some ⟨X8.heap.size, 0, none⟩) 2 2 [(-m, -1), (-m, -1)] := by rw [← hY8]; exact (rw_lit2 layG X8 (-m, -1) (-m, -1) #[.int .i64 (-m), .int .i64 (-1), .int .i64 (-m), .int .i64 (-1)] rfl 60).below (Below.refl _ _).drew
        obtain ⟨g9, cap9, X9, r9, o9, b9, k9, at9, rd9, tb9⟩ := appendF_old kindG layG (how8.below bY8) (Nat.zero_le _) yY8 (by omega) (by omega) (by omega) 36
        have C9 : Chg (fun g => (Value.slice aw i cw).ownBlock = some g) X8 X9 := (Chg.of_below bY8).trans (keeps_chg k9 (b9.mono (Nat.zero_le _)) (fun g hg => hg))
        have DB : ¬ (Value.slice aw i cw).ownBlock = some bb := fun e => by have := (WGE.out bb e).1; omega
        have DX : ¬ (Value.slice aw i cw).ownBlock = some wr.heap.size := fun e => by have := (WGE.out _ e).2; omega
        have s9 := C9.size
        have at9' : (Value.slice aw i cw).ownBlock = some g9 ∨ X8.heap.size < g9 := at9.imp id (fun e => by omega)
        clear hY8
        have hbc2 := (bY8.block _ (by omega)).trans hbc
        clear hbc
        have hbc := hbc2
        clear hbc2
        clear hHeld
        refine hK.out _ _ ?hS59 (fun hHeld => ?rest59)
        case hS59 => (intro p hp; exact bY8.cell (by omega))
        clear hK K
        try simp only [Act.put, List.setIfInBounds_toArray, List.set_cons_zero, List.set_cons_succ]
        refine wpAnyH_ready (rs := [4, 10]) (by kernel_rfl) (by simp) (AllReadyH.cons rfl (fun K hK => ?b52) (AllReadyH.cons rfl (fun K hK => ?b53) AllReadyH.nil))
        case b52 =>
          obtain ⟨l0, l1, l2⟩ := box3 hbc
          go_simp
          clear l0 l1 l2
          clear hHeld
          refine hK.out _ _ ?hS54 (fun hHeld => ?rest54)
          case hS54 => (intro p hp; exact bY8.cell (by omega))
          clear hK K
          try simp only [Act.put, List.setIfInBounds_toArray, List.set_cons_zero, List.set_cons_succ]
          refine wpAnyH_ready (rs := [10]) (by kernel_rfl) (by simp) (AllReadyH.cons rfl (fun K hK => ?b30) AllReadyH.nil)
          case b30 =>
            rw [if_pos (by rfl)]
            refine wp_append_hr (.tmp 66) (.tmp 69) 36 (some 70) rfl rfl _ _ rfl rfl r9 ?_
            have hbc2 := C9.block hb8 DB
            clear hbc
            have hbc := hbc2
            clear hbc2
            clear hHeld
            refine hK.out _ _ ?hS31 (fun hHeld => ?rest31)
            case hS31 => (intro p hp; exact Chg.cell C9 (by omega) (by rw [hp]; exact DX))
            clear hK K
            try simp only [Act.put, List.setIfInBounds_toArray, List.set_cons_zero, List.set_cons_succ]
            refine wpAnyH_ready (rs := [11]) (by kernel_rfl) (by simp) (AllReadyH.cons rfl (fun K hK => ?b28) AllReadyH.nil)
            case b28 =>
              have want9 := (C9.own want8 (fun g hg e => by have := (WGE.out g e).1; have := VWL.out g hg; omega)).below ((Below.refl X9.heap.size X9).alloc (Nat.le_refl _) (.cells #[.slice aw i cw, .slice (some ⟨g9, 0, none⟩) (i + 2) cap9] 36))
              obtain ⟨g10, cap10, X10, r10, o10, b10, k10, at10⟩ := appendF kindSl laySl want9 (Nat.zero_le _) (rw_lit2 laySl X9 (aw, i, cw) (some ⟨g9, 0, none⟩, i + 2, cap9) #[.slice aw i cw, .slice (some ⟨g9, 0, none⟩) (i + 2) cap9] rfl 36) (by omega) (by rw [List.length_map]; omega) (by rw [List.length_map]; omega) 24
              rw [List.length_map] at r10 o10
              have a10 : Chg (fun g => (Value.slice aq G.length cq).ownBlock = some g) X9 X10 := (Chg.of_below ((Below.refl X9.heap.size X9).alloc (Nat.le_refl _) (.cells #[.slice aw i cw, .slice (some ⟨g9, 0, none⟩) (i + 2) cap9] 36))).trans (keeps_chg k10 (b10.mono (Nat.zero_le _)) (fun g hg => hg))
              have DB10 : ¬ (Value.slice aq G.length cq).ownBlock = some bb := HGB.out.2
              have DX10 : ¬ (Value.slice aq G.length cq).ownBlock = some wr.heap.size := fun e => by have := VWL.out _ e; omega
              have s10 := a10.size
              have at10' : (Value.slice aq G.length cq).ownBlock = some g10 ∨ X9.heap.size < g10 := at10.imp id (fun e => by rw [e]; simp)
              have hbc2 := (((Below.refl X9.heap.size X9).alloc (Nat.le_refl _) (.cells #[.slice aw i cw, .slice (some ⟨g9, 0, none⟩) (i + 2) cap9] 36)).block _ (Array.getElem?_eq_some_iff.1 hbc).1).trans hbc
              clear hbc
              have hbc := hbc2
              clear hbc2
              go_simp
              clear hHeld
              refine hK.out _ _ ?hS29 (fun hHeld => ?rest29)
              case hS29 => (intro p hp; exact (((Below.refl X9.heap.size X9).alloc (Nat.le_refl _) (.cells #[.slice aw i cw, .slice (some ⟨g9, 0, none⟩) (i + 2) cap9] 36)).cell (by omega)).trans (Chg.cell C9 (by omega) (by rw [hp]; exact DX)))
              clear hK K
              try simp only [Act.put, List.setIfInBounds_toArray, List.set_cons_zero, List.set_cons_succ]
              refine wpAnyH_ready (rs := [12]) (by kernel_rfl) (by simp) (AllReadyH.cons rfl (fun K hK => ?b26) AllReadyH.nil)
              case b26 =>
                rw [if_pos (by rfl)]
                refine wp_append_hr (.tmp 64) (.tmp 71) 24 (some 72) rfl rfl _ _ rfl rfl r10 ?_
                clear hHeld
                refine hK.out _ _ ?hS27 (fun hHeld => ?rest27)
                case hS27 => (intro p hp; exact (Chg.cell a10 (by omega) (by rw [hp]; exact DX10)).trans (Chg.cell C9 (by omega) (by rw [hp]; exact DX)))
                clear hK K
                try simp only [Act.put, List.setIfInBounds_toArray, List.set_cons_zero, List.set_cons_succ]
                refine takeD (i := 13) (d := some 73) (v := ?vT22) rfl rfl (by kernel_rfl) (by kernel_rfl) (by kernel_rfl) (fun _ _ _ h => h) (Or.inl ⟨by rfl, ?hyT22⟩) (by assumption) ?rstT22
                case hyT22 => (intro w hSw; (try dsimp only at hSw); go_simp; (try with_reducible rfl))
                try simp only [Act.put, List.setIfInBounds_toArray, List.set_cons_zero, List.set_cons_succ]
                refine takeD (i := 14) (d := some 74) (v := ?vT23) rfl rfl (by kernel_rfl) (by kernel_rfl) (by kernel_rfl) (fun _ _ _ h => h) (Or.inl ⟨by rfl, ?hyT23⟩) (by assumption) ?rstT23
                case hyT23 => (intro w hSw; (try dsimp only at hSw); go_simp; (try with_reducible rfl))
                try simp only [Act.put, List.setIfInBounds_toArray, List.set_cons_zero, List.set_cons_succ]
                refine wpAnyH_ready (rs := [15]) (by kernel_rfl) (by simp) (AllReadyH.cons rfl (fun K hK => ?b24) AllReadyH.nil)
                case b24 =>
                  have hb10 := a10.block (C9.block hb8 DB) DB10
                  obtain ⟨p0, p1, p2⟩ := box3 hb10
                  have fp1 := Lib.frozen_of_heap hb10 1
                  obtain ⟨X11, e11, hb11, C11⟩ := setBoxG hb10 1 (.slice (some ⟨g10, 0, none⟩) (G.length + 2) cap10) #[(.slice (some ⟨g7, 0, none⟩) (G.length + 2) cap7), (.slice (some ⟨g10, 0, none⟩) (G.length + 2) cap10), .int .i64 m] rfl
                  go_simp
                  try rw [e11]
                  clear hHeld
                  refine hK.out _ _ ?hS25 (fun hHeld => ?rest25)
                  case hS25 => (intro p hp; exact ((Chg.cell C11 (by omega) (by omega)).trans (Chg.cell a10 (by omega) (by rw [hp]; exact DX10))).trans (Chg.cell C9 (by omega) (by rw [hp]; exact DX)))
                  clear hK K
                  try simp only [Act.put, List.setIfInBounds_toArray, List.set_cons_zero, List.set_cons_succ]
                  refine wpAnyH_done (by kernel_rfl) ?_ _
                  go_wp2_with fail
                  go_end0
                  exact ⟨⟨_, rfl⟩, HFIN.out g9 cap9 X9 g10 cap10 X10 X11 o9 rd9 tb9 C9 at9' o10 a10 at10' hb11 C11⟩
        case b53 =>
          rw [if_pos (by rfl)]
          refine wp_append_hr (.tmp 66) (.tmp 69) 36 (some 70) rfl rfl _ _ rfl rfl r9 ?_
          have hbc2 := C9.block hb8 DB
          clear hbc
          have hbc := hbc2
          clear hbc2
          clear hHeld
          refine hK.out _ _ ?hS55 (fun hHeld => ?rest55)
          case hS55 => (intro p hp; exact Chg.cell C9 (by omega) (by rw [hp]; exact DX))
          clear hK K
          try simp only [Act.put, List.setIfInBounds_toArray, List.set_cons_zero, List.set_cons_succ]
          refine wpAnyH_ready (rs := [4, 11]) (by kernel_rfl) (by simp) (AllReadyH.cons rfl (fun K hK => ?b48) (AllReadyH.cons rfl (fun K hK => ?b49) AllReadyH.nil))
          case b48 =>
            obtain ⟨l0, l1, l2⟩ := box3 hbc
            go_simp
            clear l0 l1 l2
            clear hHeld
            refine hK.out _ _ ?hS50 (fun hHeld => ?rest50)
            case hS50 => (intro p hp; exact Chg.cell C9 (by omega) (by rw [hp]; exact DX))
            clear hK K
            try simp only [Act.put, List.setIfInBounds_toArray, List.set_cons_zero, List.set_cons_succ]
            refine wpAnyH_ready (rs := [11]) (by kernel_rfl) (by simp) (AllReadyH.cons rfl (fun K hK => ?b38) AllReadyH.nil)
            case b38 =>
              have want9 := (C9.own want8 (fun g hg e => by have := (WGE.out g e).1; have := VWL.out g hg; omega)).below ((Below.refl X9.heap.size X9).alloc (Nat.le_refl _) (.cells #[.slice aw i cw, .slice (some ⟨g9, 0, none⟩) (i + 2) cap9] 36))
              obtain ⟨g10, cap10, X10, r10, o10, b10, k10, at10⟩ := appendF kindSl laySl want9 (Nat.zero_le _) (rw_lit2 laySl X9 (aw, i, cw) (some ⟨g9, 0, none⟩, i + 2, cap9) #[.slice aw i cw, .slice (some ⟨g9, 0, none⟩) (i + 2) cap9] rfl 36) (by omega) (by rw [List.length_map]; omega) (by rw [List.length_map]; omega) 24
              rw [List.length_map] at r10 o10
              have a10 : Chg (fun g => (Value.slice aq G.length cq).ownBlock = some g) X9 X10 := (Chg.of_below ((Below.refl X9.heap.size X9).alloc (Nat.le_refl _) (.cells #[.slice aw i cw, .slice (some ⟨g9, 0, none⟩) (i + 2) cap9] 36))).trans (keeps_chg k10 (b10.mono (Nat.zero_le _)) (fun g hg => hg))
              have DB10 : ¬ (Value.slice aq G.length cq).ownBlock = some bb := HGB.out.2
              have DX10 : ¬ (Value.slice aq G.length cq).ownBlock = some wr.heap.size := fun e => by have := VWL.out _ e; omega
              have s10 := a10.size
              have at10' : (Value.slice aq G.length cq).ownBlock = some g10 ∨ X9.heap.size < g10 := at10.imp id (fun e => by rw [e]; simp)
              have hbc2 := (((Below.refl X9.heap.size X9).alloc (Nat.le_refl _) (.cells #[.slice aw i cw, .slice (some ⟨g9, 0, none⟩) (i + 2) cap9] 36)).block _ (Array.getElem?_eq_some_iff.1 hbc).1).trans hbc
              clear hbc
              have hbc := hbc2
              clear hbc2
              go_simp
              clear hHeld
              refine hK.out _ _ ?hS39 (fun hHeld => ?rest39)
              case hS39 => (intro p hp; exact (((Below.refl X9.heap.size X9).alloc (Nat.le_refl _) (.cells #[.slice aw i cw, .slice (some ⟨g9, 0, none⟩) (i + 2) cap9] 36)).cell (by omega)).trans (Chg.cell C9 (by omega) (by rw [hp]; exact DX)))
              clear hK K
              try simp only [Act.put, List.setIfInBounds_toArray, List.set_cons_zero, List.set_cons_succ]
              refine wpAnyH_ready (rs := [12]) (by kernel_rfl) (by simp) (AllReadyH.cons rfl (fun K hK => ?b36) AllReadyH.nil)
              case b36 =>
                rw [if_pos (by rfl)]
                refine wp_append_hr (.tmp 64) (.tmp 71) 24 (some 72) rfl rfl _ _ rfl rfl r10 ?_
                clear hHeld
                refine hK.out _ _ ?hS37 (fun hHeld => ?rest37)
                case hS37 => (intro p hp; exact (Chg.cell a10 (by omega) (by rw [hp]; exact DX10)).trans (Chg.cell C9 (by omega) (by rw [hp]; exact DX)))
                clear hK K
                try simp only [Act.put, List.setIfInBounds_toArray, List.set_cons_zero, List.set_cons_succ]
                refine takeD (i := 13) (d := some 73) (v := ?vT32) rfl rfl (by kernel_rfl) (by kernel_rfl) (by kernel_rfl) (fun _ _ _ h => h) (Or.inl ⟨by rfl, ?hyT32⟩) (by assumption) ?rstT32
                case hyT32 => (intro w hSw; (try dsimp only at hSw); go_simp; (try with_reducible rfl))
                try simp only [Act.put, List.setIfInBounds_toArray, List.set_cons_zero, List.set_cons_succ]
                refine takeD (i := 14) (d := some 74) (v := ?vT33) rfl rfl (by kernel_rfl) (by kernel_rfl) (by kernel_rfl) (fun _ _ _ h => h) (Or.inl ⟨by rfl, ?hyT33⟩) (by assumption) ?rstT33
                case hyT33 => (intro w hSw; (try dsimp only at hSw); go_simp; (try with_reducible rfl))
                try simp only [Act.put, List.setIfInBounds_toArray, List.set_cons_zero, List.set_cons_succ]
                refine wpAnyH_ready (rs := [15]) (by kernel_rfl) (by simp) (AllReadyH.cons rfl (fun K hK => ?b34) AllReadyH.nil)
                case b34 =>
                  have hb10 := a10.block (C9.block hb8 DB) DB10
                  obtain ⟨p0, p1, p2⟩ := box3 hb10
                  have fp1 := Lib.frozen_of_heap hb10 1
                  obtain ⟨X11, e11, hb11, C11⟩ := setBoxG hb10 1 (.slice (some ⟨g10, 0, none⟩) (G.length + 2) cap10) #[(.slice (some ⟨g7, 0, none⟩) (G.length + 2) cap7), (.slice (some ⟨g10, 0, none⟩) (G.length + 2) cap10), .int .i64 m] rfl
                  go_simp
                  try rw [e11]
                  clear hHeld
                  refine hK.out _ _ ?hS35 (fun hHeld => ?rest35)
                  case hS35 => (intro p hp; exact ((Chg.cell C11 (by omega) (by omega)).trans (Chg.cell a10 (by omega) (by rw [hp]; exact DX10))).trans (Chg.cell C9 (by omega) (by rw [hp]; exact DX)))
                  clear hK K
                  try simp only [Act.put, List.setIfInBounds_toArray, List.set_cons_zero, List.set_cons_succ]
                  refine wpAnyH_done (by kernel_rfl) ?_ _
                  go_wp2_with fail
                  go_end0
                  exact ⟨⟨_, rfl⟩, HFIN.out g9 cap9 X9 g10 cap10 X10 X11 o9 rd9 tb9 C9 at9' o10 a10 at10' hb11 C11⟩
          case b49 =>
            have want9 := (C9.own want8 (fun g hg e => by have := (WGE.out g e).1; have := VWL.out g hg; omega)).below ((Below.refl X9.heap.size X9).alloc (Nat.le_refl _) (.cells #[.slice aw i cw, .slice (some ⟨g9, 0, none⟩) (i + 2) cap9] 36))
            obtain ⟨g10, cap10, X10, r10, o10, b10, k10, at10⟩ := appendF kindSl laySl want9 (Nat.zero_le _) (rw_lit2 laySl X9 (aw, i, cw) (some ⟨g9, 0, none⟩, i + 2, cap9) #[.slice aw i cw, .slice (some ⟨g9, 0, none⟩) (i + 2) cap9] rfl 36) (by omega) (by rw [List.length_map]; omega) (by rw [List.length_map]; omega) 24
            rw [List.length_map] at r10 o10
            have a10 : Chg (fun g => (Value.slice aq G.length cq).ownBlock = some g) X9 X10 := (Chg.of_below ((Below.refl X9.heap.size X9).alloc (Nat.le_refl _) (.cells #[.slice aw i cw, .slice (some ⟨g9, 0, none⟩) (i + 2) cap9] 36))).trans (keeps_chg k10 (b10.mono (Nat.zero_le _)) (fun g hg => hg))
            have DB10 : ¬ (Value.slice aq G.length cq).ownBlock = some bb := HGB.out.2
            have DX10 : ¬ (Value.slice aq G.length cq).ownBlock = some wr.heap.size := fun e => by have := VWL.out _ e; omega
            have s10 := a10.size
            have at10' : (Value.slice aq G.length cq).ownBlock = some g10 ∨ X9.heap.size < g10 := at10.imp id (fun e => by rw [e]; simp)
            have hbc2 := (((Below.refl X9.heap.size X9).alloc (Nat.le_refl _) (.cells #[.slice aw i cw, .slice (some ⟨g9, 0, none⟩) (i + 2) cap9] 36)).block _ (Array.getElem?_eq_some_iff.1 hbc).1).trans hbc
            clear hbc
            have hbc := hbc2
            clear hbc2
            go_simp
            clear hHeld
            refine hK.out _ _ ?hS51 (fun hHeld => ?rest51)
            case hS51 => (intro p hp; exact (((Below.refl X9.heap.size X9).alloc (Nat.le_refl _) (.cells #[.slice aw i cw, .slice (some ⟨g9, 0, none⟩) (i + 2) cap9] 36)).cell (by omega)).trans (Chg.cell C9 (by omega) (by rw [hp]; exact DX)))
            clear hK K
            try simp only [Act.put, List.setIfInBounds_toArray, List.set_cons_zero, List.set_cons_succ]
            refine wpAnyH_ready (rs := [4]) (by kernel_rfl) (by simp) (AllReadyH.cons rfl (fun K hK => ?b46) AllReadyH.nil)
            case b46 =>
              obtain ⟨l0, l1, l2⟩ := box3 hbc
              go_simp
              clear l0 l1 l2
              clear hHeld
              refine hK.out _ _ ?hS47 (fun hHeld => ?rest47)
              case hS47 => (intro p hp; exact (((Below.refl X9.heap.size X9).alloc (Nat.le_refl _) (.cells #[.slice aw i cw, .slice (some ⟨g9, 0, none⟩) (i + 2) cap9] 36)).cell (by omega)).trans (Chg.cell C9 (by omega) (by rw [hp]; exact DX)))
              clear hK K
              try simp only [Act.put, List.setIfInBounds_toArray, List.set_cons_zero, List.set_cons_succ]
              refine wpAnyH_ready (rs := [12]) (by kernel_rfl) (by simp) (AllReadyH.cons rfl (fun K hK => ?b44) AllReadyH.nil)
              case b44 =>
                rw [if_pos (by rfl)]
                refine wp_append_hr (.tmp 64) (.tmp 71) 24 (some 72) rfl rfl _ _ rfl rfl r10 ?_
                clear hHeld
                refine hK.out _ _ ?hS45 (fun hHeld => ?rest45)
                case hS45 => (intro p hp; exact (Chg.cell a10 (by omega) (by rw [hp]; exact DX10)).trans (Chg.cell C9 (by omega) (by rw [hp]; exact DX)))
                clear hK K
                try simp only [Act.put, List.setIfInBounds_toArray, List.set_cons_zero, List.set_cons_succ]
                refine takeD (i := 13) (d := some 73) (v := ?vT40) rfl rfl (by kernel_rfl) (by kernel_rfl) (by kernel_rfl) (fun _ _ _ h => h) (Or.inl ⟨by rfl, ?hyT40⟩) (by assumption) ?rstT40
                case hyT40 => (intro w hSw; (try dsimp only at hSw); go_simp; (try with_reducible rfl))
                try simp only [Act.put, List.setIfInBounds_toArray, List.set_cons_zero, List.set_cons_succ]
                refine takeD (i := 14) (d := some 74) (v := ?vT41) rfl rfl (by kernel_rfl) (by kernel_rfl) (by kernel_rfl) (fun _ _ _ h => h) (Or.inl ⟨by rfl, ?hyT41⟩) (by assumption) ?rstT41
                case hyT41 => (intro w hSw; (try dsimp only at hSw); go_simp; (try with_reducible rfl))
                try simp only [Act.put, List.setIfInBounds_toArray, List.set_cons_zero, List.set_cons_succ]
                refine wpAnyH_ready (rs := [15]) (by kernel_rfl) (by simp) (AllReadyH.cons rfl (fun K hK => ?b42) AllReadyH.nil)
                case b42 =>
                  have hb10 := a10.block (C9.block hb8 DB) DB10
                  obtain ⟨p0, p1, p2⟩ := box3 hb10
                  have fp1 := Lib.frozen_of_heap hb10 1
                  obtain ⟨X11, e11, hb11, C11⟩ := setBoxG hb10 1 (.slice (some ⟨g10, 0, none⟩) (G.length + 2) cap10) #[(.slice (some ⟨g7, 0, none⟩) (G.length + 2) cap7), (.slice (some ⟨g10, 0, none⟩) (G.length + 2) cap10), .int .i64 m] rfl
                  go_simp
                  try rw [e11]
                  clear hHeld
                  refine hK.out _ _ ?hS43 (fun hHeld => ?rest43)
                  case hS43 => (intro p hp; exact ((Chg.cell C11 (by omega) (by omega)).trans (Chg.cell a10 (by omega) (by rw [hp]; exact DX10))).trans (Chg.cell C9 (by omega) (by rw [hp]; exact DX)))
                  clear hK K
                  try simp only [Act.put, List.setIfInBounds_toArray, List.set_cons_zero, List.set_cons_succ]
                  refine wpAnyH_done (by kernel_rfl) ?_ _
                  go_wp2_with fail
                  go_end0
                  exact ⟨⟨_, rfl⟩, HFIN.out g9 cap9 X9 g10 cap10 X10 X11 o9 rd9 tb9 C9 at9' o10 a10 at10' hb11 C11⟩
end Go.Proofs.YtnbedohlgghhdaaDoor
