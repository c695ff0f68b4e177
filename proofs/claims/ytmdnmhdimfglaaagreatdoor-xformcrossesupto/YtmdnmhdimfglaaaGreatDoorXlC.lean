import Derived.Test.YtmdnmhdimfglaaaGreatDoorXlB
import Derived.Deep.RegionWith
namespace Go.Proofs.YtmdnmhdimfglaaaGreatDoor
open Go.RowKit Go.Lib
set_option maxRecDepth 100000
structure MemC (w : World) (a1 a2 : Option Addr) (n c1 m c2 : Nat) (W : World) (FM LM : List OpM) : Prop where
  fst : OwnF opF 9 34 W w.heap.size (.slice a1 n c1) FM
  snd : OwnF opF 9 34 W w.heap.size (.slice a2 m c2) LM
  rf : ∀ x ∈ FM, Rdy W x ∧ Apt a1 x ∧ Apt a2 x
  rl : ∀ x ∈ LM, Rdy W x ∧ Apt a1 x ∧ Apt a2 x
  bel : Below w.heap.size w W
theorem cells_of {W : World} {B g n cap : Nat} {L : List OpM} (h : OwnF opF 9 34 W B (.slice (some ⟨g, 0, none⟩) n cap) L) {j : Nat} {x : OpM} (hx : L[j]? = some x) : W.cell? ⟨g, j * 9, none⟩ = some (.int .i64 x.1.c) ∧ W.cell? ⟨g, j * 9 + 1, none⟩ = some (.int .i64 x.1.n) ∧ W.cell? ⟨g, j * 9 + 2, none⟩ = some (.int .i64 x.1.k) ∧ W.cell? ⟨g, j * 9 + 3, none⟩ = some (.int .i64 x.1.p) ∧ W.cell? ⟨g, j * 9 + 4, none⟩ = some (.string x.1.s) ∧ W.cell? ⟨g, j * 9 + 5, none⟩ = some (.slice x.2.1 x.2.2.1 x.2.2.2) ∧ W.cell? ⟨g, j * 9 + 6, none⟩ = some (.int .i64 x.1.tc) ∧ W.cell? ⟨g, j * 9 + 7, none⟩ = some (.int .i64 x.1.tn) ∧ W.cell? ⟨g, j * 9 + 8, none⟩ = some (.bool x.1.on) := by
  have hl := (h.rw_ layO).len
  have hj : j < n := by have := (List.getElem?_eq_some_iff.1 hx).1; omega
  obtain ⟨g', off, x', ha', _, hx', c0, c1, c2, c3, c4, c5, c6, c7, c8⟩ := (h.rw_ layO).at9 (Below.refl _ _) j hj
  cases ha'
  rw [hx] at hx'
  cases hx'
  simp only [Nat.zero_add] at c0 c1 c2 c3 c4 c5 c6 c7 c8
  exact ⟨c0, c1, c2, c3, c4, c5, c6, c7, c8⟩
theorem mem_step {w wr w5 : World} {g1 g2 n c1 m c2 i j : Nat} {FM LM : List OpM} {x y : OpM} {o1 o2 : OpV} {va : Option Addr} {vm vc : Nat} {ya : Option Addr} {ym yc : Nat} (hM : MemC w (some ⟨g1, 0, none⟩) (some ⟨g2, 0, none⟩) n c1 m c2 wr FM LM) (hx : FM[j]? = some x) (hy : LM[i]? = some y) (hg : g1 ≠ g2) (hb : Below wr.heap.size wr w5)
    (hs1 : Src (.slice x.2.1 x.2.2.1 x.2.2.2) x.1.l wr w5 (.slice va vm vc) o1.l) (hs2 : Src (.slice y.2.1 y.2.2.1 y.2.2.2) y.1.l wr w5 (.slice ya ym yc) o2.l) (q1 : o1.l.length ≤ 1000000000 ∧ o1.s.size ≤ 281474976710656) (q2 : o2.l.length ≤ 1000000000 ∧ o2.s.size ≤ 281474976710656) :
    ∃ W9 W8, (((((((((w5.setCell ⟨g1, j * 9, none⟩ (.int .i64 o1.c)).setCell ⟨g1, j * 9 + 1, none⟩ (.int .i64 o1.n)).setCell ⟨g1, j * 9 + 2, none⟩ (.int .i64 o1.k)).setCell ⟨g1, j * 9 + 3, none⟩ (.int .i64 o1.p)).setCell ⟨g1, j * 9 + 4, none⟩ (.string o1.s)).setCell ⟨g1, j * 9 + 5, none⟩ (.slice va vm vc)).setCell ⟨g1, j * 9 + 6, none⟩ (.int .i64 o1.tc)).setCell ⟨g1, j * 9 + 7, none⟩ (.int .i64 o1.tn)).setCell ⟨g1, j * 9 + 8, none⟩ (.bool o1.on)) = W9 ∧ (((((((((W9.setCell ⟨g2, i * 9, none⟩ (.int .i64 o2.c)).setCell ⟨g2, i * 9 + 1, none⟩ (.int .i64 o2.n)).setCell ⟨g2, i * 9 + 2, none⟩ (.int .i64 o2.k)).setCell ⟨g2, i * 9 + 3, none⟩ (.int .i64 o2.p)).setCell ⟨g2, i * 9 + 4, none⟩ (.string o2.s)).setCell ⟨g2, i * 9 + 5, none⟩ (.slice ya ym yc)).setCell ⟨g2, i * 9 + 6, none⟩ (.int .i64 o2.tc)).setCell ⟨g2, i * 9 + 7, none⟩ (.int .i64 o2.tn)).setCell ⟨g2, i * 9 + 8, none⟩ (.bool o2.on)) = W8 ∧ MemC w (some ⟨g1, 0, none⟩) (some ⟨g2, 0, none⟩) n c1 m c2 W8 (FM.set j (o1, (va, vm, vc))) (LM.set i (o2, (ya, ym, yc))) ∧ (w5.cell? ⟨g1, j * 9, none⟩ = some (.int .i64 x.1.c) ∧ w5.cell? ⟨g1, j * 9 + 1, none⟩ = some (.int .i64 x.1.n) ∧ w5.cell? ⟨g1, j * 9 + 2, none⟩ = some (.int .i64 x.1.k) ∧ w5.cell? ⟨g1, j * 9 + 3, none⟩ = some (.int .i64 x.1.p) ∧ w5.cell? ⟨g1, j * 9 + 4, none⟩ = some (.string x.1.s) ∧ w5.cell? ⟨g1, j * 9 + 5, none⟩ = some (.slice x.2.1 x.2.2.1 x.2.2.2) ∧ w5.cell? ⟨g1, j * 9 + 6, none⟩ = some (.int .i64 x.1.tc) ∧ w5.cell? ⟨g1, j * 9 + 7, none⟩ = some (.int .i64 x.1.tn) ∧ w5.cell? ⟨g1, j * 9 + 8, none⟩ = some (.bool x.1.on)) ∧ (w5.frozen? ⟨g1, j * 9, none⟩ = false ∧ w5.frozen? ⟨g1, j * 9 + 1, none⟩ = false ∧ w5.frozen? ⟨g1, j * 9 + 2, none⟩ = false ∧ w5.frozen? ⟨g1, j * 9 + 3, none⟩ = false ∧ w5.frozen? ⟨g1, j * 9 + 4, none⟩ = false ∧ w5.frozen? ⟨g1, j * 9 + 5, none⟩ = false ∧ w5.frozen? ⟨g1, j * 9 + 6, none⟩ = false ∧ w5.frozen? ⟨g1, j * 9 + 7, none⟩ = false ∧ w5.frozen? ⟨g1, j * 9 + 8, none⟩ = false) ∧ (W9.cell? ⟨g2, i * 9, none⟩ = some (.int .i64 y.1.c) ∧ W9.cell? ⟨g2, i * 9 + 1, none⟩ = some (.int .i64 y.1.n) ∧ W9.cell? ⟨g2, i * 9 + 2, none⟩ = some (.int .i64 y.1.k) ∧ W9.cell? ⟨g2, i * 9 + 3, none⟩ = some (.int .i64 y.1.p) ∧ W9.cell? ⟨g2, i * 9 + 4, none⟩ = some (.string y.1.s) ∧ W9.cell? ⟨g2, i * 9 + 5, none⟩ = some (.slice y.2.1 y.2.2.1 y.2.2.2) ∧ W9.cell? ⟨g2, i * 9 + 6, none⟩ = some (.int .i64 y.1.tc) ∧ W9.cell? ⟨g2, i * 9 + 7, none⟩ = some (.int .i64 y.1.tn) ∧ W9.cell? ⟨g2, i * 9 + 8, none⟩ = some (.bool y.1.on)) ∧ (W9.frozen? ⟨g2, i * 9, none⟩ = false ∧ W9.frozen? ⟨g2, i * 9 + 1, none⟩ = false ∧ W9.frozen? ⟨g2, i * 9 + 2, none⟩ = false ∧ W9.frozen? ⟨g2, i * 9 + 3, none⟩ = false ∧ W9.frozen? ⟨g2, i * 9 + 4, none⟩ = false ∧ W9.frozen? ⟨g2, i * 9 + 5, none⟩ = false ∧ W9.frozen? ⟨g2, i * 9 + 6, none⟩ = false ∧ W9.frozen? ⟨g2, i * 9 + 7, none⟩ = false ∧ W9.frozen? ⟨g2, i * 9 + 8, none⟩ = false) := by
  have l1 := (hM.fst.rw_ layO).len
  have l2 := (hM.snd.rw_ layO).len
  have hj : j < n := by have := (List.getElem?_eq_some_iff.1 hx).1; omega
  have hi : i < m := by have := (List.getElem?_eq_some_iff.1 hy).1; omega
  have hg1 : g1 < wr.heap.size := hM.fst.lt rfl
  have hg2 : g2 < wr.heap.size := hM.snd.lt rfl
  have bg1 : w.heap.size ≤ g1 := hM.fst.ge rfl
  have bg2 : w.heap.size ≤ g2 := hM.snd.ge rfl
  have f5 := hM.fst.below hb
  have s5 := hM.snd.below hb
  obtain ⟨W9, e9, f9, k9, b9⟩ := f5.put j hj (o1, (va, vm, vc))
  have A9 : Alt (some ⟨g1, 0, none⟩) w5 W9 := Alt.of_but (b9.mono (Nat.zero_le _)) k9
  have s9 := A9.own s5 (fun g ad0 e e0 => by cases e; cases e0; exact hg.symm)
  obtain ⟨W8, e8, s8, k8, b8⟩ := s9.put i hi (o2, (ya, ym, yc))
  have A8 : Alt (some ⟨g2, 0, none⟩) W9 W8 := Alt.of_but (b8.mono (Nat.zero_le _)) k8
  have f8 := A8.own f9 (fun g ad0 e e0 => by cases e; cases e0; exact hg)
  have r1 := src_rdy hb (hM.rf x (List.mem_of_getElem? hx)) hg1 hg2 hs1 q1.1 q1.2
  have r2 := src_rdy hb (hM.rl y (List.mem_of_getElem? hy)) hg1 hg2 hs2 q2.1 q2.2
  have up : ∀ z : OpM, Rdy w5 z ∧ Apt (some ⟨g1, 0, none⟩) z ∧ Apt (some ⟨g2, 0, none⟩) z → Rdy W8 z ∧ Apt (some ⟨g1, 0, none⟩) z ∧ Apt (some ⟨g2, 0, none⟩) z := fun z hz => ⟨(hz.1.alt A9 hz.2.1).alt A8 hz.2.2, hz.2⟩
  refine ⟨W9, W8, e9, e8, ⟨f8, s8, fun z hz => up z ?_, fun z hz => up z ?_, ?_⟩, cells_of f5 hx, ⟨f5.fz _, f5.fz _, f5.fz _, f5.fz _, f5.fz _, f5.fz _, f5.fz _, f5.fz _, f5.fz _⟩, cells_of s9 hy, ⟨s9.fz _, s9.fz _, s9.fz _, s9.fz _, s9.fz _, s9.fz _, s9.fz _, s9.fz _, s9.fz _⟩⟩
  · rcases List.mem_or_eq_of_mem_set hz with hz | rfl
    · have := hM.rf z hz
      exact ⟨this.1.below hb, this.2⟩
    · exact r1
  · rcases List.mem_or_eq_of_mem_set hz with hz | rfl
    · have := hM.rl z hz
      exact ⟨this.1.below hb, this.2⟩
    · exact r2
  · exact ((hM.bel.trans (hb.mono hM.bel.size)).trans (b9.mono bg1)).trans (b8.mono bg2)
theorem okOps_of {w : World} {L : List OpM} (h : ∀ x ∈ L, Rdy w x) : OkOps w L := fun x hx => ⟨(h x hx).rng, by have := (h x hx).size; omega⟩
theorem runIn_nil (w : World) : RunIn w none 0 0 [] := ⟨[], rfl, ⟨0, ownF_nil _ _⟩, fun x hx => by cases hx⟩
def AnsC (w : World) (q : (List OpV × List OpV) × Int) (e : Ending) (w' : World) : Prop :=
  ∃ a1 n1 c1 a2 n2 c2, e = .returned (.tuple #[.slice a1 n1 c1, .slice a2 n2 c2, .int .i64 q.2]) ∧ RunIn w' a1 n1 c1 q.1.1 ∧ RunIn w' a2 n2 c2 q.1.2 ∧ Below w.heap.size w w'
set_option maxHeartbeats 4000000 in
theorem cross_err1 {w : World} {a : Option Addr} {n cap : Nat} {b : Option Addr} {m capb : Nat} {Bf : Nat} {F : List OpM} (hF : OwnF opF 9 34 w Bf (.slice a n cap) F) (rF : ∀ x ∈ F, Rdy w x) (hw : Bar w) (he : errs F ≠ 0) :
    Calls Tryz.prog 5 #[.slice a n cap, .slice b m capb] w fun e w' => AnsC w (no2 (errs F)) e w' := by
  have HE1 : Hid (∀ W, Below w.heap.size w W → Calls Tryz.prog 10 #[.slice a n cap] W fun e w' => e = .returned (.int .i64 (errs F)) ∧ Below W.heap.size W w') := fun W hb => ownErrors_any ((hF.rw_ layO).below hb) ((okOps_of rF).below hb) (hw.below hb)
  unfold AnsC no2
  generalize errs F = z at *
  clear hF rF hw
  have t1 : (z == 0) = false := beq_eq_false_iff_ne.2 he
  have t2 : (z != 0) = true := by simp [bne, t1]
  have t3 : decide (z = 0) = false := decide_eq_false he
  go_enter Tryz.func5, Tryz.ntmps5
  go_wp2_with fail
  refine (HE1.out _ (Below.refl _ _)).mono ?_
  rintro e w1 ⟨rfl, b1⟩
  clear HE1
  go_wp2_with fail
  refine bodyPost_ret (v := .tuple #[.slice none 0 0, .slice none 0 0, .int .i64 z]) (by simp [results, Tryz.results5, go_sem]) rfl ⟨none, 0, 0, none, 0, 0, rfl, runIn_nil _, runIn_nil _, b1⟩
set_option maxHeartbeats 4000000 in
theorem cross_err2 {w : World} {a : Option Addr} {n cap : Nat} {b : Option Addr} {m capb : Nat} {Bf Bl : Nat} {F L : List OpM} (hF : OwnF opF 9 34 w Bf (.slice a n cap) F) (hL : OwnF opF 9 34 w Bl (.slice b m capb) L) (rF : ∀ x ∈ F, Rdy w x) (rL : ∀ x ∈ L, Rdy w x) (hw : Bar w) (h0 : errs F = 0) (he : errs L ≠ 0) :
    Calls Tryz.prog 5 #[.slice a n cap, .slice b m capb] w fun e w' => AnsC w (no2 (errs L)) e w' := by
  have HE1 : Hid (∀ W, Below w.heap.size w W → Calls Tryz.prog 10 #[.slice a n cap] W fun e w' => e = .returned (.int .i64 (errs F)) ∧ Below W.heap.size W w') := fun W hb => ownErrors_any ((hF.rw_ layO).below hb) ((okOps_of rF).below hb) (hw.below hb)
  have HE2 : Hid (∀ W, Below w.heap.size w W → Calls Tryz.prog 10 #[.slice b m capb] W fun e w' => e = .returned (.int .i64 (errs L)) ∧ Below W.heap.size W w') := fun W hb => ownErrors_any ((hL.rw_ layO).below hb) ((okOps_of rL).below hb) (hw.below hb)
  rw [h0] at HE1
  unfold AnsC no2
  generalize errs L = z at *
  clear hF rF hL rL hw h0
  have t1 : (z == 0) = false := beq_eq_false_iff_ne.2 he
  have t2 : (z != 0) = true := by simp [bne, t1]
  have t3 : decide (z = 0) = false := decide_eq_false he
  go_enter Tryz.func5, Tryz.ntmps5
  go_wp2_with fail
  refine (HE1.out _ (Below.refl _ _)).mono ?_
  rintro e w1 ⟨rfl, b1⟩
  go_wp2_with fail
  refine (HE2.out _ b1).mono ?_
  rintro e w2 ⟨rfl, h2⟩
  have b2 := b1.trans (h2.mono b1.size)
  clear HE1 HE2
  go_wp2_with fail
  refine bodyPost_ret (v := .tuple #[.slice none 0 0, .slice none 0 0, .int .i64 z]) (by simp [results, Tryz.results5, go_sem]) rfl ⟨none, 0, 0, none, 0, 0, rfl, runIn_nil _, runIn_nil _, b2⟩
set_option maxHeartbeats 16000000 in
theorem cross_run {w : World} {a : Option Addr} {n cap : Nat} {b : Option Addr} {m capb : Nat} {Bf Bl : Nat} {F L : List OpM} (hF : OwnF opF 9 34 w Bf (.slice a n cap) F) (hL : OwnF opF 9 34 w Bl (.slice b m capb) L) (rF : ∀ x ∈ F, Rdy w x) (rL : ∀ x ∈ L, Rdy w x) (hn : n ≤ 1048576) (hm : m ≤ 1048576) (hw : Bar w) (h0 : errs F = 0) (h1 : errs L = 0) :
    Calls Tryz.prog 5 #[.slice a n cap, .slice b m capb] w fun e w' => AnsC w (allR (F.map (·.1)) (L.map (·.1))) e w' := by
  have ln := (hF.rw_ layO).len
  have lm := (hL.rw_ layO).len
  have HE1 : Hid (∀ W, Below w.heap.size w W → Calls Tryz.prog 10 #[.slice a n cap] W fun e w' => e = .returned (.int .i64 0) ∧ Below W.heap.size W w') := fun W hb => by
    have := ownErrors_any ((hF.rw_ layO).below hb) ((okOps_of rF).below hb) (hw.below hb)
    rw [h0] at this
    exact this
  have HE2 : Hid (∀ W, Below w.heap.size w W → Calls Tryz.prog 10 #[.slice b m capb] W fun e w' => e = .returned (.int .i64 0) ∧ Below W.heap.size W w') := fun W hb => by
    have := ownErrors_any ((hL.rw_ layO).below hb) ((okOps_of rL).below hb) (hw.below hb)
    rw [h1] at this
    exact this
  have HC1 : Hid (∀ W, Below w.heap.size w W → Calls Tryz.prog 11 #[.slice a n cap] W fun e w' => ∃ a' cap', e = .returned (.slice a' n cap') ∧ OwnF opF 9 34 w' W.heap.size (.slice a' n cap') F ∧ Below W.heap.size W w') := fun W hb => cloneOps_any (hF.below hb) (by omega)
  have HC2 : Hid (∀ W, Below w.heap.size w W → Calls Tryz.prog 11 #[.slice b m capb] W fun e w' => ∃ a' cap', e = .returned (.slice a' m cap') ∧ OwnF opF 9 34 w' W.heap.size (.slice a' m cap') L ∧ Below W.heap.size W w') := fun W hb => cloneOps_any (hL.below hb) (by omega)
  have HBar : Hid (∀ W, Below w.heap.size w W → Bar W) := fun W hb => hw.below hb
  have HRF : Hid (∀ x ∈ F, Rdy w x) := rF
  have HRL : Hid (∀ x ∈ L, Rdy w x) := rL
  have HST := crs_start (firstErr_all (show firstErr (F.map (·.1)) = 0 from h0)) (firstErr_all (show firstErr (L.map (·.1)) = 0 from h1))
  rw [List.length_map, List.length_map, ln, lm] at HST
  generalize allR (F.map (·.1)) (L.map (·.1)) = fin at *
  have HS0 : Hid (CrS fin n m 0 (F.map (·.1)) (L.map (·.1))) := HST
  unfold AnsC
  clear hF hL rF rL hw h0 h1 HST
  go_enter Tryz.func5, Tryz.ntmps5
  go_wp2_with fail
  refine (HE1.out _ (Below.refl _ _)).mono ?_
  rintro e w1 ⟨rfl, b1⟩
  go_wp2_with fail
  refine (HE2.out _ b1).mono ?_
  rintro e w2 ⟨rfl, h2⟩
  have b2 := b1.trans (h2.mono b1.size)
  go_wp2_with fail
  refine (HC1.out _ b2).mono ?_
  rintro e w3 ⟨a1, c1, rfl, ho1, h3⟩
  have b3 := b2.trans (h3.mono b2.size)
  go_wp2_with fail
  refine (HC2.out _ b3).mono ?_
  rintro e w4 ⟨a2, c2, rfl, ho2, h4⟩
  have b4 := b3.trans (h4.mono b3.size)
  have HNE : Hid (∀ d1 d2 : Addr, a1 = some d1 → a2 = some d2 → d1.block ≠ d2.block) := fun d1 d2 e1 e2 => by
    subst e1 e2
    have h1 : d1.block < w3.heap.size := ho1.lt rfl
    have h2 : w3.heap.size ≤ d2.block := ho2.ge rfl
    omega
  have HM0 : Hid (MemC w a1 a2 n c1 m c2 w4 F L) := by
    have q1 : ∀ ad, a1 = some ad → w.heap.size ≤ ad.block := fun ad e => by
      subst e
      have h1 : w2.heap.size ≤ ad.block := ho1.ge rfl
      have := b2.size
      omega
    have q2 : ∀ ad, a2 = some ad → w.heap.size ≤ ad.block := fun ad e => by
      subst e
      have h1 : w3.heap.size ≤ ad.block := ho2.ge rfl
      have := b3.size
      omega
    exact ⟨(ho1.below h4).mono b2.size, ho2.mono b3.size, fun x hx => ⟨(HRF.out x hx).below b4, rng_apt (HRF.out x hx).rng q1, rng_apt (HRF.out x hx).rng q2⟩, fun x hx => ⟨(HRL.out x hx).below b4, rng_apt (HRL.out x hx).rng q1, rng_apt (HRL.out x hx).rng q2⟩, b4⟩
  clear ho1 ho2 b1 b2 b3 b4 h2 h3 h4 HE1 HE2 HC1 HC2 HRF HRL ln lm w1 w2 w3
  go_wp2_with fail
  go_loopw [4, 5, 6, 7, 8, 25] (fun v4 v5 v6 v7 v8 v25 W => ∃ (i : Nat) (FM LM : List OpM), v4 = .slice a1 n c1 ∧ v5 = .slice a2 m c2 ∧ v25 = .int .i64 (i : Int) ∧ v6 = .int .i64 0 ∧ i ≤ m ∧ Hid (CrS fin n m i (FM.map (·.1)) (LM.map (·.1))) ∧ Hid (MemC w a1 a2 n c1 m c2 W FM LM)) (fun _ _ _ _ _ v25 _ => m - (RowKit.intOf v25).toNat)
  case atStart => exact ⟨0, F, L, rfl, rfl, rfl, rfl, Nat.zero_le _, HS0, HM0⟩
  case round =>
    obtain ⟨i, FM, LM, rfl, rfl, rfl, rfl, him, HS, HM⟩ := hrel
    by_cases hi : i < m
    · have d1 : (i : Int) < (m : Int) := by omega
      have d0 : (0 : Int) ≤ (i : Int) := by omega
      obtain ⟨l0, hs2⟩ := crs_row HS.out hi
      have HS2 : Hid (∃ l, CrT fin n m i 0 (FM.map (·.1)) (LM.map (·.1)) l) := ⟨l0, hs2⟩
      clear hs2 HS HS0 HM0
      go_wp2_with fail
      go_loopw [4, 5, 6, 8, 30] (fun v4 v5 v6 v8 v30 W => ∃ (j : Nat) (FM LM : List OpM), v4 = .slice a1 n c1 ∧ v5 = .slice a2 m c2 ∧ v30 = .int .i64 (j : Int) ∧ v6 = .int .i64 0 ∧ j ≤ n ∧ Hid (∃ l, CrT fin n m i j (FM.map (·.1)) (LM.map (·.1)) l) ∧ Hid (MemC w a1 a2 n c1 m c2 W FM LM)) (fun _ _ _ _ v30 _ => n - (RowKit.intOf v30).toNat)
      case atStart => exact ⟨0, FM, LM, rfl, rfl, rfl, rfl, Nat.zero_le _, HS2, HM⟩
      case round =>
        clear HS2 HM
        obtain ⟨j, FM, LM, rfl, rfl, rfl, rfl, hjn, HS2, HM⟩ := hrel
        by_cases hj : j < n
        · have f1 : (j : Int) < (n : Int) := by omega
          have f0 : (0 : Int) ≤ (j : Int) := by omega
          obtain ⟨l, hs2⟩ := HS2.out
          have hM := HM.out
          have lF : FM.length = n := (hM.fst.rw_ layO).len
          have lL : LM.length = m := (hM.snd.rw_ layO).len
          obtain ⟨g1, cc1, e1, _⟩ := hM.fst.ptr (by omega)
          simp only [Value.slice.injEq] at e1
          obtain ⟨rfl, en1, rfl⟩ := e1
          obtain ⟨g2, cc2, e2, _⟩ := hM.snd.ptr (by omega)
          simp only [Value.slice.injEq] at e2
          obtain ⟨rfl, en2, rfl⟩ := e2
          clear en1 en2
          have hg : g1 ≠ g2 := HNE.out _ _ rfl rfl
          obtain ⟨x, hx⟩ : ∃ x, FM[j]? = some x := ⟨_, List.getElem?_eq_getElem (by omega)⟩
          obtain ⟨y, hy⟩ : ∃ y, LM[i]? = some y := ⟨_, List.getElem?_eq_getElem (by omega)⟩
          have hly : y.1 = l := by
            have := hs2.at_
            rw [List.getElem?_map, hy] at this
            simpa using this
          subst hly
          have hfx2 : (FM.map (·.1))[j]? = some x.1 := by rw [List.getElem?_map, hx]; rfl
          obtain ⟨nb, ng⟩ := crt_next hs2 hfx2
          have ox : Right x.1 := hs2.rF _ (List.mem_of_getElem? hfx2)
          have oy : Right y.1 := hs2.rL _ (List.mem_of_getElem? hs2.at_)
          have HS3 : Hid ((crossP x.1 y.1).2 = 0 → ∀ (va : Option Addr) (vm vc : Nat) (ya : Option Addr) (ym yc : Nat), ∃ l, CrT fin n m i (j + 1) ((FM.set j ((crossP x.1 y.1).1.1, (va, vm, vc))).map (·.1)) ((LM.set i ((crossP x.1 y.1).1.2, (ya, ym, yc))).map (·.1)) l) := fun e va vm vc ya ym yc => ⟨_, by rw [List.map_set, List.map_set]; exact ng e⟩
          have HS5 : Hid ((crossP x.1 y.1).2 ≠ 0 → fin = no2 (crossP x.1 y.1).2) := nb
          have rx := (hM.rf x (List.mem_of_getElem? hx)).1
          have ry := (hM.rl y (List.mem_of_getElem? hy)).1
          have HX : Hid (∀ W, Below wr.heap.size wr W → Calls Tryz.prog 12 #[opVal x.1 (.slice x.2.1 x.2.2.1 x.2.2.2), opVal y.1 (.slice y.2.1 y.2.2.1 y.2.2.2)] W fun e w' => ∃ va vm vc ya ym yc, e = .returned (.tuple #[opVal (crossP x.1 y.1).1.1 (.slice va vm vc), opVal (crossP x.1 y.1).1.2 (.slice ya ym yc), .int .i64 (crossP x.1 y.1).2]) ∧ Src (.slice x.2.1 x.2.2.1 x.2.2.2) x.1.l W w' (.slice va vm vc) (crossP x.1 y.1).1.1.l ∧ Src (.slice y.2.1 y.2.2.1 y.2.2.2) y.1.l W w' (.slice ya ym yc) (crossP x.1 y.1).1.2.l ∧ Below W.heap.size W w') := fun W hb => crossed_any (rx.rng.below hb) (ry.rng.below hb) (by have := rx.size; omega) (by have := ry.size; omega) (HBar.out W (hM.bel.trans (hb.mono hM.bel.size))) ox oy
          have hfx : (crossP x.1 y.1).1.1.l.length ≤ 1000000000 ∧ (crossP x.1 y.1).1.1.s.size ≤ 281474976710656 := by
            have := (crossP_few ox oy).1
            have := rx.size
            omega
          have hfy : (crossP x.1 y.1).1.2.l.length ≤ 1000000000 ∧ (crossP x.1 y.1).1.2.s.size ≤ 281474976710656 := by
            have := (crossP_few ox oy).2
            have := ry.size
            omega
          have HST : Hid (∀ (w5 : World) (va : Option Addr) (vm vc : Nat) (ya : Option Addr) (ym yc : Nat), Below wr.heap.size wr w5 → Src (.slice x.2.1 x.2.2.1 x.2.2.2) x.1.l wr w5 (.slice va vm vc) (crossP x.1 y.1).1.1.l → Src (.slice y.2.1 y.2.2.1 y.2.2.2) y.1.l wr w5 (.slice ya ym yc) (crossP x.1 y.1).1.2.l → _) := fun w5 va vm vc ya ym yc hb s1 s2 => mem_step (o1 := (crossP x.1 y.1).1.1) (o2 := (crossP x.1 y.1).1.2) hM hx hy hg hb s1 s2 hfx hfy
          obtain ⟨p0, p1, p2, p3, p4, p5, p6, p7, p8⟩ := cells_of hM.fst hx
          obtain ⟨q0, q1, q2, q3, q4, q5, q6, q7, q8⟩ := cells_of hM.snd hy
          clear hs2 nb ng hfx2 HS2 hM HM lF lL ox oy rx ry hfx hfy hg hx hy
          generalize (crossP x.1 y.1).1.1 = o1 at *
          generalize (crossP x.1 y.1).1.2 = o2 at *
          generalize (crossP x.1 y.1).2 = z at *
          obtain ⟨⟨xc, xn, xk, xp, xs, xl, xtc, xtn, xon⟩, xa, xm, xcap⟩ := x
          obtain ⟨⟨yc_, yn, yk, yp, ys, yl, ytc, ytn, yon⟩, ya_, ym_, ycap⟩ := y
          obtain ⟨c3, n3, k3, p3, s3, l3, tc3, tn3, on3⟩ := o1
          obtain ⟨c4, n4, k4, p4, s4, l4, tc4, tn4, on4⟩ := o2
          simp only [opVal] at *
          go_wp2_with fail
          go_cut [6] (fun v6 wx => v6 = .int .i64 z ∧ ∃ (FM' LM' : List OpM), Hid ((z = 0 → ∃ l, CrT fin n m i (j + 1) (FM'.map (·.1)) (LM'.map (·.1)) l) ∧ (z ≠ 0 → fin = no2 z)) ∧ Hid (MemC w (some ⟨g1, 0, none⟩) (some ⟨g2, 0, none⟩) n c1 m c2 wx FM' LM'))
          case first =>
            go_region_with (go_at_call 12; refine (HX.out _ ?_).mono ?_; (first | exact Below.refl _ _ | exact (Below.refl _ _).drew); rintro e5 w5 ⟨va, vm, vc, ya, ym, yc, rfl, hs1, hs2, hb5⟩; (have hb6 : Below wr.heap.size wr w5 := (by first | exact hb5 | exact (Below.refl _ _).drew.trans hb5)); obtain ⟨W9, W8, e9, e8, hM8, ⟨d0, d1, d2, d3, d4, d5, d6, d7, d8⟩, ⟨dz0, dz1, dz2, dz3, dz4, dz5, dz6, dz7, dz8⟩, ⟨h0, h1, h2, h3, h4, h5, h6, h7, h8⟩, ⟨hz0, hz1, hz2, hz3, hz4, hz5, hz6, hz7, hz8⟩⟩ := HST.out w5 va vm vc ya ym yc hb6 hs1 hs2; (have HM8 : Hid (MemC w (some ⟨g1, 0, none⟩) (some ⟨g2, 0, none⟩) n c1 m c2 W8 _ _) := hM8); clear hM8; (try simp only at e9 e8 d0 d1 d2 d3 d4 d5 d6 d7 d8 h0 h1 h2 h3 h4 h5 h6 h7 h8))
            all_goals
              go_wp2_with fail
              try rw [e9]
              try rw [e8]
              go_meet
              case rel => exact ⟨rfl, _, _, ⟨fun e => HS3.out e va vm vc ya ym yc, HS5.out⟩, HM8⟩
          case rest =>
            obtain ⟨rfl, FM', LM', HS4, HM4⟩ := hcut
            clear p0 p1 p2 p3 p4 p5 p6 p7 p8 q0 q1 q2 q3 q4 q5 q6 q7 q8 HX HST HS3 HS5
            by_cases hz : z = 0
            · subst hz
              have HS6 : Hid (∃ l, CrT fin n m i (j + 1) (FM'.map (·.1)) (LM'.map (·.1)) l) := HS4.out.1 rfl
              clear HS4
              go_wp2_with fail
              go_roundw
              case rel => exact ⟨j + 1, FM', LM', rfl, rfl, by go_num, rfl, by omega, HS6, HM4⟩
              case measure => simp [RowKit.intOf]; omega
            · obtain rfl := HS4.out.2 hz
              have hbw := HM4.out.bel
              have t1 : (z == 0) = false := beq_eq_false_iff_ne.2 hz
              have t2 : (z != 0) = true := by simp [bne, t1]
              have t3 : decide (z = 0) = false := decide_eq_false hz
              clear HS4 HM4
              go_wp2_with fail
              refine bodyPost_ret (v := .tuple #[.slice none 0 0, .slice none 0 0, .int .i64 z]) (by simp [results, Tryz.results5, go_sem]) rfl ⟨none, 0, 0, none, 0, 0, rfl, runIn_nil _, runIn_nil _, hbw⟩
        · obtain rfl : j = n := by omega
          obtain ⟨l, hs2⟩ := HS2.out
          have HS5 : Hid (CrS fin j m (i + 1) (FM.map (·.1)) (LM.map (·.1))) := crt_end hs2
          have f1 : decide ((j : Int) < (j : Int)) = false := decide_eq_false (by omega)
          clear hs2 HS2
          go_wp2_with fail
          go_roundw
          case rel => exact ⟨i + 1, FM, LM, rfl, rfl, by go_num, rfl, by omega, HS5, HM⟩
          case measure => simp [RowKit.intOf]; omega
    · obtain rfl : i = m := by omega
      obtain rfl := crs_end HS.out
      have d1 : decide ((i : Int) < (i : Int)) = false := decide_eq_false (by omega)
      have hM := HM.out
      have HA1 : Hid (Calls Tryz.prog 13 #[.slice a1 n c1] wr fun e w' => ∃ L', e = .returned (.slice a1 n c1) ∧ OwnF opF 9 34 w' w.heap.size (.slice a1 n c1) L' ∧ L'.map (·.1) = FM.map (·.1) ∧ OwnRs w' wr.heap.size L' ∧ Alt a1 wr w') := allApart_any hM.fst (fun x hx => ⟨(hM.rf x hx).1, (hM.rf x hx).2.1⟩)
      have HA2 : Hid (∀ W, Alt a1 wr W → Calls Tryz.prog 13 #[.slice a2 i c2] W fun e w' => ∃ L', e = .returned (.slice a2 i c2) ∧ OwnF opF 9 34 w' w.heap.size (.slice a2 i c2) L' ∧ L'.map (·.1) = LM.map (·.1) ∧ OwnRs w' W.heap.size L' ∧ Alt a2 W w') := fun W hA => allApart_any (hA.own hM.snd (fun g ad0 e e0 => by
        cases a2 with
        | none => simp [Value.ownBlock] at e
        | some ad =>
          simp only [Value.ownBlock, Option.some.injEq] at e
          exact fun h => HNE.out ad0 ad e0 rfl (by rw [← h, e]))) (fun x hx => ⟨(hM.rl x hx).1.alt hA (hM.rl x hx).2.1, (hM.rl x hx).2.2⟩)
      have HG1 : Hid (∀ ad, a1 = some ad → w.heap.size ≤ ad.block) := fun ad e => by
        subst e
        exact hM.fst.ge rfl
      have HG2 : Hid (∀ ad, a2 = some ad → w.heap.size ≤ ad.block ∧ ad.block < wr.heap.size) := fun ad e => by
        subst e
        exact ⟨hM.snd.ge rfl, hM.snd.lt rfl⟩
      have hbw := hM.bel
      have HRD : Hid ((∀ x ∈ FM, Rdy wr x) ∧ ∀ x ∈ LM, Rdy wr x) := ⟨fun x hx => (hM.rf x hx).1, fun x hx => (hM.rl x hx).1⟩
      clear hM HM HS HS0 HM0
      go_wp2_with fail
      refine HA1.out.mono ?_
      rintro e w5 ⟨L1, rfl, ho1, hl1, hr1, hA1⟩
      have HA3 := HA2.out w5 hA1
      have HP1 : Hid (OwnF opF 9 34 w5 w.heap.size (.slice a1 n c1) L1 ∧ L1.map (·.1) = FM.map (·.1) ∧ OwnRs w5 wr.heap.size L1) := ⟨ho1, hl1, hr1⟩
      clear ho1 hl1 hr1 HA1 HA2
      go_wp2_with fail
      refine HA3.mono ?_
      rintro e w6 ⟨L2, rfl, ho2, hl2, hr2, hA2⟩
      have HFIN : Hid (OwnF opF 9 34 w6 w.heap.size (.slice a1 n c1) L1 ∧ OwnF opF 9 34 w6 w.heap.size (.slice a2 i c2) L2 ∧ L1.map (·.1) = FM.map (·.1) ∧ L2.map (·.1) = LM.map (·.1) ∧ OwnRs w6 w.heap.size L1 ∧ OwnRs w6 w.heap.size L2 ∧ Below w.heap.size w w6) := by
        obtain ⟨ho1, hl1, hr1⟩ := HP1.out
        have hs5 := hA1.1.size
        have hsw := hbw.size
        refine ⟨hA2.own ho1 (fun g ad0 e e0 => ?_), ho2, hl1, hl2, fun x hx => (hA2.own (hr1 x hx) (fun g ad0 e e0 => ?_)).mono hsw, fun x hx => (hr2 x hx).mono (by omega), (hbw.trans (hA1.below hsw HG1.out)).trans (hA2.below (by omega) (fun ad e => (HG2.out ad e).1))⟩
        · cases a1 with
          | none => simp [Value.ownBlock] at e
          | some ad =>
            simp only [Value.ownBlock, Option.some.injEq] at e
            exact fun h => HNE.out ad ad0 rfl e0 (by rw [e, h])
        · have h1 := (hr1 x hx).ge e
          have h2 := (HG2.out ad0 e0).2
          omega
      clear ho2 hl2 hr2 HA3 HP1
      go_wp2_with fail
      refine bodyPost_ret (v := .tuple #[.slice a1 n c1, .slice a2 i c2, .int .i64 0]) (by simp [results, Tryz.results5, go_sem]) rfl ?_
      obtain ⟨f1, f2, f3, f4, f5, f6, f7⟩ := HFIN.out
      have up : ∀ (X Y : List OpM), X.map (·.1) = Y.map (·.1) → (∀ x ∈ Y, Rdy wr x) → OwnRs w6 w.heap.size X → ∀ x ∈ X, Rdy w6 x := fun X Y he hr ho x hx => by
        have h1 : x.1 ∈ Y.map (·.1) := by rw [← he]; exact List.mem_map_of_mem hx
        obtain ⟨y, hy, e1⟩ := List.mem_map.1 h1
        exact ⟨rng_of_rw ((ho x hx).rw_ layG), by rw [← e1]; exact (hr y hy).few, by rw [← e1]; exact (hr y hy).size⟩
      exact ⟨_, _, _, _, _, _, rfl, ⟨L1, f3, ⟨_, f1⟩, up _ _ f3 HRD.out.1 f5⟩, ⟨L2, f4, ⟨_, f2⟩, up _ _ f4 HRD.out.2 f6⟩, f7⟩
theorem Cross_any {w : World} {a : Option Addr} {n cap : Nat} {b : Option Addr} {m capb : Nat} {F L : List OpV} (hF : RunIn w a n cap F) (hL : RunIn w b m capb L) (hn : n ≤ 1048576) (hm : m ≤ 1048576) (hw : Bar w) :
    Calls Tryz.prog 5 #[.slice a n cap, .slice b m capb] w fun e w' => AnsC w (xCross F L) e w' := by
  obtain ⟨FM, rfl, ⟨Bf, oF⟩, rF⟩ := hF
  obtain ⟨LM, rfl, ⟨Bl, oL⟩, rL⟩ := hL
  unfold xCross
  by_cases h1 : firstErr (FM.map (·.1)) ≠ 0
  · rw [if_pos h1]
    exact cross_err1 oF rF hw h1
  · rw [if_neg h1]
    by_cases h2 : firstErr (LM.map (·.1)) ≠ 0
    · rw [if_pos h2]
      exact cross_err2 oF oL rF rL hw (Classical.not_not.1 h1) h2
    · rw [if_neg h2]
      exact cross_run oF oL rF rL hn hm hw (Classical.not_not.1 h1) (Classical.not_not.1 h2)
end Go.Proofs.YtmdnmhdimfglaaaGreatDoor
