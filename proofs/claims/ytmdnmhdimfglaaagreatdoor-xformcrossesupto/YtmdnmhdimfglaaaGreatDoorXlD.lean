import Derived.Test.YtmdnmhdimfglaaaGreatDoorXlC
import Derived.Test.YtmdnmhdimfglaaaGreatDoorXkC
namespace Go.Proofs.YtmdnmhdimfglaaaGreatDoor
open Go.RowKit Go.Lib
set_option maxRecDepth 100000
theorem MemC.below {w : World} {a1 a2 : Option Addr} {n c1 m c2 : Nat} {W W' : World} {FM LM : List OpM} (h : MemC w a1 a2 n c1 m c2 W FM LM) (hb : Below W.heap.size W W') : MemC w a1 a2 n c1 m c2 W' FM LM :=
  ⟨h.fst.below hb, h.snd.below hb, fun x hx => ⟨(h.rf x hx).1.below hb, (h.rf x hx).2⟩, fun x hx => ⟨(h.rl x hx).1.below hb, (h.rl x hx).2⟩, h.bel.trans (hb.mono h.bel.size)⟩
theorem MemC.swap {w : World} {a1 a2 : Option Addr} {n c1 m c2 : Nat} {W : World} {FM LM : List OpM} (h : MemC w a1 a2 n c1 m c2 W FM LM) : MemC w a2 a1 m c2 n c1 W LM FM :=
  ⟨h.snd, h.fst, fun x hx => ⟨(h.rl x hx).1, (h.rl x hx).2.2, (h.rl x hx).2.1⟩, fun x hx => ⟨(h.rf x hx).1, (h.rf x hx).2.2, (h.rf x hx).2.1⟩, h.bel⟩
theorem put9_other {W W9 : World} {g k b : Nat} {v0 v1 v2 v3 v4 v5 v6 v7 v8 : Value} (h : (((((((((W.setCell ⟨g, k, none⟩ v0).setCell ⟨g, k + 1, none⟩ v1).setCell ⟨g, k + 2, none⟩ v2).setCell ⟨g, k + 3, none⟩ v3).setCell ⟨g, k + 4, none⟩ v4).setCell ⟨g, k + 5, none⟩ v5).setCell ⟨g, k + 6, none⟩ v6).setCell ⟨g, k + 7, none⟩ v7).setCell ⟨g, k + 8, none⟩ v8) = W9) (hb : b ≠ g) : W9.heap[b]? = W.heap[b]? := by
  subst h
  exact ((((((((((But.set _ _ _ _).trans (But.set _ _ _ _)).trans (But.set _ _ _ _)).trans (But.set _ _ _ _)).trans (But.set _ _ _ _)).trans (But.set _ _ _ _)).trans (But.set _ _ _ _)).trans (But.set _ _ _ _)).trans (But.set _ _ _ _))).2 b hb
def SzC (F L : List OpV) : Prop := (∀ x ∈ F, x.s.size ≤ 2097152) ∧ ∀ x ∈ L, x.s.size ≤ 2097152
theorem SzC.set {F L : List OpV} (h : SzC F L) (i j : Nat) {f l : OpV} (hf : f.s.size ≤ 2097152) (hl : l.s.size ≤ 2097152) : SzC (F.set j f) (L.set i l) :=
  ⟨fun x hx => (List.mem_or_eq_of_mem_set hx).elim (h.1 x) (fun e => by rw [e]; exact hf), fun x hx => (List.mem_or_eq_of_mem_set hx).elim (h.2 x) (fun e => by rw [e]; exact hl)⟩
theorem runIn_mem {W : World} {B : Nat} {a : Option Addr} {n cap : Nat} {L : List OpM} (h : OwnF opF 9 34 W B (.slice a n cap) L) (hr : ∀ x ∈ L, Rdy W x) : RunIn W a n cap (L.map (·.1)) := ⟨L, rfl, ⟨B, h⟩, hr⟩
theorem own_apart {α β : Type} {f : α → List Value} {f2 : β → List Value} {k k2 : Nat} {T T2 : TypeId} {W : World} {B B2 : Nat} {a b : Option Addr} {n cap m cap2 : Nat} {l : List α} {l2 : List β} (h : OwnF f k T W B (.slice a n cap) l) (h2 : OwnF f2 k2 T2 W B2 (.slice b m cap2) l2) (hT : T ≠ T2) {ad ad0 : Addr} (e : b = some ad) (e0 : a = some ad0) : ad.block ≠ ad0.block := by
  subst e e0
  rcases h.2 with ⟨q, _⟩ | ⟨g, cp, cur, q, _, hh, _⟩
  · cases q
  · cases q
    rcases h2.2 with ⟨q, _⟩ | ⟨g2, cp2, cur2, q, _, hh2, _⟩
    · cases q
    · cases q
      intro h3
      simp only at h3
      subst h3
      rw [hh] at hh2
      simp only [Option.some.injEq, Obj.cells.injEq] at hh2
      exact hT hh2.2.1
set_option maxHeartbeats 4000000 in
theorem gcross_err1 {w : World} {a : Option Addr} {n cap : Nat} {b : Option Addr} {m capb : Nat} {F : List OpM} (hF : Rw opF 9 w a n cap F) (rF : ∀ x ∈ F, OpOk w x) (he : errs F ≠ 0) : Calls Tryz.prog 56 #[.slice a n cap, .slice b m capb] w fun e w' => AnsC w (no2 (errs F)) e w' := by
  have HE1 : Hid (∀ W, Below w.heap.size w W → Calls Tryz.prog 48 #[.slice a n cap] W fun e w' => e = .returned (.int .i64 (errs F)) ∧ Below W.heap.size W w') := fun W hb => gown_any (hF.below hb) (fun x hx => (rF x hx).below hb)
  unfold AnsC no2
  generalize errs F = z at *
  clear hF rF
  have t1 : (z == 0) = false := beq_eq_false_iff_ne.2 he
  have t2 : (z != 0) = true := by simp [bne, t1]
  have t3 : decide (z = 0) = false := decide_eq_false he
  go_enter Tryz.func56, Tryz.ntmps56
  go_wp2_with fail
  refine (HE1.out _ (Below.refl _ _)).mono ?_
  rintro e w1 ⟨rfl, b1⟩
  clear HE1
  go_wp2_with fail
  refine bodyPost_ret (v := .tuple #[.slice none 0 0, .slice none 0 0, .int .i64 z]) (by simp [results, Tryz.results56, go_sem]) rfl ⟨none, 0, 0, none, 0, 0, rfl, runIn_nil _, runIn_nil _, b1⟩
set_option maxHeartbeats 4000000 in
theorem gcross_err2 {w : World} {a : Option Addr} {n cap : Nat} {b : Option Addr} {m capb : Nat} {F L : List OpM} (hF : Rw opF 9 w a n cap F) (rF : ∀ x ∈ F, OpOk w x) (hL : Rw opF 9 w b m capb L) (rL : ∀ x ∈ L, OpOk w x) (h0 : errs F = 0) (he : errs L ≠ 0) : Calls Tryz.prog 56 #[.slice a n cap, .slice b m capb] w fun e w' => AnsC w (no2 (errs L)) e w' := by
  have HE1 : Hid (∀ W, Below w.heap.size w W → Calls Tryz.prog 48 #[.slice a n cap] W fun e w' => e = .returned (.int .i64 (errs F)) ∧ Below W.heap.size W w') := fun W hb => gown_any (hF.below hb) (fun x hx => (rF x hx).below hb)
  have HE2 : Hid (∀ W, Below w.heap.size w W → Calls Tryz.prog 48 #[.slice b m capb] W fun e w' => e = .returned (.int .i64 (errs L)) ∧ Below W.heap.size W w') := fun W hb => gown_any (hL.below hb) (fun x hx => (rL x hx).below hb)
  rw [h0] at HE1
  unfold AnsC no2
  generalize errs L = z at *
  clear hF rF hL rL h0
  have t1 : (z == 0) = false := beq_eq_false_iff_ne.2 he
  have t2 : (z != 0) = true := by simp [bne, t1]
  have t3 : decide (z = 0) = false := decide_eq_false he
  go_enter Tryz.func56, Tryz.ntmps56
  go_wp2_with fail
  refine (HE1.out _ (Below.refl _ _)).mono ?_
  rintro e w1 ⟨rfl, b1⟩
  go_wp2_with fail
  refine (HE2.out _ b1).mono ?_
  rintro e w2 ⟨rfl, h2⟩
  have b2 := b1.trans (h2.mono b1.size)
  clear HE1 HE2
  go_wp2_with fail
  refine bodyPost_ret (v := .tuple #[.slice none 0 0, .slice none 0 0, .int .i64 z]) (by simp [results, Tryz.results56, go_sem]) rfl ⟨none, 0, 0, none, 0, 0, rfl, runIn_nil _, runIn_nil _, b2⟩
set_option maxHeartbeats 32000000 in
theorem gcross_run {w : World} {a : Option Addr} {n cap : Nat} {b : Option Addr} {m capb : Nat} {F L : List OpM} (hF : Rw opF 9 w a n cap F) (rF : ∀ x ∈ F, OpOk w x) (hL : Rw opF 9 w b m capb L) (rL : ∀ x ∈ L, OpOk w x) (hn : n ≤ 1048576) (hm : m ≤ 1048576) (h0 : errs F = 0) (h1 : errs L = 0) : Calls Tryz.prog 56 #[.slice a n cap, .slice b m capb] w fun e w' => AnsC w (allR (F.map (·.1)) (L.map (·.1))) e w' := by
  have HE1 : Hid (∀ W, Below w.heap.size w W → Calls Tryz.prog 48 #[.slice a n cap] W fun e w' => e = .returned (.int .i64 (errs F)) ∧ Below W.heap.size W w') := fun W hb => gown_any (hF.below hb) (fun x hx => (rF x hx).below hb)
  have HE2 : Hid (∀ W, Below w.heap.size w W → Calls Tryz.prog 48 #[.slice b m capb] W fun e w' => e = .returned (.int .i64 (errs L)) ∧ Below W.heap.size W w') := fun W hb => gown_any (hL.below hb) (fun x hx => (rL x hx).below hb)
  rw [h0] at HE1
  rw [h1] at HE2
  have HC1 : Hid (∀ W, Below w.heap.size w W → Calls Tryz.prog 54 #[.slice a n cap] W fun e w' => ∃ va vc L', e = .returned (.slice va n vc) ∧ OwnF opF 9 34 w' W.heap.size (.slice va n vc) L' ∧ L'.map (·.1) = F.map (·.1) ∧ (∀ x ∈ L', Rdy w' x) ∧ OwnRs w' W.heap.size L' ∧ Below W.heap.size W w') := fun W hb =>
    (copyRun_any (hF.below hb) (fun x hx => opOk_rdy ((rF x hx).below hb)) hn).mono fun e w' ⟨va, vc, L', he, ho, hl, hr, hb2⟩ => ⟨va, vc, L', he, ho, hl, fun x hx => by
      have h1 : x.1 ∈ F.map (·.1) := by rw [← hl]; exact List.mem_map_of_mem hx
      obtain ⟨y, hy, e1⟩ := List.mem_map.1 h1
      have h2 := opOk_rdy (rF y hy)
      exact ⟨rng_of_rw ((hr x hx).rw_ layG), by rw [← e1]; exact h2.few, by rw [← e1]; exact h2.size⟩, hr, hb2⟩
  have HC2 : Hid (∀ W, Below w.heap.size w W → Calls Tryz.prog 54 #[.slice b m capb] W fun e w' => ∃ va vc L', e = .returned (.slice va m vc) ∧ OwnF opF 9 34 w' W.heap.size (.slice va m vc) L' ∧ L'.map (·.1) = L.map (·.1) ∧ (∀ x ∈ L', Rdy w' x) ∧ OwnRs w' W.heap.size L' ∧ Below W.heap.size W w') := fun W hb =>
    (copyRun_any (hL.below hb) (fun x hx => opOk_rdy ((rL x hx).below hb)) hm).mono fun e w' ⟨va, vc, L', he, ho, hl, hr, hb2⟩ => ⟨va, vc, L', he, ho, hl, fun x hx => by
      have h1 : x.1 ∈ L.map (·.1) := by rw [← hl]; exact List.mem_map_of_mem hx
      obtain ⟨y, hy, e1⟩ := List.mem_map.1 h1
      have h2 := opOk_rdy (rL y hy)
      exact ⟨rng_of_rw ((hr x hx).rw_ layG), by rw [← e1]; exact h2.few, by rw [← e1]; exact h2.size⟩, hr, hb2⟩
  have ln := hF.len
  have lm := hL.len
  have HST := crs_start (firstErr_all (show firstErr (F.map (·.1)) = 0 from h0)) (firstErr_all (show firstErr (L.map (·.1)) = 0 from h1))
  rw [List.length_map, List.length_map, ln, lm] at HST
  have HS0 : Hid (CrS (allR (F.map (·.1)) (L.map (·.1))) n m 0 (F.map (·.1)) (L.map (·.1)) ∧ SzC (F.map (·.1)) (L.map (·.1))) := ⟨HST, fun x hx => by obtain ⟨y, hy, rfl⟩ := List.mem_map.1 hx; exact (rF y hy).2.2, fun x hx => by obtain ⟨y, hy, rfl⟩ := List.mem_map.1 hx; exact (rL y hy).2.2⟩
  generalize allR (F.map (·.1)) (L.map (·.1)) = fin at *
  clear hF hL rF rL h0 h1 HST ln lm
  generalize F.map (·.1) = FV at *
  generalize L.map (·.1) = LV at *
  unfold AnsC
  go_enter Tryz.func56, Tryz.ntmps56
  go_wp2_with fail
  refine (HE1.out _ (Below.refl _ _)).mono ?_
  rintro e w1 ⟨rfl, b1⟩
  go_wp2_with fail
  refine (HE2.out _ b1).mono ?_
  rintro e w2 ⟨rfl, h2⟩
  have b2 := b1.trans (h2.mono b1.size)
  go_wp2_with fail
  refine (HC1.out _ b2).mono ?_
  rintro e w3 ⟨a1, c1, FM, rfl, ho1, rfl, hr1, hq1, h3⟩
  have b3 := b2.trans (h3.mono b2.size)
  go_wp2_with fail
  refine (HC2.out _ b3).mono ?_
  rintro e w4 ⟨a2, c2, LM, rfl, ho2, rfl, hr2, hq2, h4⟩
  have b4 := b3.trans (h4.mono b3.size)
  have HNE : Hid (∀ d1 d2 : Addr, a1 = some d1 → a2 = some d2 → d1.block ≠ d2.block) := fun d1 d2 e1 e2 => by
    subst e1 e2
    have h1 : d1.block < w3.heap.size := ho1.lt rfl
    have h2 : w3.heap.size ≤ d2.block := ho2.ge rfl
    omega
  have HM0 : Hid (MemC w a1 a2 n c1 m c2 w4 FM LM) := by
    refine ⟨(ho1.below h4).mono b2.size, ho2.mono b3.size, fun x hx => ⟨(hr1 x hx).below h4, ?_, ?_⟩, fun x hx => ⟨hr2 x hx, ?_, ?_⟩, b4⟩
    · exact fun hp ad ad0 e e0 => own_apart ho1 (hq1 x hx) (by decide) e e0
    · exact rng_apt (hr1 x hx).rng (fun ad e => by subst e; exact ho2.ge rfl)
    · exact own_apt (hq2 x hx) (fun ad e => by subst e; exact ho1.lt rfl)
    · exact fun hp ad ad0 e e0 => own_apart ho2 (hq2 x hx) (by decide) e e0
  clear ho1 ho2 hr1 hr2 hq1 hq2 b1 b2 b3 b4 h2 h3 h4 HE1 HE2 HC1 HC2 w1 w2 w3
  go_wp2_with fail
  go_loopw [10] (fun v10 W => ∃ (i : Nat) (FM LM : List OpM), v10 = .int .i64 (i : Int) ∧ i ≤ m ∧ Hid (CrS fin n m i (FM.map (·.1)) (LM.map (·.1)) ∧ SzC (FM.map (·.1)) (LM.map (·.1))) ∧ Hid (MemC w a1 a2 n c1 m c2 W FM LM)) (fun v10 _ => m - (RowKit.intOf v10).toNat)
  case atStart => exact ⟨0, FM, LM, rfl, Nat.zero_le _, HS0, HM0⟩
  case round =>
    obtain ⟨i, FM, LM, rfl, him, HS, HM⟩ := hrel
    by_cases hi : i < m
    · have d1 : (i : Int) < (m : Int) := by omega
      have d0 : (0 : Int) ≤ (i : Int) := by omega
      obtain ⟨l0, hs2⟩ := crs_row HS.out.1 hi
      have HS2 : Hid ((∃ l, CrT fin n m i 0 (FM.map (·.1)) (LM.map (·.1)) l) ∧ SzC (FM.map (·.1)) (LM.map (·.1))) := ⟨⟨l0, hs2⟩, HS.out.2⟩
      clear hs2 HS HS0 HM0
      go_wp2_with fail
      go_loopw [11] (fun v11 W => ∃ (j : Nat) (FM LM : List OpM), v11 = .int .i64 (j : Int) ∧ j ≤ n ∧ Hid ((∃ l, CrT fin n m i j (FM.map (·.1)) (LM.map (·.1)) l) ∧ SzC (FM.map (·.1)) (LM.map (·.1))) ∧ Hid (MemC w a1 a2 n c1 m c2 W FM LM)) (fun v11 _ => n - (RowKit.intOf v11).toNat)
      case atStart => exact ⟨0, FM, LM, rfl, Nat.zero_le _, HS2, HM⟩
      case round =>
        clear HS2 HM
        obtain ⟨j, FM, LM, rfl, hjn, HS2, HM⟩ := hrel
        by_cases hj : j < n
        · have f1 : (j : Int) < (n : Int) := by omega
          have f0 : (0 : Int) ≤ (j : Int) := by omega
          obtain ⟨⟨l, hs2⟩, hsz⟩ := HS2.out
          have hM := HM.out
          have lF : FM.length = n := (hM.fst.rw_ layO).len
          have lL : LM.length = m := (hM.snd.rw_ layO).len
          obtain ⟨g1, cc1, e1, _⟩ := hM.fst.ptr (by omega)
          simp only [Value.slice.injEq] at e1
          obtain ⟨rfl, en1, rfl⟩ := e1
          obtain ⟨g2, cc2, e2, _⟩ := hM.snd.ptr (by omega)
          simp only [Value.slice.injEq] at e2
          obtain ⟨rfl, en2, rfl⟩ := e2
          clear en1 en2
          have hg : g1 ≠ g2 := HNE.out _ _ rfl rfl
          obtain ⟨x, hx⟩ : ∃ x, FM[j]? = some x := ⟨_, List.getElem?_eq_getElem (by omega)⟩
          obtain ⟨y, hy⟩ : ∃ y, LM[i]? = some y := ⟨_, List.getElem?_eq_getElem (by omega)⟩
          have hly : y.1 = l := by
            have := hs2.at_
            rw [List.getElem?_map, hy] at this
            simpa using this
          subst hly
          have hfx2 : (FM.map (·.1))[j]? = some x.1 := by rw [List.getElem?_map, hx]; rfl
          obtain ⟨n1, n2, n3⟩ := crt_step hs2 hfx2
          have ox : Right x.1 := hs2.rF _ (List.mem_of_getElem? hfx2)
          have oy : Right y.1 := hs2.rL _ (List.mem_of_getElem? hs2.at_)
          have sx : x.1.s.size ≤ 2097152 := hsz.1 _ (List.mem_of_getElem? hfx2)
          have sy : y.1.s.size ≤ 2097152 := hsz.2 _ (List.mem_of_getElem? hs2.at_)
          have rx := (hM.rf x (List.mem_of_getElem? hx)).1
          have ry := (hM.rl y (List.mem_of_getElem? hy)).1
          have HN1 : Hid ((inclP y.1 x.1 true).2 ≠ 0 → fin = no2 (inclP y.1 x.1 true).2) := n1
          have HN2 : Hid ((inclP y.1 x.1 true).2 = 0 → (inclP x.1 y.1 false).2 ≠ 0 → fin = no2 (inclP x.1 y.1 false).2) := n2
          have HN3 : Hid ((inclP y.1 x.1 true).2 = 0 → (inclP x.1 y.1 false).2 = 0 → ∀ (va : Option Addr) (vm vc : Nat) (ua : Option Addr) (um uc : Nat), (∃ l, CrT fin n m i (j + 1) ((FM.set j ((inclP x.1 y.1 false).1, (ua, um, uc))).map (·.1)) ((LM.set i ((inclP y.1 x.1 true).1, (va, vm, vc))).map (·.1)) l) ∧ SzC ((FM.set j ((inclP x.1 y.1 false).1, (ua, um, uc))).map (·.1)) ((LM.set i ((inclP y.1 x.1 true).1, (va, vm, vc))).map (·.1))) := fun e1 e2 va vm vc ua um uc => ⟨⟨_, by rw [List.map_set, List.map_set]; exact n3 e1 e2⟩, by rw [List.map_set, List.map_set]; exact hsz.set i j (Nat.le_trans (inclP_s x.1 y.1 false) sx) (Nat.le_trans (inclP_s y.1 x.1 true) sy)⟩
          have HI1 : Hid (∀ W, Below wr.heap.size wr W → Calls Tryz.prog 49 #[opVal y.1 (.slice y.2.1 y.2.2.1 y.2.2.2), opVal x.1 (.slice x.2.1 x.2.2.1 x.2.2.2), .bool true] W fun e w' => ∃ va vm vc, e = .returned (.tuple #[opVal (inclP y.1 x.1 true).1 (.slice va vm vc), .int .i64 (inclP y.1 x.1 true).2]) ∧ OwnF rangeV 2 91 w' W.heap.size (.slice va vm vc) (inclP y.1 x.1 true).1.l ∧ Below W.heap.size W w') := fun W hb => include_any (ear := true) (b := x.2.1) (m2 := x.2.2.1) (cap2 := x.2.2.2) (ry.rng.below hb) (by have h1 := ry.rng.len; have h2 := oy.few; omega) sy sx oy ox
          have HI2 : Hid (∀ W, Below wr.heap.size wr W → Calls Tryz.prog 49 #[opVal x.1 (.slice x.2.1 x.2.2.1 x.2.2.2), opVal y.1 (.slice y.2.1 y.2.2.1 y.2.2.2), .bool false] W fun e w' => ∃ ua um uc, e = .returned (.tuple #[opVal (inclP x.1 y.1 false).1 (.slice ua um uc), .int .i64 (inclP x.1 y.1 false).2]) ∧ OwnF rangeV 2 91 w' W.heap.size (.slice ua um uc) (inclP x.1 y.1 false).1.l ∧ Below W.heap.size W w') := fun W hb => include_any (ear := false) (b := y.2.1) (m2 := y.2.2.1) (cap2 := y.2.2.2) (rx.rng.below hb) (by have h1 := rx.rng.len; have h2 := ox.few; omega) sx sy ox oy
          have hfx : (inclP x.1 y.1 false).1.l.length ≤ 1000000000 ∧ (inclP x.1 y.1 false).1.s.size ≤ 281474976710656 := by
            have := inclP_few false (o2 := y.1) ox
            have := inclP_s x.1 y.1 false
            omega
          have hfy : (inclP y.1 x.1 true).1.l.length ≤ 1000000000 ∧ (inclP y.1 x.1 true).1.s.size ≤ 281474976710656 := by
            have := inclP_few true (o2 := x.1) oy
            have := inclP_s y.1 x.1 true
            omega
          have HST : Hid (∀ (w5 : World) (va : Option Addr) (vm vc : Nat) (ua : Option Addr) (um uc : Nat), Below wr.heap.size wr w5 → Src (.slice y.2.1 y.2.2.1 y.2.2.2) y.1.l wr w5 (.slice va vm vc) (inclP y.1 x.1 true).1.l → Src (.slice x.2.1 x.2.2.1 x.2.2.2) x.1.l wr w5 (.slice ua um uc) (inclP x.1 y.1 false).1.l → _) := fun w5 va vm vc ua um uc hb s1 s2 => mem_step (o1 := (inclP y.1 x.1 true).1) (o2 := (inclP x.1 y.1 false).1) hM.swap hy hx hg.symm hb s1 s2 hfy hfx
          have hg1 : g1 < wr.heap.size := hM.fst.lt rfl
          have hg2 : g2 < wr.heap.size := hM.snd.lt rfl
          obtain ⟨p0, p1, p2, p3, p4, p5, p6, p7, p8⟩ := cells_of hM.fst hx
          obtain ⟨q0, q1, q2, q3, q4, q5, q6, q7, q8⟩ := cells_of hM.snd hy
          clear hs2 n1 n2 n3 hfx2 HS2 HM lF lL ox oy rx ry sx sy hsz hfx hfy
          generalize (inclP x.1 y.1 false).1 = ob at *
          generalize (inclP x.1 y.1 false).2 = zb at *
          generalize (inclP y.1 x.1 true).1 = oa at *
          generalize (inclP y.1 x.1 true).2 = za at *
          obtain ⟨⟨xc, xn, xk, xp, xs, xl, xtc, xtn, xon⟩, xa, xm, xcap⟩ := x
          obtain ⟨⟨yc, yn, yk, yp, ys, yl, ytc, ytn, yon⟩, ya_, ym_, ycap⟩ := y
          obtain ⟨kac, kan, kak, kap, kas, kal, katc, katn, kaon⟩ := oa
          obtain ⟨kbc, kbn, kbk, kbp, kbs, kbl, kbtc, kbtn, kbon⟩ := ob
          simp only [opVal] at *
          have alt := Nat.le_refl wr.heap.size
          have hC := Below.refl wr.heap.size wr
          go_upto_region 14 with fail
          go_cut [12, 13] (fun v12 v13 wx => ∃ (bx : Nat) (va : Option Addr) (vm vc : Nat), v12 = .pointer (some ⟨bx, 0, none⟩) ∧ v13 = .int .i64 za ∧ wx.heap[bx]? = some (Obj.cells #[.int .i64 kac, .int .i64 kan, .int .i64 kak, .int .i64 kap, .string kas, .slice va vm vc, .int .i64 katc, .int .i64 katn, .bool kaon] 34) ∧ Below wr.heap.size wr wx ∧ wr.heap.size ≤ bx ∧ OwnF rangeV 2 91 wx wr.heap.size (.slice va vm vc) kal)
          case first =>
            refine wp_region_held_drew (S := (fun W => W.cell? ⟨g2, i * 9, none⟩ = some (.int .i64 yc) ∧ W.cell? ⟨g2, i * 9 + 1, none⟩ = some (.int .i64 yn) ∧ W.cell? ⟨g2, i * 9 + 2, none⟩ = some (.int .i64 yk) ∧ W.cell? ⟨g2, i * 9 + 3, none⟩ = some (.int .i64 yp) ∧ W.cell? ⟨g2, i * 9 + 4, none⟩ = some (.string ys) ∧ W.cell? ⟨g2, i * 9 + 5, none⟩ = some (.slice ya_ ym_ ycap) ∧ W.cell? ⟨g2, i * 9 + 6, none⟩ = some (.int .i64 ytc) ∧ W.cell? ⟨g2, i * 9 + 7, none⟩ = some (.int .i64 ytn) ∧ W.cell? ⟨g2, i * 9 + 8, none⟩ = some (.bool yon) ∧ W.cell? ⟨g1, j * 9, none⟩ = some (.int .i64 xc) ∧ W.cell? ⟨g1, j * 9 + 1, none⟩ = some (.int .i64 xn) ∧ W.cell? ⟨g1, j * 9 + 2, none⟩ = some (.int .i64 xk) ∧ W.cell? ⟨g1, j * 9 + 3, none⟩ = some (.int .i64 xp) ∧ W.cell? ⟨g1, j * 9 + 4, none⟩ = some (.string xs) ∧ W.cell? ⟨g1, j * 9 + 5, none⟩ = some (.slice xa xm xcap) ∧ W.cell? ⟨g1, j * 9 + 6, none⟩ = some (.int .i64 xtc) ∧ W.cell? ⟨g1, j * 9 + 7, none⟩ = some (.int .i64 xtn) ∧ W.cell? ⟨g1, j * 9 + 8, none⟩ = some (.bool xon))) (by kernel_rfl) ?hS1 (fun hHeld => ?rest1)
            case hS1 => (exact ⟨q0, q1, q2, q3, q4, q5, q6, q7, q8, p0, p1, p2, p3, p4, p5, p6, p7, p8⟩)
            obtain ⟨u0, hu0⟩ : ∃ V, World.drew wr = V := ⟨_, rfl⟩
            rw [hu0] at hHeld
            rw [hu0]
            have hb : Below wr.heap.size wr u0 := by rw [← hu0]; exact (Below.refl _ _).drew
            clear hu0
            have hC0 := hC.trans (hb.mono hC.size)
            have alt0 := Nat.le_trans alt hb.size
            clear hb
            refine takeDh (i := 0) (d := some 42) (v := ?vT2) rfl rfl (by kernel_rfl) (by kernel_rfl) (by kernel_rfl) (fun _ _ _ h => h) (Or.inl ⟨by rfl, ?hyT2⟩) (by assumption) ?rstT2
            case hyT2 => (intro w hSw; (try dsimp only at hSw); go_simp; (try with_reducible rfl))
            try simp only [Act.put, List.setIfInBounds_toArray, List.set_cons_zero, List.set_cons_succ]
            refine takeDh (i := 1) (d := some 43) (v := ?vT3) rfl rfl (by kernel_rfl) (by kernel_rfl) (by kernel_rfl) (fun _ _ _ h => h) (Or.inl ⟨by rfl, ?hyT3⟩) (by assumption) ?rstT3
            case hyT3 => (intro w hSw; (try dsimp only at hSw); go_simp; (try with_reducible rfl))
            try simp only [Act.put, List.setIfInBounds_toArray, List.set_cons_zero, List.set_cons_succ]
            refine takeDh (i := 2) (d := some 44) (v := ?vT4) rfl rfl (by kernel_rfl) (by kernel_rfl) (by kernel_rfl) (fun _ _ _ h => h) (Or.inl ⟨by rfl, ?hyT4⟩) (by assumption) ?rstT4
            case hyT4 => (intro w hSw; (try dsimp only at hSw); go_simp; (try with_reducible rfl))
            try simp only [Act.put, List.setIfInBounds_toArray, List.set_cons_zero, List.set_cons_succ]
            refine takeDh (i := 3) (d := some 45) (v := ?vT5) rfl rfl (by kernel_rfl) (by kernel_rfl) (by kernel_rfl) (fun _ _ _ h => h) (Or.inl ⟨by rfl, ?hyT5⟩) (by assumption) ?rstT5
            case hyT5 => (intro w hSw; (try dsimp only at hSw); go_simp; (try with_reducible rfl))
            try simp only [Act.put, List.setIfInBounds_toArray, List.set_cons_zero, List.set_cons_succ]
            refine takeDh (i := 4) (d := some 46) (v := ?vT6) rfl rfl (by kernel_rfl) (by kernel_rfl) (by kernel_rfl) (fun _ _ _ h => h) (Or.inl ⟨by rfl, ?hyT6⟩) (by assumption) ?rstT6
            case hyT6 => (intro w hSw; (try dsimp only at hSw); go_simp; (try with_reducible rfl))
            try simp only [Act.put, List.setIfInBounds_toArray, List.set_cons_zero, List.set_cons_succ]
            refine takeDh (i := 5) (d := some 47) (v := ?vT7) rfl rfl (by kernel_rfl) (by kernel_rfl) (by kernel_rfl) (fun _ _ _ h => h) (Or.inl ⟨by rfl, ?hyT7⟩) (by assumption) ?rstT7
            case hyT7 => (intro w hSw; (try dsimp only at hSw); go_simp; (try with_reducible rfl))
            try simp only [Act.put, List.setIfInBounds_toArray, List.set_cons_zero, List.set_cons_succ]
            refine takeDh (i := 6) (d := some 48) (v := ?vT8) rfl rfl (by kernel_rfl) (by kernel_rfl) (by kernel_rfl) (fun _ _ _ h => h) (Or.inl ⟨by rfl, ?hyT8⟩) (by assumption) ?rstT8
            case hyT8 => (intro w hSw; (try dsimp only at hSw); go_simp; (try with_reducible rfl))
            try simp only [Act.put, List.setIfInBounds_toArray, List.set_cons_zero, List.set_cons_succ]
            refine takeDh (i := 7) (d := some 49) (v := ?vT9) rfl rfl (by kernel_rfl) (by kernel_rfl) (by kernel_rfl) (fun _ _ _ h => h) (Or.inl ⟨by rfl, ?hyT9⟩) (by assumption) ?rstT9
            case hyT9 => (intro w hSw; (try dsimp only at hSw); go_simp; (try with_reducible rfl))
            try simp only [Act.put, List.setIfInBounds_toArray, List.set_cons_zero, List.set_cons_succ]
            refine wpAnyH_ready (rs := [8, 12]) (by kernel_rfl) (by simp) ?_
            refine AllReadyH.cons rfl (fun K hK => ?b10_0) (AllReadyH.cons rfl (fun K hK => ?b10_1) (AllReadyH.nil))
            case' b10_0 =>
              go_simp
              refine (HI1.out _ hC0).mono ?_
              rintro e2 u1 ⟨va, vm, vc, rfl, ho5, hb⟩
              have hC1 := hC0.trans (hb.mono hC0.size)
              have alt1 := Nat.le_trans alt0 hb.size
              clear hb
              clear hHeld
              refine hK.out _ _ ?hS14 (fun hHeld => ?rest14)
              case' hS14 => (obtain ⟨q0, q1, q2, q3, q4, q5, q6, q7, q8⟩ := cells_of (hM.below hC1).snd hy; obtain ⟨p0, p1, p2, p3, p4, p5, p6, p7, p8⟩ := cells_of (hM.below hC1).fst hx; exact ⟨q0, q1, q2, q3, q4, q5, q6, q7, q8, p0, p1, p2, p3, p4, p5, p6, p7, p8⟩)
              clear hK K
              try simp only [Act.put, List.setIfInBounds_toArray, List.set_cons_zero, List.set_cons_succ]
              refine takeDh (i := 9) (d := some 41) (v := ?vT11) rfl rfl (by kernel_rfl) (by kernel_rfl) (by kernel_rfl) (fun _ _ _ h => h) (Or.inl ⟨by rfl, ?hyT11⟩) (by assumption) ?rstT11
              case hyT11 => (intro w hSw; (try dsimp only at hSw); go_simp; (try with_reducible rfl))
              try simp only [Act.put, List.setIfInBounds_toArray, List.set_cons_zero, List.set_cons_succ]
              refine takeDh (i := 10) (d := some 51) (v := ?vT12) rfl rfl (by kernel_rfl) (by kernel_rfl) (by kernel_rfl) (fun _ _ _ h => h) (Or.inl ⟨by rfl, ?hyT12⟩) (by assumption) ?rstT12
              case hyT12 => (intro w hSw; (try dsimp only at hSw); go_simp; (try with_reducible rfl))
              try simp only [Act.put, List.setIfInBounds_toArray, List.set_cons_zero, List.set_cons_succ]
              refine takeDh (i := 11) (d := some 52) (v := ?vT13) rfl rfl (by kernel_rfl) (by kernel_rfl) (by kernel_rfl) (fun _ _ _ h => h) (Or.inl ⟨by rfl, ?hyT13⟩) (by assumption) ?rstT13
              case hyT13 => (intro w hSw; (try dsimp only at hSw); go_simp; (try with_reducible rfl))
              try simp only [Act.put, List.setIfInBounds_toArray, List.set_cons_zero, List.set_cons_succ]
              refine wpAnyH_ready (rs := [12]) (by kernel_rfl) (by simp) ?_
              refine AllReadyH.cons rfl (fun K hK => ?_) AllReadyH.nil
              go_simp
              obtain ⟨u2, hv⟩ : ∃ V, u1.alloc (Obj.cells #[.int .i64 0, .int .i64 0, .int .i64 0, .int .i64 0, .string ⟨#[]⟩, .slice none 0 0, .int .i64 0, .int .i64 0, .bool false] 34) = V := ⟨_, rfl⟩
              have hb : Below u1.heap.size u1 u2 := by rw [← hv]; exact (Below.refl _ _).alloc (Nat.le_refl _) _
              have hC2 := hC1.trans (hb.mono hC1.size)
              have alt2 := Nat.le_trans alt1 hb.size
              have ho5 := ho5.below hb
              have hbx : u2.heap[u1.heap.size]? = some (Obj.cells #[.int .i64 0, .int .i64 0, .int .i64 0, .int .i64 0, .string ⟨#[]⟩, .slice none 0 0, .int .i64 0, .int .i64 0, .bool false] 34) := by rw [← hv]; exact heap_alloc_new _ _
              have hbxlo := alt1
              rw [hv]
              generalize u1.heap.size = hbxx at *
              clear hb hv
              clear hHeld
              refine hK.out _ _ ?hS15 (fun hHeld => ?rest15)
              case' hS15 => (obtain ⟨q0, q1, q2, q3, q4, q5, q6, q7, q8⟩ := cells_of (hM.below hC2).snd hy; obtain ⟨p0, p1, p2, p3, p4, p5, p6, p7, p8⟩ := cells_of (hM.below hC2).fst hx; exact ⟨q0, q1, q2, q3, q4, q5, q6, q7, q8, p0, p1, p2, p3, p4, p5, p6, p7, p8⟩)
              clear hK K
              try simp only [Act.put, List.setIfInBounds_toArray, List.set_cons_zero, List.set_cons_succ]
              obtain ⟨u9, e9, hx9, hC9, hK9⟩ := store9 hbx hC2 (by omega) (.int .i64 kac) (.int .i64 kan) (.int .i64 kak) (.int .i64 kap) (.string kas) (.slice va vm vc) (.int .i64 katc) (.int .i64 katn) (.bool kaon)
              obtain ⟨d0, d1, d2, d3, d4, d5, d6, d7, d8⟩ := box9 hbx
              obtain ⟨dz0, dz1, dz2, dz3, dz4, dz5, dz6, dz7, dz8⟩ := wr9 hbx
              have ho9 := own_type ho5 hbx (by decide) hK9
              have lo9 : wr.heap.size ≤ hbxx := by omega
              refine wpAnyH_ready (rs := [13]) (by kernel_rfl) (by simp) ?_
              refine AllReadyH.cons rfl (fun K hK => ?_) AllReadyH.nil
              go_simp
              try rw [e9]
              clear hHeld
              refine hK.out _ _ ?hS16 (fun hHeld => ?rest16)
              case' hS16 => (obtain ⟨q0, q1, q2, q3, q4, q5, q6, q7, q8⟩ := cells_of (hM.below hC9).snd hy; obtain ⟨p0, p1, p2, p3, p4, p5, p6, p7, p8⟩ := cells_of (hM.below hC9).fst hx; exact ⟨q0, q1, q2, q3, q4, q5, q6, q7, q8, p0, p1, p2, p3, p4, p5, p6, p7, p8⟩)
              clear hK K
              try simp only [Act.put, List.setIfInBounds_toArray, List.set_cons_zero, List.set_cons_succ]
              refine takeDh (i := 14) (d := some 13) (v := ?vT17) rfl rfl (by kernel_rfl) (by kernel_rfl) (by kernel_rfl) (fun _ _ _ h => h) (Or.inl ⟨by rfl, ?hyT17⟩) (by assumption) ?rstT17
              case hyT17 => (intro w hSw; (try dsimp only at hSw); go_simp; (try with_reducible rfl))
              try simp only [Act.put, List.setIfInBounds_toArray, List.set_cons_zero, List.set_cons_succ]
              refine wpAnyH_done (by kernel_rfl) ?_ _
            case' b10_1 =>
              go_simp
              obtain ⟨u1, hv⟩ : ∃ V, u0.alloc (Obj.cells #[.int .i64 0, .int .i64 0, .int .i64 0, .int .i64 0, .string ⟨#[]⟩, .slice none 0 0, .int .i64 0, .int .i64 0, .bool false] 34) = V := ⟨_, rfl⟩
              have hb : Below u0.heap.size u0 u1 := by rw [← hv]; exact (Below.refl _ _).alloc (Nat.le_refl _) _
              have hC1 := hC0.trans (hb.mono hC0.size)
              have alt1 := Nat.le_trans alt0 hb.size
              have hbx : u1.heap[u0.heap.size]? = some (Obj.cells #[.int .i64 0, .int .i64 0, .int .i64 0, .int .i64 0, .string ⟨#[]⟩, .slice none 0 0, .int .i64 0, .int .i64 0, .bool false] 34) := by rw [← hv]; exact heap_alloc_new _ _
              have hbxlo := alt0
              rw [hv]
              generalize u0.heap.size = hbxx at *
              clear hb hv
              clear hHeld
              refine hK.out _ _ ?hS18 (fun hHeld => ?rest18)
              case' hS18 => (obtain ⟨q0, q1, q2, q3, q4, q5, q6, q7, q8⟩ := cells_of (hM.below hC1).snd hy; obtain ⟨p0, p1, p2, p3, p4, p5, p6, p7, p8⟩ := cells_of (hM.below hC1).fst hx; exact ⟨q0, q1, q2, q3, q4, q5, q6, q7, q8, p0, p1, p2, p3, p4, p5, p6, p7, p8⟩)
              clear hK K
              try simp only [Act.put, List.setIfInBounds_toArray, List.set_cons_zero, List.set_cons_succ]
              refine wpAnyH_ready (rs := [8]) (by kernel_rfl) (by simp) ?_
              refine AllReadyH.cons rfl (fun K hK => ?_) AllReadyH.nil
              go_simp
              refine (HI1.out _ hC1).mono ?_
              rintro e2 u2 ⟨va, vm, vc, rfl, ho5, hb⟩
              have hC2 := hC1.trans (hb.mono hC1.size)
              have alt2 := Nat.le_trans alt1 hb.size
              have hbx := (hb.block _ (Array.getElem?_eq_some_iff.1 hbx).1).trans hbx
              clear hb
              clear hHeld
              refine hK.out _ _ ?hS22 (fun hHeld => ?rest22)
              case' hS22 => (obtain ⟨q0, q1, q2, q3, q4, q5, q6, q7, q8⟩ := cells_of (hM.below hC2).snd hy; obtain ⟨p0, p1, p2, p3, p4, p5, p6, p7, p8⟩ := cells_of (hM.below hC2).fst hx; exact ⟨q0, q1, q2, q3, q4, q5, q6, q7, q8, p0, p1, p2, p3, p4, p5, p6, p7, p8⟩)
              clear hK K
              try simp only [Act.put, List.setIfInBounds_toArray, List.set_cons_zero, List.set_cons_succ]
              refine takeDh (i := 9) (d := some 41) (v := ?vT19) rfl rfl (by kernel_rfl) (by kernel_rfl) (by kernel_rfl) (fun _ _ _ h => h) (Or.inl ⟨by rfl, ?hyT19⟩) (by assumption) ?rstT19
              case hyT19 => (intro w hSw; (try dsimp only at hSw); go_simp; (try with_reducible rfl))
              try simp only [Act.put, List.setIfInBounds_toArray, List.set_cons_zero, List.set_cons_succ]
              refine takeDh (i := 10) (d := some 51) (v := ?vT20) rfl rfl (by kernel_rfl) (by kernel_rfl) (by kernel_rfl) (fun _ _ _ h => h) (Or.inl ⟨by rfl, ?hyT20⟩) (by assumption) ?rstT20
              case hyT20 => (intro w hSw; (try dsimp only at hSw); go_simp; (try with_reducible rfl))
              try simp only [Act.put, List.setIfInBounds_toArray, List.set_cons_zero, List.set_cons_succ]
              refine takeDh (i := 11) (d := some 52) (v := ?vT21) rfl rfl (by kernel_rfl) (by kernel_rfl) (by kernel_rfl) (fun _ _ _ h => h) (Or.inl ⟨by rfl, ?hyT21⟩) (by assumption) ?rstT21
              case hyT21 => (intro w hSw; (try dsimp only at hSw); go_simp; (try with_reducible rfl))
              try simp only [Act.put, List.setIfInBounds_toArray, List.set_cons_zero, List.set_cons_succ]
              obtain ⟨u9, e9, hx9, hC9, hK9⟩ := store9 hbx hC2 (by omega) (.int .i64 kac) (.int .i64 kan) (.int .i64 kak) (.int .i64 kap) (.string kas) (.slice va vm vc) (.int .i64 katc) (.int .i64 katn) (.bool kaon)
              obtain ⟨d0, d1, d2, d3, d4, d5, d6, d7, d8⟩ := box9 hbx
              obtain ⟨dz0, dz1, dz2, dz3, dz4, dz5, dz6, dz7, dz8⟩ := wr9 hbx
              have ho9 := own_type ho5 hbx (by decide) hK9
              have lo9 : wr.heap.size ≤ hbxx := by omega
              refine wpAnyH_ready (rs := [13]) (by kernel_rfl) (by simp) ?_
              refine AllReadyH.cons rfl (fun K hK => ?_) AllReadyH.nil
              go_simp
              try rw [e9]
              clear hHeld
              refine hK.out _ _ ?hS23 (fun hHeld => ?rest23)
              case' hS23 => (obtain ⟨q0, q1, q2, q3, q4, q5, q6, q7, q8⟩ := cells_of (hM.below hC9).snd hy; obtain ⟨p0, p1, p2, p3, p4, p5, p6, p7, p8⟩ := cells_of (hM.below hC9).fst hx; exact ⟨q0, q1, q2, q3, q4, q5, q6, q7, q8, p0, p1, p2, p3, p4, p5, p6, p7, p8⟩)
              clear hK K
              try simp only [Act.put, List.setIfInBounds_toArray, List.set_cons_zero, List.set_cons_succ]
              refine takeDh (i := 14) (d := some 13) (v := ?vT24) rfl rfl (by kernel_rfl) (by kernel_rfl) (by kernel_rfl) (fun _ _ _ h => h) (Or.inl ⟨by rfl, ?hyT24⟩) (by assumption) ?rstT24
              case hyT24 => (intro w hSw; (try dsimp only at hSw); go_simp; (try with_reducible rfl))
              try simp only [Act.put, List.setIfInBounds_toArray, List.set_cons_zero, List.set_cons_succ]
              refine wpAnyH_done (by kernel_rfl) ?_ _
            all_goals
              clear hHeld
              go_wp2_with fail
              go_meet
              case rel => exact ⟨_, va, vm, vc, rfl, rfl, hx9, hC9, lo9, ho9.mono (by first | exact alt0 | exact alt1)⟩
          case rest =>
            obtain ⟨bx, va, vm, vc, rfl, rfl, hx9, hC9, lo9, ho9⟩ := hcut
            clear HI1 p0 q0 p1 q1 p2 q2 p3 q3 p4 q4 p5 q5 p6 q6 p7 q7 p8 q8
            by_cases hz : za = 0
            · subst hz
              have hbxlt : bx < wc.heap.size := (Array.getElem?_eq_some_iff.1 hx9).1
              have alt : wr.heap.size ≤ wc.heap.size ∧ bx < wc.heap.size := ⟨hC9.size, hbxlt⟩
              have hC := hC9
              have hxb := hx9
              have hox := ho9
              obtain ⟨p0, p1, p2, p3, p4, p5, p6, p7, p8⟩ := cells_of (hM.below hC).fst hx
              obtain ⟨q0, q1, q2, q3, q4, q5, q6, q7, q8⟩ := cells_of (hM.below hC).snd hy
              clear hx9 ho9
              go_upto_region 17 with fail
              go_cut [14, 15] (fun v14 v15 wx => ∃ (by_ : Nat) (ua : Option Addr) (um uc : Nat), v14 = .pointer (some ⟨by_, 0, none⟩) ∧ v15 = .int .i64 zb ∧ wx.heap[bx]? = some (Obj.cells #[.int .i64 kac, .int .i64 kan, .int .i64 kak, .int .i64 kap, .string kas, .slice va vm vc, .int .i64 katc, .int .i64 katn, .bool kaon] 34) ∧ wx.heap[by_]? = some (Obj.cells #[.int .i64 kbc, .int .i64 kbn, .int .i64 kbk, .int .i64 kbp, .string kbs, .slice ua um uc, .int .i64 kbtc, .int .i64 kbtn, .bool kbon] 34) ∧ Below wr.heap.size wr wx ∧ wr.heap.size ≤ by_ ∧ OwnF rangeV 2 91 wx wr.heap.size (.slice va vm vc) kal ∧ OwnF rangeV 2 91 wx wr.heap.size (.slice ua um uc) kbl)
              case first =>
                refine wp_region_held_drew (S := (fun W => W.cell? ⟨g1, j * 9, none⟩ = some (.int .i64 xc) ∧ W.cell? ⟨g1, j * 9 + 1, none⟩ = some (.int .i64 xn) ∧ W.cell? ⟨g1, j * 9 + 2, none⟩ = some (.int .i64 xk) ∧ W.cell? ⟨g1, j * 9 + 3, none⟩ = some (.int .i64 xp) ∧ W.cell? ⟨g1, j * 9 + 4, none⟩ = some (.string xs) ∧ W.cell? ⟨g1, j * 9 + 5, none⟩ = some (.slice xa xm xcap) ∧ W.cell? ⟨g1, j * 9 + 6, none⟩ = some (.int .i64 xtc) ∧ W.cell? ⟨g1, j * 9 + 7, none⟩ = some (.int .i64 xtn) ∧ W.cell? ⟨g1, j * 9 + 8, none⟩ = some (.bool xon) ∧ W.cell? ⟨g2, i * 9, none⟩ = some (.int .i64 yc) ∧ W.cell? ⟨g2, i * 9 + 1, none⟩ = some (.int .i64 yn) ∧ W.cell? ⟨g2, i * 9 + 2, none⟩ = some (.int .i64 yk) ∧ W.cell? ⟨g2, i * 9 + 3, none⟩ = some (.int .i64 yp) ∧ W.cell? ⟨g2, i * 9 + 4, none⟩ = some (.string ys) ∧ W.cell? ⟨g2, i * 9 + 5, none⟩ = some (.slice ya_ ym_ ycap) ∧ W.cell? ⟨g2, i * 9 + 6, none⟩ = some (.int .i64 ytc) ∧ W.cell? ⟨g2, i * 9 + 7, none⟩ = some (.int .i64 ytn) ∧ W.cell? ⟨g2, i * 9 + 8, none⟩ = some (.bool yon))) (by kernel_rfl) ?hS25 (fun hHeld => ?rest25)
                case hS25 => (exact ⟨p0, p1, p2, p3, p4, p5, p6, p7, p8, q0, q1, q2, q3, q4, q5, q6, q7, q8⟩)
                obtain ⟨u0, hu0⟩ : ∃ V, World.drew wc = V := ⟨_, rfl⟩
                rw [hu0] at hHeld
                rw [hu0]
                have hb : Below wc.heap.size wc u0 := by rw [← hu0]; exact (Below.refl _ _).drew
                clear hu0
                have hC0 := hC.trans (hb.mono hC.size)
                have alt0 := And.intro (Nat.le_trans alt.1 hb.size) (Nat.lt_of_lt_of_le alt.2 hb.size)
                have hxb0 := (hb.block _ (Array.getElem?_eq_some_iff.1 hxb).1).trans hxb
                have hox0 := hox.below hb
                clear hb
                refine takeDh (i := 0) (d := some 57) (v := ?vT26) rfl rfl (by kernel_rfl) (by kernel_rfl) (by kernel_rfl) (fun _ _ _ h => h) (Or.inl ⟨by rfl, ?hyT26⟩) (by assumption) ?rstT26
                case hyT26 => (intro w hSw; (try dsimp only at hSw); go_simp; (try with_reducible rfl))
                try simp only [Act.put, List.setIfInBounds_toArray, List.set_cons_zero, List.set_cons_succ]
                refine takeDh (i := 1) (d := some 58) (v := ?vT27) rfl rfl (by kernel_rfl) (by kernel_rfl) (by kernel_rfl) (fun _ _ _ h => h) (Or.inl ⟨by rfl, ?hyT27⟩) (by assumption) ?rstT27
                case hyT27 => (intro w hSw; (try dsimp only at hSw); go_simp; (try with_reducible rfl))
                try simp only [Act.put, List.setIfInBounds_toArray, List.set_cons_zero, List.set_cons_succ]
                refine takeDh (i := 2) (d := some 59) (v := ?vT28) rfl rfl (by kernel_rfl) (by kernel_rfl) (by kernel_rfl) (fun _ _ _ h => h) (Or.inl ⟨by rfl, ?hyT28⟩) (by assumption) ?rstT28
                case hyT28 => (intro w hSw; (try dsimp only at hSw); go_simp; (try with_reducible rfl))
                try simp only [Act.put, List.setIfInBounds_toArray, List.set_cons_zero, List.set_cons_succ]
                refine takeDh (i := 3) (d := some 60) (v := ?vT29) rfl rfl (by kernel_rfl) (by kernel_rfl) (by kernel_rfl) (fun _ _ _ h => h) (Or.inl ⟨by rfl, ?hyT29⟩) (by assumption) ?rstT29
                case hyT29 => (intro w hSw; (try dsimp only at hSw); go_simp; (try with_reducible rfl))
                try simp only [Act.put, List.setIfInBounds_toArray, List.set_cons_zero, List.set_cons_succ]
                refine takeDh (i := 4) (d := some 61) (v := ?vT30) rfl rfl (by kernel_rfl) (by kernel_rfl) (by kernel_rfl) (fun _ _ _ h => h) (Or.inl ⟨by rfl, ?hyT30⟩) (by assumption) ?rstT30
                case hyT30 => (intro w hSw; (try dsimp only at hSw); go_simp; (try with_reducible rfl))
                try simp only [Act.put, List.setIfInBounds_toArray, List.set_cons_zero, List.set_cons_succ]
                refine takeDh (i := 5) (d := some 62) (v := ?vT31) rfl rfl (by kernel_rfl) (by kernel_rfl) (by kernel_rfl) (fun _ _ _ h => h) (Or.inl ⟨by rfl, ?hyT31⟩) (by assumption) ?rstT31
                case hyT31 => (intro w hSw; (try dsimp only at hSw); go_simp; (try with_reducible rfl))
                try simp only [Act.put, List.setIfInBounds_toArray, List.set_cons_zero, List.set_cons_succ]
                refine takeDh (i := 6) (d := some 63) (v := ?vT32) rfl rfl (by kernel_rfl) (by kernel_rfl) (by kernel_rfl) (fun _ _ _ h => h) (Or.inl ⟨by rfl, ?hyT32⟩) (by assumption) ?rstT32
                case hyT32 => (intro w hSw; (try dsimp only at hSw); go_simp; (try with_reducible rfl))
                try simp only [Act.put, List.setIfInBounds_toArray, List.set_cons_zero, List.set_cons_succ]
                refine takeDh (i := 7) (d := some 64) (v := ?vT33) rfl rfl (by kernel_rfl) (by kernel_rfl) (by kernel_rfl) (fun _ _ _ h => h) (Or.inl ⟨by rfl, ?hyT33⟩) (by assumption) ?rstT33
                case hyT33 => (intro w hSw; (try dsimp only at hSw); go_simp; (try with_reducible rfl))
                try simp only [Act.put, List.setIfInBounds_toArray, List.set_cons_zero, List.set_cons_succ]
                refine wpAnyH_ready (rs := [8, 12]) (by kernel_rfl) (by simp) ?_
                refine AllReadyH.cons rfl (fun K hK => ?b34_0) (AllReadyH.cons rfl (fun K hK => ?b34_1) (AllReadyH.nil))
                case' b34_0 =>
                  go_simp
                  refine (HI2.out _ hC0).mono ?_
                  rintro e2 u1 ⟨ua, um, uc, rfl, ho6, hb⟩
                  have hC1 := hC0.trans (hb.mono hC0.size)
                  have alt1 := And.intro (Nat.le_trans alt0.1 hb.size) (Nat.lt_of_lt_of_le alt0.2 hb.size)
                  have hxb1 := (hb.block _ (Array.getElem?_eq_some_iff.1 hxb0).1).trans hxb0
                  have hox1 := hox0.below hb
                  clear hb
                  clear hHeld
                  refine hK.out _ _ ?hS38 (fun hHeld => ?rest38)
                  case' hS38 => (obtain ⟨q0, q1, q2, q3, q4, q5, q6, q7, q8⟩ := cells_of (hM.below hC1).snd hy; obtain ⟨p0, p1, p2, p3, p4, p5, p6, p7, p8⟩ := cells_of (hM.below hC1).fst hx; exact ⟨p0, p1, p2, p3, p4, p5, p6, p7, p8, q0, q1, q2, q3, q4, q5, q6, q7, q8⟩)
                  clear hK K
                  try simp only [Act.put, List.setIfInBounds_toArray, List.set_cons_zero, List.set_cons_succ]
                  refine takeDh (i := 9) (d := some 56) (v := ?vT35) rfl rfl (by kernel_rfl) (by kernel_rfl) (by kernel_rfl) (fun _ _ _ h => h) (Or.inl ⟨by rfl, ?hyT35⟩) (by assumption) ?rstT35
                  case hyT35 => (intro w hSw; (try dsimp only at hSw); go_simp; (try with_reducible rfl))
                  try simp only [Act.put, List.setIfInBounds_toArray, List.set_cons_zero, List.set_cons_succ]
                  refine takeDh (i := 10) (d := some 66) (v := ?vT36) rfl rfl (by kernel_rfl) (by kernel_rfl) (by kernel_rfl) (fun _ _ _ h => h) (Or.inl ⟨by rfl, ?hyT36⟩) (by assumption) ?rstT36
                  case hyT36 => (intro w hSw; (try dsimp only at hSw); go_simp; (try with_reducible rfl))
                  try simp only [Act.put, List.setIfInBounds_toArray, List.set_cons_zero, List.set_cons_succ]
                  refine takeDh (i := 11) (d := some 67) (v := ?vT37) rfl rfl (by kernel_rfl) (by kernel_rfl) (by kernel_rfl) (fun _ _ _ h => h) (Or.inl ⟨by rfl, ?hyT37⟩) (by assumption) ?rstT37
                  case hyT37 => (intro w hSw; (try dsimp only at hSw); go_simp; (try with_reducible rfl))
                  try simp only [Act.put, List.setIfInBounds_toArray, List.set_cons_zero, List.set_cons_succ]
                  refine wpAnyH_ready (rs := [12]) (by kernel_rfl) (by simp) ?_
                  refine AllReadyH.cons rfl (fun K hK => ?_) AllReadyH.nil
                  go_simp
                  obtain ⟨u2, hv⟩ : ∃ V, u1.alloc (Obj.cells #[.int .i64 0, .int .i64 0, .int .i64 0, .int .i64 0, .string ⟨#[]⟩, .slice none 0 0, .int .i64 0, .int .i64 0, .bool false] 34) = V := ⟨_, rfl⟩
                  have hb : Below u1.heap.size u1 u2 := by rw [← hv]; exact (Below.refl _ _).alloc (Nat.le_refl _) _
                  have hC2 := hC1.trans (hb.mono hC1.size)
                  have alt2 := And.intro (Nat.le_trans alt1.1 hb.size) (Nat.lt_of_lt_of_le alt1.2 hb.size)
                  have hxb2 := (hb.block _ (Array.getElem?_eq_some_iff.1 hxb1).1).trans hxb1
                  have hox2 := hox1.below hb
                  have ho6 := ho6.below hb
                  have hby : u2.heap[u1.heap.size]? = some (Obj.cells #[.int .i64 0, .int .i64 0, .int .i64 0, .int .i64 0, .string ⟨#[]⟩, .slice none 0 0, .int .i64 0, .int .i64 0, .bool false] 34) := by rw [← hv]; exact heap_alloc_new _ _
                  have hbylo := alt1
                  rw [hv]
                  generalize u1.heap.size = hbyx at *
                  clear hb hv
                  clear hHeld
                  refine hK.out _ _ ?hS39 (fun hHeld => ?rest39)
                  case' hS39 => (obtain ⟨q0, q1, q2, q3, q4, q5, q6, q7, q8⟩ := cells_of (hM.below hC2).snd hy; obtain ⟨p0, p1, p2, p3, p4, p5, p6, p7, p8⟩ := cells_of (hM.below hC2).fst hx; exact ⟨p0, p1, p2, p3, p4, p5, p6, p7, p8, q0, q1, q2, q3, q4, q5, q6, q7, q8⟩)
                  clear hK K
                  try simp only [Act.put, List.setIfInBounds_toArray, List.set_cons_zero, List.set_cons_succ]
                  obtain ⟨v9, e8, hyb, hC8, hK8⟩ := store9 hby hC2 (by omega) (.int .i64 kbc) (.int .i64 kbn) (.int .i64 kbk) (.int .i64 kbp) (.string kbs) (.slice ua um uc) (.int .i64 kbtc) (.int .i64 kbtn) (.bool kbon)
                  obtain ⟨d0, d1, d2, d3, d4, d5, d6, d7, d8⟩ := box9 hby
                  obtain ⟨dz0, dz1, dz2, dz3, dz4, dz5, dz6, dz7, dz8⟩ := wr9 hby
                  have ho8 := own_type ho6 hby (by decide) hK8
                  have hox8 := own_type hox2 hby (by decide) hK8
                  have hne : bx ≠ hbyx := by omega
                  have hxb8 := hK8.block hxb2 hne
                  refine wpAnyH_ready (rs := [13]) (by kernel_rfl) (by simp) ?_
                  refine AllReadyH.cons rfl (fun K hK => ?_) AllReadyH.nil
                  go_simp
                  try rw [e8]
                  clear hHeld
                  refine hK.out _ _ ?hS40 (fun hHeld => ?rest40)
                  case' hS40 => (obtain ⟨q0, q1, q2, q3, q4, q5, q6, q7, q8⟩ := cells_of (hM.below hC8).snd hy; obtain ⟨p0, p1, p2, p3, p4, p5, p6, p7, p8⟩ := cells_of (hM.below hC8).fst hx; exact ⟨p0, p1, p2, p3, p4, p5, p6, p7, p8, q0, q1, q2, q3, q4, q5, q6, q7, q8⟩)
                  clear hK K
                  try simp only [Act.put, List.setIfInBounds_toArray, List.set_cons_zero, List.set_cons_succ]
                  refine takeDh (i := 14) (d := some 15) (v := ?vT41) rfl rfl (by kernel_rfl) (by kernel_rfl) (by kernel_rfl) (fun _ _ _ h => h) (Or.inl ⟨by rfl, ?hyT41⟩) (by assumption) ?rstT41
                  case hyT41 => (intro w hSw; (try dsimp only at hSw); go_simp; (try with_reducible rfl))
                  try simp only [Act.put, List.setIfInBounds_toArray, List.set_cons_zero, List.set_cons_succ]
                  refine wpAnyH_done (by kernel_rfl) ?_ _
                case' b34_1 =>
                  go_simp
                  obtain ⟨u1, hv⟩ : ∃ V, u0.alloc (Obj.cells #[.int .i64 0, .int .i64 0, .int .i64 0, .int .i64 0, .string ⟨#[]⟩, .slice none 0 0, .int .i64 0, .int .i64 0, .bool false] 34) = V := ⟨_, rfl⟩
                  have hb : Below u0.heap.size u0 u1 := by rw [← hv]; exact (Below.refl _ _).alloc (Nat.le_refl _) _
                  have hC1 := hC0.trans (hb.mono hC0.size)
                  have alt1 := And.intro (Nat.le_trans alt0.1 hb.size) (Nat.lt_of_lt_of_le alt0.2 hb.size)
                  have hxb1 := (hb.block _ (Array.getElem?_eq_some_iff.1 hxb0).1).trans hxb0
                  have hox1 := hox0.below hb
                  have hby : u1.heap[u0.heap.size]? = some (Obj.cells #[.int .i64 0, .int .i64 0, .int .i64 0, .int .i64 0, .string ⟨#[]⟩, .slice none 0 0, .int .i64 0, .int .i64 0, .bool false] 34) := by rw [← hv]; exact heap_alloc_new _ _
                  have hbylo := alt0
                  rw [hv]
                  generalize u0.heap.size = hbyx at *
                  clear hb hv
                  clear hHeld
                  refine hK.out _ _ ?hS42 (fun hHeld => ?rest42)
                  case' hS42 => (obtain ⟨q0, q1, q2, q3, q4, q5, q6, q7, q8⟩ := cells_of (hM.below hC1).snd hy; obtain ⟨p0, p1, p2, p3, p4, p5, p6, p7, p8⟩ := cells_of (hM.below hC1).fst hx; exact ⟨p0, p1, p2, p3, p4, p5, p6, p7, p8, q0, q1, q2, q3, q4, q5, q6, q7, q8⟩)
                  clear hK K
                  try simp only [Act.put, List.setIfInBounds_toArray, List.set_cons_zero, List.set_cons_succ]
                  refine wpAnyH_ready (rs := [8]) (by kernel_rfl) (by simp) ?_
                  refine AllReadyH.cons rfl (fun K hK => ?_) AllReadyH.nil
                  go_simp
                  refine (HI2.out _ hC1).mono ?_
                  rintro e2 u2 ⟨ua, um, uc, rfl, ho6, hb⟩
                  have hC2 := hC1.trans (hb.mono hC1.size)
                  have alt2 := And.intro (Nat.le_trans alt1.1 hb.size) (Nat.lt_of_lt_of_le alt1.2 hb.size)
                  have hxb2 := (hb.block _ (Array.getElem?_eq_some_iff.1 hxb1).1).trans hxb1
                  have hox2 := hox1.below hb
                  have hby := (hb.block _ (Array.getElem?_eq_some_iff.1 hby).1).trans hby
                  clear hb
                  clear hHeld
                  refine hK.out _ _ ?hS46 (fun hHeld => ?rest46)
                  case' hS46 => (obtain ⟨q0, q1, q2, q3, q4, q5, q6, q7, q8⟩ := cells_of (hM.below hC2).snd hy; obtain ⟨p0, p1, p2, p3, p4, p5, p6, p7, p8⟩ := cells_of (hM.below hC2).fst hx; exact ⟨p0, p1, p2, p3, p4, p5, p6, p7, p8, q0, q1, q2, q3, q4, q5, q6, q7, q8⟩)
                  clear hK K
                  try simp only [Act.put, List.setIfInBounds_toArray, List.set_cons_zero, List.set_cons_succ]
                  refine takeDh (i := 9) (d := some 56) (v := ?vT43) rfl rfl (by kernel_rfl) (by kernel_rfl) (by kernel_rfl) (fun _ _ _ h => h) (Or.inl ⟨by rfl, ?hyT43⟩) (by assumption) ?rstT43
                  case hyT43 => (intro w hSw; (try dsimp only at hSw); go_simp; (try with_reducible rfl))
                  try simp only [Act.put, List.setIfInBounds_toArray, List.set_cons_zero, List.set_cons_succ]
                  refine takeDh (i := 10) (d := some 66) (v := ?vT44) rfl rfl (by kernel_rfl) (by kernel_rfl) (by kernel_rfl) (fun _ _ _ h => h) (Or.inl ⟨by rfl, ?hyT44⟩) (by assumption) ?rstT44
                  case hyT44 => (intro w hSw; (try dsimp only at hSw); go_simp; (try with_reducible rfl))
                  try simp only [Act.put, List.setIfInBounds_toArray, List.set_cons_zero, List.set_cons_succ]
                  refine takeDh (i := 11) (d := some 67) (v := ?vT45) rfl rfl (by kernel_rfl) (by kernel_rfl) (by kernel_rfl) (fun _ _ _ h => h) (Or.inl ⟨by rfl, ?hyT45⟩) (by assumption) ?rstT45
                  case hyT45 => (intro w hSw; (try dsimp only at hSw); go_simp; (try with_reducible rfl))
                  try simp only [Act.put, List.setIfInBounds_toArray, List.set_cons_zero, List.set_cons_succ]
                  obtain ⟨v9, e8, hyb, hC8, hK8⟩ := store9 hby hC2 (by omega) (.int .i64 kbc) (.int .i64 kbn) (.int .i64 kbk) (.int .i64 kbp) (.string kbs) (.slice ua um uc) (.int .i64 kbtc) (.int .i64 kbtn) (.bool kbon)
                  obtain ⟨d0, d1, d2, d3, d4, d5, d6, d7, d8⟩ := box9 hby
                  obtain ⟨dz0, dz1, dz2, dz3, dz4, dz5, dz6, dz7, dz8⟩ := wr9 hby
                  have ho8 := own_type ho6 hby (by decide) hK8
                  have hox8 := own_type hox2 hby (by decide) hK8
                  have hne : bx ≠ hbyx := by omega
                  have hxb8 := hK8.block hxb2 hne
                  refine wpAnyH_ready (rs := [13]) (by kernel_rfl) (by simp) ?_
                  refine AllReadyH.cons rfl (fun K hK => ?_) AllReadyH.nil
                  go_simp
                  try rw [e8]
                  clear hHeld
                  refine hK.out _ _ ?hS47 (fun hHeld => ?rest47)
                  case' hS47 => (obtain ⟨q0, q1, q2, q3, q4, q5, q6, q7, q8⟩ := cells_of (hM.below hC8).snd hy; obtain ⟨p0, p1, p2, p3, p4, p5, p6, p7, p8⟩ := cells_of (hM.below hC8).fst hx; exact ⟨p0, p1, p2, p3, p4, p5, p6, p7, p8, q0, q1, q2, q3, q4, q5, q6, q7, q8⟩)
                  clear hK K
                  try simp only [Act.put, List.setIfInBounds_toArray, List.set_cons_zero, List.set_cons_succ]
                  refine takeDh (i := 14) (d := some 15) (v := ?vT48) rfl rfl (by kernel_rfl) (by kernel_rfl) (by kernel_rfl) (fun _ _ _ h => h) (Or.inl ⟨by rfl, ?hyT48⟩) (by assumption) ?rstT48
                  case hyT48 => (intro w hSw; (try dsimp only at hSw); go_simp; (try with_reducible rfl))
                  try simp only [Act.put, List.setIfInBounds_toArray, List.set_cons_zero, List.set_cons_succ]
                  refine wpAnyH_done (by kernel_rfl) ?_ _
                all_goals
                  clear hHeld
                  go_wp2_with fail
                  go_meet
                  case rel => exact ⟨_, ua, um, uc, rfl, rfl, hxb8, hyb, hC8, by omega, hox8, ho8.mono (by first | exact alt0.1 | exact alt1.1)⟩
              case rest =>
                obtain ⟨by_, ua, um, uc, rfl, rfl, hxb, hyb, hC8, lo8, hox8, ho8⟩ := hcut
                clear HI2 p0 q0 p1 q1 p2 q2 p3 q3 p4 q4 p5 q5 p6 q6 p7 q7 p8 q8 hox
                by_cases hzb : zb = 0
                · subst hzb
                  have HN9 := HN3.out rfl rfl va vm vc ua um uc
                  obtain ⟨W9, W8, e9, e8, hM8, ⟨d0, d1, d2, d3, d4, d5, d6, d7, d8⟩, ⟨dz0, dz1, dz2, dz3, dz4, dz5, dz6, dz7, dz8⟩, ⟨h0, h1, h2, h3, h4, h5, h6, h7, h8⟩, ⟨hz0, hz1, hz2, hz3, hz4, hz5, hz6, hz7, hz8⟩⟩ := HST.out wc va vm vc ua um uc hC8 (.inr hox8) (.inr ho8)
                  have HM8 : Hid (MemC w (some ⟨g1, 0, none⟩) (some ⟨g2, 0, none⟩) n c1 m c2 W8 _ _) := hM8.swap
                  have HN8 : Hid _ := HN9
                  have hyb9 := (put9_other e9 (b := by_) (by omega)).trans hyb
                  obtain ⟨xk0, xk1, xk2, xk3, xk4, xk5, xk6, xk7, xk8⟩ := box9 hxb
                  obtain ⟨yk0, yk1, yk2, yk3, yk4, yk5, yk6, yk7, yk8⟩ := box9 hyb9
                  clear hM8 HN9 HST HN1 HN2 HN3 hM hxb hyb hyb9 hox8 ho8 hC8 hC9 hC
                  go_wp2_with fail
                  try rw [e9]
                  go_wp2_with fail
                  try rw [e8]
                  go_roundw
                  case rel => first | exact ⟨j + 1, _, _, by go_num, by omega, HN8, HM8⟩ | ((repeat apply Exists.intro); exact ⟨⟨j + 1, _, _, by go_num, by omega, HN8, HM8⟩, rfl⟩)
                  case measure => simp [RowKit.intOf]; omega
                · obtain rfl := HN2.out rfl hzb
                  have hbw := hM.bel.trans (hC8.mono hM.bel.size)
                  have t1 : (zb == 0) = false := beq_eq_false_iff_ne.2 hzb
                  have t2 : (zb != 0) = true := by simp [bne, t1]
                  have t3 : decide (zb = 0) = false := decide_eq_false hzb
                  clear HN1 HN2 HN3 HST hM hxb hyb hox8 ho8
                  go_wp2_with fail
                  refine bodyPost_ret (v := .tuple #[.slice none 0 0, .slice none 0 0, .int .i64 zb]) (by simp [results, Tryz.results56, go_sem]) rfl ⟨none, 0, 0, none, 0, 0, rfl, runIn_nil _, runIn_nil _, hbw⟩
            · obtain rfl := HN1.out hz
              have hbw := hM.bel.trans (hC9.mono hM.bel.size)
              have t1 : (za == 0) = false := beq_eq_false_iff_ne.2 hz
              have t2 : (za != 0) = true := by simp [bne, t1]
              have t3 : decide (za = 0) = false := decide_eq_false hz
              clear HN1 HN2 HN3 HST HI2 hM hx9 ho9
              go_wp2_with fail
              refine bodyPost_ret (v := .tuple #[.slice none 0 0, .slice none 0 0, .int .i64 za]) (by simp [results, Tryz.results56, go_sem]) rfl ⟨none, 0, 0, none, 0, 0, rfl, runIn_nil _, runIn_nil _, hbw⟩
        · obtain rfl : j = n := by omega
          obtain ⟨⟨l, hs2⟩, hsz⟩ := HS2.out
          have HS5 : Hid (CrS fin j m (i + 1) (FM.map (·.1)) (LM.map (·.1)) ∧ SzC (FM.map (·.1)) (LM.map (·.1))) := ⟨crt_end hs2, hsz⟩
          have f1 : decide ((j : Int) < (j : Int)) = false := decide_eq_false (by omega)
          clear hs2 hsz HS2
          go_wp2_with fail
          go_roundw
          case rel => exact ⟨i + 1, FM, LM, by go_num, by omega, HS5, HM⟩
          case measure => simp [RowKit.intOf]; omega
    · obtain rfl : i = m := by omega
      obtain rfl := crs_end HS.out.1
      have d1 : decide ((i : Int) < (i : Int)) = false := decide_eq_false (by omega)
      have hM := HM.out
      have HR1 : Hid (RunIn wr a1 n c1 (FM.map (·.1)) ∧ RunIn wr a2 i c2 (LM.map (·.1)) ∧ Below w.heap.size w wr) := ⟨runIn_mem hM.fst (fun x hx => (hM.rf x hx).1), runIn_mem hM.snd (fun x hx => (hM.rl x hx).1), hM.bel⟩
      clear hM HM HS HS0 HM0
      go_wp2_with fail
      refine bodyPost_ret (v := .tuple #[.slice a1 n c1, .slice a2 i c2, .int .i64 0]) (by simp [results, Tryz.results56, go_sem]) rfl ⟨_, _, _, _, _, _, rfl, HR1.out⟩
theorem gCross_any {w : World} {a : Option Addr} {n cap : Nat} {b : Option Addr} {m capb : Nat} {F L : List OpM} (hF : Rw opF 9 w a n cap F) (rF : ∀ x ∈ F, OpOk w x) (hL : Rw opF 9 w b m capb L) (rL : ∀ x ∈ L, OpOk w x) (hn : n ≤ 1048576) (hm : m ≤ 1048576) : Calls Tryz.prog 56 #[.slice a n cap, .slice b m capb] w fun e w' => AnsC w (xCross (F.map (·.1)) (L.map (·.1))) e w' := by
  unfold xCross
  by_cases h1 : firstErr (F.map (·.1)) ≠ 0
  · rw [if_pos h1]
    exact gcross_err1 hF rF h1
  · rw [if_neg h1]
    by_cases h2 : firstErr (L.map (·.1)) ≠ 0
    · rw [if_pos h2]
      exact gcross_err2 hF rF hL rL (Classical.not_not.1 h1) h2
    · rw [if_neg h2]
      exact gcross_run hF rF hL rL hn hm (Classical.not_not.1 h1) (Classical.not_not.1 h2)
end Go.Proofs.YtmdnmhdimfglaaaGreatDoor
