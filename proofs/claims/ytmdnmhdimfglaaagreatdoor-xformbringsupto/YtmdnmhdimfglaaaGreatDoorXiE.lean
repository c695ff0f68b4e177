import Derived.Test.YtmdnmhdimfglaaaGreatDoorGr8
namespace Go.Proofs.YtmdnmhdimfglaaaGreatDoor
open Go.RowKit Go.Lib
set_option maxRecDepth 100000
theorem found_outof {w : World} {l : List (Int × Int)} {a : Option Addr} {m cap : Nat} (hR : Sp.Rng w a m cap l) (hl : Sp.Lst l) {p n : Int} (h0 : 0 ≤ p) (h1 : p ≤ 1048576) (hn : 0 < n) (hn2 : n ≤ 256) {nr : Nat} (hnr : (ctxI p n).length = nr) {fa ta : Option Addr} {fc tc : Nat} (hF : Rw sthF 3 w fa nr fc (ctxI p n)) (hT : Rw sthF 3 w ta 1 tc ctxL) :
    Calls Tryz.prog 73 #[.slice fa nr fc, .slice ta 1 tc, .slice a m cap] w fun e w' => ∃ o no co, e = .returned (.tuple #[.slice o no co, .int .i64 (if Sp.backInL l p n ≠ [] then 23 else 0)]) ∧ no ≤ 1000000000 ∧ OwnF rangeV 2 91 w' w.heap.size (.slice o no co) (if Sp.backInL l p n ≠ [] then [] else Sp.backOldL l p n) ∧ Below w.heap.size w w' := by
  have hfi := found_out h0 h1 hn hl
  have hfew := hl.few
  have hnr3 : nr ≤ 3 := by rw [← hnr]; exact ctxI_len h0 h1
  refine (found_any hF (by omega) (ctxI_ok h0 h1 (by omega) (by omega)) hT (by omega) ctx_ok hR (by have := hR.len; omega) hl.nonneg hl.norm (fun P hP => ?_)).mono ?_
  · rw [hfi] at hP
    split at hP
    · cases hP
    · rename_i hin
      cases hP
      have hin2 : Sp.backInL l p n = [] := by simpa using hin
      exact ⟨out_bound (by omega) hl (fun r hr => by have := rst_ge hn hl hin2 r hr; omega), by have := out_len (p := p) (n := n) l; omega⟩
  · rintro e w' (⟨hq, he, hb⟩ | ⟨P, o, no, co, L, hq, he, ho, hpl, hb⟩)
    · rw [hfi] at hq
      split at hq
      · rename_i hin
        rw [if_pos hin, if_pos hin]
        exact ⟨none, 0, 0, he, by omega, ownF_nil _ _, hb⟩
      · cases hq
    · rw [hfi] at hq
      split at hq
      · cases hq
      · rename_i hin
        cases hq
        have hin2 : Sp.backInL l p n = [] := by simpa using hin
        have hL := pl_back h0 h1 hn hl hin2 hpl
        subst hL
        rw [if_neg hin, if_neg hin]
        have := (ho.rw_ layG).len
        exact ⟨o, no, co, he, by have := back_few h0 hn hl hin2; omega, ho, hb⟩
set_option maxHeartbeats 8000000 in
theorem exclude_cov {o o2 : OpV} {a : Option Addr} {m cap : Nat} {b : Option Addr} {m2 cap2 : Nat} {w : World} (hR : Sp.Rng w a m cap o.l) (hs2 : o2.s.size ≤ 2097152) (hcl : clashP o o2 = false) (tg : Bool) (htg : isB o.tc o.tn o2.c o2.n = tg) (h1 : o2.k = 1) (h2 : o.k ≠ 1) (h3 : o.k ≠ 4) (hl : Sp.Lst o.l) (hp2 : 0 ≤ o2.p ∧ o2.p ≤ 1048576) (hwd2 : 0 < widthP o2 ∧ widthP o2 ≤ 256) :
    Calls Tryz.prog 51 #[opVal o (.slice a m cap), opVal o2 (.slice b m2 cap2)] w fun e w' => Ans w (backP o o2) e w' := by
  have HIS : Hid (∀ W : World, Calls Tryz.prog 71 #[.agg #[.int .i64 o.c, .int .i64 o.n], .agg #[.int .i64 o2.c, .int .i64 o2.n]] W fun e w' => e = .returned (.bool false) ∧ Below W.heap.size W w') := fun W => by
    have := is_anyX o.c o.n o2.c o2.n W
    rw [show isB o.c o.n o2.c o2.n = false from hcl] at this
    exact this
  have HIT : Hid (∀ W : World, Calls Tryz.prog 71 #[.agg #[.int .i64 o.tc, .int .i64 o.tn], .agg #[.int .i64 o2.c, .int .i64 o2.n]] W fun e w' => e = .returned (.bool tg) ∧ Below W.heap.size W w') := fun W => by
    have := is_anyX o.tc o.tn o2.c o2.n W
    rw [htg] at this
    exact this
  have HW : Hid (∀ (W : World), Calls Tryz.prog 62 #[opVal o2 (.slice b m2 cap2)] W fun e w' => e = .returned (.int .i64 (widthP o2)) ∧ Below W.heap.size W w') := fun W => gWidth_any hs2 W
  obtain ⟨nr, hnr⟩ : ∃ nr, (ctxI o2.p (widthP o2)).length = nr := ⟨_, rfl⟩
  have HNR : Hid ((ctxI o2.p (widthP o2)).length = nr) := hnr
  obtain ⟨er, her⟩ : ∃ er : Int, (if Sp.backInL o.l o2.p (widthP o2) ≠ [] then 23 else 0) = er := ⟨_, rfl⟩
  obtain ⟨TL, hTL⟩ : ∃ TL, (if Sp.backInL o.l o2.p (widthP o2) ≠ [] then [] else Sp.backOldL o.l o2.p (widthP o2)) = TL := ⟨_, rfl⟩
  have HF : Hid (∀ (W : World) fa fc ta tc, Below w.heap.size w W → Rw sthF 3 W fa nr fc (ctxI o2.p (widthP o2)) → Rw sthF 3 W ta 1 tc ctxL → Calls Tryz.prog 73 #[.slice fa nr fc, .slice ta 1 tc, .slice a m cap] W fun e w' => ∃ x no co, e = .returned (.tuple #[.slice x no co, .int .i64 er]) ∧ no ≤ 1000000000 ∧ OwnF rangeV 2 91 w' W.heap.size (.slice x no co) TL ∧ Below W.heap.size W w') := fun W fa fc ta tc hb hF hT => by
    have := found_outof (hR.below hb) hl hp2.1 hp2.2 hwd2.1 hwd2.2 hnr hF hT
    rw [her, hTL] at this
    exact this
  obtain ⟨⟨⟨c3, n3, k3, p3, s3, l3, tc3, tn3, on3⟩, z3⟩, hq⟩ : ∃ q, backP o o2 = q := ⟨_, rfl⟩
  rw [hq]
  have key : (er = 23 ∧ backP o o2 = (op0, 23)) ∨ (er = 0 ∧ covP o TL = backP o o2) := by
    by_cases hin : Sp.backInL o.l o2.p (widthP o2) ≠ []
    · left
      refine ⟨by rw [← her, if_pos hin], ?_⟩
      unfold backP
      rw [if_pos hin]
    · right
      have hin2 : Sp.backInL o.l o2.p (widthP o2) = [] := by simpa using hin
      refine ⟨by rw [← her, if_neg hin], ?_⟩
      rw [← hTL, if_neg hin]
      unfold backP covP
      rw [if_neg hin, if_neg (by rw [back_end hp2.1 hp2.2 hwd2.1 hl]; decide), if_neg (by have := back_few hp2.1 hwd2.1 hl hin2; omega)]
  rw [hq] at key
  have HCV : Hid (covP o TL = (⟨c3, n3, k3, p3, s3, l3, tc3, tn3, on3⟩, z3) → ∀ (W : World) (x : Option Addr) (no co B : Nat), no ≤ 1000000000 → OwnF rangeV 2 91 W B (.slice x no co) TL → Calls Tryz.prog 74 #[opVal o (.slice a m cap), .slice x no co] W fun e w' => ∃ va vm vc, e = .returned (.tuple #[opVal ⟨c3, n3, k3, p3, s3, l3, tc3, tn3, on3⟩ (.slice va vm vc), .int .i64 z3]) ∧ OwnF rangeV 2 91 w' B (.slice va vm vc) l3 ∧ Below W.heap.size W w') := fun hcv W x no co B hno ho => by
    have h5 := covering_any (o := o) (v := .slice a m cap) ⟨_, _, _, rfl⟩ ho hno
    rw [hcv] at h5
    exact h5
  obtain ⟨cv, hcv⟩ : ∃ cv, covP o TL = cv := ⟨_, rfl⟩
  rw [hcv] at key HCV
  clear hcl hR hs2 hl hq hnr her hTL hcv htg
  generalize widthP o2 = wd at *
  obtain ⟨c, n, k, p, s, l, tc, tn, on⟩ := o
  obtain ⟨c2, n2, k2, p2, s2, l2, tc2, tn2, on2⟩ := o2
  unfold Ans
  simp only [opVal] at *
  subst h1
  have t1 : (k == 1) = false := beq_eq_false_iff_ne.2 h2
  have t1b : (k != 1) = true := by simp [bne, t1]
  have t2 : decide (k = 1) = false := decide_eq_false h2
  have t3 : (k == 4) = false := beq_eq_false_iff_ne.2 h3
  have t4 : decide (k = 4) = false := decide_eq_false h3
  obtain ⟨W0, hW0⟩ : ∃ W0, ((w.alloc (Obj.cells #[.int .i64 c, .int .i64 n, .int .i64 k, .int .i64 p, .string s, .slice a m cap, .int .i64 tc, .int .i64 tn, .bool on] 34)).alloc (Obj.cells #[.int .i64 c2, .int .i64 n2, .int .i64 1, .int .i64 p2, .string s2, .slice b m2 cap2, .int .i64 tc2, .int .i64 tn2, .bool on2] 34)).alloc (Obj.cells #[.int .i64 0, .int .i64 0, .int .i64 0, .int .i64 0, .string ⟨#[]⟩, .slice none 0 0, .int .i64 0, .int .i64 0, .bool false] 34) = W0 := ⟨_, rfl⟩
  have hX : W0.heap[w.heap.size]? = some (Obj.cells #[.int .i64 c, .int .i64 n, .int .i64 k, .int .i64 p, .string s, .slice a m cap, .int .i64 tc, .int .i64 tn, .bool on] 34) := by rw [← hW0]; exact (Below.heap_alloc _ _ _ (by simp; omega)).trans ((Below.heap_alloc _ _ _ (by simp)).trans (heap_alloc_new _ _))
  have hY : W0.heap[w.heap.size + 1]? = some (Obj.cells #[.int .i64 c2, .int .i64 n2, .int .i64 1, .int .i64 p2, .string s2, .slice b m2 cap2, .int .i64 tc2, .int .i64 tn2, .bool on2] 34) := by rw [← hW0]; exact (Below.heap_alloc _ _ _ (by simp)).trans (alloc_last _ _ _ (by simp))
  have hZ : W0.heap[w.heap.size + 2]? = some (Obj.cells #[.int .i64 0, .int .i64 0, .int .i64 0, .int .i64 0, .string ⟨#[]⟩, .slice none 0 0, .int .i64 0, .int .i64 0, .bool false] 34) := by rw [← hW0]; exact alloc_last _ _ _ (by simp)
  have hB0 : Below w.heap.size w W0 := by rw [← hW0]; exact (((Below.refl w.heap.size w).alloc (Nat.le_refl _) _).alloc (by simp) _).alloc (by simp; omega) _
  have alt : w.heap.size + 2 < W0.heap.size := (Array.getElem?_eq_some_iff.1 hZ).1
  obtain ⟨ak0, ak1, ak2, ak3, ak4, ak5, ak6, ak7, ak8⟩ := box9 hX
  obtain ⟨bk0, bk1, bk2, bk3, bk4, bk5, bk6, bk7, bk8⟩ := box9 hY
  obtain ⟨zk0, zk1, zk2, zk3, zk4, zk5, zk6, zk7, zk8⟩ := box9 hZ
  obtain ⟨zz0, zz1, zz2, zz3, zz4, zz5, zz6, zz7, zz8⟩ := wr9 hZ
  go_enter Tryz.func51, Tryz.ntmps51
  go_wp2_with fail
  refine (HIS.out _).mono ?_
  rintro e v1 ⟨rfl, hb1⟩
  have hX1 := (hb1.block _ (by omega)).trans hX
  have hY1 := (hb1.block _ (by omega)).trans hY
  have hZ1 := (hb1.block _ (by omega)).trans hZ
  have hB1 := hB0.trans (hb1.mono hB0.size)
  have alt1 : w.heap.size + 2 < v1.heap.size := (Array.getElem?_eq_some_iff.1 hZ1).1
  clear hb1 hX hY hZ hB0 alt ak0 ak1 ak2 ak3 ak4 ak5 ak6 ak7 ak8 bk0 bk1 bk2 bk3 bk4 bk5 bk6 bk7 bk8 zk0 zk1 zk2 zk3 zk4 zk5 zk6 zk7 zk8 zz0 zz1 zz2 zz3 zz4 zz5 zz6 zz7 zz8 HIS hW0
  obtain ⟨ak0, ak1, ak2, ak3, ak4, ak5, ak6, ak7, ak8⟩ := box9 hX1
  obtain ⟨bk0, bk1, bk2, bk3, bk4, bk5, bk6, bk7, bk8⟩ := box9 hY1
  obtain ⟨zk0, zk1, zk2, zk3, zk4, zk5, zk6, zk7, zk8⟩ := box9 hZ1
  obtain ⟨zz0, zz1, zz2, zz3, zz4, zz5, zz6, zz7, zz8⟩ := wr9 hZ1
  go_wp2_with fail
  refine (HIT.out _).mono ?_
  rintro e v2 ⟨rfl, hb2⟩
  have hX2 := (hb2.block _ (by omega)).trans hX1
  have hY2 := (hb2.block _ (by omega)).trans hY1
  have hZ2 := (hb2.block _ (by omega)).trans hZ1
  have hB2 := hB1.trans (hb2.mono hB1.size)
  have alt2 : w.heap.size + 2 < v2.heap.size := (Array.getElem?_eq_some_iff.1 hZ2).1
  clear hb2 hX1 hY1 hZ1 hB1 alt1 ak0 ak1 ak2 ak3 ak4 ak5 ak6 ak7 ak8 bk0 bk1 bk2 bk3 bk4 bk5 bk6 bk7 bk8 zk0 zk1 zk2 zk3 zk4 zk5 zk6 zk7 zk8 zz0 zz1 zz2 zz3 zz4 zz5 zz6 zz7 zz8 HIT
  obtain ⟨ak0, ak1, ak2, ak3, ak4, ak5, ak6, ak7, ak8⟩ := box9 hX2
  obtain ⟨bk0, bk1, bk2, bk3, bk4, bk5, bk6, bk7, bk8⟩ := box9 hY2
  obtain ⟨zk0, zk1, zk2, zk3, zk4, zk5, zk6, zk7, zk8⟩ := box9 hZ2
  obtain ⟨zz0, zz1, zz2, zz3, zz4, zz5, zz6, zz7, zz8⟩ := wr9 hZ2
  go_wp2_with fail
  refine (HW.out _).mono ?_
  rintro e v3 ⟨rfl, hb3⟩
  have hX3 := (hb3.block _ (by omega)).trans hX2
  have hY3 := (hb3.block _ (by omega)).trans hY2
  have hZ3 := (hb3.block _ (by omega)).trans hZ2
  have hB3 := hB2.trans (hb3.mono hB2.size)
  have alt3 : w.heap.size + 2 < v3.heap.size := (Array.getElem?_eq_some_iff.1 hZ3).1
  clear hb3 hX2 hY2 hZ2 hB2 alt2 ak0 ak1 ak2 ak3 ak4 ak5 ak6 ak7 ak8 bk0 bk1 bk2 bk3 bk4 bk5 bk6 bk7 bk8 zk0 zk1 zk2 zk3 zk4 zk5 zk6 zk7 zk8 zz0 zz1 zz2 zz3 zz4 zz5 zz6 zz7 zz8 HW
  obtain ⟨ak0, ak1, ak2, ak3, ak4, ak5, ak6, ak7, ak8⟩ := box9 hX3
  obtain ⟨bk0, bk1, bk2, bk3, bk4, bk5, bk6, bk7, bk8⟩ := box9 hY3
  obtain ⟨zk0, zk1, zk2, zk3, zk4, zk5, zk6, zk7, zk8⟩ := box9 hZ3
  obtain ⟨zz0, zz1, zz2, zz3, zz4, zz5, zz6, zz7, zz8⟩ := wr9 hZ3
  go_wp2_with fail
  refine wp_region_held_drew (S := (fun W => W.cell? ⟨w.heap.size + 1, 3, none⟩ = some (.int .i64 p2))) (by kernel_rfl) ?hS1 (fun hHeld => ?rest1)
  case hS1 => exact bk3
  refine takeDh (i := 1) (d := some 52) (v := ?vT2) rfl rfl (by kernel_rfl) (by kernel_rfl) (by kernel_rfl) (fun _ _ _ h => h) (Or.inl ⟨by rfl, ?hyT2⟩) (by assumption) ?rstT2
  case hyT2 => (intro w hSw; (try dsimp only at hSw); go_simp; (try with_reducible rfl))
  try simp only [Act.put, List.setIfInBounds_toArray, List.set_cons_zero, List.set_cons_succ]
  refine takeDh (i := 2) (d := some 53) (v := ?vT3) rfl rfl (by kernel_rfl) (by kernel_rfl) (by kernel_rfl) (fun _ _ _ h => h) (Or.inl ⟨by rfl, ?hyT3⟩) (by assumption) ?rstT3
  case hyT3 => (intro w hSw; (try dsimp only at hSw); go_simp; (try with_reducible rfl))
  try simp only [Act.put, List.setIfInBounds_toArray, List.set_cons_zero, List.set_cons_succ]
  refine takeDh (i := 3) (d := some 54) (v := ?vT4) rfl rfl (by kernel_rfl) (by kernel_rfl) (by kernel_rfl) (fun _ _ _ h => h) (Or.inl ⟨by rfl, ?hyT4⟩) (by assumption) ?rstT4
  case hyT4 => (intro w hSw; (try dsimp only at hSw); go_simp; (try with_reducible rfl))
  try simp only [Act.put, List.setIfInBounds_toArray, List.set_cons_zero, List.set_cons_succ]
  refine wpAnyH_ready (rs := [0]) (by kernel_rfl) (by simp) ?_
  refine AllReadyH.cons rfl (fun K hK => ?_) AllReadyH.nil
  go_simp
  refine (context_any _).mono ?_
  rintro e v4 ⟨ca, cc, rfl, hrow, hb4⟩
  have hb4 : Below v3.heap.size v3 v4 := (below_drewN (Below.refl _ _) 1).trans hb4
  have hY4 := (hb4.block _ (by omega)).trans hY3
  clear hHeld
  refine hK.out _ _ ?hS5 (fun hHeld => ?rest5)
  case hS5 => (show v4.cell? _ = _; exact (box9 hY4).2.2.2.1)
  clear hK K
  try simp only [Act.put, List.setIfInBounds_toArray, List.set_cons_zero, List.set_cons_succ]
  refine wpAnyH_ready (rs := [4]) (by kernel_rfl) (by simp) ?_
  refine AllReadyH.cons rfl (fun K hK => ?_) AllReadyH.nil
  go_simp
  refine (with_any hrow (by omega) ctx_ok 2 p2 wd (by omega)).mono ?_
  rintro e v5 ⟨xa, xc, rfl, ho5, hb5⟩
  have hb35 := hb4.trans (hb5.mono hb4.size)
  have hY5 := (hb35.block _ (by omega)).trans hY3
  clear hHeld
  refine hK.out _ _ ?hS6 (fun hHeld => ?rest6)
  case hS6 => (show v5.cell? _ = _; exact (box9 hY5).2.2.2.1)
  clear hK K
  try simp only [Act.put, List.setIfInBounds_toArray, List.set_cons_zero, List.set_cons_succ]
  refine takeDh (i := 5) (d := some 9) (v := ?vT7) rfl rfl (by kernel_rfl) (by kernel_rfl) (by kernel_rfl) (fun _ _ _ h => h) (Or.inl ⟨by rfl, ?hyT7⟩) (by assumption) ?rstT7
  case hyT7 => (intro w hSw; (try dsimp only at hSw); go_simp; (try with_reducible rfl))
  try simp only [Act.put, List.setIfInBounds_toArray, List.set_cons_zero, List.set_cons_succ]
  refine wpAnyH_done (by kernel_rfl) ?_ _
  have hrow5 : Rw sthF 3 v5 xa nr xc (ctxI p2 wd) := by
    have := ho5.rw_ layH
    rw [show (withL 2 p2 wd ctxL 0).length = nr from HNR.out] at this
    exact this
  rw [show (withL 2 p2 wd ctxL 0).length = nr from HNR.out]
  clear hHeld hrow hb4 hb5 ho5 hY4 hY5
  have hX5 := (hb35.block _ (by omega)).trans hX3
  have hY5 := (hb35.block _ (by omega)).trans hY3
  have hZ5 := (hb35.block _ (by omega)).trans hZ3
  have hB5 := hB3.trans (hb35.mono hB3.size)
  have alt5 : w.heap.size + 2 < v5.heap.size := (Array.getElem?_eq_some_iff.1 hZ5).1
  clear hb35 hX3 hY3 hZ3 hB3 alt3 ak0 ak1 ak2 ak3 ak4 ak5 ak6 ak7 ak8 bk0 bk1 bk2 bk3 bk4 bk5 bk6 bk7 bk8 zk0 zk1 zk2 zk3 zk4 zk5 zk6 zk7 zk8 zz0 zz1 zz2 zz3 zz4 zz5 zz6 zz7 zz8 
  obtain ⟨ak0, ak1, ak2, ak3, ak4, ak5, ak6, ak7, ak8⟩ := box9 hX5
  obtain ⟨bk0, bk1, bk2, bk3, bk4, bk5, bk6, bk7, bk8⟩ := box9 hY5
  obtain ⟨zk0, zk1, zk2, zk3, zk4, zk5, zk6, zk7, zk8⟩ := box9 hZ5
  obtain ⟨zz0, zz1, zz2, zz3, zz4, zz5, zz6, zz7, zz8⟩ := wr9 hZ5
  go_wp2_with fail
  refine wp_region_held_drew (S := (fun W => W.cell? ⟨w.heap.size, 5, none⟩ = some (.slice a m cap))) (by kernel_rfl) ?hS8 (fun hHeld => ?rest8)
  case hS8 => exact ak5
  refine takeDh (i := 0) (d := some 61) (v := ?vT9) rfl rfl (by kernel_rfl) (by kernel_rfl) (by kernel_rfl) (fun _ _ _ h => h) (Or.inl ⟨by rfl, ?hyT9⟩) (by assumption) ?rstT9
  case hyT9 => (intro w hSw; (try dsimp only at hSw); go_simp; (try with_reducible rfl))
  try simp only [Act.put, List.setIfInBounds_toArray, List.set_cons_zero, List.set_cons_succ]
  refine takeDh (i := 2) (d := some 63) (v := ?vT10) rfl rfl (by kernel_rfl) (by kernel_rfl) (by kernel_rfl) (fun _ _ _ h => h) (Or.inl ⟨by rfl, ?hyT10⟩) (by assumption) ?rstT10
  case hyT10 => (intro w hSw; (try dsimp only at hSw); go_simp; (try with_reducible rfl))
  try simp only [Act.put, List.setIfInBounds_toArray, List.set_cons_zero, List.set_cons_succ]
  refine takeDh (i := 3) (d := some 64) (v := ?vT11) rfl rfl (by kernel_rfl) (by kernel_rfl) (by kernel_rfl) (fun _ _ _ h => h) (Or.inl ⟨by rfl, ?hyT11⟩) (by assumption) ?rstT11
  case hyT11 => (intro w hSw; (try dsimp only at hSw); go_simp; (try with_reducible rfl))
  try simp only [Act.put, List.setIfInBounds_toArray, List.set_cons_zero, List.set_cons_succ]
  refine wpAnyH_ready (rs := [1]) (by kernel_rfl) (by simp) ?_
  refine AllReadyH.cons rfl (fun K hK => ?_) AllReadyH.nil
  go_simp
  refine (context_any _).mono ?_
  rintro e v6 ⟨fa, fc, rfl, hctx, hb6⟩
  have hb6 : Below v5.heap.size v5 v6 := (below_drewN (Below.refl _ _) 1).trans hb6
  have hX6 := (hb6.block _ (by omega)).trans hX5
  clear hHeld
  refine hK.out _ _ ?hS12 (fun hHeld => ?rest12)
  case hS12 => (show v6.cell? _ = _; exact (box9 hX6).2.2.2.2.2.1)
  clear hK K
  try simp only [Act.put, List.setIfInBounds_toArray, List.set_cons_zero, List.set_cons_succ]
  refine wpAnyH_ready (rs := [4]) (by kernel_rfl) (by simp) ?_
  refine AllReadyH.cons rfl (fun K hK => ?_) AllReadyH.nil
  go_simp
  have hB6 := hB5.trans (hb6.mono hB5.size)
  refine (HF.out _ _ _ _ _ hB6 (hrow5.below hb6) hctx).mono ?_
  rintro e v7 ⟨xo, xn, xco, rfl, hxn, ho7, hb7⟩
  have hb57 := hb6.trans (hb7.mono hb6.size)
  have hX7 := (hb57.block _ (by omega)).trans hX5
  clear hHeld
  refine hK.out _ _ ?hS13 (fun hHeld => ?rest13)
  case hS13 => (show v7.cell? _ = _; exact (box9 hX7).2.2.2.2.2.1)
  clear hK K
  try simp only [Act.put, List.setIfInBounds_toArray, List.set_cons_zero, List.set_cons_succ]
  refine takeDh (i := 5) (d := some 60) (v := ?vT14) rfl rfl (by kernel_rfl) (by kernel_rfl) (by kernel_rfl) (fun _ _ _ h => h) (Or.inl ⟨by rfl, ?hyT14⟩) (by assumption) ?rstT14
  case hyT14 => (intro w hSw; (try dsimp only at hSw); go_simp; (try with_reducible rfl))
  try simp only [Act.put, List.setIfInBounds_toArray, List.set_cons_zero, List.set_cons_succ]
  refine takeDh (i := 6) (d := some 66) (v := ?vT15) rfl rfl (by kernel_rfl) (by kernel_rfl) (by kernel_rfl) (fun _ _ _ h => h) (Or.inl ⟨by rfl, ?hyT15⟩) (by assumption) ?rstT15
  case hyT15 => (intro w hSw; (try dsimp only at hSw); go_simp; (try with_reducible rfl))
  try simp only [Act.put, List.setIfInBounds_toArray, List.set_cons_zero, List.set_cons_succ]
  refine takeDh (i := 7) (d := some 67) (v := ?vT16) rfl rfl (by kernel_rfl) (by kernel_rfl) (by kernel_rfl) (fun _ _ _ h => h) (Or.inl ⟨by rfl, ?hyT16⟩) (by assumption) ?rstT16
  case hyT16 => (intro w hSw; (try dsimp only at hSw); go_simp; (try with_reducible rfl))
  try simp only [Act.put, List.setIfInBounds_toArray, List.set_cons_zero, List.set_cons_succ]
  refine takeDh (i := 8) (d := some 10) (v := ?vT17) rfl rfl (by kernel_rfl) (by kernel_rfl) (by kernel_rfl) (fun _ _ _ h => h) (Or.inl ⟨by rfl, ?hyT17⟩) (by assumption) ?rstT17
  case hyT17 => (intro w hSw; (try dsimp only at hSw); go_simp; (try with_reducible rfl))
  try simp only [Act.put, List.setIfInBounds_toArray, List.set_cons_zero, List.set_cons_succ]
  refine takeDh (i := 9) (d := some 11) (v := ?vT18) rfl rfl (by kernel_rfl) (by kernel_rfl) (by kernel_rfl) (fun _ _ _ h => h) (Or.inl ⟨by rfl, ?hyT18⟩) (by assumption) ?rstT18
  case hyT18 => (intro w hSw; (try dsimp only at hSw); go_simp; (try with_reducible rfl))
  try simp only [Act.put, List.setIfInBounds_toArray, List.set_cons_zero, List.set_cons_succ]
  refine wpAnyH_done (by kernel_rfl) ?_ _
  have HO7 : Hid (OwnF rangeV 2 91 v7 v6.heap.size (.slice xo xn xco) TL) := ho7
  have hv6 : w.heap.size + 2 < v6.heap.size := by have := hb6.size; omega
  clear hHeld hctx hrow5 hb6 hb7 hX6 hX7 ho7 HF hB6
  have hX7 := (hb57.block _ (by omega)).trans hX5
  have hY7 := (hb57.block _ (by omega)).trans hY5
  have hZ7 := (hb57.block _ (by omega)).trans hZ5
  have hB7 := hB5.trans (hb57.mono hB5.size)
  have alt7 : w.heap.size + 2 < v7.heap.size := (Array.getElem?_eq_some_iff.1 hZ7).1
  clear hb57 hX5 hY5 hZ5 hB5 alt5 ak0 ak1 ak2 ak3 ak4 ak5 ak6 ak7 ak8 bk0 bk1 bk2 bk3 bk4 bk5 bk6 bk7 bk8 zk0 zk1 zk2 zk3 zk4 zk5 zk6 zk7 zk8 zz0 zz1 zz2 zz3 zz4 zz5 zz6 zz7 zz8 
  obtain ⟨ak0, ak1, ak2, ak3, ak4, ak5, ak6, ak7, ak8⟩ := box9 hX7
  obtain ⟨bk0, bk1, bk2, bk3, bk4, bk5, bk6, bk7, bk8⟩ := box9 hY7
  obtain ⟨zk0, zk1, zk2, zk3, zk4, zk5, zk6, zk7, zk8⟩ := box9 hZ7
  obtain ⟨zz0, zz1, zz2, zz3, zz4, zz5, zz6, zz7, zz8⟩ := wr9 hZ7
  rcases key with ⟨rfl, hq⟩ | ⟨rfl, hq⟩
  · cases hq
    clear HCV HO7
    obtain ⟨W9, e9, hx9, hB9, hK9⟩ := store9 hZ7 hB7 (by omega) (.int .i64 0) (.int .i64 0) (.int .i64 0) (.int .i64 0) (.string ⟨#[]⟩) (.slice none 0 0) (.int .i64 0) (.int .i64 0) (.bool false)
    obtain ⟨r0, r1, r2, r3, r4, r5, r6, r7, r8⟩ := box9 hx9
    go_wp2_with fail
    try rw [e9]
    refine bodyPost_ret (v := .tuple #[.agg #[.int .i64 0, .int .i64 0, .int .i64 0, .int .i64 0, .string ⟨#[]⟩, .slice none 0 0, .int .i64 0, .int .i64 0, .bool false], .int .i64 23]) (by simp [results, Tryz.results51, go_sem, r0, r1, r2, r3, r4, r5, r6, r7, r8]) rfl ⟨none, 0, 0, rfl, ownF_nil _ _, hB9⟩
  · have HCV2 : Hid (∀ (W : World) (x : Option Addr) (no co B : Nat), no ≤ 1000000000 → OwnF rangeV 2 91 W B (.slice x no co) TL → Calls Tryz.prog 74 #[.agg #[.int .i64 c, .int .i64 n, .int .i64 k, .int .i64 p, .string s, .slice a m cap, .int .i64 tc, .int .i64 tn, .bool on], .slice x no co] W fun e w' => ∃ va vm vc, e = .returned (.tuple #[.agg #[.int .i64 c3, .int .i64 n3, .int .i64 k3, .int .i64 p3, .string s3, .slice va vm vc, .int .i64 tc3, .int .i64 tn3, .bool on3], .int .i64 z3]) ∧ OwnF rangeV 2 91 w' B (.slice va vm vc) l3 ∧ Below W.heap.size W w') := HCV.out hq
    clear HCV hq
    go_wp2_with fail
    refine (HCV2.out _ _ _ _ _ hxn HO7.out).mono ?_
    rintro e v8 ⟨va, vm, vc, rfl, ho8, hb8⟩
    have HO8 : Hid (OwnF rangeV 2 91 v8 v6.heap.size (.slice va vm vc) l3) := ho8
    clear ho8 HCV2 HO7
    have hX8 := (hb8.block _ (by omega)).trans hX7
    have hY8 := (hb8.block _ (by omega)).trans hY7
    have hZ8 := (hb8.block _ (by omega)).trans hZ7
    have hB8 := hB7.trans (hb8.mono hB7.size)
    have alt8 : w.heap.size + 2 < v8.heap.size := (Array.getElem?_eq_some_iff.1 hZ8).1
    clear hb8 hX7 hY7 hZ7 hB7 alt7 ak0 ak1 ak2 ak3 ak4 ak5 ak6 ak7 ak8 bk0 bk1 bk2 bk3 bk4 bk5 bk6 bk7 bk8 zk0 zk1 zk2 zk3 zk4 zk5 zk6 zk7 zk8 zz0 zz1 zz2 zz3 zz4 zz5 zz6 zz7 zz8 
    obtain ⟨ak0, ak1, ak2, ak3, ak4, ak5, ak6, ak7, ak8⟩ := box9 hX8
    obtain ⟨bk0, bk1, bk2, bk3, bk4, bk5, bk6, bk7, bk8⟩ := box9 hY8
    obtain ⟨zk0, zk1, zk2, zk3, zk4, zk5, zk6, zk7, zk8⟩ := box9 hZ8
    obtain ⟨zz0, zz1, zz2, zz3, zz4, zz5, zz6, zz7, zz8⟩ := wr9 hZ8
    obtain ⟨W9, e9, hx9, hB9, hK9⟩ := store9 hZ8 hB8 (by omega) (.int .i64 c3) (.int .i64 n3) (.int .i64 k3) (.int .i64 p3) (.string s3) (.slice va vm vc) (.int .i64 tc3) (.int .i64 tn3) (.bool on3)
    obtain ⟨r0, r1, r2, r3, r4, r5, r6, r7, r8⟩ := box9 hx9
    have HO9 : Hid (OwnF rangeV 2 91 W9 w.heap.size (.slice va vm vc) l3) := (hK9.own HO8.out (by omega)).mono (by omega)
    clear HO8
    go_wp2_with fail
    try rw [e9]
    refine bodyPost_ret (v := .tuple #[.agg #[.int .i64 c3, .int .i64 n3, .int .i64 k3, .int .i64 p3, .string s3, .slice va vm vc, .int .i64 tc3, .int .i64 tn3, .bool on3], .int .i64 z3]) (by simp [results, Tryz.results51, go_sem, r0, r1, r2, r3, r4, r5, r6, r7, r8]) rfl ⟨va, vm, vc, rfl, HO9.out, hB9⟩
end Go.Proofs.YtmdnmhdimfglaaaGreatDoor
