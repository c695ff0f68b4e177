import Derived.Test.YtmdnmhdimfglaaaGreatDoorXiE
namespace Go.Proofs.YtmdnmhdimfglaaaGreatDoor
open Go.RowKit Go.Lib
set_option maxRecDepth 100000
set_option maxHeartbeats 8000000 in
theorem exclude_ins {o o2 : OpV} {a : Option Addr} {m cap : Nat} {b : Option Addr} {m2 cap2 : Nat} {w : World} (hR : Sp.Rng w a m cap o.l) (hm : m ≤ 1000000000) (hs : o.s.size ≤ 2097152) (hs2 : o2.s.size ≤ 2097152) (hcl : clashP o o2 = false) (tg : Bool) (htg : isB o.tc o.tn o2.c o2.n = tg) (h1 : o2.k = 1) (h2 : o.k = 1) (hp : 0 ≤ o.p ∧ o.p ≤ 1048576) (hp2 : 0 ≤ o2.p ∧ o2.p ≤ 1048576) (hwd : 0 < widthP o ∧ widthP o ≤ 256) (hwd2 : 0 < widthP o2 ∧ widthP o2 ≤ 256) :
    Calls Tryz.prog 51 #[opVal o (.slice a m cap), opVal o2 (.slice b m2 cap2)] w fun e w' => Ans w (if o2.p < o.p ∧ o.p < o2.p + widthP o2 then (op0, 23) else movP o (if o2.p + widthP o2 ≤ o.p then o.p - widthP o2 else o.p)) e w' := by
  have HIS : Hid (∀ W : World, Calls Tryz.prog 71 #[.agg #[.int .i64 o.c, .int .i64 o.n], .agg #[.int .i64 o2.c, .int .i64 o2.n]] W fun e w' => e = .returned (.bool false) ∧ Below W.heap.size W w') := fun W => by
    have := is_anyX o.c o.n o2.c o2.n W
    rw [show isB o.c o.n o2.c o2.n = false from hcl] at this
    exact this
  have HIT : Hid (∀ W : World, Calls Tryz.prog 71 #[.agg #[.int .i64 o.tc, .int .i64 o.tn], .agg #[.int .i64 o2.c, .int .i64 o2.n]] W fun e w' => e = .returned (.bool tg) ∧ Below W.heap.size W w') := fun W => by
    have := is_anyX o.tc o.tn o2.c o2.n W
    rw [htg] at this
    exact this
  have HW : Hid (∀ (W : World), Calls Tryz.prog 62 #[opVal o2 (.slice b m2 cap2)] W fun e w' => e = .returned (.int .i64 (widthP o2)) ∧ Below W.heap.size W w') := fun W => gWidth_any hs2 W
  have HW1 : Hid (∀ (W : World), Calls Tryz.prog 62 #[opVal o (.slice a m cap)] W fun e w' => e = .returned (.int .i64 (widthP o)) ∧ Below W.heap.size W w') := fun W => gWidth_any hs W
  obtain ⟨y, hy⟩ : ∃ y, (if o2.p + widthP o2 ≤ o.p then o.p - widthP o2 else o.p) = y := ⟨_, rfl⟩
  rw [hy]
  obtain ⟨⟨⟨c3, n3, k3, p3, s3, l3, tc3, tn3, on3⟩, z3⟩, hq⟩ : ∃ q, movP o y = q := ⟨_, rfl⟩
  have hyb : 0 ≤ y ∧ y ≤ 1048576 := by rw [← hy]; split <;> omega
  have HMy : Hid (∀ (W : World), Below w.heap.size w W → Calls Tryz.prog 72 #[opVal o (.slice a m cap), .int .i64 y] W fun e w' => Ans W (⟨c3, n3, k3, p3, s3, l3, tc3, tn3, on3⟩, z3) e w') := fun W hb => by
    have := moved_any (p2 := y) (hR.below hb) hm hs (by omega) (by omega)
    rw [hq] at this
    exact this
  rw [hq]
  obtain ⟨q5, hq5⟩ : ∃ q5 : OpV × Int, (if o2.p < o.p ∧ o.p < o2.p + widthP o2 then (op0, 23) else (⟨c3, n3, k3, p3, s3, l3, tc3, tn3, on3⟩, z3)) = q5 := ⟨_, rfl⟩
  rw [hq5]
  have HQ1 : Hid ((o2.p < o.p ∧ o.p < o2.p + widthP o2) → q5 = (op0, 23)) := fun h => by rw [← hq5, if_pos h]
  have HQ2 : Hid (¬ (o2.p < o.p ∧ o.p < o2.p + widthP o2) → q5 = (⟨c3, n3, k3, p3, s3, l3, tc3, tn3, on3⟩, z3)) := fun h => by rw [← hq5, if_neg h]
  clear hq5
  have hok := ctxI_ok hp2.1 hp2.2 (by omega : 0 ≤ widthP o2) (by omega : widthP o2 ≤ 4194304)
  have HOK : Hid (SthOk (ctxI o2.p (widthP o2))) := hok
  obtain ⟨nr, hnr⟩ : ∃ nr, (ctxI o2.p (widthP o2)).length = nr := ⟨_, rfl⟩
  have hnr3 : nr ≤ 3 := by rw [← hnr]; exact ctxI_len hp2.1 hp2.2
  have HNR : Hid ((ctxI o2.p (widthP o2)).length = nr) := hnr
  have hbl := withL_len 1 o.p (widthP o) (ctxI o2.p (widthP o2)) 0
  have hbok : SthOk (bothI o2.p (widthP o2) o.p (widthP o)) := withL_ok (by omega) hok
  obtain ⟨nb, hnb⟩ : ∃ nb, (bothI o2.p (widthP o2) o.p (widthP o)).length = nb := ⟨_, rfl⟩
  have hnb9 : nb ≤ 9 := by rw [← hnb]; unfold bothI; omega
  have HNB : Hid ((bothI o2.p (widthP o2) o.p (widthP o)).length = nb) := hnb
  have HWH : Hid (∀ (W : World) va vc, Rw sthF 3 W va nb vc (bothI o2.p (widthP o2) o.p (widthP o)) → Calls Tryz.prog 76 #[.slice va nb vc, .int .i64 2] W fun e w' => e = .returned (.bool (!(decide (o2.p < o.p ∧ o.p < o2.p + widthP o2)))) ∧ Below W.heap.size W w') := fun W va vc hr => by
    have := whole_any hr (by omega) 2
    rw [both_cnt hp2.1 hp2.2 hp.1 hp.2 hwd2.1] at this
    exact this
  have HP1 : Hid (¬ (o2.p < o.p ∧ o.p < o2.p + widthP o2) → ∀ (W : World) va vc, Rw sthF 3 W va (wtoL 2 (bothI o2.p (widthP o2) o.p (widthP o))).length vc (wtoL 2 (bothI o2.p (widthP o2) o.p (widthP o))) → Calls Tryz.prog 63 #[.slice va (wtoL 2 (bothI o2.p (widthP o2) o.p (widthP o))).length vc, .int .i64 1, .int .i64 0] W fun e w' => e = .returned (.int .i64 y) ∧ Below W.heap.size W w') := fun hno W va vc hr => by
    have := place_any hr (by have := wtoL_len 2 (bothI o2.p (widthP o2) o.p (widthP o)); omega) (wtoL_ok hbok) 1 0 (by omega)
    rw [both_place hp2.1 hp2.2 hp.1 hp.2 hwd2.1 hwd.1 hno, hy] at this
    exact this
  clear hcl hR hm hs hs2 hy hq hok hnr hyb htg hbl hbok hnb
  generalize widthP o2 = wd at *
  generalize widthP o = wd1 at *
  obtain ⟨c, n, k, p, s, l, tc, tn, on⟩ := o
  obtain ⟨c2, n2, k2, p2, s2, l2, tc2, tn2, on2⟩ := o2
  unfold Ans
  simp only [opVal] at *
  subst h1 h2
  simp only [Ans, opVal] at HMy
  obtain ⟨W0, hW0⟩ : ∃ W0, ((w.alloc (Obj.cells #[.int .i64 c, .int .i64 n, .int .i64 1, .int .i64 p, .string s, .slice a m cap, .int .i64 tc, .int .i64 tn, .bool on] 34)).alloc (Obj.cells #[.int .i64 c2, .int .i64 n2, .int .i64 1, .int .i64 p2, .string s2, .slice b m2 cap2, .int .i64 tc2, .int .i64 tn2, .bool on2] 34)).alloc (Obj.cells #[.int .i64 0, .int .i64 0, .int .i64 0, .int .i64 0, .string ⟨#[]⟩, .slice none 0 0, .int .i64 0, .int .i64 0, .bool false] 34) = W0 := ⟨_, rfl⟩
  have hX : W0.heap[w.heap.size]? = some (Obj.cells #[.int .i64 c, .int .i64 n, .int .i64 1, .int .i64 p, .string s, .slice a m cap, .int .i64 tc, .int .i64 tn, .bool on] 34) := by rw [← hW0]; exact (Below.heap_alloc _ _ _ (by simp; omega)).trans ((Below.heap_alloc _ _ _ (by simp)).trans (heap_alloc_new _ _))
  have hY : W0.heap[w.heap.size + 1]? = some (Obj.cells #[.int .i64 c2, .int .i64 n2, .int .i64 1, .int .i64 p2, .string s2, .slice b m2 cap2, .int .i64 tc2, .int .i64 tn2, .bool on2] 34) := by rw [← hW0]; exact (Below.heap_alloc _ _ _ (by simp)).trans (alloc_last _ _ _ (by simp))
  have hZ : W0.heap[w.heap.size + 2]? = some (Obj.cells #[.int .i64 0, .int .i64 0, .int .i64 0, .int .i64 0, .string ⟨#[]⟩, .slice none 0 0, .int .i64 0, .int .i64 0, .bool false] 34) := by rw [← hW0]; exact alloc_last _ _ _ (by simp)
  have hB0 : Below w.heap.size w W0 := by rw [← hW0]; exact (((Below.refl w.heap.size w).alloc (Nat.le_refl _) _).alloc (by simp) _).alloc (by simp; omega) _
  have alt : w.heap.size + 2 < W0.heap.size := (Array.getElem?_eq_some_iff.1 hZ).1
  obtain ⟨ak0, ak1, ak2, ak3, ak4, ak5, ak6, ak7, ak8⟩ := box9 hX
  obtain ⟨bk0, bk1, bk2, bk3, bk4, bk5, bk6, bk7, bk8⟩ := box9 hY
  obtain ⟨zk0, zk1, zk2, zk3, zk4, zk5, zk6, zk7, zk8⟩ := box9 hZ
  obtain ⟨zz0, zz1, zz2, zz3, zz4, zz5, zz6, zz7, zz8⟩ := wr9 hZ
  go_enter Tryz.func51, Tryz.ntmps51
  go_wp2_with fail
  refine (HIS.out _).mono ?_
  rintro e v1 ⟨rfl, hb1⟩
  have hX1 := (hb1.block _ (by omega)).trans hX
  have hY1 := (hb1.block _ (by omega)).trans hY
  have hZ1 := (hb1.block _ (by omega)).trans hZ
  have hB1 := hB0.trans (hb1.mono hB0.size)
  have alt1 : w.heap.size + 2 < v1.heap.size := (Array.getElem?_eq_some_iff.1 hZ1).1
  clear hb1 hX hY hZ hB0 alt ak0 ak1 ak2 ak3 ak4 ak5 ak6 ak7 ak8 bk0 bk1 bk2 bk3 bk4 bk5 bk6 bk7 bk8 zk0 zk1 zk2 zk3 zk4 zk5 zk6 zk7 zk8 zz0 zz1 zz2 zz3 zz4 zz5 zz6 zz7 zz8 HIS hW0
  obtain ⟨ak0, ak1, ak2, ak3, ak4, ak5, ak6, ak7, ak8⟩ := box9 hX1
  obtain ⟨bk0, bk1, bk2, bk3, bk4, bk5, bk6, bk7, bk8⟩ := box9 hY1
  obtain ⟨zk0, zk1, zk2, zk3, zk4, zk5, zk6, zk7, zk8⟩ := box9 hZ1
  obtain ⟨zz0, zz1, zz2, zz3, zz4, zz5, zz6, zz7, zz8⟩ := wr9 hZ1
  go_wp2_with fail
  refine (HIT.out _).mono ?_
  rintro e v2 ⟨rfl, hb2⟩
  have hX2 := (hb2.block _ (by omega)).trans hX1
  have hY2 := (hb2.block _ (by omega)).trans hY1
  have hZ2 := (hb2.block _ (by omega)).trans hZ1
  have hB2 := hB1.trans (hb2.mono hB1.size)
  have alt2 : w.heap.size + 2 < v2.heap.size := (Array.getElem?_eq_some_iff.1 hZ2).1
  clear hb2 hX1 hY1 hZ1 hB1 alt1 ak0 ak1 ak2 ak3 ak4 ak5 ak6 ak7 ak8 bk0 bk1 bk2 bk3 bk4 bk5 bk6 bk7 bk8 zk0 zk1 zk2 zk3 zk4 zk5 zk6 zk7 zk8 zz0 zz1 zz2 zz3 zz4 zz5 zz6 zz7 zz8 HIT
  obtain ⟨ak0, ak1, ak2, ak3, ak4, ak5, ak6, ak7, ak8⟩ := box9 hX2
  obtain ⟨bk0, bk1, bk2, bk3, bk4, bk5, bk6, bk7, bk8⟩ := box9 hY2
  obtain ⟨zk0, zk1, zk2, zk3, zk4, zk5, zk6, zk7, zk8⟩ := box9 hZ2
  obtain ⟨zz0, zz1, zz2, zz3, zz4, zz5, zz6, zz7, zz8⟩ := wr9 hZ2
  go_wp2_with fail
  refine (HW.out _).mono ?_
  rintro e v3 ⟨rfl, hb3⟩
  have hX3 := (hb3.block _ (by omega)).trans hX2
  have hY3 := (hb3.block _ (by omega)).trans hY2
  have hZ3 := (hb3.block _ (by omega)).trans hZ2
  have hB3 := hB2.trans (hb3.mono hB2.size)
  have alt3 : w.heap.size + 2 < v3.heap.size := (Array.getElem?_eq_some_iff.1 hZ3).1
  clear hb3 hX2 hY2 hZ2 hB2 alt2 ak0 ak1 ak2 ak3 ak4 ak5 ak6 ak7 ak8 bk0 bk1 bk2 bk3 bk4 bk5 bk6 bk7 bk8 zk0 zk1 zk2 zk3 zk4 zk5 zk6 zk7 zk8 zz0 zz1 zz2 zz3 zz4 zz5 zz6 zz7 zz8 HW
  obtain ⟨ak0, ak1, ak2, ak3, ak4, ak5, ak6, ak7, ak8⟩ := box9 hX3
  obtain ⟨bk0, bk1, bk2, bk3, bk4, bk5, bk6, bk7, bk8⟩ := box9 hY3
  obtain ⟨zk0, zk1, zk2, zk3, zk4, zk5, zk6, zk7, zk8⟩ := box9 hZ3
  obtain ⟨zz0, zz1, zz2, zz3, zz4, zz5, zz6, zz7, zz8⟩ := wr9 hZ3
  go_wp2_with fail
  refine wp_region_held_drew (S := (fun W => W.cell? ⟨w.heap.size + 1, 3, none⟩ = some (.int .i64 p2))) (by kernel_rfl) ?hS1 (fun hHeld => ?rest1)
  case hS1 => exact bk3
  refine takeDh (i := 1) (d := some 52) (v := ?vT2) rfl rfl (by kernel_rfl) (by kernel_rfl) (by kernel_rfl) (fun _ _ _ h => h) (Or.inl ⟨by rfl, ?hyT2⟩) (by assumption) ?rstT2
  case hyT2 => (intro w hSw; (try dsimp only at hSw); go_simp; (try with_reducible rfl))
  try simp only [Act.put, List.setIfInBounds_toArray, List.set_cons_zero, List.set_cons_succ]
  refine takeDh (i := 2) (d := some 53) (v := ?vT3) rfl rfl (by kernel_rfl) (by kernel_rfl) (by kernel_rfl) (fun _ _ _ h => h) (Or.inl ⟨by rfl, ?hyT3⟩) (by assumption) ?rstT3
  case hyT3 => (intro w hSw; (try dsimp only at hSw); go_simp; (try with_reducible rfl))
  try simp only [Act.put, List.setIfInBounds_toArray, List.set_cons_zero, List.set_cons_succ]
  refine takeDh (i := 3) (d := some 54) (v := ?vT4) rfl rfl (by kernel_rfl) (by kernel_rfl) (by kernel_rfl) (fun _ _ _ h => h) (Or.inl ⟨by rfl, ?hyT4⟩) (by assumption) ?rstT4
  case hyT4 => (intro w hSw; (try dsimp only at hSw); go_simp; (try with_reducible rfl))
  try simp only [Act.put, List.setIfInBounds_toArray, List.set_cons_zero, List.set_cons_succ]
  refine wpAnyH_ready (rs := [0]) (by kernel_rfl) (by simp) ?_
  refine AllReadyH.cons rfl (fun K hK => ?_) AllReadyH.nil
  go_simp
  refine (context_any _).mono ?_
  rintro e v4 ⟨ca, cc, rfl, hrow, hb4⟩
  have hb4 : Below v3.heap.size v3 v4 := (below_drewN (Below.refl _ _) 1).trans hb4
  have hY4 := (hb4.block _ (by omega)).trans hY3
  clear hHeld
  refine hK.out _ _ ?hS5 (fun hHeld => ?rest5)
  case hS5 => (show v4.cell? _ = _; exact (box9 hY4).2.2.2.1)
  clear hK K
  try simp only [Act.put, List.setIfInBounds_toArray, List.set_cons_zero, List.set_cons_succ]
  refine wpAnyH_ready (rs := [4]) (by kernel_rfl) (by simp) ?_
  refine AllReadyH.cons rfl (fun K hK => ?_) AllReadyH.nil
  go_simp
  refine (with_any hrow (by omega) ctx_ok 2 p2 wd (by omega)).mono ?_
  rintro e v5 ⟨xa, xc, rfl, ho5, hb5⟩
  have hb35 := hb4.trans (hb5.mono hb4.size)
  have hY5 := (hb35.block _ (by omega)).trans hY3
  clear hHeld
  refine hK.out _ _ ?hS6 (fun hHeld => ?rest6)
  case hS6 => (show v5.cell? _ = _; exact (box9 hY5).2.2.2.1)
  clear hK K
  try simp only [Act.put, List.setIfInBounds_toArray, List.set_cons_zero, List.set_cons_succ]
  refine takeDh (i := 5) (d := some 9) (v := ?vT7) rfl rfl (by kernel_rfl) (by kernel_rfl) (by kernel_rfl) (fun _ _ _ h => h) (Or.inl ⟨by rfl, ?hyT7⟩) (by assumption) ?rstT7
  case hyT7 => (intro w hSw; (try dsimp only at hSw); go_simp; (try with_reducible rfl))
  try simp only [Act.put, List.setIfInBounds_toArray, List.set_cons_zero, List.set_cons_succ]
  refine wpAnyH_done (by kernel_rfl) ?_ _
  have hrow5 : Rw sthF 3 v5 xa nr xc (ctxI p2 wd) := by
    have := ho5.rw_ layH
    rw [show (withL 2 p2 wd ctxL 0).length = nr from HNR.out] at this
    exact this
  rw [show (withL 2 p2 wd ctxL 0).length = nr from HNR.out]
  clear hHeld hrow hb4 hb5 ho5 hY4 hY5
  have hX5 := (hb35.block _ (by omega)).trans hX3
  have hY5 := (hb35.block _ (by omega)).trans hY3
  have hZ5 := (hb35.block _ (by omega)).trans hZ3
  have hB5 := hB3.trans (hb35.mono hB3.size)
  have alt5 : w.heap.size + 2 < v5.heap.size := (Array.getElem?_eq_some_iff.1 hZ5).1
  clear hb35 hX3 hY3 hZ3 hB3 alt3 ak0 ak1 ak2 ak3 ak4 ak5 ak6 ak7 ak8 bk0 bk1 bk2 bk3 bk4 bk5 bk6 bk7 bk8 zk0 zk1 zk2 zk3 zk4 zk5 zk6 zk7 zk8 zz0 zz1 zz2 zz3 zz4 zz5 zz6 zz7 zz8 
  obtain ⟨ak0, ak1, ak2, ak3, ak4, ak5, ak6, ak7, ak8⟩ := box9 hX5
  obtain ⟨bk0, bk1, bk2, bk3, bk4, bk5, bk6, bk7, bk8⟩ := box9 hY5
  obtain ⟨zk0, zk1, zk2, zk3, zk4, zk5, zk6, zk7, zk8⟩ := box9 hZ5
  obtain ⟨zz0, zz1, zz2, zz3, zz4, zz5, zz6, zz7, zz8⟩ := wr9 hZ5
  go_wp2_with fail
  refine wp_region_held_drew (S := (fun W => W.cell? ⟨w.heap.size, 0, none⟩ = some (.int .i64 c) ∧ W.cell? ⟨w.heap.size, 1, none⟩ = some (.int .i64 n) ∧ W.cell? ⟨w.heap.size, 2, none⟩ = some (.int .i64 1) ∧ W.cell? ⟨w.heap.size, 3, none⟩ = some (.int .i64 p) ∧ W.cell? ⟨w.heap.size, 4, none⟩ = some (.string s) ∧ W.cell? ⟨w.heap.size, 5, none⟩ = some (.slice a m cap) ∧ W.cell? ⟨w.heap.size, 6, none⟩ = some (.int .i64 tc) ∧ W.cell? ⟨w.heap.size, 7, none⟩ = some (.int .i64 tn) ∧ W.cell? ⟨w.heap.size, 8, none⟩ = some (.bool on))) (by kernel_rfl) ?hS8 (fun hHeld => ?rest8)
  case hS8 => exact box9 hX5
  refine takeDh (i := 0) (d := some 77) (v := ?vT9) rfl rfl (by kernel_rfl) (by kernel_rfl) (by kernel_rfl) (fun _ _ _ h => h) (Or.inl ⟨by rfl, ?hyT9⟩) (by assumption) ?rstT9
  case hyT9 => (intro w hSw; (try dsimp only at hSw); go_simp; (try with_reducible rfl))
  try simp only [Act.put, List.setIfInBounds_toArray, List.set_cons_zero, List.set_cons_succ]
  refine takeDh (i := 1) (d := some 78) (v := ?vT10) rfl rfl (by kernel_rfl) (by kernel_rfl) (by kernel_rfl) (fun _ _ _ h => h) (Or.inl ⟨by rfl, ?hyT10⟩) (by assumption) ?rstT10
  case hyT10 => (intro w hSw; (try dsimp only at hSw); go_simp; (try with_reducible rfl))
  try simp only [Act.put, List.setIfInBounds_toArray, List.set_cons_zero, List.set_cons_succ]
  refine takeDh (i := 2) (d := some 79) (v := ?vT11) rfl rfl (by kernel_rfl) (by kernel_rfl) (by kernel_rfl) (fun _ _ _ h => h) (Or.inl ⟨by rfl, ?hyT11⟩) (by assumption) ?rstT11
  case hyT11 => (intro w hSw; (try dsimp only at hSw); go_simp; (try with_reducible rfl))
  try simp only [Act.put, List.setIfInBounds_toArray, List.set_cons_zero, List.set_cons_succ]
  refine takeDh (i := 3) (d := some 80) (v := ?vT12) rfl rfl (by kernel_rfl) (by kernel_rfl) (by kernel_rfl) (fun _ _ _ h => h) (Or.inl ⟨by rfl, ?hyT12⟩) (by assumption) ?rstT12
  case hyT12 => (intro w hSw; (try dsimp only at hSw); go_simp; (try with_reducible rfl))
  try simp only [Act.put, List.setIfInBounds_toArray, List.set_cons_zero, List.set_cons_succ]
  refine wpAnyH_ready (rs := [4]) (by kernel_rfl) (by simp) ?_
  refine AllReadyH.cons rfl (fun K hK => ?_) AllReadyH.nil
  go_simp
  refine (HW1.out _).mono ?_
  rintro e v6 ⟨rfl, hb6⟩
  have hb6 : Below v5.heap.size v5 v6 := (below_drewN (Below.refl _ _) 1).trans hb6
  have hX6 := (hb6.block _ (by omega)).trans hX5
  clear hHeld
  refine hK.out _ _ ?hS13 (fun hHeld => ?rest13)
  case hS13 => exact box9 hX6
  clear hK K
  try simp only [Act.put, List.setIfInBounds_toArray, List.set_cons_zero, List.set_cons_succ]
  refine wpAnyH_ready (rs := [5]) (by kernel_rfl) (by simp) ?_
  refine AllReadyH.cons rfl (fun K hK => ?_) AllReadyH.nil
  go_simp
  refine (with_any (hrow5.below hb6) (by omega) HOK.out 1 p wd1 (by omega)).mono ?_
  rintro e v7 ⟨xa7, xc7, rfl, ho7, hb7⟩
  have hb57 := hb6.trans (hb7.mono hb6.size)
  have hX7 := (hb57.block _ (by omega)).trans hX5
  clear hHeld
  refine hK.out _ _ ?hS14 (fun hHeld => ?rest14)
  case hS14 => exact box9 hX7
  clear hK K
  try simp only [Act.put, List.setIfInBounds_toArray, List.set_cons_zero, List.set_cons_succ]
  refine takeDh (i := 6) (d := some 12) (v := ?vT15) rfl rfl (by kernel_rfl) (by kernel_rfl) (by kernel_rfl) (fun _ _ _ h => h) (Or.inl ⟨by rfl, ?hyT15⟩) (by assumption) ?rstT15
  case hyT15 => (intro w hSw; (try dsimp only at hSw); go_simp; (try with_reducible rfl))
  try simp only [Act.put, List.setIfInBounds_toArray, List.set_cons_zero, List.set_cons_succ]
  refine wpAnyH_done (by kernel_rfl) ?_ _
  have hrow7 : Rw sthF 3 v7 xa7 nb xc7 (bothI p2 wd p wd1) := by
    have := ho7.rw_ layH
    rw [show (withL 1 p wd1 (ctxI p2 wd) 0).length = nb from HNB.out] at this
    exact this
  rw [show (withL 1 p wd1 (ctxI p2 wd) 0).length = nb from HNB.out]
  clear hHeld hrow5 hb6 hb7 ho7 hX6 hX7 HW1
  have hX7 := (hb57.block _ (by omega)).trans hX5
  have hY7 := (hb57.block _ (by omega)).trans hY5
  have hZ7 := (hb57.block _ (by omega)).trans hZ5
  have hB7 := hB5.trans (hb57.mono hB5.size)
  have alt7 : w.heap.size + 2 < v7.heap.size := (Array.getElem?_eq_some_iff.1 hZ7).1
  clear hb57 hX5 hY5 hZ5 hB5 alt5 ak0 ak1 ak2 ak3 ak4 ak5 ak6 ak7 ak8 bk0 bk1 bk2 bk3 bk4 bk5 bk6 bk7 bk8 zk0 zk1 zk2 zk3 zk4 zk5 zk6 zk7 zk8 zz0 zz1 zz2 zz3 zz4 zz5 zz6 zz7 zz8 
  obtain ⟨ak0, ak1, ak2, ak3, ak4, ak5, ak6, ak7, ak8⟩ := box9 hX7
  obtain ⟨bk0, bk1, bk2, bk3, bk4, bk5, bk6, bk7, bk8⟩ := box9 hY7
  obtain ⟨zk0, zk1, zk2, zk3, zk4, zk5, zk6, zk7, zk8⟩ := box9 hZ7
  obtain ⟨zz0, zz1, zz2, zz3, zz4, zz5, zz6, zz7, zz8⟩ := wr9 hZ7
  have HWH2 := HWH.out v7 xa7 xc7 hrow7
  clear HWH
  by_cases hno : p2 < p ∧ p < p2 + wd
  · rw [decide_eq_true hno] at HWH2
    have HQ : Hid (q5 = (op0, 23)) := HQ1.out hno
    clear HQ1 HQ2
    simp only [Bool.not_true] at HWH2
    go_wp2_with fail
    refine HWH2.mono ?_
    rintro e v8 ⟨rfl, hb8⟩
    clear HWH2 HP1 HMy hrow7
    have hX8 := (hb8.block _ (by omega)).trans hX7
    have hY8 := (hb8.block _ (by omega)).trans hY7
    have hZ8 := (hb8.block _ (by omega)).trans hZ7
    have hB8 := hB7.trans (hb8.mono hB7.size)
    have alt8 : w.heap.size + 2 < v8.heap.size := (Array.getElem?_eq_some_iff.1 hZ8).1
    clear hb8 hX7 hY7 hZ7 hB7 alt7 ak0 ak1 ak2 ak3 ak4 ak5 ak6 ak7 ak8 bk0 bk1 bk2 bk3 bk4 bk5 bk6 bk7 bk8 zk0 zk1 zk2 zk3 zk4 zk5 zk6 zk7 zk8 zz0 zz1 zz2 zz3 zz4 zz5 zz6 zz7 zz8 
    obtain ⟨ak0, ak1, ak2, ak3, ak4, ak5, ak6, ak7, ak8⟩ := box9 hX8
    obtain ⟨bk0, bk1, bk2, bk3, bk4, bk5, bk6, bk7, bk8⟩ := box9 hY8
    obtain ⟨zk0, zk1, zk2, zk3, zk4, zk5, zk6, zk7, zk8⟩ := box9 hZ8
    obtain ⟨zz0, zz1, zz2, zz3, zz4, zz5, zz6, zz7, zz8⟩ := wr9 hZ8
    obtain ⟨W9, e9, hx9, hB9, hK9⟩ := store9 hZ8 hB8 (by omega) (.int .i64 0) (.int .i64 0) (.int .i64 0) (.int .i64 0) (.string ⟨#[]⟩) (.slice none 0 0) (.int .i64 0) (.int .i64 0) (.bool false)
    obtain ⟨r0, r1, r2, r3, r4, r5, r6, r7, r8⟩ := box9 hx9
    go_wp2_with fail
    try rw [e9]
    refine bodyPost_ret (v := .tuple #[.agg #[.int .i64 0, .int .i64 0, .int .i64 0, .int .i64 0, .string ⟨#[]⟩, .slice none 0 0, .int .i64 0, .int .i64 0, .bool false], .int .i64 23]) (by simp [results, Tryz.results51, go_sem, r0, r1, r2, r3, r4, r5, r6, r7, r8]) rfl ?_
    rw [HQ.out]
    exact ⟨none, 0, 0, rfl, ownF_nil _ _, hB9⟩
  · rw [decide_eq_false hno] at HWH2
    have HQ : Hid (q5 = (⟨c3, n3, k3, p3, s3, l3, tc3, tn3, on3⟩, z3)) := HQ2.out hno
    clear HQ1 HQ2
    simp only [Bool.not_false] at HWH2
    have HP2 := HP1.out hno
    clear HP1
    have HP1 : Hid (∀ (W : World) va vc, _) := HP2
    clear HP2
    go_wp2_with fail
    refine HWH2.mono ?_
    rintro e v8 ⟨rfl, hb8⟩
    have hrow8 := hrow7.below hb8
    clear HWH2 hrow7
    have hX8 := (hb8.block _ (by omega)).trans hX7
    have hY8 := (hb8.block _ (by omega)).trans hY7
    have hZ8 := (hb8.block _ (by omega)).trans hZ7
    have hB8 := hB7.trans (hb8.mono hB7.size)
    have alt8 : w.heap.size + 2 < v8.heap.size := (Array.getElem?_eq_some_iff.1 hZ8).1
    clear hb8 hX7 hY7 hZ7 hB7 alt7 ak0 ak1 ak2 ak3 ak4 ak5 ak6 ak7 ak8 bk0 bk1 bk2 bk3 bk4 bk5 bk6 bk7 bk8 zk0 zk1 zk2 zk3 zk4 zk5 zk6 zk7 zk8 zz0 zz1 zz2 zz3 zz4 zz5 zz6 zz7 zz8 
    obtain ⟨ak0, ak1, ak2, ak3, ak4, ak5, ak6, ak7, ak8⟩ := box9 hX8
    obtain ⟨bk0, bk1, bk2, bk3, bk4, bk5, bk6, bk7, bk8⟩ := box9 hY8
    obtain ⟨zk0, zk1, zk2, zk3, zk4, zk5, zk6, zk7, zk8⟩ := box9 hZ8
    obtain ⟨zz0, zz1, zz2, zz3, zz4, zz5, zz6, zz7, zz8⟩ := wr9 hZ8
    go_wp2_with fail
    refine wp_region_held_drew (S := (fun W => W.cell? ⟨w.heap.size, 0, none⟩ = some (.int .i64 c) ∧ W.cell? ⟨w.heap.size, 1, none⟩ = some (.int .i64 n) ∧ W.cell? ⟨w.heap.size, 2, none⟩ = some (.int .i64 1) ∧ W.cell? ⟨w.heap.size, 3, none⟩ = some (.int .i64 p) ∧ W.cell? ⟨w.heap.size, 4, none⟩ = some (.string s) ∧ W.cell? ⟨w.heap.size, 5, none⟩ = some (.slice a m cap) ∧ W.cell? ⟨w.heap.size, 6, none⟩ = some (.int .i64 tc) ∧ W.cell? ⟨w.heap.size, 7, none⟩ = some (.int .i64 tn) ∧ W.cell? ⟨w.heap.size, 8, none⟩ = some (.bool on))) (by kernel_rfl) ?hS16 (fun hHeld => ?rest16)
    case hS16 => exact box9 hX8
    refine takeDh (i := 0) (d := some 88) (v := ?vT17) rfl rfl (by kernel_rfl) (by kernel_rfl) (by kernel_rfl) (fun _ _ _ h => h) (Or.inl ⟨by rfl, ?hyT17⟩) (by assumption) ?rstT17
    case hyT17 => (intro w hSw; (try dsimp only at hSw); go_simp; (try with_reducible rfl))
    try simp only [Act.put, List.setIfInBounds_toArray, List.set_cons_zero, List.set_cons_succ]
    refine takeDh (i := 1) (d := some 89) (v := ?vT18) rfl rfl (by kernel_rfl) (by kernel_rfl) (by kernel_rfl) (fun _ _ _ h => h) (Or.inl ⟨by rfl, ?hyT18⟩) (by assumption) ?rstT18
    case hyT18 => (intro w hSw; (try dsimp only at hSw); go_simp; (try with_reducible rfl))
    try simp only [Act.put, List.setIfInBounds_toArray, List.set_cons_zero, List.set_cons_succ]
    refine wpAnyH_ready (rs := [2]) (by kernel_rfl) (by simp) ?_
    refine AllReadyH.cons rfl (fun K hK => ?_) AllReadyH.nil
    go_simp
    refine (without_any (hrow8.below (below_drewN (Below.refl _ _) 1)) (by omega) 2).mono ?_
    rintro e v9 ⟨xa9, xc9, rfl, ho9, hb9⟩
    have hb9 : Below v8.heap.size v8 v9 := (below_drewN (Below.refl _ _) 1).trans hb9
    have hX9 := (hb9.block _ (by omega)).trans hX8
    clear hHeld
    refine hK.out _ _ ?hS19 (fun hHeld => ?rest19)
    case hS19 => exact box9 hX9
    clear hK K
    try simp only [Act.put, List.setIfInBounds_toArray, List.set_cons_zero, List.set_cons_succ]
    refine wpAnyH_ready (rs := [3]) (by kernel_rfl) (by simp) ?_
    refine AllReadyH.cons rfl (fun K hK => ?_) AllReadyH.nil
    go_simp
    refine (HP1.out _ _ _ (ho9.rw_ layH)).mono ?_
    rintro e v10 ⟨rfl, hb10⟩
    have hb810 := hb9.trans (hb10.mono hb9.size)
    have hX10 := (hb810.block _ (by omega)).trans hX8
    clear hHeld
    refine hK.out _ _ ?hS20 (fun hHeld => ?rest20)
    case hS20 => exact box9 hX10
    clear hK K
    try simp only [Act.put, List.setIfInBounds_toArray, List.set_cons_zero, List.set_cons_succ]
    refine wpAnyH_ready (rs := [4]) (by kernel_rfl) (by simp) ?_
    refine AllReadyH.cons rfl (fun K hK => ?_) AllReadyH.nil
    go_simp
    have hB10 := hB8.trans (hb810.mono hB8.size)
    refine (HMy.out _ hB10).mono ?_
    rintro e v11 ⟨va, vm, vc, rfl, ho11, hb11⟩
    have hb811 := hb810.trans (hb11.mono hb810.size)
    have hX11 := (hb811.block _ (by omega)).trans hX8
    have hZ11 := (hb811.block _ (by omega)).trans hZ8
    have hB11 := hB8.trans (hb811.mono hB8.size)
    have hv10 : w.heap.size + 2 < v10.heap.size := by have := hb810.size; omega
    clear hHeld
    refine hK.out _ _ ?hS21 (fun hHeld => ?rest21)
    case hS21 => exact box9 hX11
    clear hK K
    try simp only [Act.put, List.setIfInBounds_toArray, List.set_cons_zero, List.set_cons_succ]
    refine takeDh (i := 5) (d := some 93) (v := ?vT22) rfl rfl (by kernel_rfl) (by kernel_rfl) (by kernel_rfl) (fun _ _ _ h => h) (Or.inl ⟨by rfl, ?hyT22⟩) (by assumption) ?rstT22
    case hyT22 => (intro w hSw; (try dsimp only at hSw); go_simp; (try with_reducible rfl))
    try simp only [Act.put, List.setIfInBounds_toArray, List.set_cons_zero, List.set_cons_succ]
    refine takeDh (i := 6) (d := some 94) (v := ?vT23) rfl rfl (by kernel_rfl) (by kernel_rfl) (by kernel_rfl) (fun _ _ _ h => h) (Or.inl ⟨by rfl, ?hyT23⟩) (by assumption) ?rstT23
    case hyT23 => (intro w hSw; (try dsimp only at hSw); go_simp; (try with_reducible rfl))
    try simp only [Act.put, List.setIfInBounds_toArray, List.set_cons_zero, List.set_cons_succ]
    obtain ⟨W9, e9, hx9, hB9, hK9⟩ := store9 hZ11 hB11 (by omega) (.int .i64 c3) (.int .i64 n3) (.int .i64 k3) (.int .i64 p3) (.string s3) (.slice va vm vc) (.int .i64 tc3) (.int .i64 tn3) (.bool on3)
    obtain ⟨d0, d1, d2, d3, d4, d5, d6, d7, d8⟩ := box9 hZ11
    obtain ⟨dz0, dz1, dz2, dz3, dz4, dz5, dz6, dz7, dz8⟩ := wr9 hZ11
    have hXw := hK9.block hX11 (by omega)
    refine wpAnyH_ready (rs := [7]) (by kernel_rfl) (by simp) ?_
    refine AllReadyH.cons rfl (fun K hK => ?_) AllReadyH.nil
    go_simp
    try rw [e9]
    clear hHeld
    refine hK.out _ _ ?hS24 (fun hHeld => ?rest24)
    case hS24 => exact box9 hXw
    clear hK K
    try simp only [Act.put, List.setIfInBounds_toArray, List.set_cons_zero, List.set_cons_succ]
    refine takeDh (i := 8) (d := some 5) (v := ?vT25) rfl rfl (by kernel_rfl) (by kernel_rfl) (by kernel_rfl) (fun _ _ _ h => h) (Or.inl ⟨by rfl, ?hyT25⟩) (by assumption) ?rstT25
    case hyT25 => (intro w hSw; (try dsimp only at hSw); go_simp; (try with_reducible rfl))
    try simp only [Act.put, List.setIfInBounds_toArray, List.set_cons_zero, List.set_cons_succ]
    refine wpAnyH_done (by kernel_rfl) ?_ _
    have HO9 : Hid (OwnF rangeV 2 91 W9 w.heap.size (.slice va vm vc) l3) := (hK9.own ho11 (by omega)).mono (by omega)
    obtain ⟨r0, r1, r2, r3, r4, r5, r6, r7, r8⟩ := box9 hx9
    clear hHeld
    go_wp2_with fail
    refine bodyPost_ret (v := .tuple #[.agg #[.int .i64 c3, .int .i64 n3, .int .i64 k3, .int .i64 p3, .string s3, .slice va vm vc, .int .i64 tc3, .int .i64 tn3, .bool on3], .int .i64 z3]) (by simp [results, Tryz.results51, go_sem, r0, r1, r2, r3, r4, r5, r6, r7, r8]) rfl ?_
    rw [HQ.out]
    exact ⟨va, vm, vc, rfl, HO9.out, hB9⟩
end Go.Proofs.YtmdnmhdimfglaaaGreatDoor
