import Derived.Test.YtmdnmhdimfglaaaGreatDoorGaH
namespace Go.Proofs.YtmdnmhdimfglaaaGreatDoor
open Go.RowKit Go.Lib
set_option maxRecDepth 100000
set_option maxHeartbeats 8000000 in
theorem include_ins {o o2 : OpV} {ear : Bool} {a : Option Addr} {m cap : Nat} {b : Option Addr} {m2 cap2 : Nat} {w : World} (hR : Sp.Rng w a m cap o.l) (hm : m ≤ 1000000000) (hs : o.s.size ≤ 2097152) (hs2 : o2.s.size ≤ 2097152) (hcl : clashP o o2 = false) (h1 : o2.k = 1) (h2 : o.k = 1) (hp : 0 ≤ o.p ∧ o.p ≤ 1048576) (hp2 : 0 ≤ o2.p ∧ o2.p ≤ 1048576) (hwd : 0 ≤ widthP o ∧ widthP o ≤ 256) (hwd2 : 0 < widthP o2 ∧ widthP o2 ≤ 256) :
    Calls Tryz.prog 49 #[opVal o (.slice a m cap), opVal o2 (.slice b m2 cap2), .bool ear] w fun e w' => Ans w (movP o (if o2.p < o.p ∨ (o2.p = o.p ∧ ear = true) then o.p + widthP o2 else o.p)) e w' := by
  have HIS : Hid (∀ W : World, Calls Tryz.prog 71 #[.agg #[.int .i64 o.c, .int .i64 o.n], .agg #[.int .i64 o2.c, .int .i64 o2.n]] W fun e w' => e = .returned (.bool false) ∧ Below W.heap.size W w') := fun W => by
    have := is_anyX o.c o.n o2.c o2.n W
    rw [show isB o.c o.n o2.c o2.n = false from hcl] at this
    exact this
  have HW : Hid (∀ (W : World), Calls Tryz.prog 62 #[opVal o2 (.slice b m2 cap2)] W fun e w' => e = .returned (.int .i64 (widthP o2)) ∧ Below W.heap.size W w') := fun W => gWidth_any hs2 W
  have HM : Hid (∀ (W : World) (p3 : Int), Below w.heap.size w W → 0 ≤ p3 ∧ p3 ≤ 4194304 → Calls Tryz.prog 72 #[opVal o (.slice a m cap), .int .i64 p3] W fun e w' => Ans W (movP o p3) e w') := fun W p3 hb h3 => moved_any (hR.below hb) hm hs h3 hwd
  obtain ⟨y, hy⟩ : ∃ y, (if o2.p < o.p ∨ (o2.p = o.p ∧ ear = true) then o.p + widthP o2 else o.p) = y := ⟨_, rfl⟩
  rw [hy]
  obtain ⟨⟨⟨c3, n3, k3, p3, s3, l3, tc3, tn3, on3⟩, z3⟩, hq⟩ : ∃ q, movP o y = q := ⟨_, rfl⟩
  have hyb : 0 ≤ y ∧ y ≤ 1048832 := by rw [← hy]; split <;> omega
  have HMy : Hid (∀ (W : World), Below w.heap.size w W → Calls Tryz.prog 72 #[opVal o (.slice a m cap), .int .i64 y] W fun e w' => Ans W (⟨c3, n3, k3, p3, s3, l3, tc3, tn3, on3⟩, z3) e w') := fun W hb => by
    have := HM.out W y hb (by omega)
    rw [hq] at this
    exact this
  rw [hq]
  have hpl := place_ctx (n := widthP o2) hp2.1 hp2.2 (k := o.p) hp.1 (by omega)
  have hpi := place_ins (n := widthP o2) hp2.1 hp2.2 hwd2.1
  have hok := ctxI_ok hp2.1 hp2.2 (by omega : 0 ≤ widthP o2) (by omega : widthP o2 ≤ 4194304)
  obtain ⟨nr, hnr⟩ : ∃ nr, (ctxI o2.p (widthP o2)).length = nr := ⟨_, rfl⟩
  have hnr3 : nr ≤ 3 := by rw [← hnr]; exact ctxI_len hp2.1 hp2.2
  obtain ⟨y1, hy1⟩ : ∃ y1, (if o.p < o2.p then o.p else o.p + widthP o2) = y1 := ⟨_, rfl⟩
  rw [hy1] at hpl
  have HP0 : Hid (∀ (W : World) va vc, Rw sthF 3 W va nr vc (ctxI o2.p (widthP o2)) → Calls Tryz.prog 63 #[.slice va nr vc, .int .i64 0, .int .i64 o.p] W fun e w' => e = .returned (.int .i64 y1) ∧ Below W.heap.size W w') := fun W va vc hr => by
    have := place_any hr (by omega) hok 0 o.p (by omega)
    rw [hpl] at this
    exact this
  have HP2 : Hid (∀ (W : World) va vc, Rw sthF 3 W va nr vc (ctxI o2.p (widthP o2)) → Calls Tryz.prog 63 #[.slice va nr vc, .int .i64 2, .int .i64 0] W fun e w' => e = .returned (.int .i64 o2.p) ∧ Below W.heap.size W w') := fun W va vc hr => by
    have := place_any hr (by omega) hok 2 0 (by omega)
    rw [hpi] at this
    exact this
  have HNR : Hid ((ctxI o2.p (widthP o2)).length = nr) := hnr
  have HY : Hid (if o2.p = o.p ∧ ear = false then y = o2.p else y = y1) := by
    show if o2.p = o.p ∧ ear = false then y = o2.p else y = y1
    rw [← hy, ← hy1]
    by_cases hc : o2.p = o.p ∧ ear = false
    · rw [if_pos hc, if_neg (fun hh => by
        rcases hh with q | q
        · omega
        · rw [hc.2] at q; cases q.2)]
      exact hc.1.symm
    · rw [if_neg hc]
      by_cases q : o.p < o2.p
      · rw [if_pos q, if_neg (fun hh => by rcases hh with q2 | q2 <;> omega)]
      · rw [if_neg q, if_pos]
        by_cases q2 : o2.p < o.p
        · exact .inl q2
        · refine .inr ⟨by omega, ?_⟩
          cases ear
          · exact absurd ⟨by omega, rfl⟩ hc
          · rfl
  clear hcl hR hm hs hs2 hy hq hpl hpi hok hnr hy1 HM hwd hyb
  generalize widthP o2 = wd at *
  obtain ⟨c, n, k, p, s, l, tc, tn, on⟩ := o
  obtain ⟨c2, n2, k2, p2, s2, l2, tc2, tn2, on2⟩ := o2
  unfold Ans
  simp only [opVal] at *
  subst h1 h2
  simp only [Ans, opVal] at HMy
  obtain ⟨W0, hW0⟩ : ∃ W0, ((w.alloc (Obj.cells #[.int .i64 c, .int .i64 n, .int .i64 1, .int .i64 p, .string s, .slice a m cap, .int .i64 tc, .int .i64 tn, .bool on] 34)).alloc (Obj.cells #[.int .i64 c2, .int .i64 n2, .int .i64 1, .int .i64 p2, .string s2, .slice b m2 cap2, .int .i64 tc2, .int .i64 tn2, .bool on2] 34)).alloc (Obj.cells #[.int .i64 0, .int .i64 0, .int .i64 0, .int .i64 0, .string ⟨#[]⟩, .slice none 0 0, .int .i64 0, .int .i64 0, .bool false] 34) = W0 := ⟨_, rfl⟩
  have hX : W0.heap[w.heap.size]? = some (Obj.cells #[.int .i64 c, .int .i64 n, .int .i64 1, .int .i64 p, .string s, .slice a m cap, .int .i64 tc, .int .i64 tn, .bool on] 34) := by rw [← hW0]; exact (Below.heap_alloc _ _ _ (by simp; omega)).trans ((Below.heap_alloc _ _ _ (by simp)).trans (heap_alloc_new _ _))
  have hY : W0.heap[w.heap.size + 1]? = some (Obj.cells #[.int .i64 c2, .int .i64 n2, .int .i64 1, .int .i64 p2, .string s2, .slice b m2 cap2, .int .i64 tc2, .int .i64 tn2, .bool on2] 34) := by rw [← hW0]; exact (Below.heap_alloc _ _ _ (by simp)).trans (alloc_last _ _ _ (by simp))
  have hZ : W0.heap[w.heap.size + 2]? = some (Obj.cells #[.int .i64 0, .int .i64 0, .int .i64 0, .int .i64 0, .string ⟨#[]⟩, .slice none 0 0, .int .i64 0, .int .i64 0, .bool false] 34) := by rw [← hW0]; exact alloc_last _ _ _ (by simp)
  have hB0 : Below w.heap.size w W0 := by rw [← hW0]; exact (((Below.refl w.heap.size w).alloc (Nat.le_refl _) _).alloc (by simp) _).alloc (by simp; omega) _
  have alt : w.heap.size + 2 < W0.heap.size := (Array.getElem?_eq_some_iff.1 hZ).1
  obtain ⟨ak0, ak1, ak2, ak3, ak4, ak5, ak6, ak7, ak8⟩ := box9 hX
  obtain ⟨bk0, bk1, bk2, bk3, bk4, bk5, bk6, bk7, bk8⟩ := box9 hY
  obtain ⟨zk0, zk1, zk2, zk3, zk4, zk5, zk6, zk7, zk8⟩ := box9 hZ
  obtain ⟨zz0, zz1, zz2, zz3, zz4, zz5, zz6, zz7, zz8⟩ := wr9 hZ
  go_enter Tryz.func49, Tryz.ntmps49
  go_wp2_with fail
  refine (HIS.out _).mono ?_
  rintro e v1 ⟨rfl, hb1⟩
  have hX1 := (hb1.block _ (by omega)).trans hX
  have hY1 := (hb1.block _ (by omega)).trans hY
  have hZ1 := (hb1.block _ (by omega)).trans hZ
  have hB1 := hB0.trans (hb1.mono hB0.size)
  have alt1 : w.heap.size + 2 < v1.heap.size := (Array.getElem?_eq_some_iff.1 hZ1).1
  clear hb1 hX hY hZ hB0 alt ak0 ak1 ak2 ak3 ak4 ak5 ak6 ak7 ak8 bk0 bk1 bk2 bk3 bk4 bk5 bk6 bk7 bk8 zk0 zk1 zk2 zk3 zk4 zk5 zk6 zk7 zk8 zz0 zz1 zz2 zz3 zz4 zz5 zz6 zz7 zz8 HIS hW0
  obtain ⟨ak0, ak1, ak2, ak3, ak4, ak5, ak6, ak7, ak8⟩ := box9 hX1
  obtain ⟨bk0, bk1, bk2, bk3, bk4, bk5, bk6, bk7, bk8⟩ := box9 hY1
  obtain ⟨zk0, zk1, zk2, zk3, zk4, zk5, zk6, zk7, zk8⟩ := box9 hZ1
  obtain ⟨zz0, zz1, zz2, zz3, zz4, zz5, zz6, zz7, zz8⟩ := wr9 hZ1
  go_wp2_with fail
  refine (HW.out _).mono ?_
  rintro e v2 ⟨rfl, hb2⟩
  have hX2 := (hb2.block _ (by omega)).trans hX1
  have hY2 := (hb2.block _ (by omega)).trans hY1
  have hZ2 := (hb2.block _ (by omega)).trans hZ1
  have hB2 := hB1.trans (hb2.mono hB1.size)
  have alt2 : w.heap.size + 2 < v2.heap.size := (Array.getElem?_eq_some_iff.1 hZ2).1
  clear hb2 hX1 hY1 hZ1 hB1 alt1 ak0 ak1 ak2 ak3 ak4 ak5 ak6 ak7 ak8 bk0 bk1 bk2 bk3 bk4 bk5 bk6 bk7 bk8 zk0 zk1 zk2 zk3 zk4 zk5 zk6 zk7 zk8 zz0 zz1 zz2 zz3 zz4 zz5 zz6 zz7 zz8 HW
  obtain ⟨ak0, ak1, ak2, ak3, ak4, ak5, ak6, ak7, ak8⟩ := box9 hX2
  obtain ⟨bk0, bk1, bk2, bk3, bk4, bk5, bk6, bk7, bk8⟩ := box9 hY2
  obtain ⟨zk0, zk1, zk2, zk3, zk4, zk5, zk6, zk7, zk8⟩ := box9 hZ2
  obtain ⟨zz0, zz1, zz2, zz3, zz4, zz5, zz6, zz7, zz8⟩ := wr9 hZ2
  go_wp2_with fail
  refine wp_region_held_drew (S := (fun W => W.cell? ⟨w.heap.size + 1, 3, none⟩ = some (.int .i64 p2))) (by kernel_rfl) ?hS1 (fun hHeld => ?rest1)
  case hS1 => exact bk3
  refine takeDh (i := 1) (d := some 38) (v := ?vT2) rfl rfl (by kernel_rfl) (by kernel_rfl) (by kernel_rfl) (fun _ _ _ h => h) (Or.inl ⟨by rfl, ?hyT2⟩) (by assumption) ?rstT2
  case hyT2 => (intro w hSw; (try dsimp only at hSw); go_simp; (try with_reducible rfl))
  try simp only [Act.put, List.setIfInBounds_toArray, List.set_cons_zero, List.set_cons_succ]
  refine takeDh (i := 2) (d := some 39) (v := ?vT3) rfl rfl (by kernel_rfl) (by kernel_rfl) (by kernel_rfl) (fun _ _ _ h => h) (Or.inl ⟨by rfl, ?hyT3⟩) (by assumption) ?rstT3
  case hyT3 => (intro w hSw; (try dsimp only at hSw); go_simp; (try with_reducible rfl))
  try simp only [Act.put, List.setIfInBounds_toArray, List.set_cons_zero, List.set_cons_succ]
  refine takeDh (i := 3) (d := some 40) (v := ?vT4) rfl rfl (by kernel_rfl) (by kernel_rfl) (by kernel_rfl) (fun _ _ _ h => h) (Or.inl ⟨by rfl, ?hyT4⟩) (by assumption) ?rstT4
  case hyT4 => (intro w hSw; (try dsimp only at hSw); go_simp; (try with_reducible rfl))
  try simp only [Act.put, List.setIfInBounds_toArray, List.set_cons_zero, List.set_cons_succ]
  refine wpAnyH_ready (rs := [0]) (by kernel_rfl) (by simp) ?_
  refine AllReadyH.cons rfl (fun K hK => ?_) AllReadyH.nil
  go_simp
  refine (context_any _).mono ?_
  rintro e v3 ⟨ca, cc, rfl, hrow, hb3⟩
  have hb3 : Below v2.heap.size v2 v3 := (below_drewN (Below.refl _ _) 1).trans hb3
  have hY3 := (hb3.block _ (by omega)).trans hY2
  clear hHeld
  refine hK.out _ _ ?hS5 (fun hHeld => ?rest5)
  case hS5 => (show v3.cell? _ = _; exact (box9 hY3).2.2.2.1)
  clear hK K
  try simp only [Act.put, List.setIfInBounds_toArray, List.set_cons_zero, List.set_cons_succ]
  refine wpAnyH_ready (rs := [4]) (by kernel_rfl) (by simp) ?_
  refine AllReadyH.cons rfl (fun K hK => ?_) AllReadyH.nil
  go_simp
  refine (with_any hrow (by omega) ctx_ok 2 p2 wd (by omega)).mono ?_
  rintro e v4 ⟨xa, xc, rfl, ho4, hb4⟩
  have hb24 := hb3.trans (hb4.mono hb3.size)
  have hY4 := (hb24.block _ (by omega)).trans hY2
  clear hHeld
  refine hK.out _ _ ?hS6 (fun hHeld => ?rest6)
  case hS6 => (show v4.cell? _ = _; exact (box9 hY4).2.2.2.1)
  clear hK K
  try simp only [Act.put, List.setIfInBounds_toArray, List.set_cons_zero, List.set_cons_succ]
  refine takeDh (i := 5) (d := some 10) (v := ?vT7) rfl rfl (by kernel_rfl) (by kernel_rfl) (by kernel_rfl) (fun _ _ _ h => h) (Or.inl ⟨by rfl, ?hyT7⟩) (by assumption) ?rstT7
  case hyT7 => (intro w hSw; (try dsimp only at hSw); go_simp; (try with_reducible rfl))
  try simp only [Act.put, List.setIfInBounds_toArray, List.set_cons_zero, List.set_cons_succ]
  refine wpAnyH_done (by kernel_rfl) ?_ _
  have hrow4 : Rw sthF 3 v4 xa nr xc (ctxI p2 wd) := by
    have := ho4.rw_ layH
    rw [show (withL 2 p2 wd ctxL 0).length = nr from HNR.out] at this
    exact this
  rw [show (withL 2 p2 wd ctxL 0).length = nr from HNR.out]
  clear hHeld hrow hb3 hb4 ho4 hY3 hY4
  have hX4 := (hb24.block _ (by omega)).trans hX2
  have hY4 := (hb24.block _ (by omega)).trans hY2
  have hZ4 := (hb24.block _ (by omega)).trans hZ2
  have hB4 := hB2.trans (hb24.mono hB2.size)
  have alt4 : w.heap.size + 2 < v4.heap.size := (Array.getElem?_eq_some_iff.1 hZ4).1
  clear hb24 hX2 hY2 hZ2 hB2 alt2 ak0 ak1 ak2 ak3 ak4 ak5 ak6 ak7 ak8 bk0 bk1 bk2 bk3 bk4 bk5 bk6 bk7 bk8 zk0 zk1 zk2 zk3 zk4 zk5 zk6 zk7 zk8 zz0 zz1 zz2 zz3 zz4 zz5 zz6 zz7 zz8 
  obtain ⟨ak0, ak1, ak2, ak3, ak4, ak5, ak6, ak7, ak8⟩ := box9 hX4
  obtain ⟨bk0, bk1, bk2, bk3, bk4, bk5, bk6, bk7, bk8⟩ := box9 hY4
  obtain ⟨zk0, zk1, zk2, zk3, zk4, zk5, zk6, zk7, zk8⟩ := box9 hZ4
  obtain ⟨zz0, zz1, zz2, zz3, zz4, zz5, zz6, zz7, zz8⟩ := wr9 hZ4
  have e12 : (Nat.succ 0) = 1 := rfl
  clear e12
  go_wp2_with fail
  refine (HP0.out _ _ _ hrow4).mono ?_
  rintro e v5 ⟨rfl, hb5⟩
  have hrow5 := hrow4.below hb5
  clear HP0 hrow4
  have hX5 := (hb5.block _ (by omega)).trans hX4
  have hY5 := (hb5.block _ (by omega)).trans hY4
  have hZ5 := (hb5.block _ (by omega)).trans hZ4
  have hB5 := hB4.trans (hb5.mono hB4.size)
  have alt5 : w.heap.size + 2 < v5.heap.size := (Array.getElem?_eq_some_iff.1 hZ5).1
  clear hb5 hX4 hY4 hZ4 hB4 alt4 ak0 ak1 ak2 ak3 ak4 ak5 ak6 ak7 ak8 bk0 bk1 bk2 bk3 bk4 bk5 bk6 bk7 bk8 zk0 zk1 zk2 zk3 zk4 zk5 zk6 zk7 zk8 zz0 zz1 zz2 zz3 zz4 zz5 zz6 zz7 zz8 
  obtain ⟨ak0, ak1, ak2, ak3, ak4, ak5, ak6, ak7, ak8⟩ := box9 hX5
  obtain ⟨bk0, bk1, bk2, bk3, bk4, bk5, bk6, bk7, bk8⟩ := box9 hY5
  obtain ⟨zk0, zk1, zk2, zk3, zk4, zk5, zk6, zk7, zk8⟩ := box9 hZ5
  obtain ⟨zz0, zz1, zz2, zz3, zz4, zz5, zz6, zz7, zz8⟩ := wr9 hZ5
  by_cases hc : p2 = p ∧ ear = false
  · obtain ⟨rfl, rfl⟩ := hc
    have hyy : y = p2 := by have := HY.out; rwa [if_pos ⟨rfl, rfl⟩] at this
    subst hyy
    go_wp2_with fail
    refine (HP2.out _ _ _ hrow5).mono ?_
    rintro e v6 ⟨rfl, hb6⟩
    clear HP2 hrow5
    have hX6 := (hb6.block _ (by omega)).trans hX5
    have hY6 := (hb6.block _ (by omega)).trans hY5
    have hZ6 := (hb6.block _ (by omega)).trans hZ5
    have hB6 := hB5.trans (hb6.mono hB5.size)
    have alt6 : w.heap.size + 2 < v6.heap.size := (Array.getElem?_eq_some_iff.1 hZ6).1
    clear hb6 hX5 hY5 hZ5 hB5 alt5 ak0 ak1 ak2 ak3 ak4 ak5 ak6 ak7 ak8 bk0 bk1 bk2 bk3 bk4 bk5 bk6 bk7 bk8 zk0 zk1 zk2 zk3 zk4 zk5 zk6 zk7 zk8 zz0 zz1 zz2 zz3 zz4 zz5 zz6 zz7 zz8 
    obtain ⟨ak0, ak1, ak2, ak3, ak4, ak5, ak6, ak7, ak8⟩ := box9 hX6
    obtain ⟨bk0, bk1, bk2, bk3, bk4, bk5, bk6, bk7, bk8⟩ := box9 hY6
    obtain ⟨zk0, zk1, zk2, zk3, zk4, zk5, zk6, zk7, zk8⟩ := box9 hZ6
    obtain ⟨zz0, zz1, zz2, zz3, zz4, zz5, zz6, zz7, zz8⟩ := wr9 hZ6
    go_wp2_with fail
    refine (HMy.out _ hB6).mono ?_
    rintro e v7 ⟨va, vm, vc, rfl, ho7, hb7⟩
    have HO7 : Hid (OwnF rangeV 2 91 v7 v6.heap.size (.slice va vm vc) l3) := ho7
    have hv6 : w.heap.size + 2 < v6.heap.size := alt6
    clear ho7 HMy
    have hX7 := (hb7.block _ (by omega)).trans hX6
    have hY7 := (hb7.block _ (by omega)).trans hY6
    have hZ7 := (hb7.block _ (by omega)).trans hZ6
    have hB7 := hB6.trans (hb7.mono hB6.size)
    have alt7 : w.heap.size + 2 < v7.heap.size := (Array.getElem?_eq_some_iff.1 hZ7).1
    clear hb7 hX6 hY6 hZ6 hB6 alt6 ak0 ak1 ak2 ak3 ak4 ak5 ak6 ak7 ak8 bk0 bk1 bk2 bk3 bk4 bk5 bk6 bk7 bk8 zk0 zk1 zk2 zk3 zk4 zk5 zk6 zk7 zk8 zz0 zz1 zz2 zz3 zz4 zz5 zz6 zz7 zz8 
    obtain ⟨ak0, ak1, ak2, ak3, ak4, ak5, ak6, ak7, ak8⟩ := box9 hX7
    obtain ⟨bk0, bk1, bk2, bk3, bk4, bk5, bk6, bk7, bk8⟩ := box9 hY7
    obtain ⟨zk0, zk1, zk2, zk3, zk4, zk5, zk6, zk7, zk8⟩ := box9 hZ7
    obtain ⟨zz0, zz1, zz2, zz3, zz4, zz5, zz6, zz7, zz8⟩ := wr9 hZ7
    obtain ⟨W9, e9, hx9, hB9, hK9⟩ := store9 hZ7 hB7 (by omega) (.int .i64 c3) (.int .i64 n3) (.int .i64 k3) (.int .i64 p3) (.string s3) (.slice va vm vc) (.int .i64 tc3) (.int .i64 tn3) (.bool on3)
    obtain ⟨r0, r1, r2, r3, r4, r5, r6, r7, r8⟩ := box9 hx9
    have HO9 : Hid (OwnF rangeV 2 91 W9 w.heap.size (.slice va vm vc) l3) := (hK9.own HO7.out (by omega)).mono (by omega)
    clear HO7
    go_wp2_with fail
    try rw [e9]
    refine bodyPost_ret (v := .tuple #[.agg #[.int .i64 c3, .int .i64 n3, .int .i64 k3, .int .i64 p3, .string s3, .slice va vm vc, .int .i64 tc3, .int .i64 tn3, .bool on3], .int .i64 z3]) (by simp [results, Tryz.results49, go_sem, r0, r1, r2, r3, r4, r5, r6, r7, r8]) rfl ⟨va, vm, vc, rfl, HO9.out, hB9⟩
  · have hyy : y = y1 := by have := HY.out; rwa [if_neg hc] at this
    subst hyy
    clear HP2 hrow5
    have key : ((p == p2) = false ∧ decide (p = p2) = false) ∨ (p = p2 ∧ ear = true) := by
      by_cases q : p = p2
      · subst q
        right
        refine ⟨rfl, ?_⟩
        cases ear
        · exact absurd ⟨rfl, rfl⟩ hc
        · rfl
      · exact .inl ⟨beq_eq_false_iff_ne.2 q, decide_eq_false q⟩
    clear HY hc
    rcases key with ⟨t1, t2⟩ | ⟨rfl, rfl⟩
    all_goals
      go_wp2_with fail
      refine (HMy.out _ hB5).mono ?_
      rintro e v7 ⟨va, vm, vc, rfl, ho7, hb7⟩
      have HO7 : Hid (OwnF rangeV 2 91 v7 v5.heap.size (.slice va vm vc) l3) := ho7
      have hv6 : w.heap.size + 2 < v5.heap.size := alt5
      clear ho7 HMy
      have hX7 := (hb7.block _ (by omega)).trans hX5
      have hY7 := (hb7.block _ (by omega)).trans hY5
      have hZ7 := (hb7.block _ (by omega)).trans hZ5
      have hB7 := hB5.trans (hb7.mono hB5.size)
      have alt7 : w.heap.size + 2 < v7.heap.size := (Array.getElem?_eq_some_iff.1 hZ7).1
      clear hb7 hX5 hY5 hZ5 hB5 alt5 ak0 ak1 ak2 ak3 ak4 ak5 ak6 ak7 ak8 bk0 bk1 bk2 bk3 bk4 bk5 bk6 bk7 bk8 zk0 zk1 zk2 zk3 zk4 zk5 zk6 zk7 zk8 zz0 zz1 zz2 zz3 zz4 zz5 zz6 zz7 zz8 
      obtain ⟨ak0, ak1, ak2, ak3, ak4, ak5, ak6, ak7, ak8⟩ := box9 hX7
      obtain ⟨bk0, bk1, bk2, bk3, bk4, bk5, bk6, bk7, bk8⟩ := box9 hY7
      obtain ⟨zk0, zk1, zk2, zk3, zk4, zk5, zk6, zk7, zk8⟩ := box9 hZ7
      obtain ⟨zz0, zz1, zz2, zz3, zz4, zz5, zz6, zz7, zz8⟩ := wr9 hZ7
      obtain ⟨W9, e9, hx9, hB9, hK9⟩ := store9 hZ7 hB7 (by omega) (.int .i64 c3) (.int .i64 n3) (.int .i64 k3) (.int .i64 p3) (.string s3) (.slice va vm vc) (.int .i64 tc3) (.int .i64 tn3) (.bool on3)
      obtain ⟨r0, r1, r2, r3, r4, r5, r6, r7, r8⟩ := box9 hx9
      have HO9 : Hid (OwnF rangeV 2 91 W9 w.heap.size (.slice va vm vc) l3) := (hK9.own HO7.out (by omega)).mono (by omega)
      clear HO7
      go_wp2_with fail
      try rw [e9]
      refine bodyPost_ret (v := .tuple #[.agg #[.int .i64 c3, .int .i64 n3, .int .i64 k3, .int .i64 p3, .string s3, .slice va vm vc, .int .i64 tc3, .int .i64 tn3, .bool on3], .int .i64 z3]) (by simp [results, Tryz.results49, go_sem, r0, r1, r2, r3, r4, r5, r6, r7, r8]) rfl ⟨va, vm, vc, rfl, HO9.out, hB9⟩
end Go.Proofs.YtmdnmhdimfglaaaGreatDoor

namespace Go.Proofs.YtmdnmhdimfglaaaGreatDoor
open Go.RowKit Go.Lib
set_option maxRecDepth 100000
theorem Right.wpos {o : OpV} (h : Right o) (hk : o.k = 1) : 0 < widthP o := by
  obtain ⟨_, _, h3⟩ := h.ins hk
  have hc := insP_code o o.p h3
  have hw : widthP o = (check o.s).1 := by
    unfold widthP
    simp [hk]
  have := h.wd
  omega
theorem Right.wfit {o : OpV} (h : Right o) (hk : o.k = 1) : o.p + widthP o ≤ 1048576 := by
  obtain ⟨_, _, h3⟩ := h.ins hk
  have hc := insP_code o o.p h3
  have hw : widthP o = (check o.s).1 := by
    unfold widthP
    simp [hk]
  omega
theorem covP_thr {o o2 : OpV} (h0 : 0 ≤ o2.p) (h1 : o2.p ≤ 1048576) (hw : 0 ≤ widthP o2 ∧ widthP o2 ≤ 256) (hl : Sp.Lst o.l) : covP o (Sp.throughL o.l o2.p (widthP o2)) = thrP o o2 := by
  unfold covP thrP thrE
  rw [over_grow h0 h1 hw.1 hw.2 hl]
  by_cases g : growB o.l o2.p (widthP o2) = true
  · rw [if_pos g, if_pos g, if_pos (by decide)]
  · rw [if_neg g, if_neg g]
    by_cases q : 32768 < (Sp.throughL o.l o2.p (widthP o2)).length
    · rw [if_pos q, if_pos q, if_pos (by decide)]
    · rw [if_neg q, if_neg q, if_neg (by decide)]
theorem found_into {w : World} {l : List (Int × Int)} {a : Option Addr} {m cap : Nat} (hR : Sp.Rng w a m cap l) (hl : Sp.Lst l) {p n : Int} (h0 : 0 ≤ p) (h1 : p ≤ 1048576) (hn : 0 ≤ n) (hn2 : n ≤ 256) {nr : Nat} (hnr : (ctxI p n).length = nr) {fa ta : Option Addr} {fc tc : Nat} (hF : Rw sthF 3 w fa 1 fc ctxL) (hT : Rw sthF 3 w ta nr tc (ctxI p n)) :
    Calls Tryz.prog 73 #[.slice fa 1 fc, .slice ta nr tc, .slice a m cap] w fun e w' => ∃ o no co, e = .returned (.tuple #[.slice o no co, .int .i64 0]) ∧ no ≤ 1000000000 ∧ OwnF rangeV 2 91 w' w.heap.size (.slice o no co) (Sp.throughL l p n) ∧ Below w.heap.size w w' := by
  have hfi := found_in (n := n) h0 h1 hl.nonneg
  have hln := Sp.flat_len (Sp.thr_length p n) l
  have hfew := hl.few
  have hnr3 : nr ≤ 3 := by rw [← hnr]; exact ctxI_len h0 h1
  refine (found_any hF (by omega) ctx_ok hT (by omega) (ctxI_ok h0 h1 hn (by omega)) hR (by have := hR.len; omega) hl.nonneg hl.norm (fun P hP => ?_)).mono ?_
  · rw [hfi] at hP
    cases hP
    exact ⟨thr_bound h0 hn hn2 hl.nonneg, by omega⟩
  · rintro e w' (⟨hq, _⟩ | ⟨P, o, no, co, L, hq, he, ho, hpl, hb⟩)
    · rw [hfi] at hq
      cases hq
    · rw [hfi] at hq
      cases hq
      have hL := pl_through h0 h1 hn hn2 hl hpl
      subst hL
      have := (ho.rw_ layG).len
      exact ⟨o, no, co, he, by have := hpl.2.2.2; omega, ho, hb⟩
set_option maxHeartbeats 8000000 in
theorem include_cov {o o2 : OpV} {ear : Bool} {a : Option Addr} {m cap : Nat} {b : Option Addr} {m2 cap2 : Nat} {w : World} (hR : Sp.Rng w a m cap o.l) (hs2 : o2.s.size ≤ 2097152) (hcl : clashP o o2 = false) (h1 : o2.k = 1) (h2 : o.k ≠ 1) (h3 : o.k ≠ 4) (hl : Sp.Lst o.l) (hp2 : 0 ≤ o2.p ∧ o2.p ≤ 1048576) (hwd2 : 0 ≤ widthP o2 ∧ widthP o2 ≤ 256) :
    Calls Tryz.prog 49 #[opVal o (.slice a m cap), opVal o2 (.slice b m2 cap2), .bool ear] w fun e w' => Ans w (thrP o o2) e w' := by
  have HIS : Hid (∀ W : World, Calls Tryz.prog 71 #[.agg #[.int .i64 o.c, .int .i64 o.n], .agg #[.int .i64 o2.c, .int .i64 o2.n]] W fun e w' => e = .returned (.bool false) ∧ Below W.heap.size W w') := fun W => by
    have := is_anyX o.c o.n o2.c o2.n W
    rw [show isB o.c o.n o2.c o2.n = false from hcl] at this
    exact this
  have HW : Hid (∀ (W : World), Calls Tryz.prog 62 #[opVal o2 (.slice b m2 cap2)] W fun e w' => e = .returned (.int .i64 (widthP o2)) ∧ Below W.heap.size W w') := fun W => gWidth_any hs2 W
  obtain ⟨nr, hnr⟩ : ∃ nr, (ctxI o2.p (widthP o2)).length = nr := ⟨_, rfl⟩
  have HNR : Hid ((ctxI o2.p (widthP o2)).length = nr) := hnr
  have HF : Hid (∀ (W : World) fa fc ta tc, Below w.heap.size w W → Rw sthF 3 W fa 1 fc ctxL → Rw sthF 3 W ta nr tc (ctxI o2.p (widthP o2)) → Calls Tryz.prog 73 #[.slice fa 1 fc, .slice ta nr tc, .slice a m cap] W fun e w' => ∃ x no co, e = .returned (.tuple #[.slice x no co, .int .i64 0]) ∧ no ≤ 1000000000 ∧ OwnF rangeV 2 91 w' W.heap.size (.slice x no co) (Sp.throughL o.l o2.p (widthP o2)) ∧ Below W.heap.size W w') := fun W fa fc ta tc hb hF hT => found_into (hR.below hb) hl hp2.1 hp2.2 hwd2.1 hwd2.2 hnr hF hT
  obtain ⟨⟨⟨c3, n3, k3, p3, s3, l3, tc3, tn3, on3⟩, z3⟩, hq⟩ : ∃ q, thrP o o2 = q := ⟨_, rfl⟩
  rw [hq]
  have HCV : Hid (∀ (W : World) (x : Option Addr) (no co B : Nat), no ≤ 1000000000 → OwnF rangeV 2 91 W B (.slice x no co) (Sp.throughL o.l o2.p (widthP o2)) → Calls Tryz.prog 74 #[opVal o (.slice a m cap), .slice x no co] W fun e w' => ∃ va vm vc, e = .returned (.tuple #[opVal ⟨c3, n3, k3, p3, s3, l3, tc3, tn3, on3⟩ (.slice va vm vc), .int .i64 z3]) ∧ OwnF rangeV 2 91 w' B (.slice va vm vc) l3 ∧ Below W.heap.size W w') := fun W x no co B hno ho => by
    have h5 := covering_any (o := o) (v := .slice a m cap) ⟨_, _, _, rfl⟩ ho hno
    rw [covP_thr hp2.1 hp2.2 hwd2 hl, hq] at h5
    exact h5
  clear hcl hR hs2 hl hq hnr
  generalize Sp.throughL o.l o2.p (widthP o2) = TL at *
  generalize widthP o2 = wd at *
  obtain ⟨c, n, k, p, s, l, tc, tn, on⟩ := o
  obtain ⟨c2, n2, k2, p2, s2, l2, tc2, tn2, on2⟩ := o2
  unfold Ans
  simp only [opVal] at *
  subst h1
  have t1 : (k == 1) = false := beq_eq_false_iff_ne.2 h2
  have t2 : decide (k = 1) = false := decide_eq_false h2
  have t3 : (k == 4) = false := beq_eq_false_iff_ne.2 h3
  have t4 : decide (k = 4) = false := decide_eq_false h3
  obtain ⟨W0, hW0⟩ : ∃ W0, ((w.alloc (Obj.cells #[.int .i64 c, .int .i64 n, .int .i64 k, .int .i64 p, .string s, .slice a m cap, .int .i64 tc, .int .i64 tn, .bool on] 34)).alloc (Obj.cells #[.int .i64 c2, .int .i64 n2, .int .i64 1, .int .i64 p2, .string s2, .slice b m2 cap2, .int .i64 tc2, .int .i64 tn2, .bool on2] 34)).alloc (Obj.cells #[.int .i64 0, .int .i64 0, .int .i64 0, .int .i64 0, .string ⟨#[]⟩, .slice none 0 0, .int .i64 0, .int .i64 0, .bool false] 34) = W0 := ⟨_, rfl⟩
  have hX : W0.heap[w.heap.size]? = some (Obj.cells #[.int .i64 c, .int .i64 n, .int .i64 k, .int .i64 p, .string s, .slice a m cap, .int .i64 tc, .int .i64 tn, .bool on] 34) := by rw [← hW0]; exact (Below.heap_alloc _ _ _ (by simp; omega)).trans ((Below.heap_alloc _ _ _ (by simp)).trans (heap_alloc_new _ _))
  have hY : W0.heap[w.heap.size + 1]? = some (Obj.cells #[.int .i64 c2, .int .i64 n2, .int .i64 1, .int .i64 p2, .string s2, .slice b m2 cap2, .int .i64 tc2, .int .i64 tn2, .bool on2] 34) := by rw [← hW0]; exact (Below.heap_alloc _ _ _ (by simp)).trans (alloc_last _ _ _ (by simp))
  have hZ : W0.heap[w.heap.size + 2]? = some (Obj.cells #[.int .i64 0, .int .i64 0, .int .i64 0, .int .i64 0, .string ⟨#[]⟩, .slice none 0 0, .int .i64 0, .int .i64 0, .bool false] 34) := by rw [← hW0]; exact alloc_last _ _ _ (by simp)
  have hB0 : Below w.heap.size w W0 := by rw [← hW0]; exact (((Below.refl w.heap.size w).alloc (Nat.le_refl _) _).alloc (by simp) _).alloc (by simp; omega) _
  have alt : w.heap.size + 2 < W0.heap.size := (Array.getElem?_eq_some_iff.1 hZ).1
  obtain ⟨ak0, ak1, ak2, ak3, ak4, ak5, ak6, ak7, ak8⟩ := box9 hX
  obtain ⟨bk0, bk1, bk2, bk3, bk4, bk5, bk6, bk7, bk8⟩ := box9 hY
  obtain ⟨zk0, zk1, zk2, zk3, zk4, zk5, zk6, zk7, zk8⟩ := box9 hZ
  obtain ⟨zz0, zz1, zz2, zz3, zz4, zz5, zz6, zz7, zz8⟩ := wr9 hZ
  go_enter Tryz.func49, Tryz.ntmps49
  go_wp2_with fail
  refine (HIS.out _).mono ?_
  rintro e v1 ⟨rfl, hb1⟩
  have hX1 := (hb1.block _ (by omega)).trans hX
  have hY1 := (hb1.block _ (by omega)).trans hY
  have hZ1 := (hb1.block _ (by omega)).trans hZ
  have hB1 := hB0.trans (hb1.mono hB0.size)
  have alt1 : w.heap.size + 2 < v1.heap.size := (Array.getElem?_eq_some_iff.1 hZ1).1
  clear hb1 hX hY hZ hB0 alt ak0 ak1 ak2 ak3 ak4 ak5 ak6 ak7 ak8 bk0 bk1 bk2 bk3 bk4 bk5 bk6 bk7 bk8 zk0 zk1 zk2 zk3 zk4 zk5 zk6 zk7 zk8 zz0 zz1 zz2 zz3 zz4 zz5 zz6 zz7 zz8 HIS hW0
  obtain ⟨ak0, ak1, ak2, ak3, ak4, ak5, ak6, ak7, ak8⟩ := box9 hX1
  obtain ⟨bk0, bk1, bk2, bk3, bk4, bk5, bk6, bk7, bk8⟩ := box9 hY1
  obtain ⟨zk0, zk1, zk2, zk3, zk4, zk5, zk6, zk7, zk8⟩ := box9 hZ1
  obtain ⟨zz0, zz1, zz2, zz3, zz4, zz5, zz6, zz7, zz8⟩ := wr9 hZ1
  go_wp2_with fail
  refine (HW.out _).mono ?_
  rintro e v2 ⟨rfl, hb2⟩
  have hX2 := (hb2.block _ (by omega)).trans hX1
  have hY2 := (hb2.block _ (by omega)).trans hY1
  have hZ2 := (hb2.block _ (by omega)).trans hZ1
  have hB2 := hB1.trans (hb2.mono hB1.size)
  have alt2 : w.heap.size + 2 < v2.heap.size := (Array.getElem?_eq_some_iff.1 hZ2).1
  clear hb2 hX1 hY1 hZ1 hB1 alt1 ak0 ak1 ak2 ak3 ak4 ak5 ak6 ak7 ak8 bk0 bk1 bk2 bk3 bk4 bk5 bk6 bk7 bk8 zk0 zk1 zk2 zk3 zk4 zk5 zk6 zk7 zk8 zz0 zz1 zz2 zz3 zz4 zz5 zz6 zz7 zz8 HW
  obtain ⟨ak0, ak1, ak2, ak3, ak4, ak5, ak6, ak7, ak8⟩ := box9 hX2
  obtain ⟨bk0, bk1, bk2, bk3, bk4, bk5, bk6, bk7, bk8⟩ := box9 hY2
  obtain ⟨zk0, zk1, zk2, zk3, zk4, zk5, zk6, zk7, zk8⟩ := box9 hZ2
  obtain ⟨zz0, zz1, zz2, zz3, zz4, zz5, zz6, zz7, zz8⟩ := wr9 hZ2
  go_wp2_with fail
  refine wp_region_held_drew (S := (fun W => W.cell? ⟨w.heap.size + 1, 3, none⟩ = some (.int .i64 p2))) (by kernel_rfl) ?hS1 (fun hHeld => ?rest1)
  case hS1 => exact bk3
  refine takeDh (i := 1) (d := some 38) (v := ?vT2) rfl rfl (by kernel_rfl) (by kernel_rfl) (by kernel_rfl) (fun _ _ _ h => h) (Or.inl ⟨by rfl, ?hyT2⟩) (by assumption) ?rstT2
  case hyT2 => (intro w hSw; (try dsimp only at hSw); go_simp; (try with_reducible rfl))
  try simp only [Act.put, List.setIfInBounds_toArray, List.set_cons_zero, List.set_cons_succ]
  refine takeDh (i := 2) (d := some 39) (v := ?vT3) rfl rfl (by kernel_rfl) (by kernel_rfl) (by kernel_rfl) (fun _ _ _ h => h) (Or.inl ⟨by rfl, ?hyT3⟩) (by assumption) ?rstT3
  case hyT3 => (intro w hSw; (try dsimp only at hSw); go_simp; (try with_reducible rfl))
  try simp only [Act.put, List.setIfInBounds_toArray, List.set_cons_zero, List.set_cons_succ]
  refine takeDh (i := 3) (d := some 40) (v := ?vT4) rfl rfl (by kernel_rfl) (by kernel_rfl) (by kernel_rfl) (fun _ _ _ h => h) (Or.inl ⟨by rfl, ?hyT4⟩) (by assumption) ?rstT4
  case hyT4 => (intro w hSw; (try dsimp only at hSw); go_simp; (try with_reducible rfl))
  try simp only [Act.put, List.setIfInBounds_toArray, List.set_cons_zero, List.set_cons_succ]
  refine wpAnyH_ready (rs := [0]) (by kernel_rfl) (by simp) ?_
  refine AllReadyH.cons rfl (fun K hK => ?_) AllReadyH.nil
  go_simp
  refine (context_any _).mono ?_
  rintro e v3 ⟨ca, cc, rfl, hrow, hb3⟩
  have hb3 : Below v2.heap.size v2 v3 := (below_drewN (Below.refl _ _) 1).trans hb3
  have hY3 := (hb3.block _ (by omega)).trans hY2
  clear hHeld
  refine hK.out _ _ ?hS5 (fun hHeld => ?rest5)
  case hS5 => (show v3.cell? _ = _; exact (box9 hY3).2.2.2.1)
  clear hK K
  try simp only [Act.put, List.setIfInBounds_toArray, List.set_cons_zero, List.set_cons_succ]
  refine wpAnyH_ready (rs := [4]) (by kernel_rfl) (by simp) ?_
  refine AllReadyH.cons rfl (fun K hK => ?_) AllReadyH.nil
  go_simp
  refine (with_any hrow (by omega) ctx_ok 2 p2 wd (by omega)).mono ?_
  rintro e v4 ⟨xa, xc, rfl, ho4, hb4⟩
  have hb24 := hb3.trans (hb4.mono hb3.size)
  have hY4 := (hb24.block _ (by omega)).trans hY2
  clear hHeld
  refine hK.out _ _ ?hS6 (fun hHeld => ?rest6)
  case hS6 => (show v4.cell? _ = _; exact (box9 hY4).2.2.2.1)
  clear hK K
  try simp only [Act.put, List.setIfInBounds_toArray, List.set_cons_zero, List.set_cons_succ]
  refine takeDh (i := 5) (d := some 10) (v := ?vT7) rfl rfl (by kernel_rfl) (by kernel_rfl) (by kernel_rfl) (fun _ _ _ h => h) (Or.inl ⟨by rfl, ?hyT7⟩) (by assumption) ?rstT7
  case hyT7 => (intro w hSw; (try dsimp only at hSw); go_simp; (try with_reducible rfl))
  try simp only [Act.put, List.setIfInBounds_toArray, List.set_cons_zero, List.set_cons_succ]
  refine wpAnyH_done (by kernel_rfl) ?_ _
  have hrow4 : Rw sthF 3 v4 xa nr xc (ctxI p2 wd) := by
    have := ho4.rw_ layH
    rw [show (withL 2 p2 wd ctxL 0).length = nr from HNR.out] at this
    exact this
  rw [show (withL 2 p2 wd ctxL 0).length = nr from HNR.out]
  clear hHeld hrow hb3 hb4 ho4 hY3 hY4
  have hX4 := (hb24.block _ (by omega)).trans hX2
  have hY4 := (hb24.block _ (by omega)).trans hY2
  have hZ4 := (hb24.block _ (by omega)).trans hZ2
  have hB4 := hB2.trans (hb24.mono hB2.size)
  have alt4 : w.heap.size + 2 < v4.heap.size := (Array.getElem?_eq_some_iff.1 hZ4).1
  clear hb24 hX2 hY2 hZ2 hB2 alt2 ak0 ak1 ak2 ak3 ak4 ak5 ak6 ak7 ak8 bk0 bk1 bk2 bk3 bk4 bk5 bk6 bk7 bk8 zk0 zk1 zk2 zk3 zk4 zk5 zk6 zk7 zk8 zz0 zz1 zz2 zz3 zz4 zz5 zz6 zz7 zz8 
  obtain ⟨ak0, ak1, ak2, ak3, ak4, ak5, ak6, ak7, ak8⟩ := box9 hX4
  obtain ⟨bk0, bk1, bk2, bk3, bk4, bk5, bk6, bk7, bk8⟩ := box9 hY4
  obtain ⟨zk0, zk1, zk2, zk3, zk4, zk5, zk6, zk7, zk8⟩ := box9 hZ4
  obtain ⟨zz0, zz1, zz2, zz3, zz4, zz5, zz6, zz7, zz8⟩ := wr9 hZ4
  go_wp2_with fail
  refine wp_region_held_drew (S := (fun W => W.cell? ⟨w.heap.size, 5, none⟩ = some (.slice a m cap))) (by kernel_rfl) ?hS8 (fun hHeld => ?rest8)
  case hS8 => exact ak5
  refine takeDh (i := 1) (d := some 68) (v := ?vT9) rfl rfl (by kernel_rfl) (by kernel_rfl) (by kernel_rfl) (fun _ _ _ h => h) (Or.inl ⟨by rfl, ?hyT9⟩) (by assumption) ?rstT9
  case hyT9 => (intro w hSw; (try dsimp only at hSw); go_simp; (try with_reducible rfl))
  try simp only [Act.put, List.setIfInBounds_toArray, List.set_cons_zero, List.set_cons_succ]
  refine takeDh (i := 2) (d := some 69) (v := ?vT10) rfl rfl (by kernel_rfl) (by kernel_rfl) (by kernel_rfl) (fun _ _ _ h => h) (Or.inl ⟨by rfl, ?hyT10⟩) (by assumption) ?rstT10
  case hyT10 => (intro w hSw; (try dsimp only at hSw); go_simp; (try with_reducible rfl))
  try simp only [Act.put, List.setIfInBounds_toArray, List.set_cons_zero, List.set_cons_succ]
  refine takeDh (i := 3) (d := some 70) (v := ?vT11) rfl rfl (by kernel_rfl) (by kernel_rfl) (by kernel_rfl) (fun _ _ _ h => h) (Or.inl ⟨by rfl, ?hyT11⟩) (by assumption) ?rstT11
  case hyT11 => (intro w hSw; (try dsimp only at hSw); go_simp; (try with_reducible rfl))
  try simp only [Act.put, List.setIfInBounds_toArray, List.set_cons_zero, List.set_cons_succ]
  refine wpAnyH_ready (rs := [0]) (by kernel_rfl) (by simp) ?_
  refine AllReadyH.cons rfl (fun K hK => ?_) AllReadyH.nil
  go_simp
  refine (context_any _).mono ?_
  rintro e v5 ⟨fa, fc, rfl, hctx, hb5⟩
  have hb5 : Below v4.heap.size v4 v5 := (below_drewN (Below.refl _ _) 1).trans hb5
  have hX5 := (hb5.block _ (by omega)).trans hX4
  clear hHeld
  refine hK.out _ _ ?hS12 (fun hHeld => ?rest12)
  case hS12 => (show v5.cell? _ = _; exact (box9 hX5).2.2.2.2.2.1)
  clear hK K
  try simp only [Act.put, List.setIfInBounds_toArray, List.set_cons_zero, List.set_cons_succ]
  refine wpAnyH_ready (rs := [4]) (by kernel_rfl) (by simp) ?_
  refine AllReadyH.cons rfl (fun K hK => ?_) AllReadyH.nil
  go_simp
  have hB5 := hB4.trans (hb5.mono hB4.size)
  refine (HF.out _ _ _ _ _ hB5 hctx (hrow4.below hb5)).mono ?_
  rintro e v6 ⟨xo, xn, xco, rfl, hxn, ho6, hb6⟩
  have hb46 := hb5.trans (hb6.mono hb5.size)
  have hX6 := (hb46.block _ (by omega)).trans hX4
  clear hHeld
  refine hK.out _ _ ?hS13 (fun hHeld => ?rest13)
  case hS13 => (show v6.cell? _ = _; exact (box9 hX6).2.2.2.2.2.1)
  clear hK K
  try simp only [Act.put, List.setIfInBounds_toArray, List.set_cons_zero, List.set_cons_succ]
  refine takeDh (i := 5) (d := some 66) (v := ?vT14) rfl rfl (by kernel_rfl) (by kernel_rfl) (by kernel_rfl) (fun _ _ _ h => h) (Or.inl ⟨by rfl, ?hyT14⟩) (by assumption) ?rstT14
  case hyT14 => (intro w hSw; (try dsimp only at hSw); go_simp; (try with_reducible rfl))
  try simp only [Act.put, List.setIfInBounds_toArray, List.set_cons_zero, List.set_cons_succ]
  refine takeDh (i := 6) (d := some 72) (v := ?vT15) rfl rfl (by kernel_rfl) (by kernel_rfl) (by kernel_rfl) (fun _ _ _ h => h) (Or.inl ⟨by rfl, ?hyT15⟩) (by assumption) ?rstT15
  case hyT15 => (intro w hSw; (try dsimp only at hSw); go_simp; (try with_reducible rfl))
  try simp only [Act.put, List.setIfInBounds_toArray, List.set_cons_zero, List.set_cons_succ]
  refine takeDh (i := 7) (d := some 73) (v := ?vT16) rfl rfl (by kernel_rfl) (by kernel_rfl) (by kernel_rfl) (fun _ _ _ h => h) (Or.inl ⟨by rfl, ?hyT16⟩) (by assumption) ?rstT16
  case hyT16 => (intro w hSw; (try dsimp only at hSw); go_simp; (try with_reducible rfl))
  try simp only [Act.put, List.setIfInBounds_toArray, List.set_cons_zero, List.set_cons_succ]
  refine takeDh (i := 8) (d := some 12) (v := ?vT17) rfl rfl (by kernel_rfl) (by kernel_rfl) (by kernel_rfl) (fun _ _ _ h => h) (Or.inl ⟨by rfl, ?hyT17⟩) (by assumption) ?rstT17
  case hyT17 => (intro w hSw; (try dsimp only at hSw); go_simp; (try with_reducible rfl))
  try simp only [Act.put, List.setIfInBounds_toArray, List.set_cons_zero, List.set_cons_succ]
  refine takeDh (i := 9) (d := some 13) (v := ?vT18) rfl rfl (by kernel_rfl) (by kernel_rfl) (by kernel_rfl) (fun _ _ _ h => h) (Or.inl ⟨by rfl, ?hyT18⟩) (by assumption) ?rstT18
  case hyT18 => (intro w hSw; (try dsimp only at hSw); go_simp; (try with_reducible rfl))
  try simp only [Act.put, List.setIfInBounds_toArray, List.set_cons_zero, List.set_cons_succ]
  refine wpAnyH_done (by kernel_rfl) ?_ _
  have HO6 : Hid (OwnF rangeV 2 91 v6 v5.heap.size (.slice xo xn xco) TL) := ho6
  have hv5 : w.heap.size + 2 < v5.heap.size := by have := hb5.size; omega
  clear hHeld hctx hrow4 hb5 hb6 hX5 hX6 ho6 HF hB5
  have hX6 := (hb46.block _ (by omega)).trans hX4
  have hY6 := (hb46.block _ (by omega)).trans hY4
  have hZ6 := (hb46.block _ (by omega)).trans hZ4
  have hB6 := hB4.trans (hb46.mono hB4.size)
  have alt6 : w.heap.size + 2 < v6.heap.size := (Array.getElem?_eq_some_iff.1 hZ6).1
  clear hb46 hX4 hY4 hZ4 hB4 alt4 ak0 ak1 ak2 ak3 ak4 ak5 ak6 ak7 ak8 bk0 bk1 bk2 bk3 bk4 bk5 bk6 bk7 bk8 zk0 zk1 zk2 zk3 zk4 zk5 zk6 zk7 zk8 zz0 zz1 zz2 zz3 zz4 zz5 zz6 zz7 zz8 
  obtain ⟨ak0, ak1, ak2, ak3, ak4, ak5, ak6, ak7, ak8⟩ := box9 hX6
  obtain ⟨bk0, bk1, bk2, bk3, bk4, bk5, bk6, bk7, bk8⟩ := box9 hY6
  obtain ⟨zk0, zk1, zk2, zk3, zk4, zk5, zk6, zk7, zk8⟩ := box9 hZ6
  obtain ⟨zz0, zz1, zz2, zz3, zz4, zz5, zz6, zz7, zz8⟩ := wr9 hZ6
  go_wp2_with fail
  refine (HCV.out _ _ _ _ _ hxn HO6.out).mono ?_
  rintro e v7 ⟨va, vm, vc, rfl, ho7, hb7⟩
  have HO7 : Hid (OwnF rangeV 2 91 v7 v5.heap.size (.slice va vm vc) l3) := ho7
  clear ho7 HCV HO6
  have hX7 := (hb7.block _ (by omega)).trans hX6
  have hY7 := (hb7.block _ (by omega)).trans hY6
  have hZ7 := (hb7.block _ (by omega)).trans hZ6
  have hB7 := hB6.trans (hb7.mono hB6.size)
  have alt7 : w.heap.size + 2 < v7.heap.size := (Array.getElem?_eq_some_iff.1 hZ7).1
  clear hb7 hX6 hY6 hZ6 hB6 alt6 ak0 ak1 ak2 ak3 ak4 ak5 ak6 ak7 ak8 bk0 bk1 bk2 bk3 bk4 bk5 bk6 bk7 bk8 zk0 zk1 zk2 zk3 zk4 zk5 zk6 zk7 zk8 zz0 zz1 zz2 zz3 zz4 zz5 zz6 zz7 zz8 
  obtain ⟨ak0, ak1, ak2, ak3, ak4, ak5, ak6, ak7, ak8⟩ := box9 hX7
  obtain ⟨bk0, bk1, bk2, bk3, bk4, bk5, bk6, bk7, bk8⟩ := box9 hY7
  obtain ⟨zk0, zk1, zk2, zk3, zk4, zk5, zk6, zk7, zk8⟩ := box9 hZ7
  obtain ⟨zz0, zz1, zz2, zz3, zz4, zz5, zz6, zz7, zz8⟩ := wr9 hZ7
  obtain ⟨W9, e9, hx9, hB9, hK9⟩ := store9 hZ7 hB7 (by omega) (.int .i64 c3) (.int .i64 n3) (.int .i64 k3) (.int .i64 p3) (.string s3) (.slice va vm vc) (.int .i64 tc3) (.int .i64 tn3) (.bool on3)
  obtain ⟨r0, r1, r2, r3, r4, r5, r6, r7, r8⟩ := box9 hx9
  have HO9 : Hid (OwnF rangeV 2 91 W9 w.heap.size (.slice va vm vc) l3) := (hK9.own HO7.out (by omega)).mono (by omega)
  clear HO7
  go_wp2_with fail
  try rw [e9]
  refine bodyPost_ret (v := .tuple #[.agg #[.int .i64 c3, .int .i64 n3, .int .i64 k3, .int .i64 p3, .string s3, .slice va vm vc, .int .i64 tc3, .int .i64 tn3, .bool on3], .int .i64 z3]) (by simp [results, Tryz.results49, go_sem, r0, r1, r2, r3, r4, r5, r6, r7, r8]) rfl ⟨va, vm, vc, rfl, HO9.out, hB9⟩
theorem include_any {o o2 : OpV} {ear : Bool} {a : Option Addr} {m cap : Nat} {b : Option Addr} {m2 cap2 : Nat} {w : World} (hR : Sp.Rng w a m cap o.l) (hm : m ≤ 1000000000) (hs : o.s.size ≤ 2097152) (hs2 : o2.s.size ≤ 2097152) (h1 : Right o) (h2 : Right o2) : Calls Tryz.prog 49 #[opVal o (.slice a m cap), opVal o2 (.slice b m2 cap2), .bool ear] w fun e w' => Ans w (inclP o o2 ear) e w' := by
  by_cases hcl : clashP o o2 = true
  · have e1 : inclP o o2 ear = (op0, 50) := by unfold inclP; rw [if_pos hcl]
    rw [e1]
    exact include_clash hcl
  · have hcl' : clashP o o2 = false := by simpa using hcl
    by_cases hk : o2.k ≠ 1 ∨ o.k = 4
    · have e1 : inclP o o2 ear = (o, 0) := by unfold inclP; rw [if_neg hcl, if_pos hk]
      rw [e1]
      exact include_same hR hm hcl' hk
    · have k2 : o2.k = 1 := by omega
      have k1 : o.k ≠ 4 := by omega
      obtain ⟨q1, q2, q3⟩ := h2.ins k2
      by_cases hi : o.k = 1
      · obtain ⟨r1, r2, r3⟩ := h1.ins hi
        have hw1 := h1.wd
        have hw2 := h2.wd
        have hpos : 0 < widthP o2 := h2.wpos k2
        have := include_ins (ear := ear) hR hm hs hs2 hcl' k2 hi ⟨r1, r2⟩ ⟨q1, q2⟩ hw1 ⟨hpos, hw2.2⟩ (b := b) (m2 := m2) (cap2 := cap2)
        have e1 : movP o (if o2.p < o.p ∨ (o2.p = o.p ∧ ear = true) then o.p + widthP o2 else o.p) = inclP o o2 ear := by
          have s1 : ¬ (o.k ≠ 1) := fun h => h hi
          unfold inclP
          rw [if_neg hcl, if_neg hk, if_neg s1]
          by_cases q : o2.p < o.p ∨ (o2.p = o.p ∧ ear = true)
          · rw [if_pos q, if_pos q]
            rfl
          · rw [if_neg q, if_neg q]
            unfold movP
            rw [if_neg (by have := h1.wfit hi; omega)]
        rw [← e1]
        exact this
      · have e1 : inclP o o2 ear = thrP o o2 := by unfold inclP; rw [if_neg hcl, if_neg hk, if_pos hi]
        rw [e1]
        have hk23 : o.k = 2 ∨ o.k = 3 := by have := h1.kind; omega
        exact include_cov hR hs2 hcl' k2 hi k1 (h1.rng hk23).2 ⟨q1, q2⟩ h2.wd
end Go.Proofs.YtmdnmhdimfglaaaGreatDoor
