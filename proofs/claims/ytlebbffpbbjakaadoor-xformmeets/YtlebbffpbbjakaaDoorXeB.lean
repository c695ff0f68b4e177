import Derived.Test.YtlebbffpbbjakaaDoorXeA
import Derived.Test.YtlebbffpbbjakaaDoorXdP
namespace Go.Proofs.YtlebbffpbbjakaaDoor
open Go.RowKit Go.Lib
set_option maxRecDepth 100000

/-- What made makes: a right operation of that id where there are t cells. -/
structure Made (c n : Int) (t : Nat) (o : OpV) : Prop where
  id : o.c = c ∧ o.n = n
  size : o.s.size ≤ 8
  kind : (∃ p i : Nat, p ≤ t ∧ i < 5 ∧ o = insV c n p i) ∨ (∃ (k : Nat) (on : Bool), k < 3 ∧ o = ⟨c, n, 4, 0, ⟨#[]⟩, [], 3, (1 + k : Nat), on⟩) ∨ (∃ (k : Int) (l : List (Int × Int)), (k = 2 ∨ k = 3) ∧ 0 < t ∧ o = ⟨c, n, k, 0, ⟨#[]⟩, l, 0, 0, false⟩ ∧ l ≠ [] ∧ Sp.Norm (-1) l ∧ (∀ r ∈ l, r.2 ≤ (t : Int)) ∧ l.length ≤ t)

set_option maxHeartbeats 8000000 in
theorem made_any {w : World} {kd at_ nn c n : Int} {on : Bool} {pa : Option Addr} {pm pc : Nat} {zs : List Int} (h : Rw int1 1 w pa pm pc zs) {t : Nat} (ht : t ≤ 900) (hT : Txs w) :
    Calls Tryd.prog 15 #[.agg #[.int .i64 kd, .int .i64 at_, .int .i64 nn, .slice pa pm pc, .bool on], .agg #[.int .i64 c, .int .i64 n], .int .i64 (t : Int)] w fun e w' => ∃ o va vm vc, e = .returned (opVal o (.slice va vm vc)) ∧ Made c n t o ∧ OwnF rangeV 2 85 w' w.heap.size (.slice va vm vc) o.l ∧ Below w.heap.size w w' := by
  obtain ⟨k7, hk7⟩ : ∃ k : Nat, kd % 7 = (k : Int) := ⟨(kd % 7).toNat, by omega⟩
  have hk77 : k7 < 7 := by omega
  have HK : Hid (∀ W, Calls Tryd.prog 7 #[.int .i64 kd, .int .i64 7] W fun e w' => e = .returned (.int .i64 (k7 : Int)) ∧ W = w') := fun W => by rw [← hk7]; exact (within_any kd 7 (by omega) (by omega) W).mono fun e w' h => ⟨h.1, h.2.symm⟩
  obtain ⟨k3, hk3⟩ : ∃ k : Nat, nn % 3 = (k : Int) := ⟨(nn % 3).toNat, by omega⟩
  have hk33 : k3 < 3 := by omega
  have HK3 : Hid (∀ W, Calls Tryd.prog 7 #[.int .i64 nn, .int .i64 3] W fun e w' => e = .returned (.int .i64 (k3 : Int)) ∧ W = w') := fun W => by rw [← hk3]; exact (within_any nn 3 (by omega) (by omega) W).mono fun e w' h => ⟨h.1, h.2.symm⟩
  obtain ⟨k5, hk5⟩ : ∃ k : Nat, nn % 5 = (k : Int) := ⟨(nn % 5).toNat, by omega⟩
  have hk55 : k5 < 5 := by omega
  have HK5 : Hid (∀ W, Calls Tryd.prog 7 #[.int .i64 nn, .int .i64 5] W fun e w' => e = .returned (.int .i64 (k5 : Int)) ∧ W = w') := fun W => by rw [← hk5]; exact (within_any nn 5 (by omega) (by omega) W).mono fun e w' h => ⟨h.1, h.2.symm⟩
  obtain ⟨p, hp⟩ : ∃ k : Nat, at_ % ((t : Int) + 1) = (k : Int) := ⟨(at_ % ((t : Int) + 1)).toNat, by have := Int.emod_nonneg at_ (show (t : Int) + 1 ≠ 0 by omega); omega⟩
  have hpt : p ≤ t := by have := Int.emod_lt_of_pos at_ (show 0 < (t : Int) + 1 by omega); omega
  have HKp : Hid (∀ W, Calls Tryd.prog 7 #[.int .i64 at_, .int .i64 ((t : Int) + 1)] W fun e w' => e = .returned (.int .i64 (p : Int)) ∧ W = w') := fun W => by rw [← hp]; exact (within_any at_ _ (by omega) (by omega) W).mono fun e w' h => ⟨h.1, h.2.symm⟩
  have et : IntKind.i64.wrap ((t : Int) + 1) = (t : Int) + 1 := IntWalk.i64_in _ (by omega)
  obtain ⟨tg, htg⟩ : ∃ k : Nat, 1 + k3 = k := ⟨_, rfl⟩
  have eg : IntKind.i64.wrap (1 + (k3 : Int)) = (tg : Int) := by rw [IntWalk.i64_in _ (by omega)]; omega
  clear hk7 hk3 hk5 hp
  obtain ⟨W0, hW0⟩ : ∃ W0, ((w.alloc (Obj.cells #[.int .i64 kd, .int .i64 at_, .int .i64 nn, .slice pa pm pc, .bool on] 49)).alloc (Obj.cells #[.int .i64 c, .int .i64 n] 36)).alloc (Obj.cells #[.int .i64 0, .int .i64 0, .int .i64 0, .int .i64 0, .string ⟨#[]⟩, .slice none 0 0, .int .i64 0, .int .i64 0, .bool false] 42) = W0 := ⟨_, rfl⟩
  have hX : W0.heap[w.heap.size]? = some (Obj.cells #[.int .i64 kd, .int .i64 at_, .int .i64 nn, .slice pa pm pc, .bool on] 49) := by rw [← hW0]; exact (Below.heap_alloc _ _ _ (by simp; omega)).trans ((Below.heap_alloc _ _ _ (by simp)).trans (alloc_last _ _ _ rfl))
  have hY : W0.heap[w.heap.size + 1]? = some (Obj.cells #[.int .i64 c, .int .i64 n] 36) := by rw [← hW0]; exact (Below.heap_alloc _ _ _ (by simp)).trans (alloc_last _ _ _ (by simp))
  have hZ : W0.heap[w.heap.size + 2]? = some (Obj.cells #[.int .i64 0, .int .i64 0, .int .i64 0, .int .i64 0, .string ⟨#[]⟩, .slice none 0 0, .int .i64 0, .int .i64 0, .bool false] 42) := by rw [← hW0]; exact alloc_last _ _ _ (by simp)
  have hB0 : Below w.heap.size w W0 := by rw [← hW0]; exact (((Below.refl w.heap.size w).alloc (Nat.le_refl _) _).alloc (by simp) _).alloc (by simp; omega) _
  have hs0 : W0.heap.size = w.heap.size + 3 := by rw [← hW0]; simp
  obtain ⟨f0, f1, f2, f3, f4⟩ := box5 hX
  have i0 : W0.cell? ⟨w.heap.size + 1, 0, none⟩ = some (.int .i64 c) := by rw [Lib.cell_of_heap hY]; rfl
  have i1 : W0.cell? ⟨w.heap.size + 1, 1, none⟩ = some (.int .i64 n) := by rw [Lib.cell_of_heap hY]; rfl
  go_enter Tryd.func15, Tryd.ntmps15
  go_wp2_with fail
  refine (HK.out _).mono ?_
  rintro e2 w2 ⟨rfl, rfl⟩
  go_upto_region 3 with fail
  have q0 := fun o => (World.cell?_alloc_lt W0 o ⟨w.heap.size, 0, none⟩ (by simp only; omega)).trans f0
  have q1 := fun o => (World.cell?_alloc_lt W0 o ⟨w.heap.size, 1, none⟩ (by simp only; omega)).trans f1
  have q2 := fun o => (World.cell?_alloc_lt W0 o ⟨w.heap.size, 2, none⟩ (by simp only; omega)).trans f2
  have q3 := fun o => (World.cell?_alloc_lt W0 o ⟨w.heap.size, 3, none⟩ (by simp only; omega)).trans f3
  have q4 := fun o => (World.cell?_alloc_lt W0 o ⟨w.heap.size, 4, none⟩ (by simp only; omega)).trans f4
  have hZo : ∀ o, (W0.alloc o).heap[w.heap.size + 2]? = some (Obj.cells #[.int .i64 0, .int .i64 0, .int .i64 0, .int .i64 0, .string ⟨#[]⟩, .slice none 0 0, .int .i64 0, .int .i64 0, .bool false] 42) := fun o => (Below.heap_alloc _ _ _ (by omega)).trans hZ
  have hBo : ∀ o, Below w.heap.size w (W0.alloc o) := fun o => hB0.alloc (by omega) o
  have tx := fun o => ((hT.below (hBo o)).at k5 hk55)
  clear hW0 hX hY hZ f0 f1 f2 f3 f4 i0 i1
  by_cases h6 : k7 = 6
  · subst h6
    go_wp2_with fail
    refine (HK3.out _).mono ?_
    rintro e2 w2 ⟨rfl, rfl⟩
    go_upto_region 7 with fail
    obtain ⟨Wx, hWx⟩ : ∃ Wx, W0.alloc (Obj.cells #[.int .i64 c, .int .i64 n, .int .i64 4, .int .i64 0, .string ⟨#[]⟩, .slice none 0 0, .int .i64 3, .int .i64 tg, .bool on] 42) = Wx := ⟨_, rfl⟩
    have xX : Wx.heap[w.heap.size + 3]? = some (Obj.cells #[.int .i64 c, .int .i64 n, .int .i64 4, .int .i64 0, .string ⟨#[]⟩, .slice none 0 0, .int .i64 3, .int .i64 tg, .bool on] 42) := by rw [← hWx]; exact alloc_last _ _ _ (by omega)
    have xZ : Wx.heap[w.heap.size + 2]? = some (Obj.cells #[.int .i64 0, .int .i64 0, .int .i64 0, .int .i64 0, .string ⟨#[]⟩, .slice none 0 0, .int .i64 0, .int .i64 0, .bool false] 42) := by rw [← hWx]; exact hZo _
    have xB : Below w.heap.size w Wx := by rw [← hWx]; exact hBo _
    rw [hWx]
    clear hWx q0 q1 q2 q3 q4 tx
    obtain ⟨W9, e9, hx9, hB9, hK9⟩ := store9 xZ xB (by omega) (.int .i64 c) (.int .i64 n) (.int .i64 4) (.int .i64 0) (.string ⟨#[]⟩) (.slice none 0 0) (.int .i64 3) (.int .i64 tg) (.bool on)
    obtain ⟨x0, x1, x2, x3, x4, x5, x6, x7, x8⟩ := box9 xX
    obtain ⟨d0, d1, d2, d3, d4, d5, d6, d7, d8⟩ := box9 xZ
    obtain ⟨dz0, dz1, dz2, dz3, dz4, dz5, dz6, dz7, dz8⟩ := wr9 xZ
    obtain ⟨r0, r1, r2, r3, r4, r5, r6, r7, r8⟩ := box9 hx9
    go_wp2_with fail
    try rw [e9]
    refine bodyPost_ret (v := .agg #[.int .i64 c, .int .i64 n, .int .i64 4, .int .i64 0, .string ⟨#[]⟩, .slice none 0 0, .int .i64 3, .int .i64 tg, .bool on]) (by simp [results, Tryd.results15, go_sem, r0, r1, r2, r3, r4, r5, r6, r7, r8]) rfl ⟨⟨c, n, 4, 0, ⟨#[]⟩, [], 3, tg, on⟩, none, 0, 0, rfl, ⟨⟨rfl, rfl⟩, (by show (⟨#[]⟩ : ByteArray).size ≤ 8; decide), .inr (.inl ⟨k3, on, hk33, by rw [htg]⟩)⟩, ownF_nil _ _, hB9⟩

  · have t6 : ((k7 : Int) == 6) = false := beq_eq_false_iff_ne.2 (by omega)
    have t6' : (k7 == 6) = false := beq_eq_false_iff_ne.2 h6
    by_cases h3 : k7 < 3 ∨ t = 0
    · obtain ⟨ts, hts⟩ : ∃ s, txt k5 = s := ⟨_, rfl⟩
      rw [hts] at tx
      have k50 : (0 : Int) ≤ (k5 : Int) := by omega
      have k51 : (k5 : Int) < 5 := by omega
      have HM : Hid (Made c n t ⟨c, n, 1, p, ts, [], 0, 0, false⟩) := by
        rw [← hts]
        exact ⟨⟨rfl, rfl⟩, txt_size _, .inl ⟨p, k5, hpt, hk55, rfl⟩⟩
      have hcs : k7 < 3 ∨ (¬ k7 < 3 ∧ t = 0) := by omega
      rcases hcs with h3 | ⟨h3, h0⟩
      · have t3 : (k7 : Int) < 3 := by omega
        go_wp2_with fail
        refine (HKp.out _).mono ?_
        rintro e2 w2 ⟨rfl, rfl⟩
        go_wp2_with fail
        refine (HK5.out _).mono ?_
        rintro e2 w2 ⟨rfl, rfl⟩
        go_upto_region 12 with fail
        obtain ⟨Wx, hWx⟩ : ∃ Wx, W0.alloc (Obj.cells #[.int .i64 c, .int .i64 n, .int .i64 1, .int .i64 p, .string ts, .slice none 0 0, .int .i64 0, .int .i64 0, .bool false] 42) = Wx := ⟨_, rfl⟩
        have xX : Wx.heap[w.heap.size + 3]? = some (Obj.cells #[.int .i64 c, .int .i64 n, .int .i64 1, .int .i64 p, .string ts, .slice none 0 0, .int .i64 0, .int .i64 0, .bool false] 42) := by rw [← hWx]; exact alloc_last _ _ _ (by omega)
        have xZ : Wx.heap[w.heap.size + 2]? = some (Obj.cells #[.int .i64 0, .int .i64 0, .int .i64 0, .int .i64 0, .string ⟨#[]⟩, .slice none 0 0, .int .i64 0, .int .i64 0, .bool false] 42) := by rw [← hWx]; exact hZo _
        have xB : Below w.heap.size w Wx := by rw [← hWx]; exact hBo _
        rw [hWx]
        clear hWx q0 q1 q2 q3 q4 tx
        obtain ⟨W9, e9, hx9, hB9, hK9⟩ := store9 xZ xB (by omega) (.int .i64 c) (.int .i64 n) (.int .i64 1) (.int .i64 p) (.string ts) (.slice none 0 0) (.int .i64 0) (.int .i64 0) (.bool false)
        obtain ⟨x0, x1, x2, x3, x4, x5, x6, x7, x8⟩ := box9 xX
        obtain ⟨d0, d1, d2, d3, d4, d5, d6, d7, d8⟩ := box9 xZ
        obtain ⟨dz0, dz1, dz2, dz3, dz4, dz5, dz6, dz7, dz8⟩ := wr9 xZ
        obtain ⟨r0, r1, r2, r3, r4, r5, r6, r7, r8⟩ := box9 hx9
        go_wp2_with fail
        try rw [e9]
        refine bodyPost_ret (v := .agg #[.int .i64 c, .int .i64 n, .int .i64 1, .int .i64 p, .string ts, .slice none 0 0, .int .i64 0, .int .i64 0, .bool false]) (by simp [results, Tryd.results15, go_sem, r0, r1, r2, r3, r4, r5, r6, r7, r8]) rfl ⟨⟨c, n, 1, p, ts, [], 0, 0, false⟩, none, 0, 0, rfl, HM.out, ownF_nil _ _, hB9⟩

      · have t3 : decide ((k7 : Int) < 3) = false := decide_eq_false (by omega)
        have t3' : decide (k7 < 3) = false := decide_eq_false h3
        subst h0
        go_wp2_with fail
        refine (HKp.out _).mono ?_
        rintro e2 w2 ⟨rfl, rfl⟩
        go_wp2_with fail
        refine (HK5.out _).mono ?_
        rintro e2 w2 ⟨rfl, rfl⟩
        go_upto_region 12 with fail
        obtain ⟨Wx, hWx⟩ : ∃ Wx, W0.alloc (Obj.cells #[.int .i64 c, .int .i64 n, .int .i64 1, .int .i64 p, .string ts, .slice none 0 0, .int .i64 0, .int .i64 0, .bool false] 42) = Wx := ⟨_, rfl⟩
        have xX : Wx.heap[w.heap.size + 3]? = some (Obj.cells #[.int .i64 c, .int .i64 n, .int .i64 1, .int .i64 p, .string ts, .slice none 0 0, .int .i64 0, .int .i64 0, .bool false] 42) := by rw [← hWx]; exact alloc_last _ _ _ (by omega)
        have xZ : Wx.heap[w.heap.size + 2]? = some (Obj.cells #[.int .i64 0, .int .i64 0, .int .i64 0, .int .i64 0, .string ⟨#[]⟩, .slice none 0 0, .int .i64 0, .int .i64 0, .bool false] 42) := by rw [← hWx]; exact hZo _
        have xB : Below w.heap.size w Wx := by rw [← hWx]; exact hBo _
        rw [hWx]
        clear hWx q0 q1 q2 q3 q4 tx
        obtain ⟨W9, e9, hx9, hB9, hK9⟩ := store9 xZ xB (by omega) (.int .i64 c) (.int .i64 n) (.int .i64 1) (.int .i64 p) (.string ts) (.slice none 0 0) (.int .i64 0) (.int .i64 0) (.bool false)
        obtain ⟨x0, x1, x2, x3, x4, x5, x6, x7, x8⟩ := box9 xX
        obtain ⟨d0, d1, d2, d3, d4, d5, d6, d7, d8⟩ := box9 xZ
        obtain ⟨dz0, dz1, dz2, dz3, dz4, dz5, dz6, dz7, dz8⟩ := wr9 xZ
        obtain ⟨r0, r1, r2, r3, r4, r5, r6, r7, r8⟩ := box9 hx9
        go_wp2_with fail
        try rw [e9]
        refine bodyPost_ret (v := .agg #[.int .i64 c, .int .i64 n, .int .i64 1, .int .i64 p, .string ts, .slice none 0 0, .int .i64 0, .int .i64 0, .bool false]) (by simp [results, Tryd.results15, go_sem, r0, r1, r2, r3, r4, r5, r6, r7, r8]) rfl ⟨⟨c, n, 1, p, ts, [], 0, 0, false⟩, none, 0, 0, rfl, HM.out, ownF_nil _ _, hB9⟩

    · have t3 : decide ((k7 : Int) < 3) = false := decide_eq_false (by omega)
      have t3' : decide (k7 < 3) = false := decide_eq_false (by omega)
      have t0 : ((t : Int) == 0) = false := beq_eq_false_iff_ne.2 (by omega)
      have t0' : (t == 0) = false := beq_eq_false_iff_ne.2 (by omega)
      have t0'' : decide (t = 0) = false := decide_eq_false (by omega)
      have HPk : Hid (∀ W, Below w.heap.size w W → Calls Tryd.prog 41 #[.agg #[.int .i64 kd, .int .i64 at_, .int .i64 nn, .slice pa pm pc, .bool on], .int .i64 (t : Int)] W fun e w' => ∃ va vm vc l, e = .returned (.slice va vm vc) ∧ OwnF rangeV 2 85 w' W.heap.size (.slice va vm vc) l ∧ (l ≠ [] ∧ Sp.Norm (-1) l ∧ (∀ r ∈ l, r.2 ≤ (t : Int)) ∧ l.length ≤ t) ∧ Below W.heap.size W w') := fun W hb => by
        refine (picked_any (h.below hb) (by omega) (by omega)).mono ?_
        rintro e2 w1 ⟨v, l, rfl, ho, h1, h2, h3, h4, hb1⟩
        obtain ⟨xa, xc, rfl⟩ := ho.shape
        exact ⟨_, _, _, l, rfl, ho, ⟨h3, h1, h2, h4⟩, hb1⟩
      clear HK3 HK5 HKp tx
      by_cases h5 : k7 = 5
      · subst h5
        go_upto_region 16 with fail
        obtain ⟨Wx, hWx⟩ : ∃ Wx, W0.alloc (Obj.cells #[.int .i64 c, .int .i64 n, .int .i64 3, .int .i64 0, .string ⟨#[]⟩, .slice none 0 0, .int .i64 0, .int .i64 0, .bool false] 42) = Wx := ⟨_, rfl⟩
        have xX : Wx.heap[w.heap.size + 3]? = some (Obj.cells #[.int .i64 c, .int .i64 n, .int .i64 3, .int .i64 0, .string ⟨#[]⟩, .slice none 0 0, .int .i64 0, .int .i64 0, .bool false] 42) := by rw [← hWx]; exact alloc_last _ _ _ (by omega)
        have xZ : Wx.heap[w.heap.size + 2]? = some (Obj.cells #[.int .i64 0, .int .i64 0, .int .i64 0, .int .i64 0, .string ⟨#[]⟩, .slice none 0 0, .int .i64 0, .int .i64 0, .bool false] 42) := by rw [← hWx]; exact hZo _
        have xB : Below w.heap.size w Wx := by rw [← hWx]; exact hBo _
        have p0 := q0 (Obj.cells #[.int .i64 c, .int .i64 n, .int .i64 3, .int .i64 0, .string ⟨#[]⟩, .slice none 0 0, .int .i64 0, .int .i64 0, .bool false] 42)
        have p1 := q1 (Obj.cells #[.int .i64 c, .int .i64 n, .int .i64 3, .int .i64 0, .string ⟨#[]⟩, .slice none 0 0, .int .i64 0, .int .i64 0, .bool false] 42)
        have p2 := q2 (Obj.cells #[.int .i64 c, .int .i64 n, .int .i64 3, .int .i64 0, .string ⟨#[]⟩, .slice none 0 0, .int .i64 0, .int .i64 0, .bool false] 42)
        have p3 := q3 (Obj.cells #[.int .i64 c, .int .i64 n, .int .i64 3, .int .i64 0, .string ⟨#[]⟩, .slice none 0 0, .int .i64 0, .int .i64 0, .bool false] 42)
        have p4 := q4 (Obj.cells #[.int .i64 c, .int .i64 n, .int .i64 3, .int .i64 0, .string ⟨#[]⟩, .slice none 0 0, .int .i64 0, .int .i64 0, .bool false] 42)
        rw [hWx] at p0 p1 p2 p3 p4
        rw [hWx]
        clear hWx q0 q1 q2 q3 q4
        go_wp2_with fail
        refine (HPk.out _ xB).mono ?_
        rintro e2 w5 ⟨va, vm, vc, l, rfl, ho, hl4, hb5⟩
        have lt3 : w.heap.size + 3 < Wx.heap.size := (Array.getElem?_eq_some_iff.1 xX).1
        have yX := (hb5.block _ lt3).trans xX
        have yZ := (hb5.block _ (Array.getElem?_eq_some_iff.1 xZ).1).trans xZ
        have yB := xB.trans (hb5.mono xB.size)
        clear p0 p1 p2 p3 p4 xX xZ xB hb5 HPk
        obtain ⟨x0, x1, x2, x3, x4, x5, x6, x7, x8⟩ := box9 yX
        obtain ⟨xz0, xz1, xz2, xz3, xz4, xz5, xz6, xz7, xz8⟩ := wr9 yX
        have zB := yB.setCell (p := ⟨w.heap.size + 3, 5, none⟩) (by simp only; omega) (.slice va vm vc)
        have zZ : (w5.setCell ⟨w.heap.size + 3, 5, none⟩ (.slice va vm vc)).heap[w.heap.size + 2]? = some (Obj.cells #[.int .i64 0, .int .i64 0, .int .i64 0, .int .i64 0, .string ⟨#[]⟩, .slice none 0 0, .int .i64 0, .int .i64 0, .bool false] 42) := (Below.heap_setCell _ _ _ _ (by simp)).trans yZ
        have HO2 : Hid (OwnF rangeV 2 85 (w5.setCell ⟨w.heap.size + 3, 5, none⟩ (.slice va vm vc)) Wx.heap.size (.slice va vm vc) l) := (But.set _ _ _ _).own ho lt3
        have HL4 : Hid (l ≠ [] ∧ Sp.Norm (-1) l ∧ (∀ r ∈ l, r.2 ≤ (t : Int)) ∧ l.length ≤ t) := hl4
        clear ho hl4
        obtain ⟨W9, e9, hx9, hB9, hK9⟩ := store9 zZ zB (by omega) (.int .i64 c) (.int .i64 n) (.int .i64 3) (.int .i64 0) (.string ⟨#[]⟩) (.slice va vm vc) (.int .i64 0) (.int .i64 0) (.bool false)
        obtain ⟨d0, d1, d2, d3, d4, d5, d6, d7, d8⟩ := box9 zZ
        obtain ⟨dz0, dz1, dz2, dz3, dz4, dz5, dz6, dz7, dz8⟩ := wr9 zZ
        obtain ⟨r0, r1, r2, r3, r4, r5, r6, r7, r8⟩ := box9 hx9
        go_wp2_with fail
        try rw [e9]
        refine bodyPost_ret (v := .agg #[.int .i64 c, .int .i64 n, .int .i64 3, .int .i64 0, .string ⟨#[]⟩, .slice va vm vc, .int .i64 0, .int .i64 0, .bool false]) (by simp [results, Tryd.results15, go_sem, r0, r1, r2, r3, r4, r5, r6, r7, r8]) rfl ⟨⟨c, n, 3, 0, ⟨#[]⟩, l, 0, 0, false⟩, va, vm, vc, rfl, ⟨⟨rfl, rfl⟩, (by show (⟨#[]⟩ : ByteArray).size ≤ 8; decide), .inr (.inr ⟨3, l, (by omega), (by omega), rfl, HL4.out⟩)⟩, (hK9.own HO2.out (by omega)).mono (by omega), hB9⟩

      · have t5 : ((k7 : Int) == 5) = false := beq_eq_false_iff_ne.2 (by omega)
        have t5' : (k7 == 5) = false := beq_eq_false_iff_ne.2 h5
        go_upto_region 16 with fail
        obtain ⟨Wx, hWx⟩ : ∃ Wx, W0.alloc (Obj.cells #[.int .i64 c, .int .i64 n, .int .i64 2, .int .i64 0, .string ⟨#[]⟩, .slice none 0 0, .int .i64 0, .int .i64 0, .bool false] 42) = Wx := ⟨_, rfl⟩
        have xX : Wx.heap[w.heap.size + 3]? = some (Obj.cells #[.int .i64 c, .int .i64 n, .int .i64 2, .int .i64 0, .string ⟨#[]⟩, .slice none 0 0, .int .i64 0, .int .i64 0, .bool false] 42) := by rw [← hWx]; exact alloc_last _ _ _ (by omega)
        have xZ : Wx.heap[w.heap.size + 2]? = some (Obj.cells #[.int .i64 0, .int .i64 0, .int .i64 0, .int .i64 0, .string ⟨#[]⟩, .slice none 0 0, .int .i64 0, .int .i64 0, .bool false] 42) := by rw [← hWx]; exact hZo _
        have xB : Below w.heap.size w Wx := by rw [← hWx]; exact hBo _
        have p0 := q0 (Obj.cells #[.int .i64 c, .int .i64 n, .int .i64 2, .int .i64 0, .string ⟨#[]⟩, .slice none 0 0, .int .i64 0, .int .i64 0, .bool false] 42)
        have p1 := q1 (Obj.cells #[.int .i64 c, .int .i64 n, .int .i64 2, .int .i64 0, .string ⟨#[]⟩, .slice none 0 0, .int .i64 0, .int .i64 0, .bool false] 42)
        have p2 := q2 (Obj.cells #[.int .i64 c, .int .i64 n, .int .i64 2, .int .i64 0, .string ⟨#[]⟩, .slice none 0 0, .int .i64 0, .int .i64 0, .bool false] 42)
        have p3 := q3 (Obj.cells #[.int .i64 c, .int .i64 n, .int .i64 2, .int .i64 0, .string ⟨#[]⟩, .slice none 0 0, .int .i64 0, .int .i64 0, .bool false] 42)
        have p4 := q4 (Obj.cells #[.int .i64 c, .int .i64 n, .int .i64 2, .int .i64 0, .string ⟨#[]⟩, .slice none 0 0, .int .i64 0, .int .i64 0, .bool false] 42)
        rw [hWx] at p0 p1 p2 p3 p4
        rw [hWx]
        clear hWx q0 q1 q2 q3 q4
        go_wp2_with fail
        refine (HPk.out _ xB).mono ?_
        rintro e2 w5 ⟨va, vm, vc, l, rfl, ho, hl4, hb5⟩
        have lt3 : w.heap.size + 3 < Wx.heap.size := (Array.getElem?_eq_some_iff.1 xX).1
        have yX := (hb5.block _ lt3).trans xX
        have yZ := (hb5.block _ (Array.getElem?_eq_some_iff.1 xZ).1).trans xZ
        have yB := xB.trans (hb5.mono xB.size)
        clear p0 p1 p2 p3 p4 xX xZ xB hb5 HPk
        obtain ⟨x0, x1, x2, x3, x4, x5, x6, x7, x8⟩ := box9 yX
        obtain ⟨xz0, xz1, xz2, xz3, xz4, xz5, xz6, xz7, xz8⟩ := wr9 yX
        have zB := yB.setCell (p := ⟨w.heap.size + 3, 5, none⟩) (by simp only; omega) (.slice va vm vc)
        have zZ : (w5.setCell ⟨w.heap.size + 3, 5, none⟩ (.slice va vm vc)).heap[w.heap.size + 2]? = some (Obj.cells #[.int .i64 0, .int .i64 0, .int .i64 0, .int .i64 0, .string ⟨#[]⟩, .slice none 0 0, .int .i64 0, .int .i64 0, .bool false] 42) := (Below.heap_setCell _ _ _ _ (by simp)).trans yZ
        have HO2 : Hid (OwnF rangeV 2 85 (w5.setCell ⟨w.heap.size + 3, 5, none⟩ (.slice va vm vc)) Wx.heap.size (.slice va vm vc) l) := (But.set _ _ _ _).own ho lt3
        have HL4 : Hid (l ≠ [] ∧ Sp.Norm (-1) l ∧ (∀ r ∈ l, r.2 ≤ (t : Int)) ∧ l.length ≤ t) := hl4
        clear ho hl4
        obtain ⟨W9, e9, hx9, hB9, hK9⟩ := store9 zZ zB (by omega) (.int .i64 c) (.int .i64 n) (.int .i64 2) (.int .i64 0) (.string ⟨#[]⟩) (.slice va vm vc) (.int .i64 0) (.int .i64 0) (.bool false)
        obtain ⟨d0, d1, d2, d3, d4, d5, d6, d7, d8⟩ := box9 zZ
        obtain ⟨dz0, dz1, dz2, dz3, dz4, dz5, dz6, dz7, dz8⟩ := wr9 zZ
        obtain ⟨r0, r1, r2, r3, r4, r5, r6, r7, r8⟩ := box9 hx9
        go_wp2_with fail
        try rw [e9]
        refine bodyPost_ret (v := .agg #[.int .i64 c, .int .i64 n, .int .i64 2, .int .i64 0, .string ⟨#[]⟩, .slice va vm vc, .int .i64 0, .int .i64 0, .bool false]) (by simp [results, Tryd.results15, go_sem, r0, r1, r2, r3, r4, r5, r6, r7, r8]) rfl ⟨⟨c, n, 2, 0, ⟨#[]⟩, l, 0, 0, false⟩, va, vm, vc, rfl, ⟨⟨rfl, rfl⟩, (by show (⟨#[]⟩ : ByteArray).size ≤ 8; decide), .inr (.inr ⟨2, l, (by omega), (by omega), rfl, HL4.out⟩)⟩, (hK9.own HO2.out (by omega)).mono (by omega), hB9⟩
end Go.Proofs.YtlebbffpbbjakaaDoor
