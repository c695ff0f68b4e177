import Derived.Test.YtdmhajlhpieedaaLdD
/-! The reference's Deliver and Copy. -/
namespace Go.Proofs.Ytdmhajlhpieedaa
open Go.RowKit Go.Lib Go.Shelf
set_option maxRecDepth 100000

section
variable {W : World} {r : Nat} {S : Lk} {rv : Value} {ys l t : List X} {x : X}
set_option maxHeartbeats 2000000 in
theorem rdeliver_miss (h : RefAt W r S rv ys) (hO : S.Ok) (k : Int) (hl : ∀ y ∈ ys, (y.num : Int) ≠ k) : Calls Try.prog 35 #[.pointer (some ⟨r, 0, none⟩), .int .i64 k] W fun e w' => e = .returned (.tuple #[zv, .int .i64 160]) ∧ Below W.heap.size W w' := by
  obtain ⟨W0, hW0⟩ : ∃ W0, W.alloc (.cells #[.int .i64 0, .int .i64 0, .int .i64 0, .slice none 0 0, .bool false] 73) = W0 := ⟨_, rfl⟩
  have hB0 : Below W.heap.size W W0 := by rw [← hW0]; exact (Below.refl _ _).alloc (Nat.le_refl _) _
  have hx0 : W0.heap[W.heap.size]? = some (.cells #[.int .i64 0, .int .i64 0, .int .i64 0, .slice none 0 0, .bool false] 73) := by rw [← hW0]; exact heap_alloc_new W _
  have HA := at_miss (h.below hB0) hO k hl
  obtain ⟨⟨r0, r1, r2, r3, r4⟩, z0, z1, z2, z3, z4⟩ := five_cells hx0
  have e0 := setCell_self r0
  have e1 := setCell_self r1
  have e2 := setCell_self r2
  have e3 := setCell_self r3
  have e4 := setCell_self r4
  have hb' : Hid (Below W.heap.size W W0) := hB0
  clear h hO hl hx0 hB0
  go_enter Try.func35, Try.ntmps35
  go_wp2_with fail
  refine HA.mono ?_
  rintro e w1 ⟨rfl, hw⟩
  obtain rfl := hw.symm
  clear hw HA
  go_wp2_with fail
  refine bodyPost_ret (v := .tuple #[zv, .int .i64 160]) (by simp [results, Try.results35, go_sem, r0, r1, r2, r3, r4, zv]) rfl ?_
  exact ⟨rfl, hb'.out⟩
/-- What the reference hands out. -/
def RHandP (W : World) (r : Nat) (S : Lk) (rv : Value) (l t : List X) (x : X) (a' : Option Addr) (c' : Nat) (W' : World) : Prop := Rw byU 1 W' a' x.bs.length c' x.bs ∧ RNx W W' r rv (l ++ x :: t) (cutS S l t)
set_option maxHeartbeats 4000000 in
theorem rdeliver_hit (h : RefAt W r S rv (l ++ x :: t)) (hO : S.Ok) (k : Int) (hk : (x.num : Int) = k) (hl : ∀ y ∈ l, (y.num : Int) ≠ k) (hxb : x.bs.length ≤ 140737488355328) : Calls Try.prog 35 #[.pointer (some ⟨r, 0, none⟩), .int .i64 k] W fun e w' => ∃ a' c', e = .returned (.tuple #[.agg #[.int .i64 (x.num : Int), .int .i64 x.fr, .int .i64 x.tt, .slice a' x.bs.length c', .bool x.sp], .int .i64 0]) ∧ RHandP W r S rv l t x a' c' w' := by
  obtain ⟨W0, hW0⟩ : ∃ W0, W.alloc (.cells #[.int .i64 0, .int .i64 0, .int .i64 0, .slice none 0 0, .bool false] 73) = W0 := ⟨_, rfl⟩
  have hB0 : Below W.heap.size W W0 := by rw [← hW0]; exact (Below.refl _ _).alloc (Nat.le_refl _) _
  have hs0 : W0.heap.size = W.heap.size + 1 := by rw [← hW0]; exact World.size_alloc ..
  have hx0 : W0.heap[W.heap.size]? = some (.cells #[.int .i64 0, .int .i64 0, .int .i64 0, .slice none 0 0, .bool false] 73) := by rw [← hW0]; exact heap_alloc_new W _
  have hL0 := h.below hB0
  have HA := at_hit hL0 hO k hk hl
  obtain ⟨a, cap, erv, _, _⟩ := hL0.row.shape
  have hR := hL0.row
  rw [erv] at hR
  obtain ⟨g, off, y, ea, _, hy, hc⟩ := (hR.rw_ layV).at l.length (by simp)
  obtain rfl : x = y := by simp at hy; exact hy
  subst ea
  have q3 := (box4 hL0.box).2.2.2
  rw [erv] at q3
  obtain ⟨n, hn⟩ : ∃ n, (l ++ x :: t).length = n := ⟨_, rfl⟩
  obtain ⟨m, hm⟩ : ∃ m, l.length = m := ⟨_, rfl⟩
  have hmn : m < n := by rw [← hn, ← hm]; simp
  have hnl : n ≤ 1048576 := by rw [← hn]; exact h.le hO
  rw [hn] at q3
  rw [hm] at HA hc
  have c0 := hc 0 _ rfl
  have c1 := hc 1 _ rfl
  have c2 := hc 2 _ rfl
  have c3 := hc 3 _ rfl
  have c4 := hc 4 _ rfl
  simp only [Nat.add_zero] at c0
  have hmn2 : (m : Int) < (n : Int) := by omega
  have hm0 : ¬ (m : Int) < 0 := by omega
  obtain ⟨bl, hbl⟩ : ∃ bl, x.bs.length = bl := ⟨_, rfl⟩
  obtain ⟨nu, hnu⟩ : ∃ nu : Int, (x.num : Int) = nu := ⟨_, rfl⟩
  have HC := clone_any (W := W0) nu x.fr x.tt x.sp ((hL0.own x (by simp)).rw_ layU) (hbl ▸ hxb)
  rw [hbl] at c3 HC
  rw [hnu] at c0
  have HW : Hid (RefAt W r S rv (l ++ x :: t) ∧ S.Ok ∧ (x.num : Int) = k ∧ (∀ y ∈ l, (y.num : Int) ≠ k)) := ⟨h, hO, hk, hl⟩
  have HB0 : Hid (Below W.heap.size W W0 ∧ W0.heap.size = W.heap.size + 1 ∧ W0.heap[W.heap.size]? = some (.cells #[.int .i64 0, .int .i64 0, .int .i64 0, .slice none 0 0, .bool false] 73) ∧ x.bs.length = bl) := ⟨hB0, hs0, hx0, hbl⟩
  obtain ⟨b0, hb0⟩ : ∃ b0, W.heap.size = b0 := ⟨_, rfl⟩
  rw [hnu]
  rw [hbl]
  clear h hO hk hl hx0 hB0 hs0 hL0 erv hR hy hc hn hm hnl hbl hnu hxb
  go_enter Try.func35, Try.ntmps35
  go_wp2_with fail
  refine HA.mono ?_
  rintro e w1 ⟨rfl, hw⟩
  obtain rfl := hw.symm
  clear hw HA
  go_wp2_with fail
  refine HC.mono ?_
  rintro e w1 ⟨a', c', rfl, hQ⟩
  clear HC q3 c0 c1 c2 c3 c4
  obtain ⟨V1, hV1⟩ : ∃ V1, w1.alloc (.cells #[.int .i64 0, .int .i64 0, .int .i64 0, .slice none 0 0, .bool false] 73) = V1 := ⟨_, rfl⟩
  have y4 : V1.heap[w1.heap.size]? = some (.cells #[.int .i64 0, .int .i64 0, .int .i64 0, .slice none 0 0, .bool false] 73) := by rw [← hV1]; exact heap_alloc_new w1 _
  have hB1 : Below w1.heap.size w1 V1 := by rw [← hV1]; exact (Below.refl _ _).alloc (Nat.le_refl _) _
  have hs1 : V1.heap.size = w1.heap.size + 1 := by rw [← hV1]; exact World.size_alloc ..
  obtain ⟨V, hV, hx5, hC5⟩ := set5 (A := []) (B := []) (o := 0) (W := V1) (g := w1.heap.size) (by simpa using y4) rfl (.int .i64 nu) (.int .i64 x.fr) (.int .i64 x.tt) (.slice a' bl c') (.bool x.sp)
  simp only [Nat.zero_add] at hV
  have hx5' : V.heap[w1.heap.size]? = some (.cells #[.int .i64 nu, .int .i64 x.fr, .int .i64 x.tt, .slice a' bl c', .bool x.sp] 73) := by simpa using hx5
  obtain ⟨⟨t0, t1, t2, t3, t4⟩, z0, z1, z2, z3, z4⟩ := five_cells y4
  have hsz := hQ.2.size
  have hs0 := HB0.out.2.1
  have hBV : Below W0.heap.size W0 V := hQ.2.trans ((hB1.mono hsz).trans (hC5.below (fun k e => by omega) (by omega)))
  have hBW : Below W.heap.size W V := HB0.out.1.trans (hBV.mono (by omega))
  have HD := rdrop_hit (HW.out.1.below hBW) HW.out.2.1 k HW.out.2.2.1 HW.out.2.2.2
  have hoV : OwnF byU 1 5 V W0.heap.size (.slice a' bl c') x.bs := (hQ.1.chg (D := fun k => w1.heap.size ≤ k) (Chg.of_below hB1) (fun k hk e => by have := hQ.1.lt hk; omega)).chg hC5 (fun k hk e => by have := hQ.1.lt hk; omega)
  have HV : Hid (Below W.heap.size W V ∧ Below W0.heap.size W0 V ∧ OwnF byU 1 5 V W0.heap.size (.slice a' bl c') x.bs ∧ W0.heap.size ≤ w1.heap.size ∧ V.heap[w1.heap.size]? = some (.cells #[.int .i64 nu, .int .i64 x.fr, .int .i64 x.tt, .slice a' bl c', .bool x.sp] 73)) := ⟨hBW, hBV, hoV, by omega, hx5'⟩
  clear hx5 hx5' hC5 y4 hB1 hs1 hQ hsz hs0 hBV hBW hoV
  go_wp2_with fail
  refine HD.mono ?_
  rintro e w2 ⟨rfl, hN⟩
  obtain ⟨hBW, hBV, hoV, hgg, hxV⟩ := HV.out
  have hN' := hN
  obtain ⟨rv2, ys2, hL2, hC2, hb2⟩ := hN'
  have hs0 := HB0.out.2.1
  have hnb : ∀ k, W.heap.size ≤ k → ¬ RBk r rv (l ++ x :: t) k := fun k hk e => by have := HW.out.1.lt e; omega
  have y2 : w2.heap[w1.heap.size]? = _ := hC2.block hxV (hnb w1.heap.size (by omega))
  have y3 : w2.heap[W.heap.size]? = _ := hC2.block ((hBV.block W.heap.size (by omega)).trans HB0.out.2.2.1) (hnb _ (Nat.le_refl _))
  rw [hb0] at y3
  obtain ⟨w9, hw9, hx9, hC9⟩ := set5 (A := []) (B := []) (o := 0) (W := w2) (g := b0) (by simpa using y3) rfl (.int .i64 nu) (.int .i64 x.fr) (.int .i64 x.tt) (.slice a' bl c') (.bool x.sp)
  simp only [Nat.zero_add] at hw9
  have hx9' : w9.heap[b0]? = some (.cells #[.int .i64 nu, .int .i64 x.fr, .int .i64 x.tt, .slice a' bl c', .bool x.sp] 73) := by simpa using hx9
  obtain ⟨p0, p1, p2, p3, p4⟩ := box5 y2
  obtain ⟨⟨t0, t1, t2, t3, t4⟩, z0, z1, z2, z3, z4⟩ := five_cells y3
  obtain ⟨v0, v1, v2, v3, v4⟩ := box5 hx9'
  have hF : Hid (RHandP W r S rv l t x a' c' w9) := by
    refine ⟨?_, ?_⟩
    · have h1 := (hoV.chg hC2 (fun k hk e => hnb k (by have := hoV.ge hk; omega) e)).chg hC9 (fun k hk e => by have := hoV.ge hk; omega)
      rw [HB0.out.2.2.2]
      exact h1.rw_ layU
    · obtain ⟨rv3, ys3, hL3, hC3, hb3⟩ := hN
      have hbd : ∀ k, RBk r rv3 ys3 k → k ≠ b0 := fun k hk e => by
        rcases hb3 k hk with e1 | e1
        · have := HW.out.1.lt e1; omega
        · have := hBV.size; omega
      refine ⟨rv3, ys3, hL3.chg hC9 (fun k hk e => hbd k hk e), ((Chg.of_below hBW).trans hC3).then hC9 (fun k e => .inr (by omega)), fun k hk => ?_⟩
      rcases hb3 k hk with e1 | e1
      · exact .inl e1
      · have := hBW.size; exact .inr (by omega)
  clear hN hL2 hC2 hb2 hs0 hnb y2 y3 hx9 hC9 hx9' hBW hBV hoV hgg hxV HV
  go_wp2_with fail
  refine bodyPost_ret (v := .tuple #[.agg #[.int .i64 nu, .int .i64 x.fr, .int .i64 x.tt, .slice a' bl c', .bool x.sp], .int .i64 0]) (by simp [results, Try.results35, go_sem, v0, v1, v2, v3, v4]) rfl ?_
  exact ⟨a', c', rfl, hF.out⟩
set_option maxHeartbeats 2000000 in
theorem rcopy_miss (h : RefAt W r S rv ys) (hO : S.Ok) (k : Int) (hl : ∀ y ∈ ys, (y.num : Int) ≠ k) : Calls Try.prog 39 #[.pointer (some ⟨r, 0, none⟩), .int .i64 k] W fun e w' => e = .returned (.tuple #[.int .i64 0, .int .i64 160]) ∧ w' = W := by
  have HA := at_miss h hO k hl
  clear h hO hl
  go_enter Try.func39, Try.ntmps39
  go_wp2_with fail
  refine HA.mono ?_
  rintro e w1 ⟨rfl, hw⟩
  obtain rfl := hw.symm
  clear hw HA
  go_wp2_with fail
  go_ret2
  exact ⟨rfl, rfl⟩
set_option maxHeartbeats 8000000 in
theorem rcopy_hit (h : RefAt W r S rv (l ++ x :: t)) (hO : S.Ok) (k : Int) (hk : (x.num : Int) = k) (hl : ∀ y ∈ l, (y.num : Int) ≠ k) (hxb : x.bs.length ≤ 140737488355328) : Calls Try.prog 39 #[.pointer (some ⟨r, 0, none⟩), .int .i64 k] W fun e w' => (S.most ≤ S.fl.length → e = .returned (.tuple #[.int .i64 0, .int .i64 161]) ∧ Below W.heap.size W w') ∧ (S.fl.length < S.most → e = .returned (.tuple #[.int .i64 (S.next : Int), .int .i64 0]) ∧ RNx W w' r rv (l ++ x :: t) (begS S ⟨S.next, x.fr, x.tt, x.bs, x.sp⟩)) := by
  have HA := at_hit h hO k hk hl
  have hB : Below W.heap.size W W.drew.drew := (Below.refl _ _).drew.drew
  have hL0 := h.below hB
  obtain ⟨a, cap, erv, _, _⟩ := hL0.row.shape
  have hR := hL0.row
  rw [erv] at hR
  obtain ⟨g, off, y, ea, _, hy, hc⟩ := (hR.rw_ layV).at l.length (by simp)
  obtain rfl : x = y := by simp at hy; exact hy
  subst ea
  obtain ⟨_, q1, _, q3⟩ := box4 hL0.box
  rw [erv] at q3
  obtain ⟨n, hn⟩ : ∃ n, (l ++ x :: t).length = n := ⟨_, rfl⟩
  obtain ⟨m, hm⟩ : ∃ m, l.length = m := ⟨_, rfl⟩
  obtain ⟨mo, hmo⟩ : ∃ mo : Int, (S.most : Int) = mo := ⟨_, rfl⟩
  have hmn : m < n := by rw [← hn, ← hm]; simp
  have hln : S.fl.length = n := by rw [← hn, h.len]
  rw [hn] at q3
  rw [hmo] at q1
  rw [hm] at HA hc
  have c1 := hc 1 _ rfl
  have c2 := hc 2 _ rfl
  have c3 := hc 3 _ rfl
  have c4 := hc 4 _ rfl
  have hmn2 : (m : Int) < (n : Int) := by omega
  have hm0 : ¬ (m : Int) < 0 := by omega
  have HSS : Hid ((fun w => w.cell? ⟨r, 1, none⟩ = some (.int .i64 mo) ∧ w.cell? ⟨r, 3, none⟩ = some (.slice (some ⟨g, off, none⟩) n cap)) W.drew) := ⟨q1, q3⟩
  obtain ⟨bl, hbl⟩ : ∃ bl, x.bs.length = bl := ⟨_, rfl⟩
  have HOO : Hid (S.Ok ∧ (S.most : Int) = mo ∧ S.fl.length = n) := ⟨hO, hmo, hln⟩
  have HG0 : S.fl.length < S.most → Hid (Calls Try.prog 54 #[.pointer (some ⟨r, 0, none⟩), .agg #[.int .i64 x.fr, .int .i64 x.tt, .slice x.a bl x.cap], .bool x.sp] W.drew.drew fun e W' => e = .returned (.int .i64 (S.next : Int)) ∧ RNx W.drew.drew W' r rv (l ++ x :: t) (begS S ⟨S.next, x.fr, x.tt, x.bs, x.sp⟩)) := fun hlt => radd_any hL0 hO (by have := hO.most; omega) x.fr x.tt (hbl ▸ (hL0.own x (by simp)).rw_ layU) (hbl ▸ hxb) x.sp
  have HST : Hid (∀ w2, RNx W.drew.drew w2 r rv (l ++ x :: t) (begS S ⟨S.next, x.fr, x.tt, x.bs, x.sp⟩) → RNx W w2 r rv (l ++ x :: t) (begS S ⟨S.next, x.fr, x.tt, x.bs, x.sp⟩)) := fun w2 h2 => rnx_step (Chg.of_below hB) (fun g hg => .inl hg) h2
  have HB : Hid (Below W.heap.size W W.drew) := (Below.refl _ _).drew
  rw [hbl] at c3
  obtain ⟨ys, hys⟩ : ∃ ys, l ++ x :: t = ys := ⟨_, rfl⟩
  rw [hys] at HG0 HST ⊢
  by_cases hlt : S.fl.length < S.most
  · have HG := HG0 hlt
    have hge : ¬ mo ≤ (n : Int) := by omega
    obtain ⟨nx, hnx⟩ : ∃ nx : Int, (S.next : Int) = nx := ⟨_, rfl⟩
    rw [hnx] at HG ⊢
    have q3b : W.drew.drew.cell? ⟨r, 3, none⟩ = some (.slice (some ⟨g, off, none⟩) n cap) := q3
    suffices hs : Calls Try.prog 39 #[.pointer (some ⟨r, 0, none⟩), .int .i64 k] W fun e w' => e = .returned (.tuple #[.int .i64 nx, .int .i64 0]) ∧ RNx W w' r rv ys (begS S ⟨S.next, x.fr, x.tt, x.bs, x.sp⟩) from hs.mono (fun e w' hh => ⟨fun h1 => absurd hlt (by omega), fun _ => hh⟩)
    clear h hO hk hl hxb hL0 erv hR hy hc hn hm hmo hln hbl hnx HG0 hlt hB hys q1 q3 HB HOO
    go_enter Try.func39, Try.ntmps39
    go_wp2_with fail
    refine HA.mono ?_
    rintro e w1 ⟨rfl, hw⟩
    obtain rfl := hw.symm
    clear hw HA
    go_wp2_with fail
    refine wp_region_held_drew (S := (fun w => w.cell? ⟨r, 1, none⟩ = some (.int .i64 mo) ∧ w.cell? ⟨r, 3, none⟩ = some (.slice (some ⟨g, off, none⟩) n cap))) (by kernel_rfl) ?hSx (fun hHeld => ?restx)
    case hSx => exact HSS.out
    refine takeD (i := 0) (d := some 12) (v := ?vT57) rfl rfl (by kernel_rfl) (by kernel_rfl) (by kernel_rfl) (fun _ _ _ h => h) (Or.inl ⟨by rfl, ?hyT57⟩) (by assumption) ?rstT57
    case hyT57 => (intro w hSw; (try dsimp only at hSw); obtain ⟨s0, s1⟩ := hSw; go_simp; (try with_reducible rfl))
    try simp only [Act.put, List.setIfInBounds_toArray, List.set_cons_zero, List.set_cons_succ]
    refine takeD (i := 1) (d := some 13) (v := ?vT58) rfl rfl (by kernel_rfl) (by kernel_rfl) (by kernel_rfl) (fun _ _ _ h => h) (Or.inl ⟨by rfl, ?hyT58⟩) (by assumption) ?rstT58
    case hyT58 => (intro w hSw; (try dsimp only at hSw); obtain ⟨s0, s1⟩ := hSw; go_simp; (try with_reducible rfl))
    try simp only [Act.put, List.setIfInBounds_toArray, List.set_cons_zero, List.set_cons_succ]
    refine takeD (i := 2) (d := some 14) (v := ?vT59) rfl rfl (by kernel_rfl) (by kernel_rfl) (by kernel_rfl) (fun _ _ _ h => h) (Or.inl ⟨by rfl, ?hyT59⟩) (by assumption) ?rstT59
    case hyT59 => (intro w hSw; (try dsimp only at hSw); obtain ⟨s0, s1⟩ := hSw; go_simp; (try with_reducible rfl))
    try simp only [Act.put, List.setIfInBounds_toArray, List.set_cons_zero, List.set_cons_succ]
    refine takeD (i := 3) (d := some 15) (v := ?vT60) rfl rfl (by kernel_rfl) (by kernel_rfl) (by kernel_rfl) (fun _ _ _ h => h) (Or.inl ⟨by rfl, ?hyT60⟩) (by assumption) ?rstT60
    case hyT60 => (intro w hSw; (try dsimp only at hSw); obtain ⟨s0, s1⟩ := hSw; go_simp; (try with_reducible rfl))
    try simp only [Act.put, List.setIfInBounds_toArray, List.set_cons_zero, List.set_cons_succ]
    refine takeD (i := 4) (d := some 16) (v := ?vT61) rfl rfl (by kernel_rfl) (by kernel_rfl) (by kernel_rfl) (fun _ _ _ h => h) (Or.inl ⟨by rfl, ?hyT61⟩) (by assumption) ?rstT61
    case hyT61 => (intro w hSw; (try dsimp only at hSw); obtain ⟨s0, s1⟩ := hSw; go_simp; (try with_reducible rfl))
    try simp only [Act.put, List.setIfInBounds_toArray, List.set_cons_zero, List.set_cons_succ]
    refine takeD (i := 5) (d := some 17) (v := ?vT62) rfl rfl (by kernel_rfl) (by kernel_rfl) (by kernel_rfl) (fun _ _ _ h => h) (Or.inl ⟨by rfl, ?hyT62⟩) (by assumption) ?rstT62
    case hyT62 => (intro w hSw; (try dsimp only at hSw); obtain ⟨s0, s1⟩ := hSw; go_simp; (try with_reducible rfl))
    try simp only [Act.put, List.setIfInBounds_toArray, List.set_cons_zero, List.set_cons_succ]
    refine takeD (i := 6) (d := some 18) (v := ?vT63) rfl rfl (by kernel_rfl) (by kernel_rfl) (by kernel_rfl) (fun _ _ _ h => h) (Or.inl ⟨by rfl, ?hyT63⟩) (by assumption) ?rstT63
    case hyT63 => (intro w hSw; (try dsimp only at hSw); obtain ⟨s0, s1⟩ := hSw; go_simp; (try with_reducible rfl))
    try simp only [Act.put, List.setIfInBounds_toArray, List.set_cons_zero, List.set_cons_succ]
    refine takeD (i := 7) (d := some 19) (v := ?vT64) rfl rfl (by kernel_rfl) (by kernel_rfl) (by kernel_rfl) (fun _ _ _ h => h) (Or.inl ⟨by rfl, ?hyT64⟩) (by assumption) ?rstT64
    case hyT64 => (intro w hSw; (try dsimp only at hSw); obtain ⟨s0, s1⟩ := hSw; go_simp; (try with_reducible rfl))
    try simp only [Act.put, List.setIfInBounds_toArray, List.set_cons_zero, List.set_cons_succ]
    refine takeD (i := 8) (d := some 20) (v := ?vT65) rfl rfl (by kernel_rfl) (by kernel_rfl) (by kernel_rfl) (fun _ _ _ h => h) (Or.inl ⟨by rfl, ?hyT65⟩) (by assumption) ?rstT65
    case hyT65 => (intro w hSw; (try dsimp only at hSw); obtain ⟨s0, s1⟩ := hSw; go_simp; (try with_reducible rfl))
    try simp only [Act.put, List.setIfInBounds_toArray, List.set_cons_zero, List.set_cons_succ]
    refine takeD (i := 9) (d := some 21) (v := ?vT66) rfl rfl (by kernel_rfl) (by kernel_rfl) (by kernel_rfl) (fun _ _ _ h => h) (Or.inl ⟨by rfl, ?hyT66⟩) (by assumption) ?rstT66
    case hyT66 => (intro w hSw; (try dsimp only at hSw); obtain ⟨s0, s1⟩ := hSw; go_simp; (try with_reducible rfl))
    try simp only [Act.put, List.setIfInBounds_toArray, List.set_cons_zero, List.set_cons_succ]
    refine wpAnyH_done (by kernel_rfl) ?_ _
    clear hHeld
    go_wp2_with fail
    refine wp_region_any (by kernel_rfl) ?_
    show wpAny _ _ _ _ _ _ _ W.drew.drew
    refine takeA (i := 0) (d := some 22) (v := ?vT11) rfl rfl (by kernel_rfl) (by kernel_rfl) (by kernel_rfl) (fun _ _ _ h => h) (Or.inl ⟨by rfl, ?hyT11⟩) ?rstT11
    case hyT11 => (intro w; go_simp; (try with_reducible rfl))
    try simp only [Act.put, List.setIfInBounds_toArray, List.set_cons_zero, List.set_cons_succ]
    refine takeA (i := 1) (d := some 23) (v := ?vT12) rfl rfl (by kernel_rfl) (by kernel_rfl) (by kernel_rfl) (fun _ _ _ h => h) (Or.inl ⟨by rfl, ?hyT12⟩) ?rstT12
    case hyT12 => (intro w; go_simp; (try with_reducible rfl))
    try simp only [Act.put, List.setIfInBounds_toArray, List.set_cons_zero, List.set_cons_succ]
    refine takeA (i := 2) (d := some 24) (v := ?vT13) rfl rfl (by kernel_rfl) (by kernel_rfl) (by kernel_rfl) (fun _ _ _ h => h) (Or.inl ⟨by rfl, ?hyT13⟩) ?rstT13
    case hyT13 => (intro w; go_simp; (try with_reducible rfl))
    try simp only [Act.put, List.setIfInBounds_toArray, List.set_cons_zero, List.set_cons_succ]
    refine takeA (i := 3) (d := some 25) (v := ?vT14) rfl rfl (by kernel_rfl) (by kernel_rfl) (by kernel_rfl) (fun _ _ _ h => h) (Or.inl ⟨by rfl, ?hyT14⟩) ?rstT14
    case hyT14 => (intro w; go_simp; (try with_reducible rfl))
    try simp only [Act.put, List.setIfInBounds_toArray, List.set_cons_zero, List.set_cons_succ]
    refine takeA (i := 5) (d := some 27) (v := ?vT15) rfl rfl (by kernel_rfl) (by kernel_rfl) (by kernel_rfl) (fun _ _ _ h => h) (Or.inl ⟨by rfl, ?hyT15⟩) ?rstT15
    case hyT15 => (intro w; go_simp; (try with_reducible rfl))
    try simp only [Act.put, List.setIfInBounds_toArray, List.set_cons_zero, List.set_cons_succ]
    refine takeA (i := 9) (d := some 31) (v := ?vT16) rfl rfl (by kernel_rfl) (by kernel_rfl) (by kernel_rfl) (fun _ _ _ h => h) (Or.inl ⟨by rfl, ?hyT16⟩) ?rstT16
    case hyT16 => (intro w; go_simp; (try with_reducible rfl))
    try simp only [Act.put, List.setIfInBounds_toArray, List.set_cons_zero, List.set_cons_succ]
    refine takeA (i := 10) (d := some 32) (v := ?vT17) rfl rfl (by kernel_rfl) (by kernel_rfl) (by kernel_rfl) (fun _ _ _ h => h) (Or.inl ⟨by rfl, ?hyT17⟩) ?rstT17
    case hyT17 => (intro w; go_simp; (try with_reducible rfl))
    try simp only [Act.put, List.setIfInBounds_toArray, List.set_cons_zero, List.set_cons_succ]
    refine takeA (i := 11) (d := some 33) (v := ?vT18) rfl rfl (by kernel_rfl) (by kernel_rfl) (by kernel_rfl) (fun _ _ _ h => h) (Or.inl ⟨by rfl, ?hyT18⟩) ?rstT18
    case hyT18 => (intro w; go_simp; (try with_reducible rfl))
    try simp only [Act.put, List.setIfInBounds_toArray, List.set_cons_zero, List.set_cons_succ]
    refine takeA (i := 13) (d := some 35) (v := ?vT19) rfl rfl (by kernel_rfl) (by kernel_rfl) (by kernel_rfl) (fun _ _ _ h => h) (Or.inl ⟨by rfl, ?hyT19⟩) ?rstT19
    case hyT19 => (intro w; go_simp; (try with_reducible rfl))
    try simp only [Act.put, List.setIfInBounds_toArray, List.set_cons_zero, List.set_cons_succ]
    refine wpAny_ready (rs := [4, 12]) (by kernel_rfl) (by simp) (consS rfl (fun K hK => ?bA20) (consS rfl (fun K hK => ?bB20) AllReady.nil))
    case bA20 =>
      go_simp
      refine hK.out _ _ ?_
      clear hK K
      try simp only [Act.put, List.setIfInBounds_toArray, List.set_cons_zero, List.set_cons_succ]
      refine takeA (i := 6) (d := some 28) (v := ?vT21) rfl rfl (by kernel_rfl) (by kernel_rfl) (by kernel_rfl) (fun _ _ _ h => h) (Or.inl ⟨by rfl, ?hyT21⟩) ?rstT21
      case hyT21 => (intro w; go_simp; (try with_reducible rfl))
      try simp only [Act.put, List.setIfInBounds_toArray, List.set_cons_zero, List.set_cons_succ]
      refine takeA (i := 7) (d := some 29) (v := ?vT22) rfl rfl (by kernel_rfl) (by kernel_rfl) (by kernel_rfl) (fun _ _ _ h => h) (Or.inl ⟨by rfl, ?hyT22⟩) ?rstT22
      case hyT22 => (intro w; go_simp; (try with_reducible rfl))
      try simp only [Act.put, List.setIfInBounds_toArray, List.set_cons_zero, List.set_cons_succ]
      refine wpAny_ready (rs := [8, 12]) (by kernel_rfl) (by simp) (consS rfl (fun K hK => ?bA23) (consS rfl (fun K hK => ?bB23) AllReady.nil))
      case bA23 =>
        go_simp
        refine hK.out _ _ ?_
        clear hK K
        try simp only [Act.put, List.setIfInBounds_toArray, List.set_cons_zero, List.set_cons_succ]
        refine wpAny_ready (rs := [12]) (by kernel_rfl) (by simp) (consS rfl (fun K hK => ?_) AllReady.nil)
        go_simp
        refine hK.out _ _ ?_
        clear hK K
        try simp only [Act.put, List.setIfInBounds_toArray, List.set_cons_zero, List.set_cons_succ]
        refine takeA (i := 14) (d := some 36) (v := ?vT25) rfl rfl (by kernel_rfl) (by kernel_rfl) (by kernel_rfl) (fun _ _ _ h => h) (Or.inl ⟨by rfl, ?hyT25⟩) ?rstT25
        case hyT25 => (intro w; go_simp; (try with_reducible rfl))
        try simp only [Act.put, List.setIfInBounds_toArray, List.set_cons_zero, List.set_cons_succ]
        refine takeA (i := 15) (d := some 37) (v := ?vT26) rfl rfl (by kernel_rfl) (by kernel_rfl) (by kernel_rfl) (fun _ _ _ h => h) (Or.inl ⟨by rfl, ?hyT26⟩) ?rstT26
        case hyT26 => (intro w; go_simp; (try with_reducible rfl))
        try simp only [Act.put, List.setIfInBounds_toArray, List.set_cons_zero, List.set_cons_succ]
        refine wpAny_ready (rs := [16]) (by kernel_rfl) (by simp) (consS rfl (fun K hK => ?_) AllReady.nil)
        go_simp
        refine hK.out _ _ ?_
        clear hK K
        try simp only [Act.put, List.setIfInBounds_toArray, List.set_cons_zero, List.set_cons_succ]
        refine wpAny_ready (rs := [17]) (by kernel_rfl) (by simp) (consS rfl (fun K hK => ?_) AllReady.nil)
        go_simp
        refine HG.out.mono ?_
        rintro e w2 ⟨rfl, hN⟩
        have HN : Hid (RNx W w2 r rv ys (begS S ⟨S.next, x.fr, x.tt, x.bs, x.sp⟩)) := HST.out _ hN
        clear hN
        dsimp only
        refine hK.out _ _ ?_
        clear hK K
        try simp only [Act.put, List.setIfInBounds_toArray, List.set_cons_zero, List.set_cons_succ]
        refine takeA (i := 18) (d := some 4) (v := ?vT28) rfl rfl (by kernel_rfl) (by kernel_rfl) (by kernel_rfl) (fun _ _ _ h => h) (Or.inl ⟨by rfl, ?hyT28⟩) ?rstT28
        case hyT28 => (intro w; go_simp; (try with_reducible rfl))
        try simp only [Act.put, List.setIfInBounds_toArray, List.set_cons_zero, List.set_cons_succ]
        refine takeA (i := 19) (d := some 5) (v := ?vT29) rfl rfl (by kernel_rfl) (by kernel_rfl) (by kernel_rfl) (fun _ _ _ h => h) (Or.inl ⟨by rfl, ?hyT29⟩) ?rstT29
        case hyT29 => (intro w; go_simp; (try with_reducible rfl))
        try simp only [Act.put, List.setIfInBounds_toArray, List.set_cons_zero, List.set_cons_succ]
        refine wpAny_done (by kernel_rfl) ?_ _
        go_wp2_with fail
        go_ret2
        exact ⟨rfl, HN.out⟩
      case bB23 =>
        go_simp
        refine hK.out _ _ ?_
        clear hK K
        try simp only [Act.put, List.setIfInBounds_toArray, List.set_cons_zero, List.set_cons_succ]
        refine takeA (i := 14) (d := some 36) (v := ?vT30) rfl rfl (by kernel_rfl) (by kernel_rfl) (by kernel_rfl) (fun _ _ _ h => h) (Or.inl ⟨by rfl, ?hyT30⟩) ?rstT30
        case hyT30 => (intro w; go_simp; (try with_reducible rfl))
        try simp only [Act.put, List.setIfInBounds_toArray, List.set_cons_zero, List.set_cons_succ]
        refine takeA (i := 15) (d := some 37) (v := ?vT31) rfl rfl (by kernel_rfl) (by kernel_rfl) (by kernel_rfl) (fun _ _ _ h => h) (Or.inl ⟨by rfl, ?hyT31⟩) ?rstT31
        case hyT31 => (intro w; go_simp; (try with_reducible rfl))
        try simp only [Act.put, List.setIfInBounds_toArray, List.set_cons_zero, List.set_cons_succ]
        refine wpAny_ready (rs := [8, 16]) (by kernel_rfl) (by simp) (consS rfl (fun K hK => ?bA32) (consS rfl (fun K hK => ?bB32) AllReady.nil))
        case bA32 =>
          go_simp
          refine hK.out _ _ ?_
          clear hK K
          try simp only [Act.put, List.setIfInBounds_toArray, List.set_cons_zero, List.set_cons_succ]
          refine wpAny_ready (rs := [16]) (by kernel_rfl) (by simp) (consS rfl (fun K hK => ?_) AllReady.nil)
          go_simp
          refine hK.out _ _ ?_
          clear hK K
          try simp only [Act.put, List.setIfInBounds_toArray, List.set_cons_zero, List.set_cons_succ]
          refine wpAny_ready (rs := [17]) (by kernel_rfl) (by simp) (consS rfl (fun K hK => ?_) AllReady.nil)
          go_simp
          refine HG.out.mono ?_
          rintro e w2 ⟨rfl, hN⟩
          have HN : Hid (RNx W w2 r rv ys (begS S ⟨S.next, x.fr, x.tt, x.bs, x.sp⟩)) := HST.out _ hN
          clear hN
          dsimp only
          refine hK.out _ _ ?_
          clear hK K
          try simp only [Act.put, List.setIfInBounds_toArray, List.set_cons_zero, List.set_cons_succ]
          refine takeA (i := 18) (d := some 4) (v := ?vT34) rfl rfl (by kernel_rfl) (by kernel_rfl) (by kernel_rfl) (fun _ _ _ h => h) (Or.inl ⟨by rfl, ?hyT34⟩) ?rstT34
          case hyT34 => (intro w; go_simp; (try with_reducible rfl))
          try simp only [Act.put, List.setIfInBounds_toArray, List.set_cons_zero, List.set_cons_succ]
          refine takeA (i := 19) (d := some 5) (v := ?vT35) rfl rfl (by kernel_rfl) (by kernel_rfl) (by kernel_rfl) (fun _ _ _ h => h) (Or.inl ⟨by rfl, ?hyT35⟩) ?rstT35
          case hyT35 => (intro w; go_simp; (try with_reducible rfl))
          try simp only [Act.put, List.setIfInBounds_toArray, List.set_cons_zero, List.set_cons_succ]
          refine wpAny_done (by kernel_rfl) ?_ _
          go_wp2_with fail
          go_ret2
          exact ⟨rfl, HN.out⟩
        case bB32 =>
          go_simp
          refine hK.out _ _ ?_
          clear hK K
          try simp only [Act.put, List.setIfInBounds_toArray, List.set_cons_zero, List.set_cons_succ]
          refine wpAny_ready (rs := [8]) (by kernel_rfl) (by simp) (consS rfl (fun K hK => ?_) AllReady.nil)
          go_simp
          refine hK.out _ _ ?_
          clear hK K
          try simp only [Act.put, List.setIfInBounds_toArray, List.set_cons_zero, List.set_cons_succ]
          refine wpAny_ready (rs := [17]) (by kernel_rfl) (by simp) (consS rfl (fun K hK => ?_) AllReady.nil)
          go_simp
          refine HG.out.mono ?_
          rintro e w2 ⟨rfl, hN⟩
          have HN : Hid (RNx W w2 r rv ys (begS S ⟨S.next, x.fr, x.tt, x.bs, x.sp⟩)) := HST.out _ hN
          clear hN
          dsimp only
          refine hK.out _ _ ?_
          clear hK K
          try simp only [Act.put, List.setIfInBounds_toArray, List.set_cons_zero, List.set_cons_succ]
          refine takeA (i := 18) (d := some 4) (v := ?vT37) rfl rfl (by kernel_rfl) (by kernel_rfl) (by kernel_rfl) (fun _ _ _ h => h) (Or.inl ⟨by rfl, ?hyT37⟩) ?rstT37
          case hyT37 => (intro w; go_simp; (try with_reducible rfl))
          try simp only [Act.put, List.setIfInBounds_toArray, List.set_cons_zero, List.set_cons_succ]
          refine takeA (i := 19) (d := some 5) (v := ?vT38) rfl rfl (by kernel_rfl) (by kernel_rfl) (by kernel_rfl) (fun _ _ _ h => h) (Or.inl ⟨by rfl, ?hyT38⟩) ?rstT38
          case hyT38 => (intro w; go_simp; (try with_reducible rfl))
          try simp only [Act.put, List.setIfInBounds_toArray, List.set_cons_zero, List.set_cons_succ]
          refine wpAny_done (by kernel_rfl) ?_ _
          go_wp2_with fail
          go_ret2
          exact ⟨rfl, HN.out⟩
    case bB20 =>
      go_simp
      refine hK.out _ _ ?_
      clear hK K
      try simp only [Act.put, List.setIfInBounds_toArray, List.set_cons_zero, List.set_cons_succ]
      refine takeA (i := 14) (d := some 36) (v := ?vT39) rfl rfl (by kernel_rfl) (by kernel_rfl) (by kernel_rfl) (fun _ _ _ h => h) (Or.inl ⟨by rfl, ?hyT39⟩) ?rstT39
      case hyT39 => (intro w; go_simp; (try with_reducible rfl))
      try simp only [Act.put, List.setIfInBounds_toArray, List.set_cons_zero, List.set_cons_succ]
      refine takeA (i := 15) (d := some 37) (v := ?vT40) rfl rfl (by kernel_rfl) (by kernel_rfl) (by kernel_rfl) (fun _ _ _ h => h) (Or.inl ⟨by rfl, ?hyT40⟩) ?rstT40
      case hyT40 => (intro w; go_simp; (try with_reducible rfl))
      try simp only [Act.put, List.setIfInBounds_toArray, List.set_cons_zero, List.set_cons_succ]
      refine wpAny_ready (rs := [4, 16]) (by kernel_rfl) (by simp) (consS rfl (fun K hK => ?bA41) (consS rfl (fun K hK => ?bB41) AllReady.nil))
      case bA41 =>
        go_simp
        refine hK.out _ _ ?_
        clear hK K
        try simp only [Act.put, List.setIfInBounds_toArray, List.set_cons_zero, List.set_cons_succ]
        refine takeA (i := 6) (d := some 28) (v := ?vT42) rfl rfl (by kernel_rfl) (by kernel_rfl) (by kernel_rfl) (fun _ _ _ h => h) (Or.inl ⟨by rfl, ?hyT42⟩) ?rstT42
        case hyT42 => (intro w; go_simp; (try with_reducible rfl))
        try simp only [Act.put, List.setIfInBounds_toArray, List.set_cons_zero, List.set_cons_succ]
        refine takeA (i := 7) (d := some 29) (v := ?vT43) rfl rfl (by kernel_rfl) (by kernel_rfl) (by kernel_rfl) (fun _ _ _ h => h) (Or.inl ⟨by rfl, ?hyT43⟩) ?rstT43
        case hyT43 => (intro w; go_simp; (try with_reducible rfl))
        try simp only [Act.put, List.setIfInBounds_toArray, List.set_cons_zero, List.set_cons_succ]
        refine wpAny_ready (rs := [8, 16]) (by kernel_rfl) (by simp) (consS rfl (fun K hK => ?bA44) (consS rfl (fun K hK => ?bB44) AllReady.nil))
        case bA44 =>
          go_simp
          refine hK.out _ _ ?_
          clear hK K
          try simp only [Act.put, List.setIfInBounds_toArray, List.set_cons_zero, List.set_cons_succ]
          refine wpAny_ready (rs := [16]) (by kernel_rfl) (by simp) (consS rfl (fun K hK => ?_) AllReady.nil)
          go_simp
          refine hK.out _ _ ?_
          clear hK K
          try simp only [Act.put, List.setIfInBounds_toArray, List.set_cons_zero, List.set_cons_succ]
          refine wpAny_ready (rs := [17]) (by kernel_rfl) (by simp) (consS rfl (fun K hK => ?_) AllReady.nil)
          go_simp
          refine HG.out.mono ?_
          rintro e w2 ⟨rfl, hN⟩
          have HN : Hid (RNx W w2 r rv ys (begS S ⟨S.next, x.fr, x.tt, x.bs, x.sp⟩)) := HST.out _ hN
          clear hN
          dsimp only
          refine hK.out _ _ ?_
          clear hK K
          try simp only [Act.put, List.setIfInBounds_toArray, List.set_cons_zero, List.set_cons_succ]
          refine takeA (i := 18) (d := some 4) (v := ?vT46) rfl rfl (by kernel_rfl) (by kernel_rfl) (by kernel_rfl) (fun _ _ _ h => h) (Or.inl ⟨by rfl, ?hyT46⟩) ?rstT46
          case hyT46 => (intro w; go_simp; (try with_reducible rfl))
          try simp only [Act.put, List.setIfInBounds_toArray, List.set_cons_zero, List.set_cons_succ]
          refine takeA (i := 19) (d := some 5) (v := ?vT47) rfl rfl (by kernel_rfl) (by kernel_rfl) (by kernel_rfl) (fun _ _ _ h => h) (Or.inl ⟨by rfl, ?hyT47⟩) ?rstT47
          case hyT47 => (intro w; go_simp; (try with_reducible rfl))
          try simp only [Act.put, List.setIfInBounds_toArray, List.set_cons_zero, List.set_cons_succ]
          refine wpAny_done (by kernel_rfl) ?_ _
          go_wp2_with fail
          go_ret2
          exact ⟨rfl, HN.out⟩
        case bB44 =>
          go_simp
          refine hK.out _ _ ?_
          clear hK K
          try simp only [Act.put, List.setIfInBounds_toArray, List.set_cons_zero, List.set_cons_succ]
          refine wpAny_ready (rs := [8]) (by kernel_rfl) (by simp) (consS rfl (fun K hK => ?_) AllReady.nil)
          go_simp
          refine hK.out _ _ ?_
          clear hK K
          try simp only [Act.put, List.setIfInBounds_toArray, List.set_cons_zero, List.set_cons_succ]
          refine wpAny_ready (rs := [17]) (by kernel_rfl) (by simp) (consS rfl (fun K hK => ?_) AllReady.nil)
          go_simp
          refine HG.out.mono ?_
          rintro e w2 ⟨rfl, hN⟩
          have HN : Hid (RNx W w2 r rv ys (begS S ⟨S.next, x.fr, x.tt, x.bs, x.sp⟩)) := HST.out _ hN
          clear hN
          dsimp only
          refine hK.out _ _ ?_
          clear hK K
          try simp only [Act.put, List.setIfInBounds_toArray, List.set_cons_zero, List.set_cons_succ]
          refine takeA (i := 18) (d := some 4) (v := ?vT49) rfl rfl (by kernel_rfl) (by kernel_rfl) (by kernel_rfl) (fun _ _ _ h => h) (Or.inl ⟨by rfl, ?hyT49⟩) ?rstT49
          case hyT49 => (intro w; go_simp; (try with_reducible rfl))
          try simp only [Act.put, List.setIfInBounds_toArray, List.set_cons_zero, List.set_cons_succ]
          refine takeA (i := 19) (d := some 5) (v := ?vT50) rfl rfl (by kernel_rfl) (by kernel_rfl) (by kernel_rfl) (fun _ _ _ h => h) (Or.inl ⟨by rfl, ?hyT50⟩) ?rstT50
          case hyT50 => (intro w; go_simp; (try with_reducible rfl))
          try simp only [Act.put, List.setIfInBounds_toArray, List.set_cons_zero, List.set_cons_succ]
          refine wpAny_done (by kernel_rfl) ?_ _
          go_wp2_with fail
          go_ret2
          exact ⟨rfl, HN.out⟩
      case bB41 =>
        go_simp
        refine hK.out _ _ ?_
        clear hK K
        try simp only [Act.put, List.setIfInBounds_toArray, List.set_cons_zero, List.set_cons_succ]
        refine wpAny_ready (rs := [4]) (by kernel_rfl) (by simp) (consS rfl (fun K hK => ?_) AllReady.nil)
        go_simp
        refine hK.out _ _ ?_
        clear hK K
        try simp only [Act.put, List.setIfInBounds_toArray, List.set_cons_zero, List.set_cons_succ]
        refine takeA (i := 6) (d := some 28) (v := ?vT52) rfl rfl (by kernel_rfl) (by kernel_rfl) (by kernel_rfl) (fun _ _ _ h => h) (Or.inl ⟨by rfl, ?hyT52⟩) ?rstT52
        case hyT52 => (intro w; go_simp; (try with_reducible rfl))
        try simp only [Act.put, List.setIfInBounds_toArray, List.set_cons_zero, List.set_cons_succ]
        refine takeA (i := 7) (d := some 29) (v := ?vT53) rfl rfl (by kernel_rfl) (by kernel_rfl) (by kernel_rfl) (fun _ _ _ h => h) (Or.inl ⟨by rfl, ?hyT53⟩) ?rstT53
        case hyT53 => (intro w; go_simp; (try with_reducible rfl))
        try simp only [Act.put, List.setIfInBounds_toArray, List.set_cons_zero, List.set_cons_succ]
        refine wpAny_ready (rs := [8]) (by kernel_rfl) (by simp) (consS rfl (fun K hK => ?_) AllReady.nil)
        go_simp
        refine hK.out _ _ ?_
        clear hK K
        try simp only [Act.put, List.setIfInBounds_toArray, List.set_cons_zero, List.set_cons_succ]
        refine wpAny_ready (rs := [17]) (by kernel_rfl) (by simp) (consS rfl (fun K hK => ?_) AllReady.nil)
        go_simp
        refine HG.out.mono ?_
        rintro e w2 ⟨rfl, hN⟩
        have HN : Hid (RNx W w2 r rv ys (begS S ⟨S.next, x.fr, x.tt, x.bs, x.sp⟩)) := HST.out _ hN
        clear hN
        dsimp only
        refine hK.out _ _ ?_
        clear hK K
        try simp only [Act.put, List.setIfInBounds_toArray, List.set_cons_zero, List.set_cons_succ]
        refine takeA (i := 18) (d := some 4) (v := ?vT55) rfl rfl (by kernel_rfl) (by kernel_rfl) (by kernel_rfl) (fun _ _ _ h => h) (Or.inl ⟨by rfl, ?hyT55⟩) ?rstT55
        case hyT55 => (intro w; go_simp; (try with_reducible rfl))
        try simp only [Act.put, List.setIfInBounds_toArray, List.set_cons_zero, List.set_cons_succ]
        refine takeA (i := 19) (d := some 5) (v := ?vT56) rfl rfl (by kernel_rfl) (by kernel_rfl) (by kernel_rfl) (fun _ _ _ h => h) (Or.inl ⟨by rfl, ?hyT56⟩) ?rstT56
        case hyT56 => (intro w; go_simp; (try with_reducible rfl))
        try simp only [Act.put, List.setIfInBounds_toArray, List.set_cons_zero, List.set_cons_succ]
        refine wpAny_done (by kernel_rfl) ?_ _
        go_wp2_with fail
        go_ret2
        exact ⟨rfl, HN.out⟩
  · have hge : mo ≤ (n : Int) := by omega
    suffices hs : Calls Try.prog 39 #[.pointer (some ⟨r, 0, none⟩), .int .i64 k] W fun e w' => e = .returned (.tuple #[.int .i64 0, .int .i64 161]) ∧ Below W.heap.size W w' from hs.mono (fun e w' hh => ⟨fun _ => hh, fun h1 => absurd h1 hlt⟩)
    clear h hO hk hl hxb hL0 erv hR hy hc hn hm hmo hln hbl HG0 hlt hB hys q1 q3 HOO HST c1 c2 c3 c4
    go_enter Try.func39, Try.ntmps39
    go_wp2_with fail
    refine HA.mono ?_
    rintro e w1 ⟨rfl, hw⟩
    obtain rfl := hw.symm
    clear hw HA
    go_wp2_with fail
    refine wp_region_held_drew (S := (fun w => w.cell? ⟨r, 1, none⟩ = some (.int .i64 mo) ∧ w.cell? ⟨r, 3, none⟩ = some (.slice (some ⟨g, off, none⟩) n cap))) (by kernel_rfl) ?hSy (fun hHeld => ?resty)
    case hSy => exact HSS.out
    refine takeD (i := 0) (d := some 12) (v := ?vT67) rfl rfl (by kernel_rfl) (by kernel_rfl) (by kernel_rfl) (fun _ _ _ h => h) (Or.inl ⟨by rfl, ?hyT67⟩) (by assumption) ?rstT67
    case hyT67 => (intro w hSw; (try dsimp only at hSw); obtain ⟨s0, s1⟩ := hSw; go_simp; (try with_reducible rfl))
    try simp only [Act.put, List.setIfInBounds_toArray, List.set_cons_zero, List.set_cons_succ]
    refine takeD (i := 1) (d := some 13) (v := ?vT68) rfl rfl (by kernel_rfl) (by kernel_rfl) (by kernel_rfl) (fun _ _ _ h => h) (Or.inl ⟨by rfl, ?hyT68⟩) (by assumption) ?rstT68
    case hyT68 => (intro w hSw; (try dsimp only at hSw); obtain ⟨s0, s1⟩ := hSw; go_simp; (try with_reducible rfl))
    try simp only [Act.put, List.setIfInBounds_toArray, List.set_cons_zero, List.set_cons_succ]
    refine takeD (i := 2) (d := some 14) (v := ?vT69) rfl rfl (by kernel_rfl) (by kernel_rfl) (by kernel_rfl) (fun _ _ _ h => h) (Or.inl ⟨by rfl, ?hyT69⟩) (by assumption) ?rstT69
    case hyT69 => (intro w hSw; (try dsimp only at hSw); obtain ⟨s0, s1⟩ := hSw; go_simp; (try with_reducible rfl))
    try simp only [Act.put, List.setIfInBounds_toArray, List.set_cons_zero, List.set_cons_succ]
    refine takeD (i := 3) (d := some 15) (v := ?vT70) rfl rfl (by kernel_rfl) (by kernel_rfl) (by kernel_rfl) (fun _ _ _ h => h) (Or.inl ⟨by rfl, ?hyT70⟩) (by assumption) ?rstT70
    case hyT70 => (intro w hSw; (try dsimp only at hSw); obtain ⟨s0, s1⟩ := hSw; go_simp; (try with_reducible rfl))
    try simp only [Act.put, List.setIfInBounds_toArray, List.set_cons_zero, List.set_cons_succ]
    refine takeD (i := 4) (d := some 16) (v := ?vT71) rfl rfl (by kernel_rfl) (by kernel_rfl) (by kernel_rfl) (fun _ _ _ h => h) (Or.inl ⟨by rfl, ?hyT71⟩) (by assumption) ?rstT71
    case hyT71 => (intro w hSw; (try dsimp only at hSw); obtain ⟨s0, s1⟩ := hSw; go_simp; (try with_reducible rfl))
    try simp only [Act.put, List.setIfInBounds_toArray, List.set_cons_zero, List.set_cons_succ]
    refine takeD (i := 5) (d := some 17) (v := ?vT72) rfl rfl (by kernel_rfl) (by kernel_rfl) (by kernel_rfl) (fun _ _ _ h => h) (Or.inl ⟨by rfl, ?hyT72⟩) (by assumption) ?rstT72
    case hyT72 => (intro w hSw; (try dsimp only at hSw); obtain ⟨s0, s1⟩ := hSw; go_simp; (try with_reducible rfl))
    try simp only [Act.put, List.setIfInBounds_toArray, List.set_cons_zero, List.set_cons_succ]
    refine takeD (i := 6) (d := some 18) (v := ?vT73) rfl rfl (by kernel_rfl) (by kernel_rfl) (by kernel_rfl) (fun _ _ _ h => h) (Or.inl ⟨by rfl, ?hyT73⟩) (by assumption) ?rstT73
    case hyT73 => (intro w hSw; (try dsimp only at hSw); obtain ⟨s0, s1⟩ := hSw; go_simp; (try with_reducible rfl))
    try simp only [Act.put, List.setIfInBounds_toArray, List.set_cons_zero, List.set_cons_succ]
    refine takeD (i := 7) (d := some 19) (v := ?vT74) rfl rfl (by kernel_rfl) (by kernel_rfl) (by kernel_rfl) (fun _ _ _ h => h) (Or.inl ⟨by rfl, ?hyT74⟩) (by assumption) ?rstT74
    case hyT74 => (intro w hSw; (try dsimp only at hSw); obtain ⟨s0, s1⟩ := hSw; go_simp; (try with_reducible rfl))
    try simp only [Act.put, List.setIfInBounds_toArray, List.set_cons_zero, List.set_cons_succ]
    refine takeD (i := 8) (d := some 20) (v := ?vT75) rfl rfl (by kernel_rfl) (by kernel_rfl) (by kernel_rfl) (fun _ _ _ h => h) (Or.inl ⟨by rfl, ?hyT75⟩) (by assumption) ?rstT75
    case hyT75 => (intro w hSw; (try dsimp only at hSw); obtain ⟨s0, s1⟩ := hSw; go_simp; (try with_reducible rfl))
    try simp only [Act.put, List.setIfInBounds_toArray, List.set_cons_zero, List.set_cons_succ]
    refine takeD (i := 9) (d := some 21) (v := ?vT76) rfl rfl (by kernel_rfl) (by kernel_rfl) (by kernel_rfl) (fun _ _ _ h => h) (Or.inl ⟨by rfl, ?hyT76⟩) (by assumption) ?rstT76
    case hyT76 => (intro w hSw; (try dsimp only at hSw); obtain ⟨s0, s1⟩ := hSw; go_simp; (try with_reducible rfl))
    try simp only [Act.put, List.setIfInBounds_toArray, List.set_cons_zero, List.set_cons_succ]
    refine wpAnyH_done (by kernel_rfl) ?_ _
    clear hHeld
    go_wp2_with fail
    go_ret2
    exact ⟨rfl, HB.out⟩
end
end Go.Proofs.Ytdmhajlhpieedaa
