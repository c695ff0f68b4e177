import Derived.Test.YtdmhajlhpieedaaLdF
/-! The reference's Spoil of a packet that is there. -/
namespace Go.Proofs.Ytdmhajlhpieedaa
open Go.RowKit Go.Lib Go.Shelf
set_option maxRecDepth 100000

section
variable {W : World} {r : Nat} {S : Lk} {rv : Value} {ys l t : List X} {x : X}
def RSpoilQ (W : World) (r : Nat) (S : Lk) (rv : Value) (l t : List X) (x : X) (at_ : Int) (m : UInt8) (W' : World) : Prop := (spoilE x at_ m ≠ 0 → Below W.heap.size W W') ∧ (spoilE x at_ m = 0 → RNx W W' r rv (l ++ x :: t) (spoilS S l t (spoilX x at_.toNat m)))
set_option maxHeartbeats 8000000 in
theorem rspoil_hit (h : RefAt W r S rv (l ++ x :: t)) (hO : S.Ok) (k at_ : Int) (m : UInt8) (hk : (x.num : Int) = k) (hl : ∀ y ∈ l, (y.num : Int) ≠ k) (hxb : x.bs.length ≤ 140737488355328) : Calls Try.prog 40 #[.pointer (some ⟨r, 0, none⟩), .int .i64 k, .int .i64 at_, .int .u8 (m.toNat : Int)] W fun e w' => e = .returned (.int .i64 (spoilE x at_ m)) ∧ RSpoilQ W r S rv l t x at_ m w' := by
  have HA := at_hit h hO k hk hl
  obtain ⟨a, cap, erv, _, _⟩ := h.row.shape
  have hR := h.row
  rw [erv] at hR
  obtain ⟨g, off, y, ea, _, hy, hc⟩ := (hR.rw_ layV).at l.length (by simp)
  obtain rfl : x = y := by simp at hy; exact hy
  subst ea
  have q3 := (box4 h.box).2.2.2
  rw [erv] at q3
  obtain ⟨n, hn⟩ : ∃ n, (l ++ x :: t).length = n := ⟨_, rfl⟩
  obtain ⟨mm, hm⟩ : ∃ m, l.length = m := ⟨_, rfl⟩
  have hmn : mm < n := by rw [← hn, ← hm]; simp
  rw [hn] at q3 erv
  rw [hm] at HA hc
  have c0 := hc 0 _ rfl
  have c1 := hc 1 _ rfl
  have c2 := hc 2 _ rfl
  have c3 := hc 3 _ rfl
  have c4 := hc 4 _ rfl
  simp only [Nat.add_zero] at c0
  have hmn2 : (mm : Int) < (n : Int) := by omega
  have hm0 : ¬ (mm : Int) < 0 := by omega
  obtain ⟨bl, hbl⟩ : ∃ bl, x.bs.length = bl := ⟨_, rfl⟩
  obtain ⟨nu, hnu⟩ : ∃ nu : Int, (x.num : Int) = nu := ⟨_, rfl⟩
  have HC := clone_any (W := W) nu x.fr x.tt x.sp ((h.own x (by simp)).rw_ layU) (hbl ▸ hxb)
  have HM : Hid (∀ V g2 c' (bs : List UInt8), Below W.heap.size W V → bs.length = bl → W.heap.size ≤ g2 → OwnF byU 1 5 V 0 (.slice (some ⟨g2, 0, none⟩) bl c') bs → _) := fun V g2 c' bs hB hb hg ho => rspoil_mem (c' := c') h erv bs hm hnu hB hb hg ho
  rw [hbl] at c3 HC HM
  rw [hnu] at c0
  have HBL : Hid (x.bs.length = bl) := hbl
  obtain ⟨z, hz⟩ : ∃ z, spoilE x at_ m = z := ⟨_, rfl⟩
  have HZ : Hid (spoilE x at_ m = z) := hz
  obtain ⟨R, hR'⟩ : ∃ R, RSpoilQ W r S rv l t x at_ m = R := ⟨_, rfl⟩
  have HR : Hid (RSpoilQ W r S rv l t x at_ m = R) := hR'
  rw [hz, hR']
  clear h hO hk hl erv hR hy hc hn hm hbl hnu hxb hz hR'
  by_cases g1 : at_ < 0
  · clear HM
    go_enter Try.func40, Try.ntmps40
    go_wp2_with fail
    refine HA.mono ?_
    rintro e w1 ⟨rfl, hw⟩
    obtain rfl := hw.symm
    clear hw HA
    go_wp2_with fail
    refine HC.mono ?_
    rintro e w1 ⟨a', c', rfl, hQ⟩
    clear HC
    obtain ⟨V1, hV1⟩ : ∃ V1, w1.alloc (.cells #[.int .i64 0, .int .i64 0, .int .i64 0, .slice none 0 0, .bool false] 73) = V1 := ⟨_, rfl⟩
    have y4 : V1.heap[w1.heap.size]? = some (.cells #[.int .i64 0, .int .i64 0, .int .i64 0, .slice none 0 0, .bool false] 73) := by rw [← hV1]; exact heap_alloc_new w1 _
    have hB1 : Below w1.heap.size w1 V1 := by rw [← hV1]; exact (Below.refl _ _).alloc (Nat.le_refl _) _
    have hs1 : V1.heap.size = w1.heap.size + 1 := by rw [← hV1]; exact World.size_alloc ..
    obtain ⟨V, hV, hx5, hC5⟩ := set5 (A := []) (B := []) (o := 0) (W := V1) (g := w1.heap.size) (by simpa using y4) rfl (.int .i64 nu) (.int .i64 x.fr) (.int .i64 x.tt) (.slice a' bl c') (.bool x.sp)
    simp only [Nat.zero_add] at hV
    have hx5' : V.heap[w1.heap.size]? = some (.cells #[.int .i64 nu, .int .i64 x.fr, .int .i64 x.tt, .slice a' bl c', .bool x.sp] 73) := by simpa using hx5
    obtain ⟨⟨t0, t1, t2, t3, t4⟩, z0, z1, z2, z3, z4⟩ := five_cells y4
    obtain ⟨p0, p1, p2, p3, p4⟩ := box5 hx5'
    have hsz := hQ.2.size
    have hBW : Below W.heap.size W V := hQ.2.trans ((hB1.mono hsz).trans (hC5.below (fun k e => by omega) (by omega)))
    have hoV : OwnF byU 1 5 V W.heap.size (.slice a' bl c') x.bs := (hQ.1.chg (D := fun k => w1.heap.size ≤ k) (Chg.of_below hB1) (fun k hk e => by have := hQ.1.lt hk; omega)).chg hC5 (fun k hk e => by have := hQ.1.lt hk; omega)
    have HV : Hid (Below W.heap.size W V ∧ OwnF byU 1 5 V W.heap.size (.slice a' bl c') x.bs ∧ W.heap.size ≤ w1.heap.size ∧ V.heap[w1.heap.size]? = some (.cells #[.int .i64 nu, .int .i64 x.fr, .int .i64 x.tt, .slice a' bl c', .bool x.sp] 73)) := ⟨hBW, hoV, hsz, hx5'⟩
    clear hx5 hx5' hC5 y4 hB1 hs1 hQ hsz hBW hoV
    clear q3 c0 c1 c2 c3 c4
    go_wp2_with fail
    go_ret
    have e0 : spoilE x at_ m = 12 := by simp [spoilE, g1]
    refine ⟨by rw [← HZ.out, e0]; simp, ?_⟩
    rw [← HR.out]
    exact ⟨fun _ => HV.out.1, fun h => by rw [e0] at h; simp at h⟩
  · obtain ⟨j, rfl⟩ : ∃ j : Nat, at_ = (j : Int) := ⟨at_.toNat, by omega⟩
    by_cases g2 : bl ≤ j
    · have g2' : (bl : Int) ≤ (j : Int) := by omega
      clear HM
      go_enter Try.func40, Try.ntmps40
      go_wp2_with fail
      refine HA.mono ?_
      rintro e w1 ⟨rfl, hw⟩
      obtain rfl := hw.symm
      clear hw HA
      go_wp2_with fail
      refine HC.mono ?_
      rintro e w1 ⟨a', c', rfl, hQ⟩
      clear HC
      obtain ⟨V1, hV1⟩ : ∃ V1, w1.alloc (.cells #[.int .i64 0, .int .i64 0, .int .i64 0, .slice none 0 0, .bool false] 73) = V1 := ⟨_, rfl⟩
      have y4 : V1.heap[w1.heap.size]? = some (.cells #[.int .i64 0, .int .i64 0, .int .i64 0, .slice none 0 0, .bool false] 73) := by rw [← hV1]; exact heap_alloc_new w1 _
      have hB1 : Below w1.heap.size w1 V1 := by rw [← hV1]; exact (Below.refl _ _).alloc (Nat.le_refl _) _
      have hs1 : V1.heap.size = w1.heap.size + 1 := by rw [← hV1]; exact World.size_alloc ..
      obtain ⟨V, hV, hx5, hC5⟩ := set5 (A := []) (B := []) (o := 0) (W := V1) (g := w1.heap.size) (by simpa using y4) rfl (.int .i64 nu) (.int .i64 x.fr) (.int .i64 x.tt) (.slice a' bl c') (.bool x.sp)
      simp only [Nat.zero_add] at hV
      have hx5' : V.heap[w1.heap.size]? = some (.cells #[.int .i64 nu, .int .i64 x.fr, .int .i64 x.tt, .slice a' bl c', .bool x.sp] 73) := by simpa using hx5
      obtain ⟨⟨t0, t1, t2, t3, t4⟩, z0, z1, z2, z3, z4⟩ := five_cells y4
      obtain ⟨p0, p1, p2, p3, p4⟩ := box5 hx5'
      have hsz := hQ.2.size
      have hBW : Below W.heap.size W V := hQ.2.trans ((hB1.mono hsz).trans (hC5.below (fun k e => by omega) (by omega)))
      have hoV : OwnF byU 1 5 V W.heap.size (.slice a' bl c') x.bs := (hQ.1.chg (D := fun k => w1.heap.size ≤ k) (Chg.of_below hB1) (fun k hk e => by have := hQ.1.lt hk; omega)).chg hC5 (fun k hk e => by have := hQ.1.lt hk; omega)
      have HV : Hid (Below W.heap.size W V ∧ OwnF byU 1 5 V W.heap.size (.slice a' bl c') x.bs ∧ W.heap.size ≤ w1.heap.size ∧ V.heap[w1.heap.size]? = some (.cells #[.int .i64 nu, .int .i64 x.fr, .int .i64 x.tt, .slice a' bl c', .bool x.sp] 73)) := ⟨hBW, hoV, hsz, hx5'⟩
      clear hx5 hx5' hC5 y4 hB1 hs1 hQ hsz hBW hoV
      clear q3 c0 c1 c2 c3 c4
      go_wp2_with fail
      go_ret
      have e0 : spoilE x (j : Int) m = 12 := by have hb1 := HBL.out; simp [spoilE, hb1, g2]
      refine ⟨by rw [← HZ.out, e0]; simp, ?_⟩
      rw [← HR.out]
      exact ⟨fun _ => HV.out.1, fun h => by rw [e0] at h; simp at h⟩
    · have g2' : ¬ (bl : Int) ≤ (j : Int) := by omega
      have g2n : j < bl := by omega
      by_cases g3 : m = 0
      · subst g3
        have g3' : ((0 : UInt8).toNat : Int) = 0 := rfl
        rw [g3']
        clear HM
        go_enter Try.func40, Try.ntmps40
        go_wp2_with fail
        refine HA.mono ?_
        rintro e w1 ⟨rfl, hw⟩
        obtain rfl := hw.symm
        clear hw HA
        go_wp2_with fail
        refine HC.mono ?_
        rintro e w1 ⟨a', c', rfl, hQ⟩
        clear HC
        obtain ⟨V1, hV1⟩ : ∃ V1, w1.alloc (.cells #[.int .i64 0, .int .i64 0, .int .i64 0, .slice none 0 0, .bool false] 73) = V1 := ⟨_, rfl⟩
        have y4 : V1.heap[w1.heap.size]? = some (.cells #[.int .i64 0, .int .i64 0, .int .i64 0, .slice none 0 0, .bool false] 73) := by rw [← hV1]; exact heap_alloc_new w1 _
        have hB1 : Below w1.heap.size w1 V1 := by rw [← hV1]; exact (Below.refl _ _).alloc (Nat.le_refl _) _
        have hs1 : V1.heap.size = w1.heap.size + 1 := by rw [← hV1]; exact World.size_alloc ..
        obtain ⟨V, hV, hx5, hC5⟩ := set5 (A := []) (B := []) (o := 0) (W := V1) (g := w1.heap.size) (by simpa using y4) rfl (.int .i64 nu) (.int .i64 x.fr) (.int .i64 x.tt) (.slice a' bl c') (.bool x.sp)
        simp only [Nat.zero_add] at hV
        have hx5' : V.heap[w1.heap.size]? = some (.cells #[.int .i64 nu, .int .i64 x.fr, .int .i64 x.tt, .slice a' bl c', .bool x.sp] 73) := by simpa using hx5
        obtain ⟨⟨t0, t1, t2, t3, t4⟩, z0, z1, z2, z3, z4⟩ := five_cells y4
        obtain ⟨p0, p1, p2, p3, p4⟩ := box5 hx5'
        have hsz := hQ.2.size
        have hBW : Below W.heap.size W V := hQ.2.trans ((hB1.mono hsz).trans (hC5.below (fun k e => by omega) (by omega)))
        have hoV : OwnF byU 1 5 V W.heap.size (.slice a' bl c') x.bs := (hQ.1.chg (D := fun k => w1.heap.size ≤ k) (Chg.of_below hB1) (fun k hk e => by have := hQ.1.lt hk; omega)).chg hC5 (fun k hk e => by have := hQ.1.lt hk; omega)
        have HV : Hid (Below W.heap.size W V ∧ OwnF byU 1 5 V W.heap.size (.slice a' bl c') x.bs ∧ W.heap.size ≤ w1.heap.size ∧ V.heap[w1.heap.size]? = some (.cells #[.int .i64 nu, .int .i64 x.fr, .int .i64 x.tt, .slice a' bl c', .bool x.sp] 73)) := ⟨hBW, hoV, hsz, hx5'⟩
        clear hx5 hx5' hC5 y4 hB1 hs1 hQ hsz hBW hoV
        clear q3 c0 c1 c2 c3 c4
        go_wp2_with fail
        go_ret
        have e0 : spoilE x (j : Int) 0 = 12 := by simp [spoilE]
        refine ⟨by rw [← HZ.out, e0]; simp, ?_⟩
        rw [← HR.out]
        exact ⟨fun _ => HV.out.1, fun h => by rw [e0] at h; simp at h⟩
      · have g3' : ((m.toNat : Int) == 0) = false := by
          rw [beq_eq_false_iff_ne]; intro e; exact g3 (by apply UInt8.toNat_inj.1; simpa using e)
        have g3n : ¬ (m.toNat : Int) = 0 := by simpa using g3'
        obtain ⟨mi, hmi⟩ : ∃ mi : Int, (m.toNat : Int) = mi := ⟨_, rfl⟩
        have HMI : Hid ((m.toNat : Int) = mi) := hmi
        rw [hmi] at g3' g3n ⊢
        clear hmi
        by_cases g4 : x.sp = true
        · clear HM
          rw [g4] at c4 HC
          go_enter Try.func40, Try.ntmps40
          go_wp2_with fail
          refine HA.mono ?_
          rintro e w1 ⟨rfl, hw⟩
          obtain rfl := hw.symm
          clear hw HA
          go_wp2_with fail
          refine HC.mono ?_
          rintro e w1 ⟨a', c', rfl, hQ⟩
          clear HC
          obtain ⟨V1, hV1⟩ : ∃ V1, w1.alloc (.cells #[.int .i64 0, .int .i64 0, .int .i64 0, .slice none 0 0, .bool false] 73) = V1 := ⟨_, rfl⟩
          have y4 : V1.heap[w1.heap.size]? = some (.cells #[.int .i64 0, .int .i64 0, .int .i64 0, .slice none 0 0, .bool false] 73) := by rw [← hV1]; exact heap_alloc_new w1 _
          have hB1 : Below w1.heap.size w1 V1 := by rw [← hV1]; exact (Below.refl _ _).alloc (Nat.le_refl _) _
          have hs1 : V1.heap.size = w1.heap.size + 1 := by rw [← hV1]; exact World.size_alloc ..
          obtain ⟨V, hV, hx5, hC5⟩ := set5 (A := []) (B := []) (o := 0) (W := V1) (g := w1.heap.size) (by simpa using y4) rfl (.int .i64 nu) (.int .i64 x.fr) (.int .i64 x.tt) (.slice a' bl c') (.bool true)
          simp only [Nat.zero_add] at hV
          have hx5' : V.heap[w1.heap.size]? = some (.cells #[.int .i64 nu, .int .i64 x.fr, .int .i64 x.tt, .slice a' bl c', .bool true] 73) := by simpa using hx5
          obtain ⟨⟨t0, t1, t2, t3, t4⟩, z0, z1, z2, z3, z4⟩ := five_cells y4
          obtain ⟨p0, p1, p2, p3, p4⟩ := box5 hx5'
          have hsz := hQ.2.size
          have hBW : Below W.heap.size W V := hQ.2.trans ((hB1.mono hsz).trans (hC5.below (fun k e => by omega) (by omega)))
          have hoV : OwnF byU 1 5 V W.heap.size (.slice a' bl c') x.bs := (hQ.1.chg (D := fun k => w1.heap.size ≤ k) (Chg.of_below hB1) (fun k hk e => by have := hQ.1.lt hk; omega)).chg hC5 (fun k hk e => by have := hQ.1.lt hk; omega)
          have HV : Hid (Below W.heap.size W V ∧ OwnF byU 1 5 V W.heap.size (.slice a' bl c') x.bs ∧ W.heap.size ≤ w1.heap.size ∧ V.heap[w1.heap.size]? = some (.cells #[.int .i64 nu, .int .i64 x.fr, .int .i64 x.tt, .slice a' bl c', .bool true] 73)) := ⟨hBW, hoV, hsz, hx5'⟩
          clear hx5 hx5' hC5 y4 hB1 hs1 hQ hsz hBW hoV
          clear q3 c0 c1 c2 c3 c4
          go_wp2_with fail
          go_ret
          have e0 : spoilE x (j : Int) m = 162 := by have hb1 := HBL.out; simp [spoilE, hb1, g2n, g3, g4]
          refine ⟨by rw [← HZ.out, e0]; simp, ?_⟩
          rw [← HR.out]
          exact ⟨fun _ => HV.out.1, fun h => by rw [e0] at h; simp at h⟩
        · have g4' : x.sp = false := by simpa using g4
          rw [g4'] at c4 HC HM
          go_enter Try.func40, Try.ntmps40
          go_wp2_with fail
          refine HA.mono ?_
          rintro e w1 ⟨rfl, hw⟩
          obtain rfl := hw.symm
          clear hw HA
          go_wp2_with fail
          refine HC.mono ?_
          rintro e w1 ⟨a', c', rfl, hQ⟩
          clear HC
          obtain ⟨V1, hV1⟩ : ∃ V1, w1.alloc (.cells #[.int .i64 0, .int .i64 0, .int .i64 0, .slice none 0 0, .bool false] 73) = V1 := ⟨_, rfl⟩
          have y4 : V1.heap[w1.heap.size]? = some (.cells #[.int .i64 0, .int .i64 0, .int .i64 0, .slice none 0 0, .bool false] 73) := by rw [← hV1]; exact heap_alloc_new w1 _
          have hB1 : Below w1.heap.size w1 V1 := by rw [← hV1]; exact (Below.refl _ _).alloc (Nat.le_refl _) _
          have hs1 : V1.heap.size = w1.heap.size + 1 := by rw [← hV1]; exact World.size_alloc ..
          obtain ⟨V, hV, hx5, hC5⟩ := set5 (A := []) (B := []) (o := 0) (W := V1) (g := w1.heap.size) (by simpa using y4) rfl (.int .i64 nu) (.int .i64 x.fr) (.int .i64 x.tt) (.slice a' bl c') (.bool false)
          simp only [Nat.zero_add] at hV
          have hx5' : V.heap[w1.heap.size]? = some (.cells #[.int .i64 nu, .int .i64 x.fr, .int .i64 x.tt, .slice a' bl c', .bool false] 73) := by simpa using hx5
          obtain ⟨⟨t0, t1, t2, t3, t4⟩, z0, z1, z2, z3, z4⟩ := five_cells y4
          obtain ⟨p0, p1, p2, p3, p4⟩ := box5 hx5'
          have hsz := hQ.2.size
          have hBW : Below W.heap.size W V := hQ.2.trans ((hB1.mono hsz).trans (hC5.below (fun k e => by omega) (by omega)))
          have hoV : OwnF byU 1 5 V W.heap.size (.slice a' bl c') x.bs := (hQ.1.chg (D := fun k => w1.heap.size ≤ k) (Chg.of_below hB1) (fun k hk e => by have := hQ.1.lt hk; omega)).chg hC5 (fun k hk e => by have := hQ.1.lt hk; omega)
          have HV : Hid (Below W.heap.size W V ∧ OwnF byU 1 5 V W.heap.size (.slice a' bl c') x.bs ∧ W.heap.size ≤ w1.heap.size ∧ V.heap[w1.heap.size]? = some (.cells #[.int .i64 nu, .int .i64 x.fr, .int .i64 x.tt, .slice a' bl c', .bool false] 73)) := ⟨hBW, hoV, hsz, hx5'⟩
          clear hx5 hx5' hC5 y4 hB1 hs1 hQ hsz hBW hoV
          obtain ⟨hBW, hoV, hgg, hxV⟩ := HV.out
          obtain ⟨g2, ea⟩ : ∃ g2, a' = some ⟨g2, 0, none⟩ := by
            rcases hoV.2 with ⟨e, h0⟩ | ⟨g2, cap', cur, e, _⟩
            · exfalso; have h6 := HBL.out; omega
            · simp only [Value.slice.injEq] at e; exact ⟨g2, e.1⟩
          subst ea
          have hg2 : W.heap.size ≤ g2 := hoV.ge rfl
          have hgV : g2 < V.heap.size := hoV.lt rfl
          have hne : g2 ≠ w1.heap.size := by
            rintro rfl
            obtain ⟨cur, hh⟩ := own_block (hoV.mono (Nat.zero_le _)) rfl
            rw [hxV] at hh; simp at hh
          have hoD : OwnF byU 1 5 V.drew 0 (.slice (some ⟨g2, 0, none⟩) bl c') x.bs := (hoV.mono (Nat.zero_le _)).chg (D := fun _ => False) (Chg.refl _ V).drew (fun _ _ h => h)
          obtain ⟨cur, hcur⟩ := own_block hoD (g := g2) rfl
          have z9 := Lib.frozen_of_heap hcur j
          obtain ⟨gb, ob, bb, eb, _, hbb, hcb⟩ := (hoD.rw_ layU).at j g2n
          simp only [Option.some.injEq, Addr.mk.injEq, and_true] at eb
          obtain ⟨rfl, rfl⟩ := eb
          have c9 := hcb 0 _ rfl
          simp only [Nat.mul_one, Nat.zero_add, Nat.add_zero] at c9
          obtain ⟨V2, hV2⟩ : ∃ V2, V.drew.setCell ⟨g2, j, none⟩ (.int .u8 ((bb ^^^ m).toNat : Int)) = V2 := ⟨_, rfl⟩
          have hC2 : Chg (fun k => k = g2) V.drew V2 := by rw [← hV2]; exact Chg.set (D := fun k => k = g2) (q := g2) j _ _ rfl
          have ho2 := own_setU hoD (by have := HBL.out; omega : j < x.bs.length) (bb ^^^ m)
          rw [hV2] at ho2
          have hx2 : V2.heap[w1.heap.size]? = _ := hC2.block (show V.drew.heap[w1.heap.size]? = _ from hxV) (fun e => hne e.symm)
          obtain ⟨s0, s1, s2, s3, s4⟩ := box5 hx2
          have s5 := Lib.frozen_of_heap hx2 4
          obtain ⟨V3, hV3⟩ : ∃ V3, V2.setCell ⟨w1.heap.size, 4, none⟩ (.bool true) = V3 := ⟨_, rfl⟩
          have hC3 : Chg (fun k => k = w1.heap.size) V2 V3 := by rw [← hV3]; exact Chg.set (D := fun k => k = w1.heap.size) (q := w1.heap.size) 4 _ _ rfl
          have hx3 := heap_setCell_cells hx2 4 (.bool true)
          rw [hV3] at hx3
          have hx3' : V3.heap[w1.heap.size]? = some (.cells #[.int .i64 nu, .int .i64 x.fr, .int .i64 x.tt, .slice (some ⟨g2, 0, none⟩) bl c', .bool true] 73) := by show V3.heap[w1.heap.size]? = _; rw [hx3]; simp
          have ho3 : OwnF byU 1 5 V3 0 (.slice (some ⟨g2, 0, none⟩) bl c') (x.bs.set j (bb ^^^ m)) := ho2.chg hC3 (fun k hk e => by simp [Value.ownBlock] at hk; omega)
          have hB3 : Below W.heap.size W V3 := hBW.drew.trans ((hC2.below (fun k e => by omega) hBW.size).trans (hC3.below (fun k e => by omega) (by have := hC2.size; have := hBW.size; exact Nat.le_trans this (by assumption))))
          obtain ⟨u0, u1, u2, u3, u4⟩ := box5 hx3'
          obtain ⟨V9, hV9, hN9, r3, d0, d1, d2, d3, d4, f0, f1, f2, f3, f4⟩ := HM.out V3 g2 c' (x.bs.set j (bb ^^^ m)) hB3 (by rw [List.length_set]; exact HBL.out) hg2 ho3
          have HE0 : Hid (spoilE x (j : Int) m = 0) := by
            show _ = _
            have hb1 := HBL.out
            simp [spoilE, hb1, g2n, g3, g4']
          have HFIN : Hid (R V9.drew) := by
            show R V9.drew
            rw [← HR.out]
            refine ⟨fun h => absurd HE0.out h, fun _ => ?_⟩
            have e9 : spoilS S l t ⟨x.num, x.fr, x.tt, some ⟨g2, 0, none⟩, c', x.bs.set j (bb ^^^ m), true⟩ = spoilS S l t (spoilX x (j : Int).toNat m) := by
              simp only [Int.toNat_natCast, spoilS, spoilX, List.map_append, List.map_cons, X.fg, List.getD_eq_getElem?_getD, hbb, Option.getD_some]
            rw [← e9]
            exact hN9.drew
          obtain ⟨bi, hbi⟩ : ∃ bi : Int, (bb.toNat : Int) = bi := ⟨_, rfl⟩
          obtain ⟨xi, hxi⟩ : ∃ xi : Int, ((bb ^^^ m).toNat : Int) = xi := ⟨_, rfl⟩
          have hbx : bits .xor .u8 bi mi = xi := by rw [← hbi, ← HMI.out, ← hxi]; exact xor_u8 bb m
          rw [hbi] at c9
          rw [hxi] at hV2
          clear q3 c0 c1 c2 c3 c4 hBW hoV hgg hxV hg2 hgV hoD hcur hcb hbb hC2 ho2 hx2 hC3 hx3 hx3' ho3 hB3 hN9 hbi hxi HV
          have hjl : (j : Int) < (bl : Int) := by omega
          go_wp2_with fail
          refine wp_region_any (by kernel_rfl) ?_
          show wpAny _ _ _ _ _ _ _ V.drew
          refine takeA (i := 0) (d := some 40) (v := ?vT1) rfl rfl (by kernel_rfl) (by kernel_rfl) (by kernel_rfl) (fun _ _ _ h => h) (Or.inl ⟨by rfl, ?hyT1⟩) ?rstT1
          case hyT1 => (intro w; go_simp; (try with_reducible rfl))
          try simp only [Act.put, List.setIfInBounds_toArray, List.set_cons_zero, List.set_cons_succ]
          refine takeA (i := 1) (d := some 41) (v := ?vT2) rfl rfl (by kernel_rfl) (by kernel_rfl) (by kernel_rfl) (fun _ _ _ h => h) (Or.inl ⟨by rfl, ?hyT2⟩) ?rstT2
          case hyT2 => (intro w; go_simp; (try with_reducible rfl))
          try simp only [Act.put, List.setIfInBounds_toArray, List.set_cons_zero, List.set_cons_succ]
          refine takeA (i := 3) (d := some 43) (v := ?vT3) rfl rfl (by kernel_rfl) (by kernel_rfl) (by kernel_rfl) (fun _ _ _ h => h) (Or.inl ⟨by rfl, ?hyT3⟩) ?rstT3
          case hyT3 => (intro w; go_simp; (try with_reducible rfl))
          try simp only [Act.put, List.setIfInBounds_toArray, List.set_cons_zero, List.set_cons_succ]
          refine takeA (i := 4) (d := some 44) (v := ?vT4) rfl rfl (by kernel_rfl) (by kernel_rfl) (by kernel_rfl) (fun _ _ _ h => h) (Or.inl ⟨by rfl, ?hyT4⟩) ?rstT4
          case hyT4 => (intro w; go_simp; (try with_reducible rfl))
          try simp only [Act.put, List.setIfInBounds_toArray, List.set_cons_zero, List.set_cons_succ]
          refine takeA (i := 5) (d := some 45) (v := ?vT5) rfl rfl (by kernel_rfl) (by kernel_rfl) (by kernel_rfl) (fun _ _ _ h => h) (Or.inl ⟨by rfl, ?hyT5⟩) ?rstT5
          case hyT5 => (intro w; go_simp; (try with_reducible rfl))
          try simp only [Act.put, List.setIfInBounds_toArray, List.set_cons_zero, List.set_cons_succ]
          refine takeA (i := 7) (d := some 47) (v := ?vT6) rfl rfl (by kernel_rfl) (by kernel_rfl) (by kernel_rfl) (fun _ _ _ h => h) (Or.inl ⟨by rfl, ?hyT6⟩) ?rstT6
          case hyT6 => (intro w; go_simp; (try with_reducible rfl))
          try simp only [Act.put, List.setIfInBounds_toArray, List.set_cons_zero, List.set_cons_succ]
          refine takeA (i := 10) (d := some 50) (v := ?vT7) rfl rfl (by kernel_rfl) (by kernel_rfl) (by kernel_rfl) (fun _ _ _ h => h) (Or.inl ⟨by rfl, ?hyT7⟩) ?rstT7
          case hyT7 => (intro w; go_simp; (try with_reducible rfl))
          try simp only [Act.put, List.setIfInBounds_toArray, List.set_cons_zero, List.set_cons_succ]
          refine wpAny_ready (rs := [2, 6]) (by kernel_rfl) (by simp) (consS rfl (fun K hK => ?bA8) (consS rfl (fun K hK => ?bB8) AllReady.nil))
          case bA8 =>
            go_simp
            refine hK.out _ _ ?_
            clear hK K
            try simp only [Act.put, List.setIfInBounds_toArray, List.set_cons_zero, List.set_cons_succ]
            refine wpAny_ready (rs := [6]) (by kernel_rfl) (by simp) (consS rfl (fun K hK => ?_) AllReady.nil)
            go_simp
            refine hK.out _ _ ?_
            clear hK K
            try simp only [Act.put, List.setIfInBounds_toArray, List.set_cons_zero, List.set_cons_succ]
            refine takeA (i := 8) (d := some 48) (v := ?vT10) rfl rfl (by kernel_rfl) (by kernel_rfl) (by kernel_rfl) (fun _ _ _ h => h) (Or.inl ⟨by rfl, ?hyT10⟩) ?rstT10
            case hyT10 => (intro w; go_simp; (try with_reducible rfl))
            try simp only [Act.put, List.setIfInBounds_toArray, List.set_cons_zero, List.set_cons_succ]
            refine wpAny_ready (rs := [9]) (by kernel_rfl) (by simp) (consS rfl (fun K hK => ?_) AllReady.nil)
            go_simp
            refine hK.out _ _ ?_
            clear hK K
            try simp only [Act.put, List.setIfInBounds_toArray, List.set_cons_zero, List.set_cons_succ]
            refine takeA (i := 11) (d := some 51) (v := ?vT12) rfl rfl (by kernel_rfl) (by kernel_rfl) (by kernel_rfl) (fun _ _ _ h => h) (Or.inl ⟨by rfl, ?hyT12⟩) ?rstT12
            case hyT12 => (intro w; go_simp; (try with_reducible rfl))
            try simp only [Act.put, List.setIfInBounds_toArray, List.set_cons_zero, List.set_cons_succ]
            refine takeA (i := 12) (d := some 52) (v := ?vT13) rfl rfl (by kernel_rfl) (by kernel_rfl) (by kernel_rfl) (fun _ _ _ h => h) (Or.inl ⟨by rfl, ?hyT13⟩) ?rstT13
            case hyT13 => (intro w; go_simp; (try with_reducible rfl))
            try simp only [Act.put, List.setIfInBounds_toArray, List.set_cons_zero, List.set_cons_succ]
            refine wpAny_ready (rs := [13]) (by kernel_rfl) (by simp) (consS rfl (fun K hK => ?_) AllReady.nil)
            go_simp
            refine hK.out _ _ ?_
            clear hK K
            try simp only [Act.put, List.setIfInBounds_toArray, List.set_cons_zero, List.set_cons_succ]
            refine wpAny_done (by kernel_rfl) ?_ _
            go_wp2_with fail
            refine wp_region_any (by kernel_rfl) ?_
            show wpAny _ _ _ _ _ _ _ V3.drew
            refine takeA (i := 0) (d := some 54) (v := ?vT14) rfl rfl (by kernel_rfl) (by kernel_rfl) (by kernel_rfl) (fun _ _ _ h => h) (Or.inl ⟨by rfl, ?hyT14⟩) ?rstT14
            case hyT14 => (intro w; go_simp; (try with_reducible rfl))
            try simp only [Act.put, List.setIfInBounds_toArray, List.set_cons_zero, List.set_cons_succ]
            refine takeA (i := 1) (d := some 55) (v := ?vT15) rfl rfl (by kernel_rfl) (by kernel_rfl) (by kernel_rfl) (fun _ _ _ h => h) (Or.inl ⟨by rfl, ?hyT15⟩) ?rstT15
            case hyT15 => (intro w; go_simp; (try with_reducible rfl))
            try simp only [Act.put, List.setIfInBounds_toArray, List.set_cons_zero, List.set_cons_succ]
            refine takeA (i := 2) (d := some 56) (v := ?vT16) rfl rfl (by kernel_rfl) (by kernel_rfl) (by kernel_rfl) (fun _ _ _ h => h) (Or.inl ⟨by rfl, ?hyT16⟩) ?rstT16
            case hyT16 => (intro w; go_simp; (try with_reducible rfl))
            try simp only [Act.put, List.setIfInBounds_toArray, List.set_cons_zero, List.set_cons_succ]
            refine takeA (i := 4) (d := some 58) (v := ?vT17) rfl rfl (by kernel_rfl) (by kernel_rfl) (by kernel_rfl) (fun _ _ _ h => h) (Or.inl ⟨by rfl, ?hyT17⟩) ?rstT17
            case hyT17 => (intro w; go_simp; (try with_reducible rfl))
            try simp only [Act.put, List.setIfInBounds_toArray, List.set_cons_zero, List.set_cons_succ]
            refine wpAny_ready (rs := [3, 5]) (by kernel_rfl) (by simp) (consS rfl (fun K hK => ?bA18) (consS rfl (fun K hK => ?bB18) AllReady.nil))
            case bA18 =>
              go_simp
              refine hK.out _ _ ?_
              clear hK K
              try simp only [Act.put, List.setIfInBounds_toArray, List.set_cons_zero, List.set_cons_succ]
              refine wpAny_ready (rs := [5]) (by kernel_rfl) (by simp) (consS rfl (fun K hK => ?_) AllReady.nil)
              go_simp
              refine hK.out _ _ ?_
              clear hK K
              try simp only [Act.put, List.setIfInBounds_toArray, List.set_cons_zero, List.set_cons_succ]
              refine takeA (i := 6) (d := some 60) (v := ?vT20) rfl rfl (by kernel_rfl) (by kernel_rfl) (by kernel_rfl) (fun _ _ _ h => h) (Or.inl ⟨by rfl, ?hyT20⟩) ?rstT20
              case hyT20 => (intro w; go_simp; (try with_reducible rfl))
              try simp only [Act.put, List.setIfInBounds_toArray, List.set_cons_zero, List.set_cons_succ]
              refine wpAny_ready (rs := [7]) (by kernel_rfl) (by simp) (consS rfl (fun K hK => ?_) AllReady.nil)
              go_simp
              refine hK.out _ _ ?_
              clear hK K
              try simp only [Act.put, List.setIfInBounds_toArray, List.set_cons_zero, List.set_cons_succ]
              refine wpAny_done (by kernel_rfl) ?_ _
              go_wp2_with fail
              go_ret
              exact ⟨by rw [← HZ.out, HE0.out]; simp, HFIN.out⟩
            case bB18 =>
              go_simp
              refine hK.out _ _ ?_
              clear hK K
              try simp only [Act.put, List.setIfInBounds_toArray, List.set_cons_zero, List.set_cons_succ]
              refine wpAny_ready (rs := [3]) (by kernel_rfl) (by simp) (consS rfl (fun K hK => ?_) AllReady.nil)
              go_simp
              refine hK.out _ _ ?_
              clear hK K
              try simp only [Act.put, List.setIfInBounds_toArray, List.set_cons_zero, List.set_cons_succ]
              refine takeA (i := 6) (d := some 60) (v := ?vT22) rfl rfl (by kernel_rfl) (by kernel_rfl) (by kernel_rfl) (fun _ _ _ h => h) (Or.inl ⟨by rfl, ?hyT22⟩) ?rstT22
              case hyT22 => (intro w; go_simp; (try with_reducible rfl))
              try simp only [Act.put, List.setIfInBounds_toArray, List.set_cons_zero, List.set_cons_succ]
              refine wpAny_ready (rs := [7]) (by kernel_rfl) (by simp) (consS rfl (fun K hK => ?_) AllReady.nil)
              go_simp
              refine hK.out _ _ ?_
              clear hK K
              try simp only [Act.put, List.setIfInBounds_toArray, List.set_cons_zero, List.set_cons_succ]
              refine wpAny_done (by kernel_rfl) ?_ _
              go_wp2_with fail
              go_ret
              exact ⟨by rw [← HZ.out, HE0.out]; simp, HFIN.out⟩
          case bB8 =>
            go_simp
            refine hK.out _ _ ?_
            clear hK K
            try simp only [Act.put, List.setIfInBounds_toArray, List.set_cons_zero, List.set_cons_succ]
            refine takeA (i := 8) (d := some 48) (v := ?vT23) rfl rfl (by kernel_rfl) (by kernel_rfl) (by kernel_rfl) (fun _ _ _ h => h) (Or.inl ⟨by rfl, ?hyT23⟩) ?rstT23
            case hyT23 => (intro w; go_simp; (try with_reducible rfl))
            try simp only [Act.put, List.setIfInBounds_toArray, List.set_cons_zero, List.set_cons_succ]
            refine wpAny_ready (rs := [2, 9]) (by kernel_rfl) (by simp) (consS rfl (fun K hK => ?bA24) (consS rfl (fun K hK => ?bB24) AllReady.nil))
            case bA24 =>
              go_simp
              refine hK.out _ _ ?_
              clear hK K
              try simp only [Act.put, List.setIfInBounds_toArray, List.set_cons_zero, List.set_cons_succ]
              refine wpAny_ready (rs := [9]) (by kernel_rfl) (by simp) (consS rfl (fun K hK => ?_) AllReady.nil)
              go_simp
              refine hK.out _ _ ?_
              clear hK K
              try simp only [Act.put, List.setIfInBounds_toArray, List.set_cons_zero, List.set_cons_succ]
              refine takeA (i := 11) (d := some 51) (v := ?vT26) rfl rfl (by kernel_rfl) (by kernel_rfl) (by kernel_rfl) (fun _ _ _ h => h) (Or.inl ⟨by rfl, ?hyT26⟩) ?rstT26
              case hyT26 => (intro w; go_simp; (try with_reducible rfl))
              try simp only [Act.put, List.setIfInBounds_toArray, List.set_cons_zero, List.set_cons_succ]
              refine takeA (i := 12) (d := some 52) (v := ?vT27) rfl rfl (by kernel_rfl) (by kernel_rfl) (by kernel_rfl) (fun _ _ _ h => h) (Or.inl ⟨by rfl, ?hyT27⟩) ?rstT27
              case hyT27 => (intro w; go_simp; (try with_reducible rfl))
              try simp only [Act.put, List.setIfInBounds_toArray, List.set_cons_zero, List.set_cons_succ]
              refine wpAny_ready (rs := [13]) (by kernel_rfl) (by simp) (consS rfl (fun K hK => ?_) AllReady.nil)
              go_simp
              refine hK.out _ _ ?_
              clear hK K
              try simp only [Act.put, List.setIfInBounds_toArray, List.set_cons_zero, List.set_cons_succ]
              refine wpAny_done (by kernel_rfl) ?_ _
              go_wp2_with fail
              refine wp_region_any (by kernel_rfl) ?_
              show wpAny _ _ _ _ _ _ _ V3.drew
              refine takeA (i := 0) (d := some 54) (v := ?vT28) rfl rfl (by kernel_rfl) (by kernel_rfl) (by kernel_rfl) (fun _ _ _ h => h) (Or.inl ⟨by rfl, ?hyT28⟩) ?rstT28
              case hyT28 => (intro w; go_simp; (try with_reducible rfl))
              try simp only [Act.put, List.setIfInBounds_toArray, List.set_cons_zero, List.set_cons_succ]
              refine takeA (i := 1) (d := some 55) (v := ?vT29) rfl rfl (by kernel_rfl) (by kernel_rfl) (by kernel_rfl) (fun _ _ _ h => h) (Or.inl ⟨by rfl, ?hyT29⟩) ?rstT29
              case hyT29 => (intro w; go_simp; (try with_reducible rfl))
              try simp only [Act.put, List.setIfInBounds_toArray, List.set_cons_zero, List.set_cons_succ]
              refine takeA (i := 2) (d := some 56) (v := ?vT30) rfl rfl (by kernel_rfl) (by kernel_rfl) (by kernel_rfl) (fun _ _ _ h => h) (Or.inl ⟨by rfl, ?hyT30⟩) ?rstT30
              case hyT30 => (intro w; go_simp; (try with_reducible rfl))
              try simp only [Act.put, List.setIfInBounds_toArray, List.set_cons_zero, List.set_cons_succ]
              refine takeA (i := 4) (d := some 58) (v := ?vT31) rfl rfl (by kernel_rfl) (by kernel_rfl) (by kernel_rfl) (fun _ _ _ h => h) (Or.inl ⟨by rfl, ?hyT31⟩) ?rstT31
              case hyT31 => (intro w; go_simp; (try with_reducible rfl))
              try simp only [Act.put, List.setIfInBounds_toArray, List.set_cons_zero, List.set_cons_succ]
              refine wpAny_ready (rs := [3, 5]) (by kernel_rfl) (by simp) (consS rfl (fun K hK => ?bA32) (consS rfl (fun K hK => ?bB32) AllReady.nil))
              case bA32 =>
                go_simp
                refine hK.out _ _ ?_
                clear hK K
                try simp only [Act.put, List.setIfInBounds_toArray, List.set_cons_zero, List.set_cons_succ]
                refine wpAny_ready (rs := [5]) (by kernel_rfl) (by simp) (consS rfl (fun K hK => ?_) AllReady.nil)
                go_simp
                refine hK.out _ _ ?_
                clear hK K
                try simp only [Act.put, List.setIfInBounds_toArray, List.set_cons_zero, List.set_cons_succ]
                refine takeA (i := 6) (d := some 60) (v := ?vT34) rfl rfl (by kernel_rfl) (by kernel_rfl) (by kernel_rfl) (fun _ _ _ h => h) (Or.inl ⟨by rfl, ?hyT34⟩) ?rstT34
                case hyT34 => (intro w; go_simp; (try with_reducible rfl))
                try simp only [Act.put, List.setIfInBounds_toArray, List.set_cons_zero, List.set_cons_succ]
                refine wpAny_ready (rs := [7]) (by kernel_rfl) (by simp) (consS rfl (fun K hK => ?_) AllReady.nil)
                go_simp
                refine hK.out _ _ ?_
                clear hK K
                try simp only [Act.put, List.setIfInBounds_toArray, List.set_cons_zero, List.set_cons_succ]
                refine wpAny_done (by kernel_rfl) ?_ _
                go_wp2_with fail
                go_ret
                exact ⟨by rw [← HZ.out, HE0.out]; simp, HFIN.out⟩
              case bB32 =>
                go_simp
                refine hK.out _ _ ?_
                clear hK K
                try simp only [Act.put, List.setIfInBounds_toArray, List.set_cons_zero, List.set_cons_succ]
                refine wpAny_ready (rs := [3]) (by kernel_rfl) (by simp) (consS rfl (fun K hK => ?_) AllReady.nil)
                go_simp
                refine hK.out _ _ ?_
                clear hK K
                try simp only [Act.put, List.setIfInBounds_toArray, List.set_cons_zero, List.set_cons_succ]
                refine takeA (i := 6) (d := some 60) (v := ?vT36) rfl rfl (by kernel_rfl) (by kernel_rfl) (by kernel_rfl) (fun _ _ _ h => h) (Or.inl ⟨by rfl, ?hyT36⟩) ?rstT36
                case hyT36 => (intro w; go_simp; (try with_reducible rfl))
                try simp only [Act.put, List.setIfInBounds_toArray, List.set_cons_zero, List.set_cons_succ]
                refine wpAny_ready (rs := [7]) (by kernel_rfl) (by simp) (consS rfl (fun K hK => ?_) AllReady.nil)
                go_simp
                refine hK.out _ _ ?_
                clear hK K
                try simp only [Act.put, List.setIfInBounds_toArray, List.set_cons_zero, List.set_cons_succ]
                refine wpAny_done (by kernel_rfl) ?_ _
                go_wp2_with fail
                go_ret
                exact ⟨by rw [← HZ.out, HE0.out]; simp, HFIN.out⟩
            case bB24 =>
              go_simp
              refine hK.out _ _ ?_
              clear hK K
              try simp only [Act.put, List.setIfInBounds_toArray, List.set_cons_zero, List.set_cons_succ]
              refine takeA (i := 11) (d := some 51) (v := ?vT37) rfl rfl (by kernel_rfl) (by kernel_rfl) (by kernel_rfl) (fun _ _ _ h => h) (Or.inl ⟨by rfl, ?hyT37⟩) ?rstT37
              case hyT37 => (intro w; go_simp; (try with_reducible rfl))
              try simp only [Act.put, List.setIfInBounds_toArray, List.set_cons_zero, List.set_cons_succ]
              refine wpAny_ready (rs := [2]) (by kernel_rfl) (by simp) (consS rfl (fun K hK => ?_) AllReady.nil)
              go_simp
              refine hK.out _ _ ?_
              clear hK K
              try simp only [Act.put, List.setIfInBounds_toArray, List.set_cons_zero, List.set_cons_succ]
              refine takeA (i := 12) (d := some 52) (v := ?vT39) rfl rfl (by kernel_rfl) (by kernel_rfl) (by kernel_rfl) (fun _ _ _ h => h) (Or.inl ⟨by rfl, ?hyT39⟩) ?rstT39
              case hyT39 => (intro w; go_simp; (try with_reducible rfl))
              try simp only [Act.put, List.setIfInBounds_toArray, List.set_cons_zero, List.set_cons_succ]
              refine wpAny_ready (rs := [13]) (by kernel_rfl) (by simp) (consS rfl (fun K hK => ?_) AllReady.nil)
              go_simp
              refine hK.out _ _ ?_
              clear hK K
              try simp only [Act.put, List.setIfInBounds_toArray, List.set_cons_zero, List.set_cons_succ]
              refine wpAny_done (by kernel_rfl) ?_ _
              go_wp2_with fail
              refine wp_region_any (by kernel_rfl) ?_
              show wpAny _ _ _ _ _ _ _ V3.drew
              refine takeA (i := 0) (d := some 54) (v := ?vT40) rfl rfl (by kernel_rfl) (by kernel_rfl) (by kernel_rfl) (fun _ _ _ h => h) (Or.inl ⟨by rfl, ?hyT40⟩) ?rstT40
              case hyT40 => (intro w; go_simp; (try with_reducible rfl))
              try simp only [Act.put, List.setIfInBounds_toArray, List.set_cons_zero, List.set_cons_succ]
              refine takeA (i := 1) (d := some 55) (v := ?vT41) rfl rfl (by kernel_rfl) (by kernel_rfl) (by kernel_rfl) (fun _ _ _ h => h) (Or.inl ⟨by rfl, ?hyT41⟩) ?rstT41
              case hyT41 => (intro w; go_simp; (try with_reducible rfl))
              try simp only [Act.put, List.setIfInBounds_toArray, List.set_cons_zero, List.set_cons_succ]
              refine takeA (i := 2) (d := some 56) (v := ?vT42) rfl rfl (by kernel_rfl) (by kernel_rfl) (by kernel_rfl) (fun _ _ _ h => h) (Or.inl ⟨by rfl, ?hyT42⟩) ?rstT42
              case hyT42 => (intro w; go_simp; (try with_reducible rfl))
              try simp only [Act.put, List.setIfInBounds_toArray, List.set_cons_zero, List.set_cons_succ]
              refine takeA (i := 4) (d := some 58) (v := ?vT43) rfl rfl (by kernel_rfl) (by kernel_rfl) (by kernel_rfl) (fun _ _ _ h => h) (Or.inl ⟨by rfl, ?hyT43⟩) ?rstT43
              case hyT43 => (intro w; go_simp; (try with_reducible rfl))
              try simp only [Act.put, List.setIfInBounds_toArray, List.set_cons_zero, List.set_cons_succ]
              refine wpAny_ready (rs := [3, 5]) (by kernel_rfl) (by simp) (consS rfl (fun K hK => ?bA44) (consS rfl (fun K hK => ?bB44) AllReady.nil))
              case bA44 =>
                go_simp
                refine hK.out _ _ ?_
                clear hK K
                try simp only [Act.put, List.setIfInBounds_toArray, List.set_cons_zero, List.set_cons_succ]
                refine wpAny_ready (rs := [5]) (by kernel_rfl) (by simp) (consS rfl (fun K hK => ?_) AllReady.nil)
                go_simp
                refine hK.out _ _ ?_
                clear hK K
                try simp only [Act.put, List.setIfInBounds_toArray, List.set_cons_zero, List.set_cons_succ]
                refine takeA (i := 6) (d := some 60) (v := ?vT46) rfl rfl (by kernel_rfl) (by kernel_rfl) (by kernel_rfl) (fun _ _ _ h => h) (Or.inl ⟨by rfl, ?hyT46⟩) ?rstT46
                case hyT46 => (intro w; go_simp; (try with_reducible rfl))
                try simp only [Act.put, List.setIfInBounds_toArray, List.set_cons_zero, List.set_cons_succ]
                refine wpAny_ready (rs := [7]) (by kernel_rfl) (by simp) (consS rfl (fun K hK => ?_) AllReady.nil)
                go_simp
                refine hK.out _ _ ?_
                clear hK K
                try simp only [Act.put, List.setIfInBounds_toArray, List.set_cons_zero, List.set_cons_succ]
                refine wpAny_done (by kernel_rfl) ?_ _
                go_wp2_with fail
                go_ret
                exact ⟨by rw [← HZ.out, HE0.out]; simp, HFIN.out⟩
              case bB44 =>
                go_simp
                refine hK.out _ _ ?_
                clear hK K
                try simp only [Act.put, List.setIfInBounds_toArray, List.set_cons_zero, List.set_cons_succ]
                refine wpAny_ready (rs := [3]) (by kernel_rfl) (by simp) (consS rfl (fun K hK => ?_) AllReady.nil)
                go_simp
                refine hK.out _ _ ?_
                clear hK K
                try simp only [Act.put, List.setIfInBounds_toArray, List.set_cons_zero, List.set_cons_succ]
                refine takeA (i := 6) (d := some 60) (v := ?vT48) rfl rfl (by kernel_rfl) (by kernel_rfl) (by kernel_rfl) (fun _ _ _ h => h) (Or.inl ⟨by rfl, ?hyT48⟩) ?rstT48
                case hyT48 => (intro w; go_simp; (try with_reducible rfl))
                try simp only [Act.put, List.setIfInBounds_toArray, List.set_cons_zero, List.set_cons_succ]
                refine wpAny_ready (rs := [7]) (by kernel_rfl) (by simp) (consS rfl (fun K hK => ?_) AllReady.nil)
                go_simp
                refine hK.out _ _ ?_
                clear hK K
                try simp only [Act.put, List.setIfInBounds_toArray, List.set_cons_zero, List.set_cons_succ]
                refine wpAny_done (by kernel_rfl) ?_ _
                go_wp2_with fail
                go_ret
                exact ⟨by rw [← HZ.out, HE0.out]; simp, HFIN.out⟩
end
end Go.Proofs.Ytdmhajlhpieedaa
