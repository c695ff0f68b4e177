import Derived.Test.YtdmhajlhpieedaaLcF
/-! bag: a Spoil. -/
namespace Go.Proofs.Ytdmhajlhpieedaa
open Go.RowKit Go.Lib Go.Shelf
set_option maxRecDepth 100000

theorem spE_bad (f : Fg) (m : UInt8) (h : f.sp = true ∨ f.bs.length = 0 ∨ m = 0) : spE f 0 m ≠ 0 := by
  unfold spE
  split
  · decide
  · rename_i h1
    rcases h with h | h | h
    · rw [if_pos h]; decide
    · exact absurd (.inr (.inl (by omega))) h1
    · exact absurd (.inr (.inr h)) h1
theorem bag_turnNo {L : List Sn} {k : Nat} {at_ : Int} {m : UInt8} (h : turnE (bagS L) (k : Int) at_ m ≠ 0) : turnS (bagS L) (k : Int) at_ m = bagS L := by rw [turnS, if_neg h]
theorem bag_turn {L : List Sn} {k j : Nat} {m : UInt8} (h : turnE (bagS L) (k : Int) (j : Int) m = 0) : turnS (bagS L) (k : Int) (j : Int) m = bagS (L.modify k (turnN j m)) := by
  rw [turnS, if_pos h]
  unfold bagS
  simp only [List.length_modify, Int.toNat_natCast]
  congr 1
  exact map_fgs L k j m
set_option maxHeartbeats 4000000 in
theorem step_spoilNo {W0 W W1 : World} {q : Nat} {L : List Sn} {a : Option Addr} {n c kk : Nat} {sp : Sp} (z : Bz W0 W W1 q L a n c kk sp) (hL : L.length ≤ 3000) (hb : ∀ s ∈ L, s.bs.length ≤ 1048576) (hk : sp.kind = 5) (hno : ∀ s, L[kk]? = some s → s.here = false) : Calls Try.prog 18 #[.pointer (some ⟨q, 0, none⟩), .slice a n c, sp.val] W fun e w' => ∃ v', e = .returned (.tuple #[v', .bool true]) ∧ BagP W0 q L v' w' := by
  obtain ⟨r0, r1, r2, r3, r4, r5⟩ := box6 z.bx
  have hal := z.al
  have HPK : Hid (∀ w, Calls Try.prog 15 #[.int .i64 sp.k, .int .i64 ((n : Int) + 1)] w fun e w' => e = .returned (.int .i64 (kk : Int)) ∧ w' = w) := z.pk
  have en : IntKind.i64.wrap ((n : Int) + 1) = (n : Int) + 1 := IntWalk.i64_in _ (by have := z.len; omega)
  have HZ : Hid (Bz W0 W W1 q L a n c kk sp ∧ L.length ≤ 3000 ∧ ∀ s ∈ L, s.bs.length ≤ 1048576) := ⟨z, hL, hb⟩
  unfold Sp.val
  have hbad : turnE (bagS L) (kk : Int) 0 sp.mask ≠ 0 := by
    have hhit : hitF (bagS L) (kk : Int) = none := by
      rw [bag_hit]
      cases hq : L[kk]? with
      | none => rfl
      | some s => simp [hno s hq]
    rw [turnE, hhit]; simp
  rw [hk] at r0 hal ⊢
  have hsp := z.bg.spoil (kk : Int) 0 sp.mask
  obtain ⟨ze, hze⟩ : ∃ ze, turnE (bagS L) (kk : Int) 0 sp.mask = ze := ⟨_, rfl⟩
  rw [bag_turnNo hbad] at hsp
  rw [hze] at hbad hsp
  have HB : Hid (∀ a', a = a' → Calls Try.prog 14 #[.pointer (some ⟨q, 0, none⟩), .int .i64 (kk : Int), .int .i64 0, .int .u8 (sp.mask.toNat : Int)] W1 fun e w' => e = .returned (.int .i64 ze) ∧ BagP W0 q L (.slice a' n c) w') := fun a' ea => hsp.mono (by
    rintro e w' ⟨e1, e2⟩
    exact ⟨e1, L, ea ▸ e2, by omega, hb⟩)
  have bz : (ze != 0) = true := by simpa using hbad
  clear hsp hze hbad
  by_cases hkl : kk < n
  · have hkL : kk < L.length := by have := z.len; omega
    have hs : L[kk]? = some L[kk] := List.getElem?_eq_getElem hkL
    have hh := hno _ hs
    obtain ⟨g, c', ev, _, ⟨c0, c1, c2, c3, c4, c5⟩, cf, cg, cur, hcur⟩ := z.bg.at hs
    simp only [Value.slice.injEq] at ev
    obtain ⟨rfl, -, rfl⟩ := ev
    rw [hh] at c5
    have g1 : (kk : Int) < (n : Int) := by omega
    clear hs hh hno c0 c1 c2 c3 c4 cf cg hcur
    have HB1 := HB.out _ rfl
    clear HB
    obtain ⟨mi, hmi⟩ : ∃ mi : Int, (sp.mask.toNat : Int) = mi := ⟨_, rfl⟩
    have HMI : Hid ((sp.mask.toNat : Int) = mi) := hmi
    rw [hmi] at r4 hal HB1 ⊢
    clear hmi
    clear z hL hb r1 r3 r5
    go_enter Try.func18, Try.ntmps18
    go_wp2_with fail
    refine (HPK.out _).mono ?_
    rintro e w' ⟨rfl, hw⟩
    obtain rfl := hw.symm
    clear hw
    go_wp2_with fail
    refine HB1.mono ?_
    rintro e w2 ⟨rfl, h2⟩
    have HP2 : Hid (BagP W0 q L _ w2) := h2
    clear h2 HB1
    go_wp2_with fail
    go_ret2
    exact ⟨_, rfl, HP2.out⟩
  · have g1 : ¬ (kk : Int) < (n : Int) := by omega
    clear hno
    have HB1 := HB.out _ rfl
    clear HB
    obtain ⟨mi, hmi⟩ : ∃ mi : Int, (sp.mask.toNat : Int) = mi := ⟨_, rfl⟩
    have HMI : Hid ((sp.mask.toNat : Int) = mi) := hmi
    rw [hmi] at r4 hal HB1 ⊢
    clear hmi
    clear z hL hb r1 r3 r5
    go_enter Try.func18, Try.ntmps18
    go_wp2_with fail
    refine (HPK.out _).mono ?_
    rintro e w' ⟨rfl, hw⟩
    obtain rfl := hw.symm
    clear hw
    go_wp2_with fail
    refine HB1.mono ?_
    rintro e w2 ⟨rfl, h2⟩
    have HP2 : Hid (BagP W0 q L _ w2) := h2
    clear h2 HB1
    go_wp2_with fail
    go_ret2
    exact ⟨_, rfl, HP2.out⟩
set_option maxHeartbeats 4000000 in
theorem step_spoilSp {W0 W W1 : World} {q : Nat} {L : List Sn} {a : Option Addr} {n c kk : Nat} {sp : Sp} (z : Bz W0 W W1 q L a n c kk sp) (hL : L.length ≤ 3000) (hb : ∀ s ∈ L, s.bs.length ≤ 1048576) (hk : sp.kind = 5) {s : Sn} (hs : L[kk]? = some s) (hh : s.here = true) (h1 : s.sp = true) : Calls Try.prog 18 #[.pointer (some ⟨q, 0, none⟩), .slice a n c, sp.val] W fun e w' => ∃ v', e = .returned (.tuple #[v', .bool true]) ∧ BagP W0 q L v' w' := by
  obtain ⟨r0, r1, r2, r3, r4, r5⟩ := box6 z.bx
  have hal := z.al
  have HPK : Hid (∀ w, Calls Try.prog 15 #[.int .i64 sp.k, .int .i64 ((n : Int) + 1)] w fun e w' => e = .returned (.int .i64 (kk : Int)) ∧ w' = w) := z.pk
  have en : IntKind.i64.wrap ((n : Int) + 1) = (n : Int) + 1 := IntWalk.i64_in _ (by have := z.len; omega)
  have HZ : Hid (Bz W0 W W1 q L a n c kk sp ∧ L.length ≤ 3000 ∧ ∀ s ∈ L, s.bs.length ≤ 1048576) := ⟨z, hL, hb⟩
  unfold Sp.val
  have hkl : kk < n := by have h1 := (List.getElem?_eq_some_iff.1 hs).1; have := z.len; omega
  obtain ⟨g, c', ev, _, ⟨c0, c1, c2, c3, c4, c5⟩, cf, cg, cur, hcur⟩ := z.bg.at hs
  simp only [Value.slice.injEq] at ev
  obtain ⟨rfl, -, rfl⟩ := ev
  rw [hh] at c5
  have g1 : (kk : Int) < (n : Int) := by omega
  have hbad : turnE (bagS L) (kk : Int) 0 sp.mask ≠ 0 := by
    rw [turnE, bag_hit, hs]
    simp only [hh, if_true]
    exact spE_bad _ _ (.inl h1)
  rw [hk] at r0 hal ⊢
  have hsp := z.bg.spoil (kk : Int) 0 sp.mask
  obtain ⟨ze, hze⟩ : ∃ ze, turnE (bagS L) (kk : Int) 0 sp.mask = ze := ⟨_, rfl⟩
  rw [bag_turnNo hbad] at hsp
  rw [hze] at hbad hsp
  have HB : Hid (∀ a', (some ⟨g, 0, none⟩) = a' → Calls Try.prog 14 #[.pointer (some ⟨q, 0, none⟩), .int .i64 (kk : Int), .int .i64 0, .int .u8 (sp.mask.toNat : Int)] W1 fun e w' => e = .returned (.int .i64 ze) ∧ BagP W0 q L (.slice a' n c) w') := fun a' ea => hsp.mono (by
    rintro e w' ⟨e1, e2⟩
    exact ⟨e1, L, ea ▸ e2, by omega, hb⟩)
  have bz : (ze != 0) = true := by simpa using hbad
  clear hsp hze hbad
  clear hs hh c0 c1 c2 cf cg hcur
  rw [h1] at c4
  clear c3
  have HB1 := HB.out _ rfl
  clear HB
  obtain ⟨mi, hmi⟩ : ∃ mi : Int, (sp.mask.toNat : Int) = mi := ⟨_, rfl⟩
  have HMI : Hid ((sp.mask.toNat : Int) = mi) := hmi
  rw [hmi] at r4 hal HB1 ⊢
  clear hmi
  clear z hL hb r1 r3 r5
  go_enter Try.func18, Try.ntmps18
  go_wp2_with fail
  refine (HPK.out _).mono ?_
  rintro e w' ⟨rfl, hw⟩
  obtain rfl := hw.symm
  clear hw
  go_wp2_with fail
  refine HB1.mono ?_
  rintro e w2 ⟨rfl, h2⟩
  have HP2 : Hid (BagP W0 q L _ w2) := h2
  clear h2 HB1
  go_wp2_with fail
  go_ret2
  exact ⟨_, rfl, HP2.out⟩
set_option maxHeartbeats 4000000 in
theorem step_spoilEm {W0 W W1 : World} {q : Nat} {L : List Sn} {a : Option Addr} {n c kk : Nat} {sp : Sp} (z : Bz W0 W W1 q L a n c kk sp) (hL : L.length ≤ 3000) (hb : ∀ s ∈ L, s.bs.length ≤ 1048576) (hk : sp.kind = 5) {s : Sn} (hs : L[kk]? = some s) (hh : s.here = true) (h1 : s.sp = false) (h2 : s.bs.length = 0) : Calls Try.prog 18 #[.pointer (some ⟨q, 0, none⟩), .slice a n c, sp.val] W fun e w' => ∃ v', e = .returned (.tuple #[v', .bool true]) ∧ BagP W0 q L v' w' := by
  obtain ⟨r0, r1, r2, r3, r4, r5⟩ := box6 z.bx
  have hal := z.al
  have HPK : Hid (∀ w, Calls Try.prog 15 #[.int .i64 sp.k, .int .i64 ((n : Int) + 1)] w fun e w' => e = .returned (.int .i64 (kk : Int)) ∧ w' = w) := z.pk
  have en : IntKind.i64.wrap ((n : Int) + 1) = (n : Int) + 1 := IntWalk.i64_in _ (by have := z.len; omega)
  have HZ : Hid (Bz W0 W W1 q L a n c kk sp ∧ L.length ≤ 3000 ∧ ∀ s ∈ L, s.bs.length ≤ 1048576) := ⟨z, hL, hb⟩
  unfold Sp.val
  have hkl : kk < n := by have h1 := (List.getElem?_eq_some_iff.1 hs).1; have := z.len; omega
  obtain ⟨g, c', ev, _, ⟨c0, c1, c2, c3, c4, c5⟩, cf, cg, cur, hcur⟩ := z.bg.at hs
  simp only [Value.slice.injEq] at ev
  obtain ⟨rfl, -, rfl⟩ := ev
  rw [hh] at c5
  have g1 : (kk : Int) < (n : Int) := by omega
  have hbad : turnE (bagS L) (kk : Int) 0 sp.mask ≠ 0 := by
    rw [turnE, bag_hit, hs]
    simp only [hh, if_true]
    exact spE_bad _ _ (.inr (.inl h2))
  rw [hk] at r0 hal ⊢
  have hsp := z.bg.spoil (kk : Int) 0 sp.mask
  obtain ⟨ze, hze⟩ : ∃ ze, turnE (bagS L) (kk : Int) 0 sp.mask = ze := ⟨_, rfl⟩
  rw [bag_turnNo hbad] at hsp
  rw [hze] at hbad hsp
  have HB : Hid (∀ a', (some ⟨g, 0, none⟩) = a' → Calls Try.prog 14 #[.pointer (some ⟨q, 0, none⟩), .int .i64 (kk : Int), .int .i64 0, .int .u8 (sp.mask.toNat : Int)] W1 fun e w' => e = .returned (.int .i64 ze) ∧ BagP W0 q L (.slice a' n c) w') := fun a' ea => hsp.mono (by
    rintro e w' ⟨e1, e2⟩
    exact ⟨e1, L, ea ▸ e2, by omega, hb⟩)
  have bz : (ze != 0) = true := by simpa using hbad
  clear hsp hze hbad
  clear hs hh c0 c1 c2 cf cg hcur
  rw [h1] at c4
  obtain ⟨Y, hY⟩ : ∃ Y : ByteArray, ⟨s.bs.toArray⟩ = Y := ⟨_, rfl⟩
  have hsz : Y.size = 0 := by rw [← hY]; simpa [ByteArray.size] using h2
  rw [hY] at c3
  clear hY h2
  have HB1 := HB.out _ rfl
  clear HB
  obtain ⟨mi, hmi⟩ : ∃ mi : Int, (sp.mask.toNat : Int) = mi := ⟨_, rfl⟩
  have HMI : Hid ((sp.mask.toNat : Int) = mi) := hmi
  rw [hmi] at r4 hal HB1 ⊢
  clear hmi
  clear z hL hb r1 r3 r5
  go_enter Try.func18, Try.ntmps18
  go_wp2_with fail
  refine (HPK.out _).mono ?_
  rintro e w' ⟨rfl, hw⟩
  obtain rfl := hw.symm
  clear hw
  go_wp2_with fail
  refine HB1.mono ?_
  rintro e w2 ⟨rfl, h2⟩
  have HP2 : Hid (BagP W0 q L _ w2) := h2
  clear h2 HB1
  go_wp2_with fail
  go_ret2
  exact ⟨_, rfl, HP2.out⟩
set_option maxHeartbeats 4000000 in
theorem step_spoilMk {W0 W W1 : World} {q : Nat} {L : List Sn} {a : Option Addr} {n c kk : Nat} {sp : Sp} (z : Bz W0 W W1 q L a n c kk sp) (hL : L.length ≤ 3000) (hb : ∀ s ∈ L, s.bs.length ≤ 1048576) (hk : sp.kind = 5) {s : Sn} (hs : L[kk]? = some s) (hh : s.here = true) (h1 : s.sp = false) (h2 : 0 < s.bs.length) (h3 : sp.mask = 0) : Calls Try.prog 18 #[.pointer (some ⟨q, 0, none⟩), .slice a n c, sp.val] W fun e w' => ∃ v', e = .returned (.tuple #[v', .bool true]) ∧ BagP W0 q L v' w' := by
  obtain ⟨r0, r1, r2, r3, r4, r5⟩ := box6 z.bx
  have hal := z.al
  have HPK : Hid (∀ w, Calls Try.prog 15 #[.int .i64 sp.k, .int .i64 ((n : Int) + 1)] w fun e w' => e = .returned (.int .i64 (kk : Int)) ∧ w' = w) := z.pk
  have en : IntKind.i64.wrap ((n : Int) + 1) = (n : Int) + 1 := IntWalk.i64_in _ (by have := z.len; omega)
  have HZ : Hid (Bz W0 W W1 q L a n c kk sp ∧ L.length ≤ 3000 ∧ ∀ s ∈ L, s.bs.length ≤ 1048576) := ⟨z, hL, hb⟩
  unfold Sp.val
  have hkl : kk < n := by have h1 := (List.getElem?_eq_some_iff.1 hs).1; have := z.len; omega
  obtain ⟨g, c', ev, _, ⟨c0, c1, c2, c3, c4, c5⟩, cf, cg, cur, hcur⟩ := z.bg.at hs
  simp only [Value.slice.injEq] at ev
  obtain ⟨rfl, -, rfl⟩ := ev
  rw [hh] at c5
  have g1 : (kk : Int) < (n : Int) := by omega
  have hbad : turnE (bagS L) (kk : Int) 0 sp.mask ≠ 0 := by
    rw [turnE, bag_hit, hs]
    simp only [hh, if_true]
    exact spE_bad _ _ (.inr (.inr h3))
  rw [hk] at r0 hal ⊢
  have hsp := z.bg.spoil (kk : Int) 0 sp.mask
  obtain ⟨ze, hze⟩ : ∃ ze, turnE (bagS L) (kk : Int) 0 sp.mask = ze := ⟨_, rfl⟩
  rw [bag_turnNo hbad] at hsp
  rw [hze] at hbad hsp
  have HB : Hid (∀ a', (some ⟨g, 0, none⟩) = a' → Calls Try.prog 14 #[.pointer (some ⟨q, 0, none⟩), .int .i64 (kk : Int), .int .i64 0, .int .u8 (sp.mask.toNat : Int)] W1 fun e w' => e = .returned (.int .i64 ze) ∧ BagP W0 q L (.slice a' n c) w') := fun a' ea => hsp.mono (by
    rintro e w' ⟨e1, e2⟩
    exact ⟨e1, L, ea ▸ e2, by omega, hb⟩)
  have bz : (ze != 0) = true := by simpa using hbad
  clear hsp hze hbad
  clear hs hh c0 c1 c2 cf cg hcur
  rw [h1] at c4
  obtain ⟨Y, hY⟩ : ∃ Y : ByteArray, ⟨s.bs.toArray⟩ = Y := ⟨_, rfl⟩
  have hsz : ((Y.size : Int) == 0) = false := by
    have h4 : Y.size = s.bs.length := by rw [← hY]; simp [ByteArray.size]
    rw [h4]; exact beq_eq_false_iff_ne.2 (by omega)
  have hsz2 : ¬ Y.size = 0 := by simpa using hsz
  have m0 : (sp.mask.toNat : Int) = 0 := by rw [h3]; rfl
  rw [hY] at c3
  clear hY h2 h3
  have HB1 := HB.out _ rfl
  clear HB
  obtain ⟨mi, hmi⟩ : ∃ mi : Int, (sp.mask.toNat : Int) = mi := ⟨_, rfl⟩
  have HMI : Hid ((sp.mask.toNat : Int) = mi) := hmi
  rw [hmi] at r4 hal HB1 ⊢
  rw [hmi] at m0
  subst m0
  clear hmi
  clear z hL hb r1 r3 r5
  go_enter Try.func18, Try.ntmps18
  go_wp2_with fail
  refine (HPK.out _).mono ?_
  rintro e w' ⟨rfl, hw⟩
  obtain rfl := hw.symm
  clear hw
  go_wp2_with fail
  refine HB1.mono ?_
  rintro e w2 ⟨rfl, h2⟩
  have HP2 : Hid (BagP W0 q L _ w2) := h2
  clear h2 HB1
  go_wp2_with fail
  go_ret2
  exact ⟨_, rfl, HP2.out⟩
set_option maxHeartbeats 4000000 in
theorem step_spoil {W0 W W1 : World} {q : Nat} {L : List Sn} {a : Option Addr} {n c kk : Nat} {sp : Sp} (z : Bz W0 W W1 q L a n c kk sp) (hL : L.length ≤ 3000) (hb : ∀ s ∈ L, s.bs.length ≤ 1048576) (hk : sp.kind = 5) {s : Sn} (hs : L[kk]? = some s) (hh : s.here = true) (h1 : s.sp = false) (h2 : 0 < s.bs.length) (h3 : sp.mask ≠ 0) : Calls Try.prog 18 #[.pointer (some ⟨q, 0, none⟩), .slice a n c, sp.val] W fun e w' => ∃ v', e = .returned (.tuple #[v', .bool true]) ∧ BagP W0 q L v' w' := by
  obtain ⟨r0, r1, r2, r3, r4, r5⟩ := box6 z.bx
  have hal := z.al
  have HPK : Hid (∀ w, Calls Try.prog 15 #[.int .i64 sp.k, .int .i64 ((n : Int) + 1)] w fun e w' => e = .returned (.int .i64 (kk : Int)) ∧ w' = w) := z.pk
  have en : IntKind.i64.wrap ((n : Int) + 1) = (n : Int) + 1 := IntWalk.i64_in _ (by have := z.len; omega)
  have HZ : Hid (Bz W0 W W1 q L a n c kk sp ∧ L.length ≤ 3000 ∧ ∀ s ∈ L, s.bs.length ≤ 1048576) := ⟨z, hL, hb⟩
  unfold Sp.val
  have hkl : kk < n := by have h1 := (List.getElem?_eq_some_iff.1 hs).1; have := z.len; omega
  obtain ⟨g, c', ev, _, ⟨c0, c1, c2, c3, c4, c5⟩, cf, cg, cur, hcur⟩ := z.bg.at hs
  simp only [Value.slice.injEq] at ev
  obtain ⟨rfl, -, rfl⟩ := ev
  rw [hh] at c5
  have g1 : (kk : Int) < (n : Int) := by omega
  rw [hk] at r0 hal ⊢
  rw [h1] at c4
  have hlen := hb s (List.mem_of_getElem? hs)
  obtain ⟨j, hje⟩ : ∃ j, pickZ sp.at_ s.bs.length = j := ⟨_, rfl⟩
  have hj := pickZ_lt sp.at_ s.bs.length h2
  rw [hje] at hj
  have hE : turnE (bagS L) (kk : Int) (j : Int) sp.mask = 0 := by
    rw [turnE, bag_hit, hs]
    simp only [hh, if_true, spE, Sn.fg]
    rw [if_neg (by simp only [h3, or_false]; omega), h1]
    rfl
  obtain ⟨K, k1, k2, k3⟩ := z.nk
  have hBd : Below W1.heap.size W1 W1.drew := (Below.refl _ _).drew
  have hsp := spoilK (k1.below hBd).lnk (kk : Int) (j : Int) sp.mask
  rw [hE, bag_turn hE, modify_set _ L kk s hs] at hsp
  obtain ⟨Y, hY⟩ : ∃ Y : ByteArray, ⟨s.bs.toArray⟩ = Y := ⟨_, rfl⟩
  have hys : Y.size = s.bs.length := by rw [← hY]; simp [ByteArray.size]
  rw [hY] at c3
  obtain ⟨bl, hbl⟩ : ∃ bl, s.bs.length = bl := ⟨_, rfl⟩
  have hys2 : Y.size = bl := by rw [hys, hbl]
  obtain ⟨Z, hZ⟩ : ∃ Z : ByteArray, ⟨(s.bs.set j ((s.bs.getD j 0) ^^^ sp.mask)).toArray⟩ = Z := ⟨_, rfl⟩
  obtain ⟨mi, hmi⟩ : ∃ mi : Int, (sp.mask.toNat : Int) = mi := ⟨_, rfl⟩
  have m1 : (mi == 0) = false := by
    rw [← hmi]
    exact beq_eq_false_iff_ne.2 (fun e => h3 (by apply UInt8.toNat_inj.1; simpa using e))
  have m2 : ¬ mi = 0 := by simpa using m1
  have s1 : ((bl : Int) == 0) = false := beq_eq_false_iff_ne.2 (by omega)
  have s2 : ¬ bl = 0 := by omega
  have s3 : ¬ (bl : Int) = 0 := by omega
  have HPT : Hid (∀ w, Calls Try.prog 15 #[.int .i64 sp.at_, .int .i64 (bl : Int)] w fun e w' => e = .returned (.int .i64 (j : Int)) ∧ w' = w) := fun w => by
    have hp := pick_any sp.at_ s.bs.length h2 (by omega) w
    rw [hje, hbl] at hp
    exact hp
  have HT0 : Hid (∀ w, Calls Try.prog 30 #[.string Y, .int .i64 (j : Int), .int .u8 mi] w fun e w' => e = .returned (.string Z) ∧ Below w.heap.size w w') := fun w => by
    have ht := turned_any s.bs j sp.mask hj (by omega) w
    rw [hY, hZ, hmi] at ht
    exact ht
  obtain ⟨b5, hb5⟩ : ∃ b5, W.heap.size = b5 := ⟨_, rfl⟩
  have hbx := z.bx
  rw [hb5] at hbx k3
  have HB : Hid (Calls Try.prog 14 #[.pointer (some ⟨q, 0, none⟩), .int .i64 (kk : Int), .int .i64 (j : Int), .int .u8 mi] W1.drew fun e w' => e = .returned (.int .i64 0) ∧ Bg W0 w' q (bagS (L.set kk (turnN j sp.mask s))) (.slice (some ⟨g, 0, none⟩) n c) L ∧ w'.cell? ⟨b5, 4, none⟩ = some (.int .u8 mi)) := by
    rw [hmi] at hsp
    refine hsp.mono ?_
    rintro e w' ⟨e1, e2⟩
    refine ⟨e1, bg_lft (k1.below hBd) k2 (z.bg.own.below hBd) e2, ?_⟩
    have := (box6 (e2.2.block hbx k3)).2.2.2.2.1
    rw [hmi] at this
    exact this
  have HS : Hid (L[kk]? = some s ∧ Z = ⟨(s.bs.set j ((s.bs.getD j 0) ^^^ sp.mask)).toArray⟩ ∧ (⟨s.bs.toArray⟩ : ByteArray) = Y) := ⟨hs, hZ.symm, hY⟩
  rw [hmi] at r4 hal ⊢
  rw [hb5] at r0 r2 r3 r4
  clear hs hh hj hje hE k1 k2 k3 hsp hBd hys hY hbl hZ hmi hbx cf cg hcur c0 c1 c2 h1 h2 h3 hlen z hL hb r1 r5
  go_enter Try.func18, Try.ntmps18
  go_wp2_with fail
  refine (HPK.out _).mono ?_
  rintro e w' ⟨rfl, hw⟩
  obtain rfl := hw.symm
  clear hw
  go_wp2_with fail
  refine wp_region_held_drew (S := (fun w => w.cell? ⟨b5, 3, none⟩ = some (.int .i64 sp.at_) ∧ w.cell? ⟨g, kk * 6 + 3, none⟩ = some (.string Y))) (by kernel_rfl) ?hSx (fun hHeld => ?restx)
  case hSx => exact ⟨r3, c3⟩
  refine takeD (i := 0) (d := some 125) (v := ?vT1) rfl rfl (by kernel_rfl) (by kernel_rfl) (by kernel_rfl) (fun _ _ _ h => h) (Or.inl ⟨by rfl, ?hyT1⟩) (by assumption) ?rstT1
  case hyT1 => (intro w hSw; (try dsimp only at hSw); obtain ⟨s0, s1⟩ := hSw; go_simp; (try with_reducible rfl))
  try simp only [Act.put, List.setIfInBounds_toArray, List.set_cons_zero, List.set_cons_succ]
  refine takeD (i := 1) (d := some 126) (v := ?vT2) rfl rfl (by kernel_rfl) (by kernel_rfl) (by kernel_rfl) (fun _ _ _ h => h) (Or.inl ⟨by rfl, ?hyT2⟩) (by assumption) ?rstT2
  case hyT2 => (intro w hSw; (try dsimp only at hSw); obtain ⟨s0, s1⟩ := hSw; go_simp; (try with_reducible rfl))
  try simp only [Act.put, List.setIfInBounds_toArray, List.set_cons_zero, List.set_cons_succ]
  refine takeD (i := 2) (d := some 127) (v := ?vT3) rfl rfl (by kernel_rfl) (by kernel_rfl) (by kernel_rfl) (fun _ _ _ h => h) (Or.inl ⟨by rfl, ?hyT3⟩) (by assumption) ?rstT3
  case hyT3 => (intro w hSw; (try dsimp only at hSw); obtain ⟨s0, s1⟩ := hSw; go_simp; (try with_reducible rfl))
  try simp only [Act.put, List.setIfInBounds_toArray, List.set_cons_zero, List.set_cons_succ]
  refine takeD (i := 3) (d := some 128) (v := ?vT4) rfl rfl (by kernel_rfl) (by kernel_rfl) (by kernel_rfl) (fun _ _ _ h => h) (Or.inl ⟨by rfl, ?hyT4⟩) (by assumption) ?rstT4
  case hyT4 => (intro w hSw; (try dsimp only at hSw); obtain ⟨s0, s1⟩ := hSw; go_simp; (try with_reducible rfl))
  try simp only [Act.put, List.setIfInBounds_toArray, List.set_cons_zero, List.set_cons_succ]
  refine takeD (i := 4) (d := some 129) (v := ?vT5) rfl rfl (by kernel_rfl) (by kernel_rfl) (by kernel_rfl) (fun _ _ _ h => h) (Or.inl ⟨by rfl, ?hyT5⟩) (by assumption) ?rstT5
  case hyT5 => (intro w hSw; (try dsimp only at hSw); obtain ⟨s0, s1⟩ := hSw; go_simp; (try with_reducible rfl))
  try simp only [Act.put, List.setIfInBounds_toArray, List.set_cons_zero, List.set_cons_succ]
  refine takeD (i := 5) (d := some 130) (v := ?vT6) rfl rfl (by kernel_rfl) (by kernel_rfl) (by kernel_rfl) (fun _ _ _ h => h) (Or.inl ⟨by rfl, ?hyT6⟩) (by assumption) ?rstT6
  case hyT6 => (intro w hSw; (try dsimp only at hSw); obtain ⟨s0, s1⟩ := hSw; go_simp; (try with_reducible rfl))
  try simp only [Act.put, List.setIfInBounds_toArray, List.set_cons_zero, List.set_cons_succ]
  refine takeD (i := 6) (d := some 131) (v := ?vT7) rfl rfl (by kernel_rfl) (by kernel_rfl) (by kernel_rfl) (fun _ _ _ h => h) (Or.inl ⟨by rfl, ?hyT7⟩) (by assumption) ?rstT7
  case hyT7 => (intro w hSw; (try dsimp only at hSw); obtain ⟨s0, s1⟩ := hSw; go_simp; (try with_reducible rfl))
  try simp only [Act.put, List.setIfInBounds_toArray, List.set_cons_zero, List.set_cons_succ]
  refine takeD (i := 7) (d := some 132) (v := ?vT8) rfl rfl (by kernel_rfl) (by kernel_rfl) (by kernel_rfl) (fun _ _ _ h => h) (Or.inl ⟨by rfl, ?hyT8⟩) (by assumption) ?rstT8
  case hyT8 => (intro w hSw; (try dsimp only at hSw); obtain ⟨s0, s1⟩ := hSw; go_simp; (try with_reducible rfl))
  try simp only [Act.put, List.setIfInBounds_toArray, List.set_cons_zero, List.set_cons_succ]
  refine wpAnyH_ready (rs := [8]) (by kernel_rfl) (by simp) ?_
  refine AllReadyH.cons rfl (fun K hK => ?_) AllReadyH.nil
  go_simp
  refine (HPT.out _).mono ?_
  rintro e w' ⟨rfl, hw⟩
  obtain rfl := hw.symm
  clear hw
  dsimp only
  clear hHeld
  refine hK.out _ _ ?hS9 (fun hHeld => ?rest9)
  case hS9 => exact ⟨r3, c3⟩
  clear hK K
  try simp only [Act.put, List.setIfInBounds_toArray, List.set_cons_zero, List.set_cons_succ]
  refine takeD (i := 9) (d := some 14) (v := ?vT10) rfl rfl (by kernel_rfl) (by kernel_rfl) (by kernel_rfl) (fun _ _ _ h => h) (Or.inl ⟨by rfl, ?hyT10⟩) (by assumption) ?rstT10
  case hyT10 => (intro w hSw; (try dsimp only at hSw); obtain ⟨s0, s1⟩ := hSw; go_simp; (try with_reducible rfl))
  try simp only [Act.put, List.setIfInBounds_toArray, List.set_cons_zero, List.set_cons_succ]
  refine wpAnyH_done (by kernel_rfl) ?_ _
  go_wp2_with fail
  refine HB.out.mono ?_
  rintro e w2 ⟨rfl, h2, d4⟩
  obtain ⟨g', c', ev, _, ⟨_, _, _, d3, d5, _⟩, df, dg, cur2, hcur2⟩ := h2.at HS.out.1
  simp only [Value.slice.injEq, Option.some.injEq, Addr.mk.injEq, and_true] at ev
  obtain ⟨rfl, -, rfl⟩ := ev
  rw [HS.out.2.2] at d3
  have HT := HT0.out w2.drew
  have HT : Hid (Calls Try.prog 30 #[.string Y, .int .i64 (j : Int), .int .u8 mi] w2.drew fun e w' => e = .returned (.string Z) ∧ Below w2.heap.size w2 w') := HT.mono (by
    rintro e w' ⟨e1, e2⟩
    exact ⟨e1, ((Below.refl _ w2).drew).trans e2⟩)
  have HW : Hid (∀ w4, Below w2.heap.size w2 w4 → ∃ W5 W6, w4.cell? ⟨g, kk * 6 + 3, none⟩ = some (.string Y) ∧ w4.frozen? ⟨g, kk * 6 + 3, none⟩ = false ∧ (∃ u, W5.cell? ⟨g, kk * 6 + 4, none⟩ = some (.bool u)) ∧ W5.frozen? ⟨g, kk * 6 + 4, none⟩ = false ∧ w4.setCell ⟨g, kk * 6 + 3, none⟩ (.string Z) = W5 ∧ W5.setCell ⟨g, kk * 6 + 4, none⟩ (.bool true) = W6 ∧ Hid (BagP W0 q L (.slice (some ⟨g, 0, none⟩) n c) W6)) := fun w4 hB => by
    have h4 := h2.below hB
    obtain ⟨g', c', ev, _, ⟨_, _, _, a3, _, _⟩, af, _⟩ := h4.at HS.out.1
    simp only [Value.slice.injEq, Option.some.injEq, Addr.mk.injEq, and_true] at ev
    obtain ⟨rfl, -, rfl⟩ := ev
    rw [HS.out.2.2] at a3
    have h5 := h4.set (j := 3) (u := .string Z) (s' := { s with bs := s.bs.set j ((s.bs.getD j 0) ^^^ sp.mask) }) HS.out.1 (by decide) (by rw [HS.out.2.1]; simp [snv]) rfl
    have hk5 : (L.set kk { s with bs := s.bs.set j ((s.bs.getD j 0) ^^^ sp.mask) })[kk]? = some { s with bs := s.bs.set j ((s.bs.getD j 0) ^^^ sp.mask) } := by
      have := (List.getElem?_eq_some_iff.1 HS.out.1).1
      simp [this]
    obtain ⟨g', c', ev, _, ⟨_, _, _, _, b4, _⟩, bf, _⟩ := h5.at hk5
    simp only [Value.slice.injEq, Option.some.injEq, Addr.mk.injEq, and_true] at ev
    obtain ⟨rfl, -, rfl⟩ := ev
    have h6 := h5.set (j := 4) (u := .bool true) (s' := turnN j sp.mask s) hk5 (by decide) (by simp [snv, turnN]) rfl
    rw [List.set_set] at h6
    refine ⟨_, _, a3, af _, ⟨_, b4⟩, bf _, rfl, rfl, L.set kk (turnN j sp.mask s), h6, by rw [List.length_set]; omega, ?_⟩
    rw [← modify_set _ L kk s HS.out.1]
    exact modify_bs HZ.out.2.2 (fun _ => by simp [turnN])
  clear h2 df dg hcur2 HB HT0 d5
  go_wp2_with fail
  refine wp_region_any (by kernel_rfl) ?_
  show wpAny _ _ _ _ _ _ _ w2.drew
  refine takeA (i := 0) (d := some 140) (v := ?vT11) rfl rfl (by kernel_rfl) (by kernel_rfl) (by kernel_rfl) (fun _ _ _ h => h) (Or.inl ⟨by rfl, ?hyT11⟩) ?rstT11
  case hyT11 => (intro w; go_simp; (try with_reducible rfl))
  try simp only [Act.put, List.setIfInBounds_toArray, List.set_cons_zero, List.set_cons_succ]
  refine takeA (i := 1) (d := some 141) (v := ?vT12) rfl rfl (by kernel_rfl) (by kernel_rfl) (by kernel_rfl) (fun _ _ _ h => h) (Or.inl ⟨by rfl, ?hyT12⟩) ?rstT12
  case hyT12 => (intro w; go_simp; (try with_reducible rfl))
  try simp only [Act.put, List.setIfInBounds_toArray, List.set_cons_zero, List.set_cons_succ]
  refine takeA (i := 2) (d := some 142) (v := ?vT13) rfl rfl (by kernel_rfl) (by kernel_rfl) (by kernel_rfl) (fun _ _ _ h => h) (Or.inl ⟨by rfl, ?hyT13⟩) ?rstT13
  case hyT13 => (intro w; go_simp; (try with_reducible rfl))
  try simp only [Act.put, List.setIfInBounds_toArray, List.set_cons_zero, List.set_cons_succ]
  refine takeA (i := 3) (d := some 143) (v := ?vT14) rfl rfl (by kernel_rfl) (by kernel_rfl) (by kernel_rfl) (fun _ _ _ h => h) (Or.inl ⟨by rfl, ?hyT14⟩) ?rstT14
  case hyT14 => (intro w; go_simp; (try with_reducible rfl))
  try simp only [Act.put, List.setIfInBounds_toArray, List.set_cons_zero, List.set_cons_succ]
  refine takeA (i := 4) (d := some 144) (v := ?vT15) rfl rfl (by kernel_rfl) (by kernel_rfl) (by kernel_rfl) (fun _ _ _ h => h) (Or.inl ⟨by rfl, ?hyT15⟩) ?rstT15
  case hyT15 => (intro w; go_simp; (try with_reducible rfl))
  try simp only [Act.put, List.setIfInBounds_toArray, List.set_cons_zero, List.set_cons_succ]
  refine takeA (i := 5) (d := some 145) (v := ?vT16) rfl rfl (by kernel_rfl) (by kernel_rfl) (by kernel_rfl) (fun _ _ _ h => h) (Or.inl ⟨by rfl, ?hyT16⟩) ?rstT16
  case hyT16 => (intro w; go_simp; (try with_reducible rfl))
  try simp only [Act.put, List.setIfInBounds_toArray, List.set_cons_zero, List.set_cons_succ]
  refine takeA (i := 7) (d := some 147) (v := ?vT17) rfl rfl (by kernel_rfl) (by kernel_rfl) (by kernel_rfl) (fun _ _ _ h => h) (Or.inl ⟨by rfl, ?hyT17⟩) ?rstT17
  case hyT17 => (intro w; go_simp; (try with_reducible rfl))
  try simp only [Act.put, List.setIfInBounds_toArray, List.set_cons_zero, List.set_cons_succ]
  refine takeA (i := 8) (d := some 148) (v := ?vT18) rfl rfl (by kernel_rfl) (by kernel_rfl) (by kernel_rfl) (fun _ _ _ h => h) (Or.inl ⟨by rfl, ?hyT18⟩) ?rstT18
  case hyT18 => (intro w; go_simp; (try with_reducible rfl))
  try simp only [Act.put, List.setIfInBounds_toArray, List.set_cons_zero, List.set_cons_succ]
  refine wpAny_ready (rs := [6, 9]) (by kernel_rfl) (by simp) (consS rfl (fun K hK => ?bA19) (consS rfl (fun K hK => ?bB19) AllReady.nil))
  case bA19 =>
    go_simp
    refine hK.out _ _ ?_
    clear hK K
    try simp only [Act.put, List.setIfInBounds_toArray, List.set_cons_zero, List.set_cons_succ]
    refine wpAny_ready (rs := [9]) (by kernel_rfl) (by simp) (consS rfl (fun K hK => ?_) AllReady.nil)
    go_simp
    refine hK.out _ _ ?_
    clear hK K
    try simp only [Act.put, List.setIfInBounds_toArray, List.set_cons_zero, List.set_cons_succ]
    refine wpAny_ready (rs := [10]) (by kernel_rfl) (by simp) (consS rfl (fun K hK => ?_) AllReady.nil)
    go_simp
    refine HT.out.mono ?_
    rintro e w4 ⟨rfl, hp⟩
    obtain ⟨W5, W6, e3, f3, ⟨u4, e4⟩, f4, hw5, hw6, HB6⟩ := HW.out w4 hp
    clear hp HT HW
    dsimp only
    refine hK.out _ _ ?_
    clear hK K
    try simp only [Act.put, List.setIfInBounds_toArray, List.set_cons_zero, List.set_cons_succ]
    refine takeA (i := 11) (d := some 151) (v := ?vT21) rfl rfl (by kernel_rfl) (by kernel_rfl) (by kernel_rfl) (fun _ _ _ h => h) (Or.inl ⟨by rfl, ?hyT21⟩) ?rstT21
    case hyT21 => (intro w; go_simp; (try with_reducible rfl))
    try simp only [Act.put, List.setIfInBounds_toArray, List.set_cons_zero, List.set_cons_succ]
    refine takeA (i := 12) (d := some 152) (v := ?vT22) rfl rfl (by kernel_rfl) (by kernel_rfl) (by kernel_rfl) (fun _ _ _ h => h) (Or.inl ⟨by rfl, ?hyT22⟩) ?rstT22
    case hyT22 => (intro w; go_simp; (try with_reducible rfl))
    try simp only [Act.put, List.setIfInBounds_toArray, List.set_cons_zero, List.set_cons_succ]
    refine wpAny_ready (rs := [13]) (by kernel_rfl) (by simp) (consS rfl (fun K hK => ?_) AllReady.nil)
    go_simp
    refine hK.out _ _ ?_
    clear hK K
    try simp only [Act.put, List.setIfInBounds_toArray, List.set_cons_zero, List.set_cons_succ]
    refine wpAny_done (by kernel_rfl) ?_ _
    go_wp2_with fail
    go_ret2
    exact ⟨_, rfl, HB6.out⟩
  case bB19 =>
    go_simp
    refine hK.out _ _ ?_
    clear hK K
    try simp only [Act.put, List.setIfInBounds_toArray, List.set_cons_zero, List.set_cons_succ]
    refine wpAny_ready (rs := [6]) (by kernel_rfl) (by simp) (consS rfl (fun K hK => ?_) AllReady.nil)
    go_simp
    refine hK.out _ _ ?_
    clear hK K
    try simp only [Act.put, List.setIfInBounds_toArray, List.set_cons_zero, List.set_cons_succ]
    refine wpAny_ready (rs := [10]) (by kernel_rfl) (by simp) (consS rfl (fun K hK => ?_) AllReady.nil)
    go_simp
    refine HT.out.mono ?_
    rintro e w4 ⟨rfl, hp⟩
    obtain ⟨W5, W6, e3, f3, ⟨u4, e4⟩, f4, hw5, hw6, HB6⟩ := HW.out w4 hp
    clear hp HT HW
    dsimp only
    refine hK.out _ _ ?_
    clear hK K
    try simp only [Act.put, List.setIfInBounds_toArray, List.set_cons_zero, List.set_cons_succ]
    refine takeA (i := 11) (d := some 151) (v := ?vT24) rfl rfl (by kernel_rfl) (by kernel_rfl) (by kernel_rfl) (fun _ _ _ h => h) (Or.inl ⟨by rfl, ?hyT24⟩) ?rstT24
    case hyT24 => (intro w; go_simp; (try with_reducible rfl))
    try simp only [Act.put, List.setIfInBounds_toArray, List.set_cons_zero, List.set_cons_succ]
    refine takeA (i := 12) (d := some 152) (v := ?vT25) rfl rfl (by kernel_rfl) (by kernel_rfl) (by kernel_rfl) (fun _ _ _ h => h) (Or.inl ⟨by rfl, ?hyT25⟩) ?rstT25
    case hyT25 => (intro w; go_simp; (try with_reducible rfl))
    try simp only [Act.put, List.setIfInBounds_toArray, List.set_cons_zero, List.set_cons_succ]
    refine wpAny_ready (rs := [13]) (by kernel_rfl) (by simp) (consS rfl (fun K hK => ?_) AllReady.nil)
    go_simp
    refine hK.out _ _ ?_
    clear hK K
    try simp only [Act.put, List.setIfInBounds_toArray, List.set_cons_zero, List.set_cons_succ]
    refine wpAny_done (by kernel_rfl) ?_ _
    go_wp2_with fail
    go_ret2
    exact ⟨_, rfl, HB6.out⟩
end Go.Proofs.Ytdmhajlhpieedaa
