import Derived.Test.YtdmhajlhpieedaaLdL
/-! plays: Drop, Copy, Spoil, Sizes, and a step that is none. -/
namespace Go.Proofs.Ytdmhajlhpieedaa
open Go.RowKit Go.Lib Go.Shelf
set_option maxRecDepth 100000

set_option maxHeartbeats 4000000 in
theorem plays_drop {K J : Nat → Prop} {W : World} {q r : Nat} {S : Lk} (h : Duo K J W q r S) (sp : Sp) (bv : Value) (hk : sp.kind = 3) : Calls Try.prog 21 #[.pointer (some ⟨q, 0, none⟩), .pointer (some ⟨r, 0, none⟩), sp.val, bv] W fun e w' => e = .returned (.bool true) ∧ DuoP K J W q r (delS S sp.k) w' := by
  obtain ⟨W1, hW1⟩ : ∃ W1, W.alloc (.cells #[.int .i64 sp.kind, .int .i64 sp.which, .int .i64 sp.k, .int .i64 sp.at_, .int .u8 (sp.mask.toNat : Int), .slice sp.pa sp.pn sp.pc] 51) = W1 := ⟨_, rfl⟩
  have hB1 : Below W.heap.size W W1 := by rw [← hW1]; exact (Below.refl _ _).alloc (Nat.le_refl _) _
  have hx1 : W1.heap[W.heap.size]? = some (.cells #[.int .i64 sp.kind, .int .i64 sp.which, .int .i64 sp.k, .int .i64 sp.at_, .int .u8 (sp.mask.toNat : Int), .slice sp.pa sp.pn sp.pc] 51) := by rw [← hW1]; exact heap_alloc_new W _
  have h1 := h.below hB1
  have HP : Hid (Calls Try.prog 17 #[.pointer (some ⟨q, 0, none⟩), .int .i64 sp.k] W1 fun e w' => e = .returned (.int .i64 (dropE S sp.k)) ∧ Lft K W1 q (delS S sp.k) w') := dropK h1.l sp.k
  have HR : Hid (∀ w2, Lft K W1 q (delS S sp.k) w2 → Calls Try.prog 38 #[.pointer (some ⟨r, 0, none⟩), .int .i64 sp.k] w2 fun e w' => e = .returned (.int .i64 (dropE S sp.k)) ∧ RLft J w2 r (delS S sp.k) w') := fun w2 hl => rdropK (h1.mid hl) sp.k
  have HS : Hid (∀ w2 w3, Lft K W1 q (delS S sp.k) w2 → RLft J w2 r (delS S sp.k) w3 → DuoP K J W q r (delS S sp.k) w3) := fun w2 w3 hl hr => DuoP.from hB1 (h1.step hl hr)
  have HX : Hid (∀ w2, Lft K W1 q (delS S sp.k) w2 → w2.heap[W.heap.size]? = some (.cells #[.int .i64 sp.kind, .int .i64 sp.which, .int .i64 sp.k, .int .i64 sp.at_, .int .u8 (sp.mask.toNat : Int), .slice sp.pa sp.pn sp.pc] 51)) := fun w2 hl => hl.2.block hx1 (fun e => by have := h.kl _ e; omega)
  obtain ⟨r0, r1, r2, r3, r4, r5⟩ := box6 hx1
  unfold Sp.val
  rw [hk] at hW1 r0 HX ⊢
  obtain ⟨mk, hmk⟩ : ∃ mk : Int, (sp.mask.toNat : Int) = mk := ⟨_, rfl⟩
  rw [hmk] at hW1 r4 HX ⊢
  try rw [hmk] at HP HR
  obtain ⟨ec, hec⟩ : ∃ ec : Int, dropE S sp.k = ec := ⟨_, rfl⟩
  obtain ⟨S2, hS2⟩ : ∃ S2, delS S sp.k = S2 := ⟨_, rfl⟩
  rw [hec, hS2] at HP HR
  rw [hS2] at HX HS ⊢
  clear hec hS2
  clear h h1 hB1 hx1 hk hmk r1 r5
  go_enter Try.func21, Try.ntmps21
  go_wp2_with fail
  refine HP.out.mono ?_
  rintro e w2 ⟨rfl, hl⟩
  obtain ⟨t0, t1, t2, t3, t4, t5⟩ := box6 (HX.out w2 hl)
  have HR2 := HR.out w2 hl
  have HL : Hid (∀ w3, RLft J w2 r S2 w3 → DuoP K J W q r S2 w3) := fun w3 hr => HS.out w2 w3 hl hr
  clear hl HX HR HS HP t0 t1 t5 r0 r2 r3 r4
  go_wp2_with fail
  refine HR2.mono ?_
  rintro e w3 ⟨rfl, hr⟩
  have HF : Hid (DuoP K J W q r S2 w3) := HL.out w3 hr
  clear hr HR2 HL t2 t3 t4
  go_wp2_with fail
  go_ret
  exact ⟨by simp, HF.out⟩
set_option maxHeartbeats 4000000 in
theorem plays_copy {K J : Nat → Prop} {W : World} {q r : Nat} {S : Lk} (h : Duo K J W q r S) (sp : Sp) (bv : Value) (hk : sp.kind = 4) (hb : ∀ f ∈ S.fl, f.bs.length ≤ 140737488355328) (hn : S.next + 1 ≤ 1152921504606846976) : Calls Try.prog 21 #[.pointer (some ⟨q, 0, none⟩), .pointer (some ⟨r, 0, none⟩), sp.val, bv] W fun e w' => e = .returned (.bool true) ∧ DuoP K J W q r (copyS S sp.k) w' := by
  obtain ⟨W1, hW1⟩ : ∃ W1, W.alloc (.cells #[.int .i64 sp.kind, .int .i64 sp.which, .int .i64 sp.k, .int .i64 sp.at_, .int .u8 (sp.mask.toNat : Int), .slice sp.pa sp.pn sp.pc] 51) = W1 := ⟨_, rfl⟩
  have hB1 : Below W.heap.size W W1 := by rw [← hW1]; exact (Below.refl _ _).alloc (Nat.le_refl _) _
  have hx1 : W1.heap[W.heap.size]? = some (.cells #[.int .i64 sp.kind, .int .i64 sp.which, .int .i64 sp.k, .int .i64 sp.at_, .int .u8 (sp.mask.toNat : Int), .slice sp.pa sp.pn sp.pc] 51) := by rw [← hW1]; exact heap_alloc_new W _
  have h1 := h.below hB1
  have HP : Hid (Calls Try.prog 16 #[.pointer (some ⟨q, 0, none⟩), .int .i64 sp.k] W1 fun e w' => e = .returned (copyV S sp.k) ∧ Lft K W1 q (copyS S sp.k) w') := copyK h1.l sp.k (fun f hf => Nat.le_trans (hb f hf) (by decide)) hn
  have HR : Hid (∀ w2, Lft K W1 q (copyS S sp.k) w2 → Calls Try.prog 39 #[.pointer (some ⟨r, 0, none⟩), .int .i64 sp.k] w2 fun e w' => e = .returned (copyV S sp.k) ∧ RLft J w2 r (copyS S sp.k) w') := fun w2 hl => rcopyK (h1.mid hl) sp.k hb hn
  have HS : Hid (∀ w2 w3, Lft K W1 q (copyS S sp.k) w2 → RLft J w2 r (copyS S sp.k) w3 → DuoP K J W q r (copyS S sp.k) w3) := fun w2 w3 hl hr => DuoP.from hB1 (h1.step hl hr)
  have HX : Hid (∀ w2, Lft K W1 q (copyS S sp.k) w2 → w2.heap[W.heap.size]? = some (.cells #[.int .i64 sp.kind, .int .i64 sp.which, .int .i64 sp.k, .int .i64 sp.at_, .int .u8 (sp.mask.toNat : Int), .slice sp.pa sp.pn sp.pc] 51)) := fun w2 hl => hl.2.block hx1 (fun e => by have := h.kl _ e; omega)
  obtain ⟨r0, r1, r2, r3, r4, r5⟩ := box6 hx1
  unfold Sp.val
  rw [hk] at hW1 r0 HX ⊢
  obtain ⟨mk, hmk⟩ : ∃ mk : Int, (sp.mask.toNat : Int) = mk := ⟨_, rfl⟩
  rw [hmk] at hW1 r4 HX ⊢
  try rw [hmk] at HP HR
  unfold copyV at HP HR
  obtain ⟨ec, hec⟩ : ∃ ec : Int, copyE S sp.k = ec := ⟨_, rfl⟩
  obtain ⟨S2, hS2⟩ : ∃ S2, copyS S sp.k = S2 := ⟨_, rfl⟩
  rw [hec, hS2] at HP HR
  rw [hS2] at HX HS ⊢
  obtain ⟨en, hen⟩ : ∃ en : Int, (if ec = 0 then (S.next : Int) else 0) = en := ⟨_, rfl⟩
  rw [hen] at HP HR
  clear hec hS2 hen
  clear hb hn
  clear h h1 hB1 hx1 hk hmk r1 r5
  go_enter Try.func21, Try.ntmps21
  go_wp2_with fail
  refine HP.out.mono ?_
  rintro e w2 ⟨rfl, hl⟩
  obtain ⟨t0, t1, t2, t3, t4, t5⟩ := box6 (HX.out w2 hl)
  have HR2 := HR.out w2 hl
  have HL : Hid (∀ w3, RLft J w2 r S2 w3 → DuoP K J W q r S2 w3) := fun w3 hr => HS.out w2 w3 hl hr
  clear hl HX HR HS HP t0 t1 t5 r0 r2 r3 r4
  go_wp2_with fail
  refine HR2.mono ?_
  rintro e w3 ⟨rfl, hr⟩
  have HF : Hid (DuoP K J W q r S2 w3) := HL.out w3 hr
  clear hr HR2 HL t2 t3 t4
  go_wp2_with fail
  go_ret
  exact ⟨by simp, HF.out⟩
set_option maxHeartbeats 4000000 in
theorem plays_spoil {K J : Nat → Prop} {W : World} {q r : Nat} {S : Lk} (h : Duo K J W q r S) (sp : Sp) (bv : Value) (hk : sp.kind = 5) (hb : ∀ f ∈ S.fl, f.bs.length ≤ 140737488355328) : Calls Try.prog 21 #[.pointer (some ⟨q, 0, none⟩), .pointer (some ⟨r, 0, none⟩), sp.val, bv] W fun e w' => e = .returned (.bool true) ∧ DuoP K J W q r (turnS S sp.k sp.at_ sp.mask) w' := by
  obtain ⟨W1, hW1⟩ : ∃ W1, W.alloc (.cells #[.int .i64 sp.kind, .int .i64 sp.which, .int .i64 sp.k, .int .i64 sp.at_, .int .u8 (sp.mask.toNat : Int), .slice sp.pa sp.pn sp.pc] 51) = W1 := ⟨_, rfl⟩
  have hB1 : Below W.heap.size W W1 := by rw [← hW1]; exact (Below.refl _ _).alloc (Nat.le_refl _) _
  have hx1 : W1.heap[W.heap.size]? = some (.cells #[.int .i64 sp.kind, .int .i64 sp.which, .int .i64 sp.k, .int .i64 sp.at_, .int .u8 (sp.mask.toNat : Int), .slice sp.pa sp.pn sp.pc] 51) := by rw [← hW1]; exact heap_alloc_new W _
  have h1 := h.below hB1
  have HP : Hid (Calls Try.prog 14 #[.pointer (some ⟨q, 0, none⟩), .int .i64 sp.k, .int .i64 sp.at_, .int .u8 (sp.mask.toNat : Int)] W1 fun e w' => e = .returned (.int .i64 (turnE S sp.k sp.at_ sp.mask)) ∧ Lft K W1 q (turnS S sp.k sp.at_ sp.mask) w') := spoilK h1.l sp.k sp.at_ sp.mask
  have HR : Hid (∀ w2, Lft K W1 q (turnS S sp.k sp.at_ sp.mask) w2 → Calls Try.prog 40 #[.pointer (some ⟨r, 0, none⟩), .int .i64 sp.k, .int .i64 sp.at_, .int .u8 (sp.mask.toNat : Int)] w2 fun e w' => e = .returned (.int .i64 (turnE S sp.k sp.at_ sp.mask)) ∧ RLft J w2 r (turnS S sp.k sp.at_ sp.mask) w') := fun w2 hl => rspoilK (h1.mid hl) sp.k sp.at_ sp.mask hb
  have HS : Hid (∀ w2 w3, Lft K W1 q (turnS S sp.k sp.at_ sp.mask) w2 → RLft J w2 r (turnS S sp.k sp.at_ sp.mask) w3 → DuoP K J W q r (turnS S sp.k sp.at_ sp.mask) w3) := fun w2 w3 hl hr => DuoP.from hB1 (h1.step hl hr)
  have HX : Hid (∀ w2, Lft K W1 q (turnS S sp.k sp.at_ sp.mask) w2 → w2.heap[W.heap.size]? = some (.cells #[.int .i64 sp.kind, .int .i64 sp.which, .int .i64 sp.k, .int .i64 sp.at_, .int .u8 (sp.mask.toNat : Int), .slice sp.pa sp.pn sp.pc] 51)) := fun w2 hl => hl.2.block hx1 (fun e => by have := h.kl _ e; omega)
  obtain ⟨r0, r1, r2, r3, r4, r5⟩ := box6 hx1
  unfold Sp.val
  rw [hk] at hW1 r0 HX ⊢
  obtain ⟨mk, hmk⟩ : ∃ mk : Int, (sp.mask.toNat : Int) = mk := ⟨_, rfl⟩
  rw [hmk] at hW1 r4 HX ⊢
  try rw [hmk] at HP HR
  obtain ⟨ec, hec⟩ : ∃ ec : Int, turnE S sp.k sp.at_ sp.mask = ec := ⟨_, rfl⟩
  obtain ⟨S2, hS2⟩ : ∃ S2, turnS S sp.k sp.at_ sp.mask = S2 := ⟨_, rfl⟩
  rw [hec, hS2] at HP HR
  rw [hS2] at HX HS ⊢
  clear hec hS2
  clear hb
  clear h h1 hB1 hx1 hk hmk r1 r5
  go_enter Try.func21, Try.ntmps21
  go_wp2_with fail
  refine HP.out.mono ?_
  rintro e w2 ⟨rfl, hl⟩
  obtain ⟨t0, t1, t2, t3, t4, t5⟩ := box6 (HX.out w2 hl)
  have HR2 := HR.out w2 hl
  have HL : Hid (∀ w3, RLft J w2 r S2 w3 → DuoP K J W q r S2 w3) := fun w3 hr => HS.out w2 w3 hl hr
  clear hl HX HR HS HP t0 t1 t5 r0 r2 r3 r4
  go_wp2_with fail
  refine HR2.mono ?_
  rintro e w3 ⟨rfl, hr⟩
  have HF : Hid (DuoP K J W q r S2 w3) := HL.out w3 hr
  clear hr HR2 HL t2 t3 t4
  go_wp2_with fail
  go_ret
  exact ⟨by simp, HF.out⟩
set_option maxHeartbeats 4000000 in
theorem plays_sizes {K J : Nat → Prop} {W : World} {q r : Nat} {S : Lk} (h : Duo K J W q r S) (sp : Sp) (bv : Value) (hk : sp.kind = 7) : Calls Try.prog 21 #[.pointer (some ⟨q, 0, none⟩), .pointer (some ⟨r, 0, none⟩), sp.val, bv] W fun e w' => e = .returned (.bool true) ∧ DuoP K J W q r S w' := by
  obtain ⟨W1, hW1⟩ : ∃ W1, W.alloc (.cells #[.int .i64 sp.kind, .int .i64 sp.which, .int .i64 sp.k, .int .i64 sp.at_, .int .u8 (sp.mask.toNat : Int), .slice sp.pa sp.pn sp.pc] 51) = W1 := ⟨_, rfl⟩
  have hB1 : Below W.heap.size W W1 := by rw [← hW1]; exact (Below.refl _ _).alloc (Nat.le_refl _) _
  have hx1 : W1.heap[W.heap.size]? = some (.cells #[.int .i64 sp.kind, .int .i64 sp.which, .int .i64 sp.k, .int .i64 sp.at_, .int .u8 (sp.mask.toNat : Int), .slice sp.pa sp.pn sp.pc] 51) := by rw [← hW1]; exact heap_alloc_new W _
  have h1 := h.below hB1
  have H1 := lenK h1.l
  have H2 := rlenK h1.f
  have H3 := nextK h1.l
  have H4 := rnextK h1.f
  have HF : Hid (DuoP K J W q r S W1) := h.p hB1
  obtain ⟨r0, r1, r2, r3, r4, r5⟩ := box6 hx1
  unfold Sp.val
  rw [hk] at hW1 r0 ⊢
  obtain ⟨nl, hnl⟩ : ∃ nl : Int, (S.fl.length : Int) = nl := ⟨_, rfl⟩
  obtain ⟨nx, hnx⟩ : ∃ nx : Int, (S.next : Int) = nx := ⟨_, rfl⟩
  rw [hnl] at H1 H2
  rw [hnx] at H3 H4
  clear h h1 hB1 hx1 hk hnl hnx r1 r2 r3 r4 r5
  go_enter Try.func21, Try.ntmps21
  go_wp2_with fail
  refine H1.mono ?_
  rintro e w' ⟨rfl, hw⟩
  obtain rfl := hw.symm
  clear hw H1
  go_wp2_with fail
  refine H2.mono ?_
  rintro e w' ⟨rfl, hw⟩
  obtain rfl := hw.symm
  clear hw H2
  go_wp2_with fail
  refine H3.mono ?_
  rintro e w' ⟨rfl, hw⟩
  obtain rfl := hw.symm
  clear hw H3
  go_wp2_with fail
  refine H4.mono ?_
  rintro e w' ⟨rfl, hw⟩
  obtain rfl := hw.symm
  clear hw H4
  go_wp2_with fail
  go_ret
  exact ⟨by simp, HF.out⟩
set_option maxHeartbeats 4000000 in
theorem plays_idle {K J : Nat → Prop} {W : World} {q r : Nat} {S : Lk} (h : Duo K J W q r S) (sp : Sp) (bv : Value) (hk : sp.kind < 1 ∨ 7 < sp.kind) : Calls Try.prog 21 #[.pointer (some ⟨q, 0, none⟩), .pointer (some ⟨r, 0, none⟩), sp.val, bv] W fun e w' => e = .returned (.bool true) ∧ DuoP K J W q r S w' := by
  obtain ⟨W1, hW1⟩ : ∃ W1, W.alloc (.cells #[.int .i64 sp.kind, .int .i64 sp.which, .int .i64 sp.k, .int .i64 sp.at_, .int .u8 (sp.mask.toNat : Int), .slice sp.pa sp.pn sp.pc] 51) = W1 := ⟨_, rfl⟩
  have hB1 : Below W.heap.size W W1 := by rw [← hW1]; exact (Below.refl _ _).alloc (Nat.le_refl _) _
  have hx1 : W1.heap[W.heap.size]? = some (.cells #[.int .i64 sp.kind, .int .i64 sp.which, .int .i64 sp.k, .int .i64 sp.at_, .int .u8 (sp.mask.toNat : Int), .slice sp.pa sp.pn sp.pc] 51) := by rw [← hW1]; exact heap_alloc_new W _
  have HF : Hid (DuoP K J W q r S W1) := h.p hB1
  obtain ⟨r0, r1, r2, r3, r4, r5⟩ := box6 hx1
  unfold Sp.val
  have k1 : (sp.kind == 1) = false := beq_eq_false_iff_ne.2 (by omega)
  have k2 : (sp.kind == 2) = false := beq_eq_false_iff_ne.2 (by omega)
  have k3 : (sp.kind == 3) = false := beq_eq_false_iff_ne.2 (by omega)
  have k4 : (sp.kind == 4) = false := beq_eq_false_iff_ne.2 (by omega)
  have k5 : (sp.kind == 5) = false := beq_eq_false_iff_ne.2 (by omega)
  have k6 : (sp.kind == 6) = false := beq_eq_false_iff_ne.2 (by omega)
  have k7 : (sp.kind == 7) = false := beq_eq_false_iff_ne.2 (by omega)
  clear h hB1 hx1 hk r1 r2 r3 r4 r5
  go_enter Try.func21, Try.ntmps21
  go_wp2_with fail
  go_ret
  exact ⟨rfl, HF.out⟩
end Go.Proofs.Ytdmhajlhpieedaa
