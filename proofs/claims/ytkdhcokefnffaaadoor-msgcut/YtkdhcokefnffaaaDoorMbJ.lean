import Derived.Test.YtkdhcokefnffaaaDoorMbI
/-! appendOp, appendSeq, appendMessage of the other codes. -/
namespace Go.Proofs.YtkdhcokefnffaaaDoor
open Go.RowKit Go.Lib Sp
set_option maxRecDepth 100000

theorem GB.chg {B : Nat} {w W : World} {v v0 : Value} (h : GB B w v W v0) : Chg (fun g => v.ownBlock = some g) w W := ⟨h.below.mono (Nat.zero_le _), fun g hg hd => h.keep g hg hd⟩
theorem appendCommand_any {w : World} {B : Nat} {v : Value} {L : List Nat} (h : OwnF byV 1 5 w B v L) (hB : B ≤ w.heap.size) (hL : L.length ≤ 60000) {x : Cm} (hx : x.Ok) {a : Option Addr} {q cap : Nat} (hr : Rw rangeV 2 w a q cap x.op.l) (hlt : ∀ g, a = some g → g.block < B) :
    Calls Tryd.prog 21 #[v, opVal x.op (.slice a q cap)] w fun e w' => ∃ v', e = .returned v' ∧ OwnF byV 1 5 w' B v' (L ++ x.enc) ∧ Below B w w' := by
  cases x with
  | ins c m t S =>
    obtain ⟨h1, h2, h3, hb, r, h4, h5, h6, h7⟩ := hx
    exact appendCommand_ins h hB hL h1 h2 (by omega) h3 hb a q cap
  | hide c m l =>
    obtain ⟨h1, h2, h3, h4⟩ := hx
    have hl := hr.len
    have hl2 : l.length = q := by simpa [Cm.op, intL] using hl
    exact appendCommand_hide h hB hL h1 h2 hr hlt h4 (by omega)
  | stat c m x y on =>
    obtain ⟨h1, h2, h3, h4, h5⟩ := hx
    cases on
    · exact appendCommand_false h hB hL h1 h2 h3 h4 a q cap
    · exact appendCommand_true h hB hL h1 h2 h3 h4 a q cap
set_option maxHeartbeats 4000000 in
theorem appendSeq_any {w : World} {B : Nat} {v : Value} {l : List Nat} (h : OwnF byV 1 5 w B v l) (hB : B ≤ w.heap.size) (hl : l.length ≤ 1048576) (c k r : Int) (s : Nat) (hs : s < 268435456) (o : OpV) (sl : Value) :
    Calls Tryd.prog 46 #[v, .agg #[.int .i64 c, .int .i64 k, .int .i64 r, .int .i64 (s : Int), .int .i64 o.c, .int .i64 o.n, .int .i64 o.k, .int .i64 o.p, .string o.s, sl, .int .i64 o.tc, .int .i64 o.tn, .bool o.on]] w fun e w' => ∃ v', e = .returned v' ∧ OwnF byV 1 5 w' B v' (l ++ encP s) ∧ Below B w w' := by
  have hb1 := (Below.refl w.heap.size w).alloc (Nat.le_refl _) (.cells #[.int .i64 c, .int .i64 k, .int .i64 r, .int .i64 (s : Int), .int .i64 o.c, .int .i64 o.n, .int .i64 o.k, .int .i64 o.p, .string o.s, sl, .int .i64 o.tc, .int .i64 o.tn, .bool o.on] 37)
  have HA := appendNumbers_any (two_new (h.below hb1) (by simp; omega) #[.int .i64 (s : Int)] [s] rfl (by simp)) hl (by simpa using hs) (by simp)
  have HB : Hid (Below B w ((w.alloc (.cells #[.int .i64 c, .int .i64 k, .int .i64 r, .int .i64 (s : Int), .int .i64 o.c, .int .i64 o.n, .int .i64 o.k, .int .i64 o.p, .string o.s, sl, .int .i64 o.tc, .int .i64 o.tn, .bool o.on] 37)).alloc (.cells #[.int .i64 (s : Int)] 3))) := ((Below.refl B w).alloc hB _).alloc (by simp; omega) _
  clear h hB hl hs hb1
  simp only [List.length_cons, List.length_nil, World.size_alloc] at HA
  go_enter Tryd.func46, Tryd.ntmps46
  go_wp2_with fail
  refine HA.mono ?_
  rintro e w1 ⟨v', rfl, ho, hg⟩
  clear HA
  go_wp2_with fail
  go_ret
  exact ⟨v', rfl, by simpa [encL] using ho, HB.out.trans hg.below⟩
set_option maxHeartbeats 4000000 in
theorem appendOp_any {w : World} {B : Nat} {v : Value} {L : List Nat} (h : OwnF byV 1 5 w B v L) (hB : B ≤ w.heap.size) (hL : L.length ≤ 60000) {x : Cm} (hx : x.Ok) {a : Option Addr} {n cap : Nat} (hr : Rw rangeV 2 w a n cap x.op.l) (hlt : ∀ g, a = some g → g.block < B) (c k r q : Int) :
    Calls Tryd.prog 48 #[v, msgV c k r q x.op (.slice a n cap)] w fun e w' => ∃ v', e = .returned v' ∧ OwnF byV 1 5 w' B v' (L ++ x.enc) ∧ Below B w w' := by
  have hb1 := (Below.refl w.heap.size w).alloc (Nat.le_refl _) (.cells (msgA c k r q x.op (.slice a n cap)) 37)
  have HA := appendCommand_any (h.below hb1) (by simp; omega) hL hx (hr.belowB ((Below.refl B w).alloc hB _) hlt) hlt
  have HB : Hid (Below B w (w.alloc (.cells (msgA c k r q x.op (.slice a n cap)) 37))) := (Below.refl B w).alloc hB _
  clear h hB hL hr hb1
  obtain ⟨E, hE⟩ : ∃ E, x.enc = E := ⟨_, rfl⟩
  rw [hE] at HA ⊢
  revert HA HB
  generalize x.op = o
  intro HB HA
  clear hE
  simp only [msgV, msgA, opVal] at *
  go_enter Tryd.func48, Tryd.ntmps48
  go_wp2_with fail
  refine HA.mono ?_
  rintro e w1 ⟨v', rfl, ho, hb⟩
  clear HA
  go_wp2_with fail
  go_ret
  exact ⟨v', rfl, ho, HB.out.trans hb⟩

set_option maxHeartbeats 8000000 in
theorem appendMessage_3 (w : World) (k r : Nat) (hk : k < 268435456) (hr : r < 268435456) (s : Nat) (hs : s < 268435456) (o : OpV) (sl : Value)  :
    Calls Tryd.prog 16 #[.slice none 0 0, .agg #[.int .i64 3, .int .i64 (k : Int), .int .i64 (r : Int), .int .i64 (s : Int), .int .i64 o.c, .int .i64 o.n, .int .i64 o.k, .int .i64 o.p, .string o.s, sl, .int .i64 o.tc, .int .i64 o.tn, .bool o.on]] w fun e w' => ∃ v', e = .returned v' ∧ OwnF byV 1 5 w' w.heap.size v' (encP 3 ++ (encP k ++ (encP r ++ encP s))) ∧ Below w.heap.size w w' := by
  have HA := appendNumbers_any (two_new (B := (w.heap.size + 1)) (w := w.alloc (.cells #[.int .i64 3, .int .i64 (k : Int), .int .i64 (r : Int), .int .i64 (s : Int), .int .i64 o.c, .int .i64 o.n, .int .i64 o.k, .int .i64 o.p, .string o.s, sl, .int .i64 o.tc, .int .i64 o.tn, .bool o.on] 37)) (ownF_nil _ _) (by simp) #[.int .i64 (3 : Nat), .int .i64 (k : Int)] [3, k] rfl (by simp)) (by simp) (by simp; exact hk) (by simp)
  simp only [List.length_cons, List.length_nil, World.size_alloc] at HA
  go_enter Tryd.func16, Tryd.ntmps16
  go_wp2_with fail
  refine HA.mono ?_
  rintro e w1 ⟨v1, rfl, ho, hg⟩
  clear HA
  have hq : w1.heap[w.heap.size]? = some (.cells #[.int .i64 3, .int .i64 (k : Int), .int .i64 (r : Int), .int .i64 (s : Int), .int .i64 o.c, .int .i64 o.n, .int .i64 o.k, .int .i64 o.p, .string o.s, sl, .int .i64 o.tc, .int .i64 o.tn, .bool o.on] 37) := by
    rw [hg.below.block _ (by omega), Below.heap_alloc _ _ _ (by simp)]
    exact heap_alloc_new _ _
  have hs1 : w.heap.size + 1 + 1 ≤ w1.heap.size := by have := hg.below.size; simpa using this
  have hb : Below w.heap.size w w1 := (((Below.refl w.heap.size w).alloc (Nat.le_refl _) _).alloc (by simp) _).trans (hg.below.mono (by omega))
  have HO : Hid (OwnF byV 1 5 w1 (w.heap.size + 1) v1 (encL [3, k]) ∧ Below w.heap.size w w1) := ⟨by simpa using ho, hb⟩
  clear ho hg hb
  obtain ⟨q0, q1, q2, q3, q4, q5, q6, q7, q8, q9, q10, q11, q12⟩ := box13 hq
  go_wp2_with fail
  refine (fieldsOf_3 _).mono ?_
  rintro e w2 ⟨g, rfl, hg2, hF, hb2⟩
  clear q0 q1 q2 q3 q4 q5 q6 q7 q8 q9 q10 q11 q12
  have hqq : w2.heap[w.heap.size]? = some (.cells #[.int .i64 3, .int .i64 (k : Int), .int .i64 (r : Int), .int .i64 (s : Int), .int .i64 o.c, .int .i64 o.n, .int .i64 o.k, .int .i64 o.p, .string o.s, sl, .int .i64 o.tc, .int .i64 o.tn, .bool o.on] 37) := (hb2.block _ (by omega)).trans hq
  have hvg : v1.ownBlock ≠ some g := fun e => by have := HO.out.1.lt e; omega
  have hs2 : w.heap.size + 1 ≤ w2.heap.size := by have := hb2.size; omega
  have HO2 : Hid (OwnF byV 1 5 w2 (w.heap.size + 1) v1 (encL [3, k]) ∧ Below w.heap.size w w2 ∧ w2.heap[w.heap.size]? = some (.cells #[.int .i64 3, .int .i64 (k : Int), .int .i64 (r : Int), .int .i64 (s : Int), .int .i64 o.c, .int .i64 o.n, .int .i64 o.k, .int .i64 o.p, .string o.s, sl, .int .i64 o.tc, .int .i64 o.tn, .bool o.on] 37) ∧ Rw fldV 2 w2 (some ⟨g, 0, none⟩) 2 2 (fieldsP 3)) := ⟨HO.out.1.below hb2, HO.out.2.trans (hb2.mono (by omega)), hqq, hF⟩
  clear HO hq hs1 hb2 hg2 hF hqq
  go_wp2_with fail
  go_loopw [0, 18] (fun v0 v18 W => (v18 = .int .i64 0 ∧ v0 = v1 ∧ W = w2) ∨ (v18 = .int .i64 1 ∧ OwnF byV 1 5 W (w.heap.size + 1) v0 (encL [3, k] ++ encP r) ∧ GB (w.heap.size + 1) w2 v1 W v0) ∨ (v18 = .int .i64 2 ∧ OwnF byV 1 5 W (w.heap.size + 1) v0 (encP 3 ++ (encP k ++ (encP r ++ encP s))) ∧ Below w.heap.size w W)) (fun _ v18 _ => 2 - (RowKit.intOf v18).toNat)
  case atStart => exact .inl ⟨rfl, rfl, rfl⟩
  case round =>
    have hl2 := encL_len [3, k]
    simp only [List.length_cons, List.length_nil] at hl2
    rcases hrel with ⟨rfl, rfl, rfl⟩ | ⟨rfl, hO3, hG3⟩ | ⟨rfl, hO3, hb3⟩
    · obtain ⟨ho2, hb2, hqq, hF⟩ := HO2.out
      obtain ⟨q0, q1, q2, q3, q4, q5, q6, q7, q8, q9, q10, q11, q12⟩ := box13 hqq
      obtain ⟨g', off', e', hg', hc'⟩ := hF.cells (by omega)
      cases e'
      have f0 := hc' 0 _ rfl 0 _ rfl
      have f1 := hc' 0 _ rfl 1 _ rfl
      simp only [Nat.zero_mul, Nat.zero_add, Nat.add_zero] at f0 f1
      have HW : Hid (∀ (b c : Value), Calls Tryd.prog 44 #[u0, .agg #[.int .i64 3, .int .i64 (k : Int), .int .i64 (r : Int), .int .i64 (s : Int), .int .i64 o.c, .int .i64 o.n, .int .i64 o.k, .int .i64 o.p, .string o.s, sl, .int .i64 o.tc, .int .i64 o.tn, .bool o.on]] (wr.alloc (.cells #[b, c] 74)) fun e w' => ∃ v', e = .returned v' ∧ OwnF byV 1 5 w' (w.heap.size + 1) v' (encL [3, k] ++ encP r) ∧ GB (w.heap.size + 1) (wr.alloc (.cells #[b, c] 74)) u0 w' v') := fun b c =>
        appendRev_any (ho2.below ((Below.refl _ _).alloc (Nat.le_refl _) _)) (by simp; omega) (by omega) 3 k (s : Int) r hr o sl
      have hlq : w.heap.size < wr.heap.size := by omega
      clear hF hc' hqq ho2 hb2
      go_wp2_with fail
      refine (HW.out _ _).mono ?_
      rintro e w4 ⟨v4, rfl, ho4, hg4⟩
      have hB4 : Hid (OwnF byV 1 5 w4 (w.heap.size + 1) v4 (encL [3, k] ++ encP r) ∧ GB (w.heap.size + 1) wr u0 w4 v4) := ⟨ho4, (GB.of_below ((Below.refl _ _).alloc (Nat.le_refl _) _) hs2).trans hg4⟩
      clear HW ho4 hg4 q0 q1 q2 q3 q4 q5 q6 q7 q8 q9 q10 q11 q12 f0 f1
      go_wp2_with fail
      exact ⟨.inr (.inl ⟨rfl, hB4.out⟩), by simp [RowKit.intOf]⟩
    · obtain ⟨ho2, hb2, hqq, hF⟩ := HO2.out
      have hq3 := (hG3.below.block _ (by omega)).trans hqq
      have hF3 := hF.chg hG3.chg (fun x e => by cases e; exact hvg)
      have hs3 : w.heap.size + 1 ≤ wr.heap.size := by have := hG3.below.size; omega
      obtain ⟨q0, q1, q2, q3, q4, q5, q6, q7, q8, q9, q10, q11, q12⟩ := box13 hq3
      obtain ⟨g', off', e', hg', hc'⟩ := hF3.cells (by omega)
      cases e'
      have f0 := hc' 1 _ rfl 0 _ rfl
      have f1 := hc' 1 _ rfl 1 _ rfl
      simp only [Nat.one_mul, Nat.zero_add, Nat.add_zero, Nat.reduceAdd] at f0 f1
      have hb3 : Below w.heap.size w wr := hb2.trans (hG3.below.mono (by omega))
      have hl3 := encF_len 4 r
      have HW : Hid (∀ (b c : Value), Calls Tryd.prog 46 #[u0, .agg #[.int .i64 3, .int .i64 (k : Int), .int .i64 (r : Int), .int .i64 (s : Int), .int .i64 o.c, .int .i64 o.n, .int .i64 o.k, .int .i64 o.p, .string o.s, sl, .int .i64 o.tc, .int .i64 o.tn, .bool o.on]] (wr.alloc (.cells #[b, c] 74)) fun e w' => ∃ v', e = .returned v' ∧ OwnF byV 1 5 w' (w.heap.size + 1) v' (encL [3, k] ++ encP r ++ encP s) ∧ Below (w.heap.size + 1) (wr.alloc (.cells #[b, c] 74)) w') := fun b c =>
        appendSeq_any (hO3.below ((Below.refl _ _).alloc (Nat.le_refl _) _)) (by simp; omega) (by simp only [List.length_append, encP]; omega) 3 k r s hs o sl
      have HB3 : Hid (Below w.heap.size w wr) := hb3
      have hlq : w.heap.size < wr.heap.size := by omega
      clear hF hc' hqq ho2 hb2 hF3 hq3 hb3 hl3 hG3 hO3
      go_wp2_with fail
      refine (HW.out _ _).mono ?_
      rintro e w4 ⟨v4, rfl, ho4, hg4⟩
      have hB4 : Hid (OwnF byV 1 5 w4 (w.heap.size + 1) v4 (encP 3 ++ (encP k ++ (encP r ++ encP s))) ∧ Below w.heap.size w w4) := ⟨by simpa [encL] using ho4, (HB3.out.alloc HB3.out.size _).trans (hg4.mono (by omega))⟩
      clear HW ho4 hg4 q0 q1 q2 q3 q4 q5 q6 q7 q8 q9 q10 q11 q12 f0 f1
      go_wp2_with fail
      exact ⟨.inr (.inr ⟨rfl, hB4.out⟩), by simp [RowKit.intOf]⟩
    · go_wp2_with fail
      go_ret
      exact ⟨_, rfl, hO3.mono (by omega), hb3⟩


set_option maxHeartbeats 8000000 in
theorem appendMessage_2 (w : World) (k r : Nat) (hk : k < 268435456) (hr : r < 268435456) {x : Cm} (hx : x.Ok) {a : Option Addr} {n cap : Nat} (hrw : Rw rangeV 2 w a n cap x.op.l) (hlt : ∀ g, a = some g → g.block < w.heap.size) (o : OpV) (ho_ : x.op = o) (sl : Value) (hsl : Value.slice a n cap = sl) (E : List Nat) (hE : x.enc = E)  :
    Calls Tryd.prog 16 #[.slice none 0 0, .agg #[.int .i64 2, .int .i64 (k : Int), .int .i64 (r : Int), .int .i64 0, .int .i64 o.c, .int .i64 o.n, .int .i64 o.k, .int .i64 o.p, .string o.s, sl, .int .i64 o.tc, .int .i64 o.tn, .bool o.on]] w fun e w' => ∃ v', e = .returned v' ∧ OwnF byV 1 5 w' w.heap.size v' (encP 2 ++ (encP k ++ (encP r ++ E))) ∧ Below w.heap.size w w' := by
  have HA := appendNumbers_any (two_new (B := (w.heap.size + 1)) (w := w.alloc (.cells #[.int .i64 2, .int .i64 (k : Int), .int .i64 (r : Int), .int .i64 0, .int .i64 o.c, .int .i64 o.n, .int .i64 o.k, .int .i64 o.p, .string o.s, sl, .int .i64 o.tc, .int .i64 o.tn, .bool o.on] 37)) (ownF_nil _ _) (by simp) #[.int .i64 (2 : Nat), .int .i64 (k : Int)] [2, k] rfl (by simp)) (by simp) (by simp; exact hk) (by simp)
  simp only [List.length_cons, List.length_nil, World.size_alloc] at HA
  go_enter Tryd.func16, Tryd.ntmps16
  go_wp2_with fail
  refine HA.mono ?_
  rintro e w1 ⟨v1, rfl, ho, hg⟩
  clear HA
  have hq : w1.heap[w.heap.size]? = some (.cells #[.int .i64 2, .int .i64 (k : Int), .int .i64 (r : Int), .int .i64 0, .int .i64 o.c, .int .i64 o.n, .int .i64 o.k, .int .i64 o.p, .string o.s, sl, .int .i64 o.tc, .int .i64 o.tn, .bool o.on] 37) := by
    rw [hg.below.block _ (by omega), Below.heap_alloc _ _ _ (by simp)]
    exact heap_alloc_new _ _
  have hs1 : w.heap.size + 1 + 1 ≤ w1.heap.size := by have := hg.below.size; simpa using this
  have hb : Below w.heap.size w w1 := (((Below.refl w.heap.size w).alloc (Nat.le_refl _) _).alloc (by simp) _).trans (hg.below.mono (by omega))
  have HO : Hid (OwnF byV 1 5 w1 (w.heap.size + 1) v1 (encL [2, k]) ∧ Below w.heap.size w w1) := ⟨by simpa using ho, hb⟩
  clear ho hg hb
  obtain ⟨q0, q1, q2, q3, q4, q5, q6, q7, q8, q9, q10, q11, q12⟩ := box13 hq
  go_wp2_with fail
  refine (fieldsOf_2 _).mono ?_
  rintro e w2 ⟨g, rfl, hg2, hF, hb2⟩
  clear q0 q1 q2 q3 q4 q5 q6 q7 q8 q9 q10 q11 q12
  have hqq : w2.heap[w.heap.size]? = some (.cells #[.int .i64 2, .int .i64 (k : Int), .int .i64 (r : Int), .int .i64 0, .int .i64 o.c, .int .i64 o.n, .int .i64 o.k, .int .i64 o.p, .string o.s, sl, .int .i64 o.tc, .int .i64 o.tn, .bool o.on] 37) := (hb2.block _ (by omega)).trans hq
  have hvg : v1.ownBlock ≠ some g := fun e => by have := HO.out.1.lt e; omega
  have hs2 : w.heap.size + 1 ≤ w2.heap.size := by have := hb2.size; omega
  have HO2 : Hid (OwnF byV 1 5 w2 (w.heap.size + 1) v1 (encL [2, k]) ∧ Below w.heap.size w w2 ∧ w2.heap[w.heap.size]? = some (.cells #[.int .i64 2, .int .i64 (k : Int), .int .i64 (r : Int), .int .i64 0, .int .i64 o.c, .int .i64 o.n, .int .i64 o.k, .int .i64 o.p, .string o.s, sl, .int .i64 o.tc, .int .i64 o.tn, .bool o.on] 37) ∧ Rw fldV 2 w2 (some ⟨g, 0, none⟩) 2 2 (fieldsP 2)) := ⟨HO.out.1.below hb2, HO.out.2.trans (hb2.mono (by omega)), hqq, hF⟩
  clear HO hq hs1 hb2 hg2 hF hqq
  go_wp2_with fail
  go_loopw [0, 18] (fun v0 v18 W => (v18 = .int .i64 0 ∧ v0 = v1 ∧ W = w2) ∨ (v18 = .int .i64 1 ∧ OwnF byV 1 5 W (w.heap.size + 1) v0 (encL [2, k] ++ encP r) ∧ GB (w.heap.size + 1) w2 v1 W v0) ∨ (v18 = .int .i64 2 ∧ OwnF byV 1 5 W (w.heap.size + 1) v0 (encP 2 ++ (encP k ++ (encP r ++ E))) ∧ Below w.heap.size w W)) (fun _ v18 _ => 2 - (RowKit.intOf v18).toNat)
  case atStart => exact .inl ⟨rfl, rfl, rfl⟩
  case round =>
    have hl2 := encL_len [2, k]
    simp only [List.length_cons, List.length_nil] at hl2
    rcases hrel with ⟨rfl, rfl, rfl⟩ | ⟨rfl, hO3, hG3⟩ | ⟨rfl, hO3, hb3⟩
    · obtain ⟨ho2, hb2, hqq, hF⟩ := HO2.out
      obtain ⟨q0, q1, q2, q3, q4, q5, q6, q7, q8, q9, q10, q11, q12⟩ := box13 hqq
      obtain ⟨g', off', e', hg', hc'⟩ := hF.cells (by omega)
      cases e'
      have f0 := hc' 0 _ rfl 0 _ rfl
      have f1 := hc' 0 _ rfl 1 _ rfl
      simp only [Nat.zero_mul, Nat.zero_add, Nat.add_zero] at f0 f1
      have HW : Hid (∀ (b c : Value), Calls Tryd.prog 44 #[u0, .agg #[.int .i64 2, .int .i64 (k : Int), .int .i64 (r : Int), .int .i64 0, .int .i64 o.c, .int .i64 o.n, .int .i64 o.k, .int .i64 o.p, .string o.s, sl, .int .i64 o.tc, .int .i64 o.tn, .bool o.on]] (wr.alloc (.cells #[b, c] 74)) fun e w' => ∃ v', e = .returned v' ∧ OwnF byV 1 5 w' (w.heap.size + 1) v' (encL [2, k] ++ encP r) ∧ GB (w.heap.size + 1) (wr.alloc (.cells #[b, c] 74)) u0 w' v') := fun b c =>
        appendRev_any (ho2.below ((Below.refl _ _).alloc (Nat.le_refl _) _)) (by simp; omega) (by omega) 2 k 0 r hr o sl
      have hlq : w.heap.size < wr.heap.size := by omega
      clear hF hc' hqq ho2 hb2
      go_wp2_with fail
      refine (HW.out _ _).mono ?_
      rintro e w4 ⟨v4, rfl, ho4, hg4⟩
      have hB4 : Hid (OwnF byV 1 5 w4 (w.heap.size + 1) v4 (encL [2, k] ++ encP r) ∧ GB (w.heap.size + 1) wr u0 w4 v4) := ⟨ho4, (GB.of_below ((Below.refl _ _).alloc (Nat.le_refl _) _) hs2).trans hg4⟩
      clear HW ho4 hg4 q0 q1 q2 q3 q4 q5 q6 q7 q8 q9 q10 q11 q12 f0 f1
      go_wp2_with fail
      exact ⟨.inr (.inl ⟨rfl, hB4.out⟩), by simp [RowKit.intOf]⟩
    · obtain ⟨ho2, hb2, hqq, hF⟩ := HO2.out
      have hq3 := (hG3.below.block _ (by omega)).trans hqq
      have hF3 := hF.chg hG3.chg (fun x e => by cases e; exact hvg)
      have hs3 : w.heap.size + 1 ≤ wr.heap.size := by have := hG3.below.size; omega
      obtain ⟨q0, q1, q2, q3, q4, q5, q6, q7, q8, q9, q10, q11, q12⟩ := box13 hq3
      obtain ⟨g', off', e', hg', hc'⟩ := hF3.cells (by omega)
      cases e'
      have f0 := hc' 1 _ rfl 0 _ rfl
      have f1 := hc' 1 _ rfl 1 _ rfl
      simp only [Nat.one_mul, Nat.zero_add, Nat.add_zero, Nat.reduceAdd] at f0 f1
      have hb3 : Below w.heap.size w wr := hb2.trans (hG3.below.mono (by omega))
      have hl3 := encF_len 4 r
      have HW : Hid (∀ (b c : Value), Calls Tryd.prog 48 #[u0, .agg #[.int .i64 2, .int .i64 (k : Int), .int .i64 (r : Int), .int .i64 0, .int .i64 o.c, .int .i64 o.n, .int .i64 o.k, .int .i64 o.p, .string o.s, sl, .int .i64 o.tc, .int .i64 o.tn, .bool o.on]] (wr.alloc (.cells #[b, c] 74)) fun e w' => ∃ v', e = .returned v' ∧ OwnF byV 1 5 w' (w.heap.size + 1) v' (encL [2, k] ++ encP r ++ E) ∧ Below (w.heap.size + 1) (wr.alloc (.cells #[b, c] 74)) w') := fun b c =>
        by subst ho_ hsl hE; exact appendOp_any (hO3.below ((Below.refl _ _).alloc (Nat.le_refl _) _)) (by simp; omega) (by simp only [List.length_append, encP]; omega) hx (hrw.belowB (hb3.alloc hb3.size _) hlt) (fun x e => by have := hlt x e; omega) 2 k r 0
      have HB3 : Hid (Below w.heap.size w wr) := hb3
      have hlq : w.heap.size < wr.heap.size := by omega
      clear hF hc' hqq ho2 hb2 hF3 hq3 hb3 hl3 hG3 hO3
      go_wp2_with fail
      refine (HW.out _ _).mono ?_
      rintro e w4 ⟨v4, rfl, ho4, hg4⟩
      have hB4 : Hid (OwnF byV 1 5 w4 (w.heap.size + 1) v4 (encP 2 ++ (encP k ++ (encP r ++ E))) ∧ Below w.heap.size w w4) := ⟨by simpa [encL] using ho4, (HB3.out.alloc HB3.out.size _).trans (hg4.mono (by omega))⟩
      clear HW ho4 hg4 q0 q1 q2 q3 q4 q5 q6 q7 q8 q9 q10 q11 q12 f0 f1
      go_wp2_with fail
      exact ⟨.inr (.inr ⟨rfl, hB4.out⟩), by simp [RowKit.intOf]⟩
    · go_wp2_with fail
      go_ret
      exact ⟨_, rfl, hO3.mono (by omega), hb3⟩


set_option maxHeartbeats 8000000 in
theorem appendMessage_4 (w : World) (k r : Nat) (hk : k < 268435456) (hr : r < 268435456) {x : Cm} (hx : x.Ok) {a : Option Addr} {n cap : Nat} (hrw : Rw rangeV 2 w a n cap x.op.l) (hlt : ∀ g, a = some g → g.block < w.heap.size) (o : OpV) (ho_ : x.op = o) (sl : Value) (hsl : Value.slice a n cap = sl) (E : List Nat) (hE : x.enc = E)  :
    Calls Tryd.prog 16 #[.slice none 0 0, .agg #[.int .i64 4, .int .i64 (k : Int), .int .i64 (r : Int), .int .i64 0, .int .i64 o.c, .int .i64 o.n, .int .i64 o.k, .int .i64 o.p, .string o.s, sl, .int .i64 o.tc, .int .i64 o.tn, .bool o.on]] w fun e w' => ∃ v', e = .returned v' ∧ OwnF byV 1 5 w' w.heap.size v' (encP 4 ++ (encP k ++ (encP r ++ E))) ∧ Below w.heap.size w w' := by
  have HA := appendNumbers_any (two_new (B := (w.heap.size + 1)) (w := w.alloc (.cells #[.int .i64 4, .int .i64 (k : Int), .int .i64 (r : Int), .int .i64 0, .int .i64 o.c, .int .i64 o.n, .int .i64 o.k, .int .i64 o.p, .string o.s, sl, .int .i64 o.tc, .int .i64 o.tn, .bool o.on] 37)) (ownF_nil _ _) (by simp) #[.int .i64 (4 : Nat), .int .i64 (k : Int)] [4, k] rfl (by simp)) (by simp) (by simp; exact hk) (by simp)
  simp only [List.length_cons, List.length_nil, World.size_alloc] at HA
  go_enter Tryd.func16, Tryd.ntmps16
  go_wp2_with fail
  refine HA.mono ?_
  rintro e w1 ⟨v1, rfl, ho, hg⟩
  clear HA
  have hq : w1.heap[w.heap.size]? = some (.cells #[.int .i64 4, .int .i64 (k : Int), .int .i64 (r : Int), .int .i64 0, .int .i64 o.c, .int .i64 o.n, .int .i64 o.k, .int .i64 o.p, .string o.s, sl, .int .i64 o.tc, .int .i64 o.tn, .bool o.on] 37) := by
    rw [hg.below.block _ (by omega), Below.heap_alloc _ _ _ (by simp)]
    exact heap_alloc_new _ _
  have hs1 : w.heap.size + 1 + 1 ≤ w1.heap.size := by have := hg.below.size; simpa using this
  have hb : Below w.heap.size w w1 := (((Below.refl w.heap.size w).alloc (Nat.le_refl _) _).alloc (by simp) _).trans (hg.below.mono (by omega))
  have HO : Hid (OwnF byV 1 5 w1 (w.heap.size + 1) v1 (encL [4, k]) ∧ Below w.heap.size w w1) := ⟨by simpa using ho, hb⟩
  clear ho hg hb
  obtain ⟨q0, q1, q2, q3, q4, q5, q6, q7, q8, q9, q10, q11, q12⟩ := box13 hq
  go_wp2_with fail
  refine (fieldsOf_4 _).mono ?_
  rintro e w2 ⟨g, rfl, hg2, hF, hb2⟩
  clear q0 q1 q2 q3 q4 q5 q6 q7 q8 q9 q10 q11 q12
  have hqq : w2.heap[w.heap.size]? = some (.cells #[.int .i64 4, .int .i64 (k : Int), .int .i64 (r : Int), .int .i64 0, .int .i64 o.c, .int .i64 o.n, .int .i64 o.k, .int .i64 o.p, .string o.s, sl, .int .i64 o.tc, .int .i64 o.tn, .bool o.on] 37) := (hb2.block _ (by omega)).trans hq
  have hvg : v1.ownBlock ≠ some g := fun e => by have := HO.out.1.lt e; omega
  have hs2 : w.heap.size + 1 ≤ w2.heap.size := by have := hb2.size; omega
  have HO2 : Hid (OwnF byV 1 5 w2 (w.heap.size + 1) v1 (encL [4, k]) ∧ Below w.heap.size w w2 ∧ w2.heap[w.heap.size]? = some (.cells #[.int .i64 4, .int .i64 (k : Int), .int .i64 (r : Int), .int .i64 0, .int .i64 o.c, .int .i64 o.n, .int .i64 o.k, .int .i64 o.p, .string o.s, sl, .int .i64 o.tc, .int .i64 o.tn, .bool o.on] 37) ∧ Rw fldV 2 w2 (some ⟨g, 0, none⟩) 2 2 (fieldsP 4)) := ⟨HO.out.1.below hb2, HO.out.2.trans (hb2.mono (by omega)), hqq, hF⟩
  clear HO hq hs1 hb2 hg2 hF hqq
  go_wp2_with fail
  go_loopw [0, 18] (fun v0 v18 W => (v18 = .int .i64 0 ∧ v0 = v1 ∧ W = w2) ∨ (v18 = .int .i64 1 ∧ OwnF byV 1 5 W (w.heap.size + 1) v0 (encL [4, k] ++ encP r) ∧ GB (w.heap.size + 1) w2 v1 W v0) ∨ (v18 = .int .i64 2 ∧ OwnF byV 1 5 W (w.heap.size + 1) v0 (encP 4 ++ (encP k ++ (encP r ++ E))) ∧ Below w.heap.size w W)) (fun _ v18 _ => 2 - (RowKit.intOf v18).toNat)
  case atStart => exact .inl ⟨rfl, rfl, rfl⟩
  case round =>
    have hl2 := encL_len [4, k]
    simp only [List.length_cons, List.length_nil] at hl2
    rcases hrel with ⟨rfl, rfl, rfl⟩ | ⟨rfl, hO3, hG3⟩ | ⟨rfl, hO3, hb3⟩
    · obtain ⟨ho2, hb2, hqq, hF⟩ := HO2.out
      obtain ⟨q0, q1, q2, q3, q4, q5, q6, q7, q8, q9, q10, q11, q12⟩ := box13 hqq
      obtain ⟨g', off', e', hg', hc'⟩ := hF.cells (by omega)
      cases e'
      have f0 := hc' 0 _ rfl 0 _ rfl
      have f1 := hc' 0 _ rfl 1 _ rfl
      simp only [Nat.zero_mul, Nat.zero_add, Nat.add_zero] at f0 f1
      have HW : Hid (∀ (b c : Value), Calls Tryd.prog 44 #[u0, .agg #[.int .i64 4, .int .i64 (k : Int), .int .i64 (r : Int), .int .i64 0, .int .i64 o.c, .int .i64 o.n, .int .i64 o.k, .int .i64 o.p, .string o.s, sl, .int .i64 o.tc, .int .i64 o.tn, .bool o.on]] (wr.alloc (.cells #[b, c] 74)) fun e w' => ∃ v', e = .returned v' ∧ OwnF byV 1 5 w' (w.heap.size + 1) v' (encL [4, k] ++ encP r) ∧ GB (w.heap.size + 1) (wr.alloc (.cells #[b, c] 74)) u0 w' v') := fun b c =>
        appendRev_any (ho2.below ((Below.refl _ _).alloc (Nat.le_refl _) _)) (by simp; omega) (by omega) 4 k 0 r hr o sl
      have hlq : w.heap.size < wr.heap.size := by omega
      clear hF hc' hqq ho2 hb2
      go_wp2_with fail
      refine (HW.out _ _).mono ?_
      rintro e w4 ⟨v4, rfl, ho4, hg4⟩
      have hB4 : Hid (OwnF byV 1 5 w4 (w.heap.size + 1) v4 (encL [4, k] ++ encP r) ∧ GB (w.heap.size + 1) wr u0 w4 v4) := ⟨ho4, (GB.of_below ((Below.refl _ _).alloc (Nat.le_refl _) _) hs2).trans hg4⟩
      clear HW ho4 hg4 q0 q1 q2 q3 q4 q5 q6 q7 q8 q9 q10 q11 q12 f0 f1
      go_wp2_with fail
      exact ⟨.inr (.inl ⟨rfl, hB4.out⟩), by simp [RowKit.intOf]⟩
    · obtain ⟨ho2, hb2, hqq, hF⟩ := HO2.out
      have hq3 := (hG3.below.block _ (by omega)).trans hqq
      have hF3 := hF.chg hG3.chg (fun x e => by cases e; exact hvg)
      have hs3 : w.heap.size + 1 ≤ wr.heap.size := by have := hG3.below.size; omega
      obtain ⟨q0, q1, q2, q3, q4, q5, q6, q7, q8, q9, q10, q11, q12⟩ := box13 hq3
      obtain ⟨g', off', e', hg', hc'⟩ := hF3.cells (by omega)
      cases e'
      have f0 := hc' 1 _ rfl 0 _ rfl
      have f1 := hc' 1 _ rfl 1 _ rfl
      simp only [Nat.one_mul, Nat.zero_add, Nat.add_zero, Nat.reduceAdd] at f0 f1
      have hb3 : Below w.heap.size w wr := hb2.trans (hG3.below.mono (by omega))
      have hl3 := encF_len 4 r
      have HW : Hid (∀ (b c : Value), Calls Tryd.prog 48 #[u0, .agg #[.int .i64 4, .int .i64 (k : Int), .int .i64 (r : Int), .int .i64 0, .int .i64 o.c, .int .i64 o.n, .int .i64 o.k, .int .i64 o.p, .string o.s, sl, .int .i64 o.tc, .int .i64 o.tn, .bool o.on]] (wr.alloc (.cells #[b, c] 74)) fun e w' => ∃ v', e = .returned v' ∧ OwnF byV 1 5 w' (w.heap.size + 1) v' (encL [4, k] ++ encP r ++ E) ∧ Below (w.heap.size + 1) (wr.alloc (.cells #[b, c] 74)) w') := fun b c =>
        by subst ho_ hsl hE; exact appendOp_any (hO3.below ((Below.refl _ _).alloc (Nat.le_refl _) _)) (by simp; omega) (by simp only [List.length_append, encP]; omega) hx (hrw.belowB (hb3.alloc hb3.size _) hlt) (fun x e => by have := hlt x e; omega) 4 k r 0
      have HB3 : Hid (Below w.heap.size w wr) := hb3
      have hlq : w.heap.size < wr.heap.size := by omega
      clear hF hc' hqq ho2 hb2 hF3 hq3 hb3 hl3 hG3 hO3
      go_wp2_with fail
      refine (HW.out _ _).mono ?_
      rintro e w4 ⟨v4, rfl, ho4, hg4⟩
      have hB4 : Hid (OwnF byV 1 5 w4 (w.heap.size + 1) v4 (encP 4 ++ (encP k ++ (encP r ++ E))) ∧ Below w.heap.size w w4) := ⟨by simpa [encL] using ho4, (HB3.out.alloc HB3.out.size _).trans (hg4.mono (by omega))⟩
      clear HW ho4 hg4 q0 q1 q2 q3 q4 q5 q6 q7 q8 q9 q10 q11 q12 f0 f1
      go_wp2_with fail
      exact ⟨.inr (.inr ⟨rfl, hB4.out⟩), by simp [RowKit.intOf]⟩
    · go_wp2_with fail
      go_ret
      exact ⟨_, rfl, hO3.mono (by omega), hb3⟩

end Go.Proofs.YtkdhcokefnffaaaDoor
