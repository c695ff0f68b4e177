import Derived.Test.YtkdhcokefnffaaaDoorMbK
import Derived.Test.YtkdhcokefnffaaaDoorMaJ
/-! checkMessage and Encode of the other codes. -/
namespace Go.Proofs.YtkdhcokefnffaaaDoor
open Go.RowKit Go.Lib Sp
set_option maxRecDepth 100000

set_option maxHeartbeats 4000000 in
theorem msgExtra_2 (k r : Int) {c m ki t : Int} {s : ByteArray} {a : Option Addr} {n cap : Nat} {tc tn : Int} {on : Bool} (w : World) : Calls Tryd.prog 27 #[.agg #[.int .i64 2, .int .i64 k, .int .i64 r, .int .i64 0, .int .i64 c, .int .i64 m, .int .i64 ki, .int .i64 t, .string s, .slice a n cap, .int .i64 tc, .int .i64 tn, .bool on]] w fun e w' => e = .returned (.bool false) ∧ Below w.heap.size w w' := by
  go_enter Tryd.func27, Tryd.ntmps27
  go_wp2_with fail
  refine (hasCommand_any 2 _).mono ?_
  rintro e w2 ⟨rfl, rfl⟩
  go_wp2_with fail
  go_ret
  exact ⟨rfl, (Below.refl _ _).alloc (Nat.le_refl _) _⟩

set_option maxHeartbeats 4000000 in
theorem foreign_2 (r : Int) {c m ki t : Int} {s : ByteArray} {a : Option Addr} {n cap : Nat} {tc tn : Int} {on : Bool} (w : World) : Calls Tryd.prog 30 #[.agg #[.int .i64 2, .int .i64 c, .int .i64 r, .int .i64 0, .int .i64 c, .int .i64 m, .int .i64 ki, .int .i64 t, .string s, .slice a n cap, .int .i64 tc, .int .i64 tn, .bool on]] w fun e w' => e = .returned (.bool false) ∧ Below w.heap.size w w' := by
  have d : (c != c) = false := by simp
  go_enter Tryd.func30, Tryd.ntmps30
  go_wp2_with fail
  go_ret
  exact ⟨rfl, (Below.refl _ _).alloc (Nat.le_refl _) _⟩

set_option maxHeartbeats 4000000 in
theorem checkMessage_2 (w : World) (r : Int) {c m ki t : Int} {s : ByteArray} {a : Option Addr} {n cap : Nat} {tc tn : Int} {on : Bool} (hk : 1 ≤ c ∧ c ≤ 8) (hr : 0 ≤ r ∧ r ≤ 8192) (HC : ∀ W, Below w.heap.size w W → Calls Tryd.prog 20 #[.agg #[.int .i64 c, .int .i64 m, .int .i64 ki, .int .i64 t, .string s, .slice a n cap, .int .i64 tc, .int .i64 tn, .bool on]] W fun e w' => e = .returned (.int .i64 0) ∧ Below W.heap.size W w') :
    Calls Tryd.prog 15 #[.agg #[.int .i64 2, .int .i64 c, .int .i64 r, .int .i64 0, .int .i64 c, .int .i64 m, .int .i64 ki, .int .i64 t, .string s, .slice a n cap, .int .i64 tc, .int .i64 tn, .bool on]] w fun e w' => e = .returned (.int .i64 0) ∧ Below w.heap.size w w' := by
  have HW0 := fun w => within_any 2 1 4 w
  have HW1 := fun w => within_any c 1 8 w
  have HW2 := fun w => within_any r (firstRevP 2) 8192 w
  rw [decide_eq_true hk] at HW1
  rw [show firstRevP 2 = 0 from rfl, decide_eq_true hr] at HW2
  clear hk hr
  go_enter Tryd.func15, Tryd.ntmps15
  go_wp2_with fail
  refine (HW0 _).mono ?_
  rintro e w2 ⟨rfl, rfl⟩
  go_wp2_with fail
  refine (HW1 _).mono ?_
  rintro e w2 ⟨rfl, rfl⟩
  go_wp2_with fail
  refine (msgExtra_2 c r  _).mono ?_
  rintro e w1 ⟨rfl, hb⟩
  have hq : w1.heap[w.heap.size]? = some (.cells #[.int .i64 2, .int .i64 c, .int .i64 r, .int .i64 0, .int .i64 c, .int .i64 m, .int .i64 ki, .int .i64 t, .string s, .slice a n cap, .int .i64 tc, .int .i64 tn, .bool on] 37) := (hb.block _ (by simp)).trans (heap_alloc_new _ _)
  have HB : Hid (Below w.heap.size w w1 ∧ w1.heap[w.heap.size]? = some (.cells #[.int .i64 2, .int .i64 c, .int .i64 r, .int .i64 0, .int .i64 c, .int .i64 m, .int .i64 ki, .int .i64 t, .string s, .slice a n cap, .int .i64 tc, .int .i64 tn, .bool on] 37)) := ⟨((Below.refl _ _).alloc (Nat.le_refl _) _).trans (hb.mono (by simp)), hq⟩
  obtain ⟨q0, q1, q2, q3, q4, q5, q6, q7, q8, q9, q10, q11, q12⟩ := box13 hq
  clear hq hb HW0 HW1
  go_wp2_with fail
  refine wp_region_held_drew (S := (fun W => ∀ q : Addr, W.cell? q = w1.cell? q)) (by kernel_rfl) ?hS1 (fun hHeld => ?rest1)
  case hS1 => (intro q; rfl)
  refine takeD (i := 0) (d := some 18) (v := ?vT2) rfl rfl (by kernel_rfl) (by kernel_rfl) (by kernel_rfl) (fun _ _ _ h => h) (Or.inl ⟨by rfl, ?hyT2⟩) (by assumption) ?rstT2
  case hyT2 => (intro w hSw; (try dsimp only at hSw); go_simp; (try with_reducible rfl))
  try simp only [Act.put, List.setIfInBounds_toArray, List.set_cons_zero, List.set_cons_succ]
  refine takeD (i := 1) (d := some 19) (v := ?vT3) rfl rfl (by kernel_rfl) (by kernel_rfl) (by kernel_rfl) (fun _ _ _ h => h) (Or.inl ⟨by rfl, ?hyT3⟩) (by assumption) ?rstT3
  case hyT3 => (intro w hSw; (try dsimp only at hSw); go_simp; (try with_reducible rfl))
  try simp only [Act.put, List.setIfInBounds_toArray, List.set_cons_zero, List.set_cons_succ]
  refine takeD (i := 2) (d := some 20) (v := ?vT4) rfl rfl (by kernel_rfl) (by kernel_rfl) (by kernel_rfl) (fun _ _ _ h => h) (Or.inl ⟨by rfl, ?hyT4⟩) (by assumption) ?rstT4
  case hyT4 => (intro w hSw; (try dsimp only at hSw); go_simp; (try with_reducible rfl))
  try simp only [Act.put, List.setIfInBounds_toArray, List.set_cons_zero, List.set_cons_succ]
  refine takeD (i := 3) (d := some 21) (v := ?vT5) rfl rfl (by kernel_rfl) (by kernel_rfl) (by kernel_rfl) (fun _ _ _ h => h) (Or.inl ⟨by rfl, ?hyT5⟩) (by assumption) ?rstT5
  case hyT5 => (intro w hSw; (try dsimp only at hSw); go_simp; (try with_reducible rfl))
  try simp only [Act.put, List.setIfInBounds_toArray, List.set_cons_zero, List.set_cons_succ]
  refine wpAnyH_ready (rs := [4]) (by kernel_rfl) (by simp) ?_
  refine AllReadyH.cons rfl (fun K hK => ?_) AllReadyH.nil
  go_simp
  refine (firstRev_any 2 _).mono ?_
  rintro e2 w2 ⟨rfl, rfl⟩
  clear hHeld
  refine hK.out _ _ ?hS6 (fun hHeld => ?rest6)
  case hS6 => (intro q; rfl)
  clear hK K
  try simp only [Act.put, List.setIfInBounds_toArray, List.set_cons_zero, List.set_cons_succ]
  refine wpAnyH_ready (rs := [5]) (by kernel_rfl) (by simp) ?_
  refine AllReadyH.cons rfl (fun K hK => ?_) AllReadyH.nil
  go_simp
  refine (HW2 _).mono ?_
  rintro e3 w3 ⟨rfl, rfl⟩
  clear hHeld
  refine hK.out _ _ ?hS7 (fun hHeld => ?rest7)
  case hS7 => (intro q; rfl)
  clear hK K
  try simp only [Act.put, List.setIfInBounds_toArray, List.set_cons_zero, List.set_cons_succ]
  refine takeD (i := 6) (d := some 24) (v := ?vT8) rfl rfl (by kernel_rfl) (by kernel_rfl) (by kernel_rfl) (fun _ _ _ h => h) (Or.inl ⟨by rfl, ?hyT8⟩) (by assumption) ?rstT8
  case hyT8 => (intro w hSw; (try dsimp only at hSw); go_simp; (try with_reducible rfl))
  try simp only [Act.put, List.setIfInBounds_toArray, List.set_cons_zero, List.set_cons_succ]
  refine takeD (i := 7) (d := some 17) (v := ?vT9) rfl rfl (by kernel_rfl) (by kernel_rfl) (by kernel_rfl) (fun _ _ _ h => h) (Or.inl ⟨by rfl, ?hyT9⟩) (by assumption) ?rstT9
  case hyT9 => (intro w hSw; (try dsimp only at hSw); go_simp; (try with_reducible rfl))
  try simp only [Act.put, List.setIfInBounds_toArray, List.set_cons_zero, List.set_cons_succ]
  refine wpAnyH_done (by kernel_rfl) ?_ _
  clear hHeld HW2
  go_wp2_with fail
  refine (hasCommand_any 2 _).mono ?_
  rintro e w2 ⟨rfl, hw2⟩
  subst hw2
  go_wp2_with fail
  refine (HC _ HB.out.1.drew).mono ?_
  rintro e w4 ⟨rfl, hb4⟩
  clear HC q0 q1 q2 q3 q4 q5 q6 q7 q8 q9 q10 q11 q12
  have hq4 : w4.heap[w.heap.size]? = some (.cells #[.int .i64 2, .int .i64 c, .int .i64 r, .int .i64 0, .int .i64 c, .int .i64 m, .int .i64 ki, .int .i64 t, .string s, .slice a n cap, .int .i64 tc, .int .i64 tn, .bool on] 37) := (hb4.block _ (Array.getElem?_eq_some_iff.1 HB.out.2).1).trans HB.out.2
  have HB4 : Hid (Below w.heap.size w w4) := HB.out.1.drew.trans (hb4.mono HB.out.1.size)
  obtain ⟨q0, q1, q2, q3, q4, q5, q6, q7, q8, q9, q10, q11, q12⟩ := box13 hq4
  clear hb4 hq4 HB
  go_wp2_with fail
  refine (foreign_2 r _).mono ?_
  rintro e w5 ⟨rfl, hb5⟩
  clear q0 q1 q2 q3 q4 q5 q6 q7 q8 q9 q10 q11 q12
  go_wp2_with fail
  go_ret
  exact ⟨rfl, HB4.out.trans (hb5.mono HB4.out.size)⟩

set_option maxHeartbeats 4000000 in
theorem encode_2 {w : World} (r : Nat) {c m ki t : Int} {s : ByteArray} {l : List (Int × Int)} {a : Option Addr} {n cap : Nat} {tc tn : Int} {on : Bool} {E : List Nat} (hk : 1 ≤ c ∧ c ≤ 8) (hr : 0 ≤ r ∧ r ≤ 8192) {x : Cm} (hx : x.Ok) (hop : x.op = ⟨c, m, ki, t, s, l, tc, tn, on⟩) (hE : x.enc = E) (hw : Bar w) (hrw : Rw rangeV 2 w a n cap l) (hlt : ∀ g, a = some g → g.block < w.heap.size) :
    Calls Tryd.prog 8 #[.agg #[.int .i64 2, .int .i64 c, .int .i64 (r : Int), .int .i64 0, .int .i64 c, .int .i64 m, .int .i64 ki, .int .i64 t, .string s, .slice a n cap, .int .i64 tc, .int .i64 tn, .bool on]] w fun e w' => ∃ v', e = .returned (.tuple #[v', .int .i64 0]) ∧ OwnF byV 1 5 w' w.heap.size v' (encP 2 ++ (encP c.toNat ++ (encP r ++ E))) ∧ Below w.heap.size w w' := by
  have hc2 : ((c.toNat : Nat) : Int) = c := by omega
  have HC : ∀ W, Below w.heap.size w W → Calls Tryd.prog 15 #[.agg #[.int .i64 2, .int .i64 c, .int .i64 (r : Int), .int .i64 0, .int .i64 c, .int .i64 m, .int .i64 ki, .int .i64 t, .string s, .slice a n cap, .int .i64 tc, .int .i64 tn, .bool on]] W fun e w' => e = .returned (.int .i64 0) ∧ Below W.heap.size W w' := fun W hb => checkMessage_2 W r (by omega) (by omega) (fun W2 hb2 => by have := checkCommand_any hx (hw.below (hb.trans (hb2.mono hb.size))) (a := a) (n := n) (cap := cap) (by rw [hop]; exact hrw.below (hb.trans (hb2.mono hb.size))); rw [hop] at this; exact this)
  have HA : ∀ W, Below w.heap.size w W → Calls Tryd.prog 16 #[.slice none 0 0, .agg #[.int .i64 2, .int .i64 c, .int .i64 (r : Int), .int .i64 0, .int .i64 c, .int .i64 m, .int .i64 ki, .int .i64 t, .string s, .slice a n cap, .int .i64 tc, .int .i64 tn, .bool on]] W fun e w' => ∃ v', e = .returned v' ∧ OwnF byV 1 5 w' W.heap.size v' (encP 2 ++ (encP c.toNat ++ (encP r ++ E))) ∧ Below W.heap.size W w' := fun W hb => by
    have := appendMessage_2 W c.toNat r (by omega) (by omega) hx (a := a) (n := n) (cap := cap) (by rw [hop]; exact hrw.below hb) (fun g e => by have := hlt g e; have := hb.size; omega) _ hop _ rfl E hE
    rw [hc2] at this
    exact this
  clear hx hop hE hw hrw hlt hk hr hc2
  obtain ⟨wa, ewa⟩ : ∃ W, w.alloc (.cells #[.int .i64 2, .int .i64 c, .int .i64 (r : Int), .int .i64 0, .int .i64 c, .int .i64 m, .int .i64 ki, .int .i64 t, .string s, .slice a n cap, .int .i64 tc, .int .i64 tn, .bool on] 37) = W := ⟨_, rfl⟩
  have hba : Below w.heap.size w wa := ewa ▸ (Below.refl _ _).alloc (Nat.le_refl _) _
  have hO : wa.heap[w.heap.size]? = some (.cells #[.int .i64 2, .int .i64 c, .int .i64 (r : Int), .int .i64 0, .int .i64 c, .int .i64 m, .int .i64 ki, .int .i64 t, .string s, .slice a n cap, .int .i64 tc, .int .i64 tn, .bool on] 37) := ewa ▸ heap_alloc_new _ _
  obtain ⟨q0, q1, q2, q3, q4, q5, q6, q7, q8, q9, q10, q11, q12⟩ := box13 hO
  go_enter Tryd.func8, Tryd.ntmps8
  go_wp2_with fail
  refine (HC _ hba).mono ?_
  rintro e w1 ⟨rfl, hb⟩
  clear q0 q1 q2 q3 q4 q5 q6 q7 q8 q9 q10 q11 q12
  have hq := (hb.block _ (Array.getElem?_eq_some_iff.1 hO).1).trans hO
  have hb1 : Below w.heap.size w w1 := hba.trans (hb.mono hba.size)
  obtain ⟨q0, q1, q2, q3, q4, q5, q6, q7, q8, q9, q10, q11, q12⟩ := box13 hq
  have HA1 := HA _ hb1
  have HB : Hid (Below w.heap.size w w1) := hb1
  clear HA HC hO hb hba ewa hq hb1
  go_wp2_with fail
  refine HA1.mono ?_
  rintro e w2 ⟨v', rfl, ho, hb2⟩
  clear HA1 q0 q1 q2 q3 q4 q5 q6 q7 q8 q9 q10 q11 q12
  go_wp2_with fail
  refine bodyPost_ret (v := .tuple #[v', .int .i64 0]) (by simp [results, Tryd.results8, go_sem]) rfl ?_
  have hs := HB.out.size
  exact ⟨v', rfl, ho.mono hs, HB.out.trans (hb2.mono hs)⟩

set_option maxHeartbeats 4000000 in
theorem msgExtra_3 (k r : Int) (q : Int) (w : World) : Calls Tryd.prog 27 #[.agg #[.int .i64 3, .int .i64 k, .int .i64 r, .int .i64 q, .int .i64 0, .int .i64 0, .int .i64 0, .int .i64 0, .string ⟨#[]⟩, .slice none 0 0, .int .i64 0, .int .i64 0, .bool false]] w fun e w' => e = .returned (.bool false) ∧ Below w.heap.size w w' := by
  go_enter Tryd.func27, Tryd.ntmps27
  go_wp2_with fail
  refine (hasCommand_any 3 _).mono ?_
  rintro e w2 ⟨rfl, rfl⟩
  go_wp2_with fail
  refine (equal_zero _).mono ?_
  rintro e w1 ⟨rfl, hb⟩
  have HB : Hid (Below w.heap.size w w1) := ((Below.refl _ _).alloc (Nat.le_refl _) _).trans (hb.mono (by simp))
  clear hb
  go_wp2_with fail
  go_ret
  exact ⟨rfl, HB.out⟩

set_option maxHeartbeats 4000000 in
theorem checkMessage_3 (w : World) (k r : Int) (q : Int) (hk : 1 ≤ k ∧ k ≤ 8) (hr : 1 ≤ r ∧ r ≤ 8192) (hq : 1 ≤ q ∧ q ≤ 1024) :
    Calls Tryd.prog 15 #[.agg #[.int .i64 3, .int .i64 k, .int .i64 r, .int .i64 q, .int .i64 0, .int .i64 0, .int .i64 0, .int .i64 0, .string ⟨#[]⟩, .slice none 0 0, .int .i64 0, .int .i64 0, .bool false]] w fun e w' => e = .returned (.int .i64 0) ∧ Below w.heap.size w w' := by
  have HW0 := fun w => within_any 3 1 4 w
  have HW1 := fun w => within_any k 1 8 w
  have HW2 := fun w => within_any r (firstRevP 3) 8192 w
  have HW3 := fun w => within_any q 1 1024 w
  rw [decide_eq_true hq] at HW3
  clear hq
  rw [decide_eq_true hk] at HW1
  rw [show firstRevP 3 = 1 from rfl, decide_eq_true hr] at HW2
  clear hk hr
  go_enter Tryd.func15, Tryd.ntmps15
  go_wp2_with fail
  refine (HW0 _).mono ?_
  rintro e w2 ⟨rfl, rfl⟩
  go_wp2_with fail
  refine (HW1 _).mono ?_
  rintro e w2 ⟨rfl, rfl⟩
  go_wp2_with fail
  refine (msgExtra_3 k r q _).mono ?_
  rintro e w1 ⟨rfl, hb⟩
  have hq : w1.heap[w.heap.size]? = some (.cells #[.int .i64 3, .int .i64 k, .int .i64 r, .int .i64 q, .int .i64 0, .int .i64 0, .int .i64 0, .int .i64 0, .string ⟨#[]⟩, .slice none 0 0, .int .i64 0, .int .i64 0, .bool false] 37) := (hb.block _ (by simp)).trans (heap_alloc_new _ _)
  have HB : Hid (Below w.heap.size w w1 ∧ w1.heap[w.heap.size]? = some (.cells #[.int .i64 3, .int .i64 k, .int .i64 r, .int .i64 q, .int .i64 0, .int .i64 0, .int .i64 0, .int .i64 0, .string ⟨#[]⟩, .slice none 0 0, .int .i64 0, .int .i64 0, .bool false] 37)) := ⟨((Below.refl _ _).alloc (Nat.le_refl _) _).trans (hb.mono (by simp)), hq⟩
  obtain ⟨q0, q1, q2, q3, q4, q5, q6, q7, q8, q9, q10, q11, q12⟩ := box13 hq
  clear hq hb HW0 HW1
  go_wp2_with fail
  refine wp_region_held_drew (S := (fun W => ∀ q : Addr, W.cell? q = w1.cell? q)) (by kernel_rfl) ?hS10 (fun hHeld => ?rest10)
  case hS10 => (intro q; rfl)
  refine takeD (i := 0) (d := some 18) (v := ?vT11) rfl rfl (by kernel_rfl) (by kernel_rfl) (by kernel_rfl) (fun _ _ _ h => h) (Or.inl ⟨by rfl, ?hyT11⟩) (by assumption) ?rstT11
  case hyT11 => (intro w hSw; (try dsimp only at hSw); go_simp; (try with_reducible rfl))
  try simp only [Act.put, List.setIfInBounds_toArray, List.set_cons_zero, List.set_cons_succ]
  refine takeD (i := 1) (d := some 19) (v := ?vT12) rfl rfl (by kernel_rfl) (by kernel_rfl) (by kernel_rfl) (fun _ _ _ h => h) (Or.inl ⟨by rfl, ?hyT12⟩) (by assumption) ?rstT12
  case hyT12 => (intro w hSw; (try dsimp only at hSw); go_simp; (try with_reducible rfl))
  try simp only [Act.put, List.setIfInBounds_toArray, List.set_cons_zero, List.set_cons_succ]
  refine takeD (i := 2) (d := some 20) (v := ?vT13) rfl rfl (by kernel_rfl) (by kernel_rfl) (by kernel_rfl) (fun _ _ _ h => h) (Or.inl ⟨by rfl, ?hyT13⟩) (by assumption) ?rstT13
  case hyT13 => (intro w hSw; (try dsimp only at hSw); go_simp; (try with_reducible rfl))
  try simp only [Act.put, List.setIfInBounds_toArray, List.set_cons_zero, List.set_cons_succ]
  refine takeD (i := 3) (d := some 21) (v := ?vT14) rfl rfl (by kernel_rfl) (by kernel_rfl) (by kernel_rfl) (fun _ _ _ h => h) (Or.inl ⟨by rfl, ?hyT14⟩) (by assumption) ?rstT14
  case hyT14 => (intro w hSw; (try dsimp only at hSw); go_simp; (try with_reducible rfl))
  try simp only [Act.put, List.setIfInBounds_toArray, List.set_cons_zero, List.set_cons_succ]
  refine wpAnyH_ready (rs := [4]) (by kernel_rfl) (by simp) ?_
  refine AllReadyH.cons rfl (fun K hK => ?_) AllReadyH.nil
  go_simp
  refine (firstRev_any 3 _).mono ?_
  rintro e2 w2 ⟨rfl, rfl⟩
  clear hHeld
  refine hK.out _ _ ?hS15 (fun hHeld => ?rest15)
  case hS15 => (intro q; rfl)
  clear hK K
  try simp only [Act.put, List.setIfInBounds_toArray, List.set_cons_zero, List.set_cons_succ]
  refine wpAnyH_ready (rs := [5]) (by kernel_rfl) (by simp) ?_
  refine AllReadyH.cons rfl (fun K hK => ?_) AllReadyH.nil
  go_simp
  refine (HW2 _).mono ?_
  rintro e3 w3 ⟨rfl, rfl⟩
  clear hHeld
  refine hK.out _ _ ?hS16 (fun hHeld => ?rest16)
  case hS16 => (intro q; rfl)
  clear hK K
  try simp only [Act.put, List.setIfInBounds_toArray, List.set_cons_zero, List.set_cons_succ]
  refine takeD (i := 6) (d := some 24) (v := ?vT17) rfl rfl (by kernel_rfl) (by kernel_rfl) (by kernel_rfl) (fun _ _ _ h => h) (Or.inl ⟨by rfl, ?hyT17⟩) (by assumption) ?rstT17
  case hyT17 => (intro w hSw; (try dsimp only at hSw); go_simp; (try with_reducible rfl))
  try simp only [Act.put, List.setIfInBounds_toArray, List.set_cons_zero, List.set_cons_succ]
  refine takeD (i := 7) (d := some 17) (v := ?vT18) rfl rfl (by kernel_rfl) (by kernel_rfl) (by kernel_rfl) (fun _ _ _ h => h) (Or.inl ⟨by rfl, ?hyT18⟩) (by assumption) ?rstT18
  case hyT18 => (intro w hSw; (try dsimp only at hSw); go_simp; (try with_reducible rfl))
  try simp only [Act.put, List.setIfInBounds_toArray, List.set_cons_zero, List.set_cons_succ]
  refine wpAnyH_done (by kernel_rfl) ?_ _
  clear hHeld HW2
  go_wp2_with fail
  refine (HW3 _).mono ?_
  rintro e w2 ⟨rfl, rfl⟩
  go_wp2_with fail
  refine (hasCommand_any 3 _).mono ?_
  rintro e w2 ⟨rfl, rfl⟩
  go_wp2_with fail
  go_ret
  exact ⟨rfl, HB.out.1.drew⟩

set_option maxHeartbeats 4000000 in
theorem encode_3 {w : World} (k r : Nat)  (hk : 1 ≤ k ∧ k ≤ 8) (hr : 1 ≤ r ∧ r ≤ 8192) (q : Nat) (hq : 1 ≤ q ∧ q ≤ 1024) :
    Calls Tryd.prog 8 #[.agg #[.int .i64 3, .int .i64 (k : Int), .int .i64 (r : Int), .int .i64 (q : Int), .int .i64 0, .int .i64 0, .int .i64 0, .int .i64 0, .string ⟨#[]⟩, .slice none 0 0, .int .i64 0, .int .i64 0, .bool false]] w fun e w' => ∃ v', e = .returned (.tuple #[v', .int .i64 0]) ∧ OwnF byV 1 5 w' w.heap.size v' (encP 3 ++ (encP k ++ (encP r ++ encP q))) ∧ Below w.heap.size w w' := by
  have HC : ∀ W, Below w.heap.size w W → Calls Tryd.prog 15 #[.agg #[.int .i64 3, .int .i64 (k : Int), .int .i64 (r : Int), .int .i64 (q : Int), .int .i64 0, .int .i64 0, .int .i64 0, .int .i64 0, .string ⟨#[]⟩, .slice none 0 0, .int .i64 0, .int .i64 0, .bool false]] W fun e w' => e = .returned (.int .i64 0) ∧ Below W.heap.size W w' := fun W hb => checkMessage_3 W k r q (by omega) (by omega) (by omega)
  have HA : ∀ W, Below w.heap.size w W → Calls Tryd.prog 16 #[.slice none 0 0, .agg #[.int .i64 3, .int .i64 (k : Int), .int .i64 (r : Int), .int .i64 (q : Int), .int .i64 0, .int .i64 0, .int .i64 0, .int .i64 0, .string ⟨#[]⟩, .slice none 0 0, .int .i64 0, .int .i64 0, .bool false]] W fun e w' => ∃ v', e = .returned v' ∧ OwnF byV 1 5 w' W.heap.size v' (encP 3 ++ (encP k ++ (encP r ++ encP q))) ∧ Below W.heap.size W w' := fun W hb => by
    have := appendMessage_3 W k r (by omega) (by omega) q (by omega) o0 (.slice none 0 0)
    skip
    exact this
  clear hq hk hr
  obtain ⟨wa, ewa⟩ : ∃ W, w.alloc (.cells #[.int .i64 3, .int .i64 (k : Int), .int .i64 (r : Int), .int .i64 (q : Int), .int .i64 0, .int .i64 0, .int .i64 0, .int .i64 0, .string ⟨#[]⟩, .slice none 0 0, .int .i64 0, .int .i64 0, .bool false] 37) = W := ⟨_, rfl⟩
  have hba : Below w.heap.size w wa := ewa ▸ (Below.refl _ _).alloc (Nat.le_refl _) _
  have hO : wa.heap[w.heap.size]? = some (.cells #[.int .i64 3, .int .i64 (k : Int), .int .i64 (r : Int), .int .i64 (q : Int), .int .i64 0, .int .i64 0, .int .i64 0, .int .i64 0, .string ⟨#[]⟩, .slice none 0 0, .int .i64 0, .int .i64 0, .bool false] 37) := ewa ▸ heap_alloc_new _ _
  obtain ⟨q0, q1, q2, q3, q4, q5, q6, q7, q8, q9, q10, q11, q12⟩ := box13 hO
  go_enter Tryd.func8, Tryd.ntmps8
  go_wp2_with fail
  refine (HC _ hba).mono ?_
  rintro e w1 ⟨rfl, hb⟩
  clear q0 q1 q2 q3 q4 q5 q6 q7 q8 q9 q10 q11 q12
  have hq := (hb.block _ (Array.getElem?_eq_some_iff.1 hO).1).trans hO
  have hb1 : Below w.heap.size w w1 := hba.trans (hb.mono hba.size)
  obtain ⟨q0, q1, q2, q3, q4, q5, q6, q7, q8, q9, q10, q11, q12⟩ := box13 hq
  have HA1 := HA _ hb1
  have HB : Hid (Below w.heap.size w w1) := hb1
  clear HA HC hO hb hba ewa hq hb1
  go_wp2_with fail
  refine HA1.mono ?_
  rintro e w2 ⟨v', rfl, ho, hb2⟩
  clear HA1 q0 q1 q2 q3 q4 q5 q6 q7 q8 q9 q10 q11 q12
  go_wp2_with fail
  refine bodyPost_ret (v := .tuple #[v', .int .i64 0]) (by simp [results, Tryd.results8, go_sem]) rfl ?_
  have hs := HB.out.size
  exact ⟨v', rfl, ho.mono hs, HB.out.trans (hb2.mono hs)⟩

set_option maxHeartbeats 4000000 in
theorem msgExtra_4 (k r : Int) {c m ki t : Int} {s : ByteArray} {a : Option Addr} {n cap : Nat} {tc tn : Int} {on : Bool} (w : World) : Calls Tryd.prog 27 #[.agg #[.int .i64 4, .int .i64 k, .int .i64 r, .int .i64 0, .int .i64 c, .int .i64 m, .int .i64 ki, .int .i64 t, .string s, .slice a n cap, .int .i64 tc, .int .i64 tn, .bool on]] w fun e w' => e = .returned (.bool false) ∧ Below w.heap.size w w' := by
  go_enter Tryd.func27, Tryd.ntmps27
  go_wp2_with fail
  refine (hasCommand_any 4 _).mono ?_
  rintro e w2 ⟨rfl, rfl⟩
  go_wp2_with fail
  go_ret
  exact ⟨rfl, (Below.refl _ _).alloc (Nat.le_refl _) _⟩

set_option maxHeartbeats 4000000 in
theorem foreign_4 (k r : Int) {c m ki t : Int} {s : ByteArray} {a : Option Addr} {n cap : Nat} {tc tn : Int} {on : Bool} (w : World) : Calls Tryd.prog 30 #[.agg #[.int .i64 4, .int .i64 k, .int .i64 r, .int .i64 0, .int .i64 c, .int .i64 m, .int .i64 ki, .int .i64 t, .string s, .slice a n cap, .int .i64 tc, .int .i64 tn, .bool on]] w fun e w' => e = .returned (.bool false) ∧ Below w.heap.size w w' := by
  skip
  go_enter Tryd.func30, Tryd.ntmps30
  go_wp2_with fail
  go_ret
  exact ⟨rfl, (Below.refl _ _).alloc (Nat.le_refl _) _⟩

set_option maxHeartbeats 4000000 in
theorem checkMessage_4 (w : World) (k r : Int) {c m ki t : Int} {s : ByteArray} {a : Option Addr} {n cap : Nat} {tc tn : Int} {on : Bool} (hk : 1 ≤ k ∧ k ≤ 8) (hr : 1 ≤ r ∧ r ≤ 8192) (HC : ∀ W, Below w.heap.size w W → Calls Tryd.prog 20 #[.agg #[.int .i64 c, .int .i64 m, .int .i64 ki, .int .i64 t, .string s, .slice a n cap, .int .i64 tc, .int .i64 tn, .bool on]] W fun e w' => e = .returned (.int .i64 0) ∧ Below W.heap.size W w') :
    Calls Tryd.prog 15 #[.agg #[.int .i64 4, .int .i64 k, .int .i64 r, .int .i64 0, .int .i64 c, .int .i64 m, .int .i64 ki, .int .i64 t, .string s, .slice a n cap, .int .i64 tc, .int .i64 tn, .bool on]] w fun e w' => e = .returned (.int .i64 0) ∧ Below w.heap.size w w' := by
  have HW0 := fun w => within_any 4 1 4 w
  have HW1 := fun w => within_any k 1 8 w
  have HW2 := fun w => within_any r (firstRevP 4) 8192 w
  rw [decide_eq_true hk] at HW1
  rw [show firstRevP 4 = 1 from rfl, decide_eq_true hr] at HW2
  clear hk hr
  go_enter Tryd.func15, Tryd.ntmps15
  go_wp2_with fail
  refine (HW0 _).mono ?_
  rintro e w2 ⟨rfl, rfl⟩
  go_wp2_with fail
  refine (HW1 _).mono ?_
  rintro e w2 ⟨rfl, rfl⟩
  go_wp2_with fail
  refine (msgExtra_4 k r  _).mono ?_
  rintro e w1 ⟨rfl, hb⟩
  have hq : w1.heap[w.heap.size]? = some (.cells #[.int .i64 4, .int .i64 k, .int .i64 r, .int .i64 0, .int .i64 c, .int .i64 m, .int .i64 ki, .int .i64 t, .string s, .slice a n cap, .int .i64 tc, .int .i64 tn, .bool on] 37) := (hb.block _ (by simp)).trans (heap_alloc_new _ _)
  have HB : Hid (Below w.heap.size w w1 ∧ w1.heap[w.heap.size]? = some (.cells #[.int .i64 4, .int .i64 k, .int .i64 r, .int .i64 0, .int .i64 c, .int .i64 m, .int .i64 ki, .int .i64 t, .string s, .slice a n cap, .int .i64 tc, .int .i64 tn, .bool on] 37)) := ⟨((Below.refl _ _).alloc (Nat.le_refl _) _).trans (hb.mono (by simp)), hq⟩
  obtain ⟨q0, q1, q2, q3, q4, q5, q6, q7, q8, q9, q10, q11, q12⟩ := box13 hq
  clear hq hb HW0 HW1
  go_wp2_with fail
  refine wp_region_held_drew (S := (fun W => ∀ q : Addr, W.cell? q = w1.cell? q)) (by kernel_rfl) ?hS19 (fun hHeld => ?rest19)
  case hS19 => (intro q; rfl)
  refine takeD (i := 0) (d := some 18) (v := ?vT20) rfl rfl (by kernel_rfl) (by kernel_rfl) (by kernel_rfl) (fun _ _ _ h => h) (Or.inl ⟨by rfl, ?hyT20⟩) (by assumption) ?rstT20
  case hyT20 => (intro w hSw; (try dsimp only at hSw); go_simp; (try with_reducible rfl))
  try simp only [Act.put, List.setIfInBounds_toArray, List.set_cons_zero, List.set_cons_succ]
  refine takeD (i := 1) (d := some 19) (v := ?vT21) rfl rfl (by kernel_rfl) (by kernel_rfl) (by kernel_rfl) (fun _ _ _ h => h) (Or.inl ⟨by rfl, ?hyT21⟩) (by assumption) ?rstT21
  case hyT21 => (intro w hSw; (try dsimp only at hSw); go_simp; (try with_reducible rfl))
  try simp only [Act.put, List.setIfInBounds_toArray, List.set_cons_zero, List.set_cons_succ]
  refine takeD (i := 2) (d := some 20) (v := ?vT22) rfl rfl (by kernel_rfl) (by kernel_rfl) (by kernel_rfl) (fun _ _ _ h => h) (Or.inl ⟨by rfl, ?hyT22⟩) (by assumption) ?rstT22
  case hyT22 => (intro w hSw; (try dsimp only at hSw); go_simp; (try with_reducible rfl))
  try simp only [Act.put, List.setIfInBounds_toArray, List.set_cons_zero, List.set_cons_succ]
  refine takeD (i := 3) (d := some 21) (v := ?vT23) rfl rfl (by kernel_rfl) (by kernel_rfl) (by kernel_rfl) (fun _ _ _ h => h) (Or.inl ⟨by rfl, ?hyT23⟩) (by assumption) ?rstT23
  case hyT23 => (intro w hSw; (try dsimp only at hSw); go_simp; (try with_reducible rfl))
  try simp only [Act.put, List.setIfInBounds_toArray, List.set_cons_zero, List.set_cons_succ]
  refine wpAnyH_ready (rs := [4]) (by kernel_rfl) (by simp) ?_
  refine AllReadyH.cons rfl (fun K hK => ?_) AllReadyH.nil
  go_simp
  refine (firstRev_any 4 _).mono ?_
  rintro e2 w2 ⟨rfl, rfl⟩
  clear hHeld
  refine hK.out _ _ ?hS24 (fun hHeld => ?rest24)
  case hS24 => (intro q; rfl)
  clear hK K
  try simp only [Act.put, List.setIfInBounds_toArray, List.set_cons_zero, List.set_cons_succ]
  refine wpAnyH_ready (rs := [5]) (by kernel_rfl) (by simp) ?_
  refine AllReadyH.cons rfl (fun K hK => ?_) AllReadyH.nil
  go_simp
  refine (HW2 _).mono ?_
  rintro e3 w3 ⟨rfl, rfl⟩
  clear hHeld
  refine hK.out _ _ ?hS25 (fun hHeld => ?rest25)
  case hS25 => (intro q; rfl)
  clear hK K
  try simp only [Act.put, List.setIfInBounds_toArray, List.set_cons_zero, List.set_cons_succ]
  refine takeD (i := 6) (d := some 24) (v := ?vT26) rfl rfl (by kernel_rfl) (by kernel_rfl) (by kernel_rfl) (fun _ _ _ h => h) (Or.inl ⟨by rfl, ?hyT26⟩) (by assumption) ?rstT26
  case hyT26 => (intro w hSw; (try dsimp only at hSw); go_simp; (try with_reducible rfl))
  try simp only [Act.put, List.setIfInBounds_toArray, List.set_cons_zero, List.set_cons_succ]
  refine takeD (i := 7) (d := some 17) (v := ?vT27) rfl rfl (by kernel_rfl) (by kernel_rfl) (by kernel_rfl) (fun _ _ _ h => h) (Or.inl ⟨by rfl, ?hyT27⟩) (by assumption) ?rstT27
  case hyT27 => (intro w hSw; (try dsimp only at hSw); go_simp; (try with_reducible rfl))
  try simp only [Act.put, List.setIfInBounds_toArray, List.set_cons_zero, List.set_cons_succ]
  refine wpAnyH_done (by kernel_rfl) ?_ _
  clear hHeld HW2
  go_wp2_with fail
  refine (hasCommand_any 4 _).mono ?_
  rintro e w2 ⟨rfl, hw2⟩
  subst hw2
  go_wp2_with fail
  refine (HC _ HB.out.1.drew).mono ?_
  rintro e w4 ⟨rfl, hb4⟩
  clear HC q0 q1 q2 q3 q4 q5 q6 q7 q8 q9 q10 q11 q12
  have hq4 : w4.heap[w.heap.size]? = some (.cells #[.int .i64 4, .int .i64 k, .int .i64 r, .int .i64 0, .int .i64 c, .int .i64 m, .int .i64 ki, .int .i64 t, .string s, .slice a n cap, .int .i64 tc, .int .i64 tn, .bool on] 37) := (hb4.block _ (Array.getElem?_eq_some_iff.1 HB.out.2).1).trans HB.out.2
  have HB4 : Hid (Below w.heap.size w w4) := HB.out.1.drew.trans (hb4.mono HB.out.1.size)
  obtain ⟨q0, q1, q2, q3, q4, q5, q6, q7, q8, q9, q10, q11, q12⟩ := box13 hq4
  clear hb4 hq4 HB
  go_wp2_with fail
  refine (foreign_4 k r _).mono ?_
  rintro e w5 ⟨rfl, hb5⟩
  clear q0 q1 q2 q3 q4 q5 q6 q7 q8 q9 q10 q11 q12
  go_wp2_with fail
  go_ret
  exact ⟨rfl, HB4.out.trans (hb5.mono HB4.out.size)⟩

set_option maxHeartbeats 4000000 in
theorem encode_4 {w : World} (k r : Nat) {c m ki t : Int} {s : ByteArray} {l : List (Int × Int)} {a : Option Addr} {n cap : Nat} {tc tn : Int} {on : Bool} {E : List Nat} (hk : 1 ≤ k ∧ k ≤ 8) (hr : 1 ≤ r ∧ r ≤ 8192) {x : Cm} (hx : x.Ok) (hop : x.op = ⟨c, m, ki, t, s, l, tc, tn, on⟩) (hE : x.enc = E) (hw : Bar w) (hrw : Rw rangeV 2 w a n cap l) (hlt : ∀ g, a = some g → g.block < w.heap.size) :
    Calls Tryd.prog 8 #[.agg #[.int .i64 4, .int .i64 (k : Int), .int .i64 (r : Int), .int .i64 0, .int .i64 c, .int .i64 m, .int .i64 ki, .int .i64 t, .string s, .slice a n cap, .int .i64 tc, .int .i64 tn, .bool on]] w fun e w' => ∃ v', e = .returned (.tuple #[v', .int .i64 0]) ∧ OwnF byV 1 5 w' w.heap.size v' (encP 4 ++ (encP k ++ (encP r ++ E))) ∧ Below w.heap.size w w' := by
  have HC : ∀ W, Below w.heap.size w W → Calls Tryd.prog 15 #[.agg #[.int .i64 4, .int .i64 (k : Int), .int .i64 (r : Int), .int .i64 0, .int .i64 c, .int .i64 m, .int .i64 ki, .int .i64 t, .string s, .slice a n cap, .int .i64 tc, .int .i64 tn, .bool on]] W fun e w' => e = .returned (.int .i64 0) ∧ Below W.heap.size W w' := fun W hb => checkMessage_4 W k r (by omega) (by omega) (fun W2 hb2 => by have := checkCommand_any hx (hw.below (hb.trans (hb2.mono hb.size))) (a := a) (n := n) (cap := cap) (by rw [hop]; exact hrw.below (hb.trans (hb2.mono hb.size))); rw [hop] at this; exact this)
  have HA : ∀ W, Below w.heap.size w W → Calls Tryd.prog 16 #[.slice none 0 0, .agg #[.int .i64 4, .int .i64 (k : Int), .int .i64 (r : Int), .int .i64 0, .int .i64 c, .int .i64 m, .int .i64 ki, .int .i64 t, .string s, .slice a n cap, .int .i64 tc, .int .i64 tn, .bool on]] W fun e w' => ∃ v', e = .returned v' ∧ OwnF byV 1 5 w' W.heap.size v' (encP 4 ++ (encP k ++ (encP r ++ E))) ∧ Below W.heap.size W w' := fun W hb => by
    have := appendMessage_4 W k r (by omega) (by omega) hx (a := a) (n := n) (cap := cap) (by rw [hop]; exact hrw.below hb) (fun g e => by have := hlt g e; have := hb.size; omega) _ hop _ rfl E hE
    skip
    exact this
  clear hx hop hE hw hrw hlt hk hr
  obtain ⟨wa, ewa⟩ : ∃ W, w.alloc (.cells #[.int .i64 4, .int .i64 (k : Int), .int .i64 (r : Int), .int .i64 0, .int .i64 c, .int .i64 m, .int .i64 ki, .int .i64 t, .string s, .slice a n cap, .int .i64 tc, .int .i64 tn, .bool on] 37) = W := ⟨_, rfl⟩
  have hba : Below w.heap.size w wa := ewa ▸ (Below.refl _ _).alloc (Nat.le_refl _) _
  have hO : wa.heap[w.heap.size]? = some (.cells #[.int .i64 4, .int .i64 (k : Int), .int .i64 (r : Int), .int .i64 0, .int .i64 c, .int .i64 m, .int .i64 ki, .int .i64 t, .string s, .slice a n cap, .int .i64 tc, .int .i64 tn, .bool on] 37) := ewa ▸ heap_alloc_new _ _
  obtain ⟨q0, q1, q2, q3, q4, q5, q6, q7, q8, q9, q10, q11, q12⟩ := box13 hO
  go_enter Tryd.func8, Tryd.ntmps8
  go_wp2_with fail
  refine (HC _ hba).mono ?_
  rintro e w1 ⟨rfl, hb⟩
  clear q0 q1 q2 q3 q4 q5 q6 q7 q8 q9 q10 q11 q12
  have hq := (hb.block _ (Array.getElem?_eq_some_iff.1 hO).1).trans hO
  have hb1 : Below w.heap.size w w1 := hba.trans (hb.mono hba.size)
  obtain ⟨q0, q1, q2, q3, q4, q5, q6, q7, q8, q9, q10, q11, q12⟩ := box13 hq
  have HA1 := HA _ hb1
  have HB : Hid (Below w.heap.size w w1) := hb1
  clear HA HC hO hb hba ewa hq hb1
  go_wp2_with fail
  refine HA1.mono ?_
  rintro e w2 ⟨v', rfl, ho, hb2⟩
  clear HA1 q0 q1 q2 q3 q4 q5 q6 q7 q8 q9 q10 q11 q12
  go_wp2_with fail
  refine bodyPost_ret (v := .tuple #[v', .int .i64 0]) (by simp [results, Tryd.results8, go_sem]) rfl ?_
  have hs := HB.out.size
  exact ⟨v', rfl, ho.mono hs, HB.out.trans (hb2.mono hs)⟩
end Go.Proofs.YtkdhcokefnffaaaDoor
