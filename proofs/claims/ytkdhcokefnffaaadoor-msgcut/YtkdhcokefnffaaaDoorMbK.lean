import Derived.Test.YtkdhcokefnffaaaDoorMbJ
import Derived.Test.YtkdhcokefnffaaaDoorOpAG
/-! roomFor, checkCommand, EncodeOp. -/
namespace Go.Proofs.YtkdhcokefnffaaaDoor
open Go.RowKit Go.Lib Sp
set_option maxRecDepth 100000

theorem rng_of_rw {w : World} {a : Option Addr} {n cap : Nat} {l : List (Int × Int)} (h : Rw rangeV 2 w a n cap l) : Rng w a n cap l :=
  ⟨h.len, h.room, fun j hj => by
    obtain ⟨g, off, x, ha, hg, hx, hc⟩ := h.at j hj
    have e : l.getD j (0, 0) = x := by rw [List.getD_eq_getElem?_getD, hx]; rfl
    rw [e]
    refine ⟨g, off, ha, hg, ?_, hc 1 _ rfl⟩
    have := hc 0 _ rfl
    simpa using this⟩
theorem chk_RO : ∀ (l : List (Nat × Nat)) (e ap i : Nat) (b : Int), RO e ap l → b < (e : Int) + (ap : Int) → Sp.chk i b (intL l) = (0, 0)
  | [], _, _, _, _, _, _ => rfl
  | (lo, hi) :: r, e, ap, i, b, h, hb => by
    obtain ⟨h1, h2, h3, h4⟩ := h
    show Sp.chk i b (((lo : Int), (hi : Int)) :: intL r) = _
    rw [Sp.chk]
    simp only
    rw [if_neg (by omega), if_neg (by omega)]
    exact chk_RO r hi 1 (i + 1) hi h4 (by omega)
theorem RO_top : ∀ (l : List (Nat × Nat)) (e ap : Nat), RO e ap l → ∀ x ∈ l, x.2 ≤ 1048576
  | [], _, _, _, _, hx => by cases hx
  | (lo, hi) :: r, e, ap, h, x, hx => by
    obtain ⟨h1, h2, h3, h4⟩ := h
    rcases List.mem_cons.1 hx with rfl | hx
    · exact h3
    · exact RO_top r hi 1 h4 x hx
def Cm.room : Cm → Int
  | .ins _ _ t _ => t
  | _ => 1048576
theorem Cm.check {x : Cm} (h : x.Ok) : opCheck x.op x.room = 0 := by
  cases x with
  | ins c m t S =>
    obtain ⟨h1, h2, h3, hb, r, h4, h5, h6, h7⟩ := h
    have hid : isIdP (c : Int) (m : Int) = true := by unfold isIdP; rw [decide_eq_true_iff]; omega
    simp only [opCheck, Cm.op, Cm.room]
    rw [if_neg (by omega), if_neg (by omega), if_neg (by rw [hid]; simp), if_neg (by simp [extra, ext0, extT]), if_pos trivial]
    simp only [insP, h4]
    rw [if_neg (by simp), if_neg (by omega), if_neg (by omega), if_neg (by omega), if_neg (by omega)]
  | hide c m l =>
    obtain ⟨h1, h2, h3, h4⟩ := h
    have hid : isIdP (c : Int) (m : Int) = true := by unfold isIdP; rw [decide_eq_true_iff]; omega
    have hne : intL l ≠ [] := fun e => by have := congrArg List.length e; simp [intL] at this; rw [this] at h3; simp at h3
    have hck : (Sp.checkL (intL l)).2 = 0 := by
      unfold Sp.checkL
      rw [if_neg (by simp [intL]; omega), chk_RO l 0 0 0 (-1) h4 (by omega)]
    have hlast : lastHi (intL l) ≤ 1048576 := by
      unfold lastHi
      have hl : (intL l).length - 1 < (intL l).length := by have := List.length_pos_iff.2 hne; omega
      rw [List.getD_eq_getElem?_getD, List.getElem?_eq_getElem hl]
      have hmem := List.getElem_mem hl
      simp only [intL, List.mem_map] at hmem
      obtain ⟨y, hy, e⟩ := hmem
      have := RO_top l 0 0 h4 y hy
      simp only [Option.getD_some, intL] at e ⊢
      rw [← e]
      simp only
      omega
    show opCheck ⟨(c : Int), (m : Int), 2, 0, ⟨#[]⟩, intL l, 0, 0, false⟩ 1048576 = 0
    simp only [opCheck]
    rw [if_neg (by omega), if_neg (by omega), if_neg (by rw [hid]; simp), if_neg (by simp [extra, extP, extT, ByteArray.size]), if_neg (by omega), if_neg (by omega)]
    simp only [rngP]
    rw [if_neg hne, if_neg (by omega), if_neg (by omega)]
  | stat c m x y on =>
    obtain ⟨h1, h2, h3, h4, h5⟩ := h
    have hid : isIdP (c : Int) (m : Int) = true := by unfold isIdP; rw [decide_eq_true_iff]; omega
    have hid2 : isIdP (x : Int) (y : Int) = true := by unfold isIdP; rw [decide_eq_true_iff]; omega
    show opCheck ⟨(c : Int), (m : Int), 4, 0, ⟨#[]⟩, [], (x : Int), (y : Int), on⟩ 1048576 = 0
    simp only [opCheck]
    rw [if_neg (by omega), if_neg (by omega), if_neg (by rw [hid]; simp), if_neg (by simp [extra, extP, ext0, ByteArray.size]), if_neg (by omega), if_pos trivial]
    simp only [tgtP]
    rw [if_neg (by rw [hid2]; simp; intro e1 e2; exact h5 ⟨by omega, by omega⟩)]

set_option maxHeartbeats 4000000 in
theorem roomFor_any {x : Cm} (h : x.Ok) (sl : Value) (w : World) : Calls Tryd.prog 36 #[opVal x.op sl] w fun e w' => e = .returned (.int .i64 x.room) ∧ Below w.heap.size w w' := by
  cases x with
  | ins c m t S =>
    obtain ⟨h1, h2, h3, hb, r, h4, h5, h6, h7⟩ := h
    have d1 : decide ((t : Int) < 1048576) = true := decide_eq_true (by omega)
    have d2 : decide ((0 : Int) ≤ (t : Int)) = true := decide_eq_true (by omega)
    have d3 : t < 1048576 := by omega
    clear h1 h2 h3 hb h4 h5 h6 h7
    simp only [opVal, Cm.op, Cm.room]
    go_enter Tryd.func36, Tryd.ntmps36
    go_wp2_with fail
    go_ret
    exact ⟨rfl, (Below.refl _ _).alloc (Nat.le_refl _) _⟩
  | hide c m l =>
    clear h
    simp only [opVal, Cm.op, Cm.room]
    go_enter Tryd.func36, Tryd.ntmps36
    go_wp2_with fail
    go_ret
    exact ⟨rfl, (Below.refl _ _).alloc (Nat.le_refl _) _⟩
  | stat c m x y on =>
    clear h
    simp only [opVal, Cm.op, Cm.room]
    go_enter Tryd.func36, Tryd.ntmps36
    go_wp2_with fail
    go_ret
    exact ⟨rfl, (Below.refl _ _).alloc (Nat.le_refl _) _⟩
theorem Cm.facts {x : Cm} (h : x.Ok) : x.op.k ≠ 3 ∧ (1 ≤ x.op.c ∧ x.op.c ≤ 8) ∧ x.op.s.size ≤ 9223372036854775807 := by
  cases x with
  | ins c m t S =>
    obtain ⟨h1, h2, h3, _⟩ := h
    refine ⟨by simp [Cm.op], by simp only [Cm.op]; omega, ?_⟩
    simp only [Cm.op, strB_size]
    omega
  | hide c m l =>
    obtain ⟨h1, _⟩ := h
    exact ⟨by simp [Cm.op], by simp only [Cm.op]; omega, by simp [Cm.op, ByteArray.size]⟩
  | stat c m x y on =>
    obtain ⟨h1, _⟩ := h
    exact ⟨by simp [Cm.op], by simp only [Cm.op]; omega, by simp [Cm.op, ByteArray.size]⟩

set_option maxHeartbeats 4000000 in
theorem checkCommand_any {x : Cm} (h : x.Ok) {w : World} (hw : Bar w) {a : Option Addr} {n cap : Nat} (hr : Rw rangeV 2 w a n cap x.op.l) :
    Calls Tryd.prog 20 #[opVal x.op (.slice a n cap)] w fun e w' => e = .returned (.int .i64 0) ∧ Below w.heap.size w w' := by
  obtain ⟨f1, f2, f3⟩ := Cm.facts h
  have HR := fun w => roomFor_any h (.slice a n cap) w
  have HC : ∀ W, Below w.heap.size w W → Calls Tryd.prog 35 #[opVal x.op (.slice a n cap), .int .i64 x.room] W fun e w' => e = .returned (.int .i64 0) ∧ Below W.heap.size W w' := fun W hb => by
    have := opCheck_any (o := x.op) (total := x.room) (rng_of_rw (hr.below hb)) f3 (hw.below hb)
    rw [Cm.check h] at this
    exact this
  clear hr hw f3
  have HI := run_eqID
  have HG : Tryd.prog.eqGuardType Tryd.prog.depth 29 = false := by kernel_rfl
  revert HR HC f1 f2
  generalize x.op = o
  generalize x.room = rm
  intro f1 f2 HR HC
  obtain ⟨c, m, k, t, s, l, tc, tn, on⟩ := o
  simp only [opVal] at *
  have d1 : (k == 3) = false := beq_eq_false_iff_ne.2 f1
  have d2 : (c == 0) = false := beq_eq_false_iff_ne.2 (by omega)
  obtain ⟨wa, ewa⟩ : ∃ W, w.alloc (.cells #[.int .i64 c, .int .i64 m, .int .i64 k, .int .i64 t, .string s, .slice a n cap, .int .i64 tc, .int .i64 tn, .bool on] 35) = W := ⟨_, rfl⟩
  have hba : Below w.heap.size w wa := ewa ▸ (Below.refl _ _).alloc (Nat.le_refl _) _
  have hO : wa.heap[w.heap.size]? = some (.cells #[.int .i64 c, .int .i64 m, .int .i64 k, .int .i64 t, .string s, .slice a n cap, .int .i64 tc, .int .i64 tn, .bool on] 35) := ewa ▸ heap_alloc_new _ _
  have hwl := (Array.getElem?_eq_some_iff.1 hO).1
  obtain ⟨b0, b1, b2, b3, b4, b5, b6, b7, b8⟩ := box9 hO
  go_enter Tryd.func20, Tryd.ntmps20
  go_wp2_with fail
  refine wp_region_held_drew (S := (fun W => ∀ p : Addr, p.block = w.heap.size → W.cell? p = wa.cell? p)) (by kernel_rfl) ?hS1 (fun hHeld => ?rest1)
  case hS1 => (intro p hp; rfl)
  refine takeD (i := 0) (d := some 4) (v := ?vT2) rfl rfl (by kernel_rfl) (by kernel_rfl) (by kernel_rfl) (fun _ _ _ h => h) (Or.inl ⟨by rfl, ?hyT2⟩) (by assumption) ?rstT2
  case hyT2 => (intro w hSw; (try dsimp only at hSw); go_simp; (try with_reducible rfl))
  try simp only [Act.put, List.setIfInBounds_toArray, List.set_cons_zero, List.set_cons_succ]
  refine takeD (i := 1) (d := some 5) (v := ?vT3) rfl rfl (by kernel_rfl) (by kernel_rfl) (by kernel_rfl) (fun _ _ _ h => h) (Or.inl ⟨by rfl, ?hyT3⟩) (by assumption) ?rstT3
  case hyT3 => (intro w hSw; (try dsimp only at hSw); go_simp; (try with_reducible rfl))
  try simp only [Act.put, List.setIfInBounds_toArray, List.set_cons_zero, List.set_cons_succ]
  refine wpAnyH_ready (rs := [2]) (by kernel_rfl) (by simp) ?_
  refine AllReadyH.cons rfl (fun K hK => ?_) AllReadyH.nil
  go_simp
  refine (HR _).mono ?_
  rintro e2 w2 ⟨rfl, hb2⟩
  clear hHeld
  refine hK.out _ _ ?hS4 (fun hHeld => ?rest4)
  case hS4 => (intro p hp; exact hb2.cell (by rw [hp]; exact hwl))
  clear hK K
  try simp only [Act.put, List.setIfInBounds_toArray, List.set_cons_zero, List.set_cons_succ]
  refine wpAnyH_ready (rs := [3]) (by kernel_rfl) (by simp) ?_
  refine AllReadyH.cons rfl (fun K hK => ?_) AllReadyH.nil
  go_simp
  refine (HC _ (hba.drew.trans (hb2.mono hba.size))).mono ?_
  rintro e2 w3 ⟨rfl, hb3⟩
  clear hHeld
  refine hK.out _ _ ?hS5 (fun hHeld => ?rest5)
  case hS5 => (intro p hp; exact (hb3.cell (by rw [hp]; have := hb2.size; simp only [World.drew] at this; omega)).trans (hb2.cell (by rw [hp]; exact hwl)))
  clear hK K
  try simp only [Act.put, List.setIfInBounds_toArray, List.set_cons_zero, List.set_cons_succ]
  refine takeD (i := 4) (d := some 3) (v := ?vT6) rfl rfl (by kernel_rfl) (by kernel_rfl) (by kernel_rfl) (fun _ _ _ h => h) (Or.inl ⟨by rfl, ?hyT6⟩) (by assumption) ?rstT6
  case hyT6 => (intro w hSw; (try dsimp only at hSw); go_simp; (try with_reducible rfl))
  try simp only [Act.put, List.setIfInBounds_toArray, List.set_cons_zero, List.set_cons_succ]
  refine wpAnyH_done (by kernel_rfl) ?_ _
  clear hHeld HR HC b0 b1 b2 b3 b4 b5 b6 b7 b8
  have hs2 := hb2.size
  have hO3 := (hb3.block _ (Nat.lt_of_lt_of_le hwl hs2)).trans ((hb2.block _ hwl).trans hO)
  have hbw : Below w.heap.size w w3 := (hba.drew.trans (hb2.mono hba.size)).trans (hb3.mono (Nat.le_trans hba.size hs2))
  have HB : Hid (Below w.heap.size w w3) := hbw
  obtain ⟨b0, b1, b2, b3, b4, b5, b6, b7, b8⟩ := box9 hO3
  clear hO hO3 hbw hb2 hb3 hs2 hba ewa
  go_wp2_with fail
  go_ret
  exact ⟨rfl, HB.out⟩

set_option maxHeartbeats 4000000 in
theorem encodeOp_any {x : Cm} (h : x.Ok) {w : World} (hw : Bar w) {a : Option Addr} {n cap : Nat} (hr : Rw rangeV 2 w a n cap x.op.l) (hlt : ∀ g, a = some g → g.block < w.heap.size) :
    Calls Tryd.prog 12 #[opVal x.op (.slice a n cap)] w fun e w' => ∃ v', e = .returned (.tuple #[v', .int .i64 0]) ∧ OwnF byV 1 5 w' w.heap.size v' x.enc ∧ Below w.heap.size w w' := by
  have HC : ∀ W, Below w.heap.size w W → Calls Tryd.prog 20 #[opVal x.op (.slice a n cap)] W fun e w' => e = .returned (.int .i64 0) ∧ Below W.heap.size W w' := fun W hb => checkCommand_any h (hw.below hb) (hr.below hb)
  have HA : ∀ W, Below w.heap.size w W → Calls Tryd.prog 21 #[.slice none 0 0, opVal x.op (.slice a n cap)] W fun e w' => ∃ v', e = .returned v' ∧ OwnF byV 1 5 w' W.heap.size v' x.enc ∧ Below W.heap.size W w' := fun W hb => by
    have := appendCommand_any (L := []) (B := W.heap.size) (ownF_nil W W.heap.size) (Nat.le_refl _) (by simp) h (hr.below hb) (fun g e => by have := hlt g e; have := hb.size; omega)
    simpa using this
  clear hr hw hlt
  revert HC HA
  generalize x.enc = E
  generalize x.op = o
  intro HC HA
  obtain ⟨c, m, k, t, s, l, tc, tn, on⟩ := o
  simp only [opVal] at *
  obtain ⟨wa, ewa⟩ : ∃ W, w.alloc (.cells #[.int .i64 c, .int .i64 m, .int .i64 k, .int .i64 t, .string s, .slice a n cap, .int .i64 tc, .int .i64 tn, .bool on] 35) = W := ⟨_, rfl⟩
  have hba : Below w.heap.size w wa := ewa ▸ (Below.refl _ _).alloc (Nat.le_refl _) _
  have hO : wa.heap[w.heap.size]? = some (.cells #[.int .i64 c, .int .i64 m, .int .i64 k, .int .i64 t, .string s, .slice a n cap, .int .i64 tc, .int .i64 tn, .bool on] 35) := ewa ▸ heap_alloc_new _ _
  obtain ⟨b0, b1, b2, b3, b4, b5, b6, b7, b8⟩ := box9 hO
  go_enter Tryd.func12, Tryd.ntmps12
  go_wp2_with fail
  refine (HC _ hba).mono ?_
  rintro e w1 ⟨rfl, hb⟩
  clear b0 b1 b2 b3 b4 b5 b6 b7 b8
  have hq := (hb.block _ (Array.getElem?_eq_some_iff.1 hO).1).trans hO
  have hb1 : Below w.heap.size w w1 := hba.trans (hb.mono hba.size)
  obtain ⟨b0, b1, b2, b3, b4, b5, b6, b7, b8⟩ := box9 hq
  have HA1 := HA _ hb1
  have HB : Hid (Below w.heap.size w w1) := hb1
  clear HA HC hO hb hba ewa hq hb1
  go_wp2_with fail
  refine HA1.mono ?_
  rintro e w2 ⟨v', rfl, ho, hb2⟩
  clear HA1 b0 b1 b2 b3 b4 b5 b6 b7 b8
  go_wp2_with fail
  refine bodyPost_ret (v := .tuple #[v', .int .i64 0]) (by simp [results, Tryd.results12, go_sem]) rfl ?_
  have hs := HB.out.size
  exact ⟨v', rfl, ho.mono hs, HB.out.trans (hb2.mono hs)⟩
end Go.Proofs.YtkdhcokefnffaaaDoor
