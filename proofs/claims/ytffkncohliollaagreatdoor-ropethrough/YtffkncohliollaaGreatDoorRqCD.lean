import Derived.Test.YtffkncohliollaaGreatDoorRqB
import Derived.Lib.AppendZerosOnto
namespace Go.Proofs.YtffkncohliollaaGreatDoor
open Go.RowKit Go.Lib
set_option maxRecDepth 100000

/-- Empty, or as it stands beneath a node. -/
def Tr.Can (t : Tr) : Prop := t = .nil ∨ t.Fine
theorem Tr.Can.ok {t : Tr} (h : t.Can) : t.Ok := h.imp id Tr.Fine.wf
theorem Tr.Can.bd {t : Tr} (h : t.Can) : t.Bd := by
  rcases h with rfl | h
  · trivial
  · exact h.bd
theorem Tr.Can.smBd {t : Tr} (h : t.Can) (hn : t.row.length ≤ 2097152) : SmBd t.sm := Tr.smBd h.ok h.bd hn
theorem Tr.Fine.cells_ne {t : Tr} (h : t.Fine) : (t.sm.cells == 0) = false := by
  rw [beq_eq_false_iff_ne]
  have := h.wf.pos
  have := t.sm_cells
  omega
/-- Joined, where one may be empty. -/
structure JC (a b t : Tr) : Prop where
  lv : t.lv = a.lv ++ b.lv
  can : t.Can
  two : a.Fine → b.Fine → J2 a b t
theorem join_up {a l r b t' t : Tr} (hs : SidesOf a l r) (hh : b.sm.high + 1 < a.sm.high) (h1 : J2 r b t') (h2 : J2 l t' t) : J2 a b t := by
  have a0 := hs.high
  have a1 := hs.h1
  have a2 := hs.h2
  have b1 := h1.lo
  have b2 := h1.hi
  have c1 := h2.lo
  have c2 := h2.hi
  have c3 := h2.ex
  refine ⟨by rw [h2.lv, h1.lv, hs.lv]; simp, h2.fine, ?_, ?_, fun e => by omega⟩
  · by_cases e : t'.sm.high ≤ l.sm.high + 1
    · have := c3 (by omega) e; omega
    · omega
  · by_cases e : t'.sm.high ≤ l.sm.high + 1
    · have := c3 (by omega) e; omega
    · omega
theorem join_up' {a l r b t' t : Tr} (hs : SidesOf b l r) (hh : a.sm.high + 1 < b.sm.high) (h1 : J2 a l t') (h2 : J2 t' r t) : J2 a b t := by
  have a0 := hs.high
  have a1 := hs.h1
  have a2 := hs.h2
  have b1 := h1.lo
  have b2 := h1.hi
  have c1 := h2.lo
  have c2 := h2.hi
  have c3 := h2.ex
  refine ⟨by rw [h2.lv, h1.lv, hs.lv]; simp, h2.fine, ?_, ?_, fun _ e => by omega⟩
  · by_cases e : t'.sm.high ≤ r.sm.high + 1
    · have := c3 e (by omega); omega
    · omega
  · by_cases e : t'.sm.high ≤ r.sm.high + 1
    · have := c3 e (by omega); omega
    · omega
theorem j2_len {a b t : Tr} (h : J2 a b t) : t.row.length = a.row.length + b.row.length := by rw [Tr.row_len, Tr.row_len, Tr.row_len, h.lv, rowOf_append, List.length_append]
set_option maxHeartbeats 4000000 in
theorem join_fine : ∀ (N : Nat) {w : World} {a b : Tr} {ga gb : Nat}, a.sm.high + b.sm.high ≤ (N : Int) → At w a ga → At w b gb → a.Fine → b.Fine → a.row.length + b.row.length ≤ 2097152 →
    Calls Tryz.prog 77 #[.pointer (some ⟨ga, 0, none⟩), .pointer (some ⟨gb, 0, none⟩)] w fun e w' => ∃ g t, e = .returned (.pointer (some ⟨g, 0, none⟩)) ∧ At w' t g ∧ J2 a b t ∧ Below w.heap.size w w' := by
  intro N
  induction N with
  | zero =>
    intro w a b ga gb hN ha hb fa fb hn
    have := fa.pos
    have := fb.pos
    omega
  | succ N ih =>
    intro w a b ga gb hN ha hb fa fb hn
    have IH : Hid (∀ {w : World} {a b : Tr} {ga gb : Nat}, a.sm.high + b.sm.high ≤ (N : Int) → At w a ga → At w b gb → a.Fine → b.Fine → a.row.length + b.row.length ≤ 2097152 → Calls Tryz.prog 77 #[.pointer (some ⟨ga, 0, none⟩), .pointer (some ⟨gb, 0, none⟩)] w fun e w' => ∃ g t, e = .returned (.pointer (some ⟨g, 0, none⟩)) ∧ At w' t g ∧ J2 a b t ∧ Below w.heap.size w w') := ih
    clear ih
    have ca0 := ha.cells
    have cb0 := hb.cells
    have ca := ha.high
    have cb := hb.high
    have za := fa.cells_ne
    have zb := fb.cells_ne
    have ba := (fa.smBd (by omega)).high
    have bb := (fb.smBd (by omega)).high
    have lta := ha.lt
    have ltb := hb.lt
    have pa := fa.pos
    have pb := fb.pos
    have hb0 : Below w.heap.size w w := Below.refl _ _
    by_cases hA : b.sm.high + 1 < a.sm.high
    · go_enter Tryz.func77, Tryz.ntmps77
      go_wp2_with fail
      go_quiet (fail)
      have hb1 := below_drewN hb0 nq
      generalize w.drewN nq = w1 at *
      go_wp2_with fail
      refine (sides_p (ha.below hb1) fa (by omega) (by omega)).mono ?_
      rintro e w2 ⟨gl, gr, l, r, rfl, hl, hr, hs, hb2⟩
      have hB2 := hb1.trans (hb2.mono hb1.size)
      have hlen := hs.len
      have q0 := hs.high
      have q1 := hs.h1
      have q2 := hs.h2
      clear ca cb ca0 cb0
      go_wp2_with fail
      refine (IH.out (by omega) hr (hb.below hB2) hs.fr fb (by omega)).mono ?_
      rintro e w3 ⟨g3, t3, rfl, hA3, hj3, hb3⟩
      have hB3 := hB2.trans (hb3.mono hB2.size)
      have hlen3 := j2_len hj3
      have q3 := hj3.lo
      have q4 := hj3.hi
      go_wp2_with fail
      refine (balanced_any (hl.below hb3) hA3 hs.fl hj3.fine (by omega) (by omega) (by omega)).mono ?_
      rintro e w4 ⟨g4, t4, rfl, hA4, hj4, hb4⟩
      go_wp2_with fail
      go_ret
      exact ⟨g4, t4, rfl, hA4, join_up hs hA hj3 hj4, hB3.trans (hb4.mono hB3.size)⟩
    · by_cases hC : a.sm.high + 1 < b.sm.high
      · go_enter Tryz.func77, Tryz.ntmps77
        go_wp2_with fail
        go_quiet (fail)
        have hb1 := below_drewN hb0 nq
        generalize w.drewN nq = w1 at *
        have ca1 := (hb1.cell (p := ⟨ga, 2, none⟩) lta).trans ca
        have cb1 := (hb1.cell (p := ⟨gb, 2, none⟩) ltb).trans cb
        go_wp2_with fail
        go_quiet (fail)
        have hb1' := hb1.trans ((below_drewN (Below.refl w1.heap.size w1) nq).mono hb1.size)
        generalize w1.drewN nq = w1' at *
        go_wp2_with fail
        refine (sides_p (hb.below hb1') fb (by omega) (by omega)).mono ?_
        rintro e w2 ⟨gl, gr, l, r, rfl, hl, hr, hs, hb2⟩
        have hB2 := hb1'.trans (hb2.mono hb1'.size)
        have hlen := hs.len
        have q0 := hs.high
        have q1 := hs.h1
        have q2 := hs.h2
        clear ca cb ca0 cb0 ca1 cb1 hb1 hb1'
        go_wp2_with fail
        refine (IH.out (by omega) (ha.below hB2) hl fa hs.fl (by omega)).mono ?_
        rintro e w3 ⟨g3, t3, rfl, hA3, hj3, hb3⟩
        have hB3 := hB2.trans (hb3.mono hB2.size)
        have hlen3 := j2_len hj3
        have q3 := hj3.lo
        have q4 := hj3.hi
        go_wp2_with fail
        refine (balanced_any hA3 (hr.below hb3) hj3.fine hs.fr (by omega) (by omega) (by omega)).mono ?_
        rintro e w4 ⟨g4, t4, rfl, hA4, hj4, hb4⟩
        go_wp2_with fail
        go_ret
        exact ⟨g4, t4, rfl, hA4, join_up' hs hC hj3 hj4, hB3.trans (hb4.mono hB3.size)⟩
      · go_enter Tryz.func77, Tryz.ntmps77
        go_wp2_with fail
        go_quiet (fail)
        have hb1 := below_drewN hb0 nq
        generalize w.drewN nq = w1 at *
        have ca1 := (hb1.cell (p := ⟨ga, 2, none⟩) lta).trans ca
        have cb1 := (hb1.cell (p := ⟨gb, 2, none⟩) ltb).trans cb
        go_wp2_with fail
        go_quiet (fail)
        have hb1' := hb1.trans ((below_drewN (Below.refl w1.heap.size w1) nq).mono hb1.size)
        generalize w1.drewN nq = w1' at *
        go_wp2_with fail
        refine (paired_p (ha.below hb1') (hb.below hb1') fa fb hn).mono ?_
        rintro e w2 ⟨g2, rfl, hA2, hb2⟩
        go_wp2_with fail
        go_ret
        exact ⟨g2, _, rfl, hA2, j2_pair fa fb (by omega) (by omega), hb1'.trans (hb2.mono hb1'.size)⟩
theorem sm_nil_cells : (Tr.nil.sm.cells == 0) = true := rfl
set_option maxHeartbeats 1000000 in
theorem join_any {w : World} {a b : Tr} {ga gb : Nat} (ha : At w a ga) (hb : At w b gb) (fa : a.Can) (fb : b.Can) (hn : a.row.length + b.row.length ≤ 2097152) :
    Calls Tryz.prog 77 #[.pointer (some ⟨ga, 0, none⟩), .pointer (some ⟨gb, 0, none⟩)] w fun e w' => ∃ g t, e = .returned (.pointer (some ⟨g, 0, none⟩)) ∧ At w' t g ∧ JC a b t ∧ Below w.heap.size w w' := by
  rcases fa with rfl | fa
  · have ca0 := ha.cells
    have e0 : Tr.nil.sm.cells = 0 := rfl
    rw [e0] at ca0
    go_enter Tryz.func77, Tryz.ntmps77
    go_wp2_with fail
    go_ret
    exact ⟨gb, b, rfl, hb, ⟨rfl, fb, fun h => h.wf.elim⟩, Below.refl _ _⟩
  · rcases fb with rfl | fb
    · have ca0 := ha.cells
      have cb0 := hb.cells
      have e0 : Tr.nil.sm.cells = 0 := rfl
      rw [e0] at cb0
      have za := fa.cells_ne
      go_enter Tryz.func77, Tryz.ntmps77
      go_wp2_with fail
      go_ret
      exact ⟨ga, a, rfl, ha, ⟨by simp [Tr.lv], .inr fa, fun _ h => h.wf.elim⟩, Below.refl _ _⟩
    · have b1 := (fa.smBd (by omega)).high
      have b2 := (fb.smBd (by omega)).high
      refine (join_fine (a.sm.high + b.sm.high).toNat (by omega) ha hb fa fb hn).mono ?_
      rintro e w' ⟨g, t, rfl, hA, hj, hB⟩
      exact ⟨g, t, rfl, hA, ⟨hj.lv, .inr hj.fine, fun _ _ => hj⟩, hB⟩
end Go.Proofs.YtffkncohliollaaGreatDoor

namespace Go.Proofs.YtffkncohliollaaGreatDoor
open Go.RowKit Go.Lib
set_option maxRecDepth 100000

theorem wpList_append_hr2 {P : Program} {w : World} {ops : Array Oper} {rest : List Oper} {o : Oper} {a : Act} {Q : Exit → Act → World → Prop} (hgd : o.guard = none) (s x : Operand) (t u : TypeId)
    (ho : o.op = .call { callee := .builtin .append, args := #[s, x], argTypes := #[t, u] }) (v y : Value) (hs : a.eval s = v) (hx : a.eval x = y) {v' : Value} {w' : World}
    (hr : (Builtin.append_ #[t, u] o.type #[v, y]).run P w = .ok v' w') (h : wpList P ops Q rest (a.put o.dst v') w') : wpList P ops Q (o :: rest) a w :=
  wpList_plain hgd fun K hK => by
    unfold Oper.wp execOp
    simp only [ho, resolve, invoke, builtin, Sem.run_bind, Sem.run_pure, Result.andThen_ok, List.map_toArray, List.map_cons, List.map_nil, hs, hx, hr]
    exact hK _ _ h
theorem growRun (k : Nat) (h0 : 0 < k) (hk : k ≤ 1048576) (w : World) : ∃ cap cur w', (Builtin.append_ #[80, 3] 80 #[.slice none 0 0, .int .i64 (k : Int)]).run Tryz.prog w = .ok (.slice (some ⟨w.heap.size, 0, none⟩) k cap) w' ∧ k ≤ cap ∧ cap ≤ maxLen ∧ w'.heap[w.heap.size]? = some (.cells cur 21) ∧ cur.size = cap ∧ Below w.heap.size w w' := by
  obtain ⟨i, z, hi, hz, hsz, hby, hzc⟩ := kindN.info
  have hml : k ≤ maxLen := by unfold maxLen; omega
  have hr := run_append_grow_zeros (P := Tryz.prog) w 80 3 80 21 i z .i64 .i64 kindN.under Tryz.underlying3 hi hz none 0 0 [] (by simp [Builtin.firstCells]) k h0 (by omega) (by omega) (by omega) (by rw [hby]; omega) (growslice_fits (by omega) (by rw [hby]; omega))
  rw [Nat.zero_add] at hr
  have h1 := grownCap_ge w k 0 21
  refine ⟨_, _, _, hr, h1, grownCap_le_maxLen w k 0 _ hml, heap_alloc_new _ _, ?_, ((Below.refl _ _).drew).alloc (Nat.le_refl _) _⟩
  simp [Builtin.zeroCells, hzc]
  omega
set_option maxHeartbeats 1000000 in
theorem grow_any (k : Nat) (h0 : 0 < k) (hk : k ≤ 1048576) (w : World) :
    Calls Tryz.prog 108 #[.slice none 0 0, .int .i64 (k : Int)] w fun e w' => ∃ v, e = .returned v ∧ OwnF runeV 1 21 w' w.heap.size v [] ∧ Below w.heap.size w w' := by
  obtain ⟨cap, cur, w1, hr, hc1, hc2, hh, hcs, hb⟩ := growRun k h0 hk w
  go_enter Tryz.func108, Tryz.ntmps108
  go_wp2_with (at_builtin; refine wpList_append_hr2 rfl _ _ 80 3 rfl _ _ rfl rfl hr ?_)
  go_ret
  refine ⟨_, rfl, ⟨rfl, .inr ⟨w.heap.size, cap, cur, rfl, Nat.le_refl _, hh, Nat.zero_le _, hc2, by omega, by simp [flatF]⟩⟩, hb⟩
/-- Two slices of runes, side by side. -/
structure TwoRows (w : World) (g : Nat) (a1 : Option Addr) (n1 c1 : Nat) (r1 : List Int) (a2 : Option Addr) (n2 c2 : Nat) (r2 : List Int) : Prop where
  first : w.cell? ⟨g, 0, none⟩ = some (.slice a1 n1 c1)
  second : w.cell? ⟨g, 1, none⟩ = some (.slice a2 n2 c2)
  lt : g < w.heap.size
  row1 : Rw runeV 1 w a1 n1 c1 r1
  row2 : Rw runeV 1 w a2 n2 c2 r2
theorem TwoRows.below {w w' : World} {g : Nat} {a1 : Option Addr} {n1 c1 : Nat} {r1 : List Int} {a2 : Option Addr} {n2 c2 : Nat} {r2 : List Int} (h : TwoRows w g a1 n1 c1 r1 a2 n2 c2 r2) (hb : Below w.heap.size w w') : TwoRows w' g a1 n1 c1 r1 a2 n2 c2 r2 :=
  ⟨(hb.cell (p := ⟨g, 0, none⟩) h.lt).trans h.first, (hb.cell (p := ⟨g, 1, none⟩) h.lt).trans h.second, by have := hb.size; have := h.lt; omega, h.row1.below hb, h.row2.below hb⟩
set_option maxHeartbeats 2000000 in
theorem concatRunes_any {w : World} {g : Nat} {a1 : Option Addr} {n1 c1 : Nat} {r1 : List Int} {a2 : Option Addr} {n2 c2 : Nat} {r2 : List Int} (h : TwoRows w g a1 n1 c1 r1 a2 n2 c2 r2) (p1 : 0 < n1) (p2 : 0 < n2) (q1 : n1 ≤ 64) (q2 : n2 ≤ 64) :
    Calls Tryz.prog 99 #[.slice (some ⟨g, 0, none⟩) 2 2] w fun e w' => ∃ v, e = .returned v ∧ OwnF runeV 1 21 w' w.heap.size v (r1 ++ r2) ∧ Below w.heap.size w w' := by
  have d0 := h.first
  have d1 := h.second
  have hg := h.lt
  have l1 := h.row1.len
  have l2 := h.row2.len
  have HT : Hid (TwoRows w g a1 n1 c1 r1 a2 n2 c2 r2) := h
  clear h
  go_enter Tryz.func99, Tryz.ntmps99
  go_wp2_with fail
  go_loop [3, 11] (fun vs vi => (vs = .int .i64 0 ∧ vi = .int .i64 0) ∨ (vs = .int .i64 (n1 : Int) ∧ vi = .int .i64 1) ∨ (vs = .int .i64 ((n1 + n2 : Nat) : Int) ∧ vi = .int .i64 2)) (fun _ i => 2 - (intOf i).toNat)
  case atStart => exact .inl ⟨rfl, rfl⟩
  case round =>
    rcases hrel with ⟨rfl, rfl⟩ | ⟨rfl, rfl⟩ | ⟨rfl, rfl⟩
    · go_wp2_with fail
      exact ⟨.inr (.inl ⟨by go_num, rfl⟩), by simp [intOf]⟩
    · go_wp2_with fail
      exact ⟨.inr (.inr ⟨by go_num, rfl⟩), by simp [intOf]⟩
    · go_wp2_with fail
      refine (grow_any (n1 + n2) (by omega) (by omega) _).mono ?_
      rintro e w1 ⟨v1, rfl, ho1, hb1⟩
      go_wp2_with fail
      go_loopw [6, 27] (fun v vi w' => ∃ k : Nat, k ≤ 2 ∧ vi = .int .i64 (k : Int) ∧ OwnF runeV 1 21 w' w.heap.size v (match k with | 0 => [] | 1 => r1 | _ => r1 ++ r2) ∧ Below w.heap.size w w') (fun _ i _ => 2 - (intOf i).toNat)
      case atStart => exact ⟨0, by omega, rfl, ho1, hb1⟩
      case round =>
        obtain ⟨k, hk, rfl, ho, hb⟩ := hrel
        have hT2 := HT.out.below hb
        have e0 := hT2.first
        have e1 := hT2.second
        have hsz := hb.size
        have hcs : k = 0 ∨ k = 1 ∨ k = 2 := by omega
        rcases hcs with rfl | rfl | rfl
        · simp only at ho
          obtain ⟨g4, cap4, w4, hr4, ho4, hb4, _, _⟩ := appendF kindN layN ho hsz hT2.row1 p1 (by simp; omega) (by simp; omega) 80
          clear d0 d1 e1
          go_wp2_with (at_builtin; refine wpList_append_hr rfl _ _ 80 rfl _ _ rfl rfl hr4 ?_)
          refine ⟨⟨1, by omega, by go_num, ?_, hb.trans hb4⟩, by simp [intOf]⟩
          simpa using ho4
        · simp only at ho
          obtain ⟨g4, cap4, w4, hr4, ho4, hb4, _, _⟩ := appendF kindN layN ho hsz hT2.row2 p2 (by omega) (by omega) 80
          clear d0 d1 e0
          go_wp2_with (at_builtin; refine wpList_append_hr rfl _ _ 80 rfl _ _ rfl rfl hr4 ?_)
          rw [l1] at ho4
          exact ⟨⟨2, by omega, by go_num, ho4, hb.trans hb4⟩, by simp [intOf]⟩
        · simp only at ho
          go_wp2_with fail
          go_ret
          exact ⟨_, rfl, ho, hb⟩
end Go.Proofs.YtffkncohliollaaGreatDoor
