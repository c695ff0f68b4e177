import Derived.Test.YtijpfbcippijoaaGreatDoorRqBC
import Derived.Lib.AppendZerosOnto
namespace Go.Proofs.YtijpfbcippijoaaGreatDoor
open Go.RowKit Go.Lib
set_option maxRecDepth 100000
theorem wpList_append_hr2 {P : Program} {w : World} {ops : Array Oper} {rest : List Oper} {o : Oper} {a : Act} {Q : Exit → Act → World → Prop} (hgd : o.guard = none) (s x : Operand) (t u : TypeId)
    (ho : o.op = .call { callee := .builtin .append, args := #[s, x], argTypes := #[t, u] }) (v y : Value) (hs : a.eval s = v) (hx : a.eval x = y) {v' : Value} {w' : World}
    (hr : (Builtin.append_ #[t, u] o.type #[v, y]).run P w = .ok v' w') (h : wpList P ops Q rest (a.put o.dst v') w') : wpList P ops Q (o :: rest) a w :=
  wpList_plain hgd fun K hK => by
    unfold Oper.wp execOp
    simp only [ho, resolve, invoke, builtin, Sem.run_bind, Sem.run_pure, Result.andThen_ok, List.map_toArray, List.map_cons, List.map_nil, hs, hx, hr]
    exact hK _ _ h
theorem growRun (k : Nat) (h0 : 0 < k) (hk : k ≤ 1048576) (w : World) : ∃ cap cur w', (Builtin.append_ #[74, 3] 74 #[.slice none 0 0, .int .i64 (k : Int)]).run Tryz.prog w = .ok (.slice (some ⟨w.heap.size, 0, none⟩) k cap) w' ∧ k ≤ cap ∧ cap ≤ maxLen ∧ w'.heap[w.heap.size]? = some (.cells cur 21) ∧ cur.size = cap ∧ Below w.heap.size w w' := by
  obtain ⟨i, z, hi, hz, hsz, hby, hzc⟩ := kindN.info
  have hml : k ≤ maxLen := by unfold maxLen; omega
  have hr := run_append_grow_zeros (P := Tryz.prog) w 74 3 74 21 i z .i64 .i64 kindN.under Tryz.underlying3 hi hz none 0 0 [] (by simp [Builtin.firstCells]) k h0 (by omega) (by omega) (by omega) (by rw [hby]; omega) (growslice_fits (by omega) (by rw [hby]; omega))
  rw [Nat.zero_add] at hr
  have h1 := grownCap_ge w k 0 21
  refine ⟨_, _, _, hr, h1, grownCap_le_maxLen w k 0 _ hml, heap_alloc_new _ _, ?_, ((Below.refl _ _).drew).alloc (Nat.le_refl _) _⟩
  simp [Builtin.zeroCells, hzc]
  omega
set_option maxHeartbeats 1000000 in
theorem grow_any (k : Nat) (h0 : 0 < k) (hk : k ≤ 1048576) (w : World) :
    Calls Tryz.prog 135 #[.slice none 0 0, .int .i64 (k : Int)] w fun e w' => ∃ v, e = .returned v ∧ OwnF runeV 1 21 w' w.heap.size v [] ∧ Below w.heap.size w w' := by
  obtain ⟨cap, cur, w1, hr, hc1, hc2, hh, hcs, hb⟩ := growRun k h0 hk w
  go_enter Tryz.func135, Tryz.ntmps135
  go_wp2_with (at_builtin; refine wpList_append_hr2 rfl _ _ 74 3 rfl _ _ rfl rfl hr ?_)
  go_ret
  refine ⟨_, rfl, ⟨rfl, .inr ⟨w.heap.size, cap, cur, rfl, Nat.le_refl _, hh, Nat.zero_le _, hc2, by omega, by simp [flatF]⟩⟩, hb⟩
structure TwoRows (w : World) (g : Nat) (a1 : Option Addr) (n1 c1 : Nat) (r1 : List Int) (a2 : Option Addr) (n2 c2 : Nat) (r2 : List Int) : Prop where
  first : w.cell? ⟨g, 0, none⟩ = some (.slice a1 n1 c1)
  second : w.cell? ⟨g, 1, none⟩ = some (.slice a2 n2 c2)
  lt : g < w.heap.size
  row1 : Rw runeV 1 w a1 n1 c1 r1
  row2 : Rw runeV 1 w a2 n2 c2 r2
theorem TwoRows.below {w w' : World} {g : Nat} {a1 : Option Addr} {n1 c1 : Nat} {r1 : List Int} {a2 : Option Addr} {n2 c2 : Nat} {r2 : List Int} (h : TwoRows w g a1 n1 c1 r1 a2 n2 c2 r2) (hb : Below w.heap.size w w') : TwoRows w' g a1 n1 c1 r1 a2 n2 c2 r2 :=
  ⟨(hb.cell (p := ⟨g, 0, none⟩) h.lt).trans h.first, (hb.cell (p := ⟨g, 1, none⟩) h.lt).trans h.second, by have := hb.size; have := h.lt; omega, h.row1.below hb, h.row2.below hb⟩
set_option maxHeartbeats 2000000 in
theorem concatRunes_any {w : World} {g : Nat} {a1 : Option Addr} {n1 c1 : Nat} {r1 : List Int} {a2 : Option Addr} {n2 c2 : Nat} {r2 : List Int} (h : TwoRows w g a1 n1 c1 r1 a2 n2 c2 r2) (p1 : 0 < n1) (p2 : 0 < n2) (q1 : n1 ≤ 64) (q2 : n2 ≤ 64) :
    Calls Tryz.prog 121 #[.slice (some ⟨g, 0, none⟩) 2 2] w fun e w' => ∃ v, e = .returned v ∧ OwnF runeV 1 21 w' w.heap.size v (r1 ++ r2) ∧ Below w.heap.size w w' := by
  have d0 := h.first
  have d1 := h.second
  have hg := h.lt
  have l1 := h.row1.len
  have l2 := h.row2.len
  have HT : Hid (TwoRows w g a1 n1 c1 r1 a2 n2 c2 r2) := h
  clear h
  go_enter Tryz.func121, Tryz.ntmps121
  go_wp2_with fail
  go_loop [3, 11] (fun vs vi => (vs = .int .i64 0 ∧ vi = .int .i64 0) ∨ (vs = .int .i64 (n1 : Int) ∧ vi = .int .i64 1) ∨ (vs = .int .i64 ((n1 + n2 : Nat) : Int) ∧ vi = .int .i64 2)) (fun _ i => 2 - (intOf i).toNat)
  case atStart => exact .inl ⟨rfl, rfl⟩
  case round =>
    rcases hrel with ⟨rfl, rfl⟩ | ⟨rfl, rfl⟩ | ⟨rfl, rfl⟩
    · go_wp2_with fail
      exact ⟨.inr (.inl ⟨by go_num, rfl⟩), by simp [intOf]⟩
    · go_wp2_with fail
      exact ⟨.inr (.inr ⟨by go_num, rfl⟩), by simp [intOf]⟩
    · go_wp2_with fail
      refine (grow_any (n1 + n2) (by omega) (by omega) _).mono ?_
      rintro e w1 ⟨v1, rfl, ho1, hb1⟩
      go_wp2_with fail
      go_loopw [6, 27] (fun v vi w' => ∃ k : Nat, k ≤ 2 ∧ vi = .int .i64 (k : Int) ∧ OwnF runeV 1 21 w' w.heap.size v (match k with | 0 => [] | 1 => r1 | _ => r1 ++ r2) ∧ Below w.heap.size w w') (fun _ i _ => 2 - (intOf i).toNat)
      case atStart => exact ⟨0, by omega, rfl, ho1, hb1⟩
      case round =>
        obtain ⟨k, hk, rfl, ho, hb⟩ := hrel
        have hT2 := HT.out.below hb
        have e0 := hT2.first
        have e1 := hT2.second
        have hsz := hb.size
        have hcs : k = 0 ∨ k = 1 ∨ k = 2 := by omega
        rcases hcs with rfl | rfl | rfl
        · simp only at ho
          obtain ⟨g4, cap4, w4, hr4, ho4, hb4, _, _⟩ := appendF kindN layN ho hsz hT2.row1 p1 (by simp; omega) (by simp; omega) 74
          clear d0 d1 e1
          go_wp2_with (at_builtin; refine wpList_append_hr rfl _ _ 74 rfl _ _ rfl rfl hr4 ?_)
          refine ⟨⟨1, by omega, by go_num, ?_, hb.trans hb4⟩, by simp [intOf]⟩
          simpa using ho4
        · simp only at ho
          obtain ⟨g4, cap4, w4, hr4, ho4, hb4, _, _⟩ := appendF kindN layN ho hsz hT2.row2 p2 (by omega) (by omega) 74
          clear d0 d1 e0
          go_wp2_with (at_builtin; refine wpList_append_hr rfl _ _ 74 rfl _ _ rfl rfl hr4 ?_)
          rw [l1] at ho4
          exact ⟨⟨2, by omega, by go_num, ho4, hb.trans hb4⟩, by simp [intOf]⟩
        · simp only at ho
          go_wp2_with fail
          go_ret
          exact ⟨_, rfl, ho, hb⟩
end Go.Proofs.YtijpfbcippijoaaGreatDoor
