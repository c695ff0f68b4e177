import Derived.Test.YtffkncohliollaaGreatDoorSpPC
import Derived.Deep.DeepCutAuto
namespace Go.Proofs.YtffkncohliollaaGreatDoor.Sp
open Go.RowKit Go.Lib
set_option maxRecDepth 100000

theorem max_run (ats : Array TypeId) (ty : TypeId) (x y : Int) (w : World) : (Builtin.max_ ats ty #[.int .i64 x, .int .i64 y]).run Tryz.prog w = .ok (.int .i64 (max x y)) w := by
  simp only [run_max_int2]
  congr 2
  split <;> omega
theorem min_run (ats : Array TypeId) (ty : TypeId) (x y : Int) (w : World) : (Builtin.min_ ats ty #[.int .i64 x, .int .i64 y]).run Tryz.prog w = .ok (.int .i64 (min x y)) w := by
  simp only [run_min_int2]
  congr 2
  split <;> omega

/-- 'append([]api.Range(nil), a...)' -/
theorem append_copy {w : World} {a : Option Addr} {n cap : Nat} {l : List (Int × Int)} (h : Rng w a n cap l) (hn : n * 16 ≤ 140737488355328) (ty : TypeId) :
    ∃ v' w', (Builtin.append_ #[23, 23] ty #[.slice none 0 0, .slice a n cap]).run Tryz.prog w = .ok v' w' ∧ Own w' w.heap.size v' l ∧ Below w.heap.size w w' := by
  obtain ⟨i, hi, hz, hs, hby⟩ := info_parts rngInfo
  by_cases h0 : n = 0
  · subst h0
    obtain rfl : l = [] := List.eq_nil_of_length_eq_zero h.len
    refine ⟨.slice none 0 0, w, ?_, own_nil _ _, Below.refl _ _⟩
    cases a <;> simp [Builtin.append_, run_underlying Tryz.underlying23, sizeOf, typeInfo, hi, Builtin.lenOf, Builtin.firstCells, loadCells, loadCellsFrom]
  · obtain ⟨g, off, rfl, hg, hc⟩ := h.row (by omega)
    have hlen := h.len
    obtain ⟨v', w', hr, ho, hgr, _⟩ := run_append_own (P := Tryz.prog) w w.heap.size 23 ty 56 i _ 2 16 Tryz.underlying23 hi hz hs hby rfl (by decide) (.slice none 0 0) 0 [] (World.ownsRow_nil _ _ _ _) ⟨g, off, none⟩ n cap (flat l) (by rw [flat_length, hlen]) hc (flat_one l)
      (by simp only [maxLen]; omega) (by omega) (Nat.le_refl _)
    refine ⟨v', w', hr, ?_, below_grown hgr (fun k hk => by simp [Value.ownBlock] at hk) (Nat.le_refl _)⟩
    rw [Nat.zero_add, List.nil_append, ← hlen] at ho
    exact ho

theorem wpList_append_hr {P : Program} {w : World} {ops : Array Oper} {rest : List Oper} {o : Oper} {a : Act} {Q : Exit → Act → World → Prop} (hgd : o.guard = none) (s x : Operand) (t : TypeId)
    (ho : o.op = .call { callee := .builtin .append, args := #[s, x], argTypes := #[t, t] }) (v u : Value) (hs : a.eval s = v) (hx : a.eval x = u) {v' : Value} {w' : World}
    (hr : (Builtin.append_ #[t, t] o.type #[v, u]).run P w = .ok v' w') (h : wpList P ops Q rest (a.put o.dst v') w') : wpList P ops Q (o :: rest) a w :=
  wpList_plain hgd fun K hK => by
    unfold Oper.wp execOp
    simp only [ho, resolve, invoke, builtin, Sem.run_bind, Sem.run_pure, Result.andThen_ok, List.map_toArray, List.map_cons, List.map_nil, hs, hx, hr]
    exact hK _ _ h
theorem wpList_copy_hr {P : Program} {w : World} {ops : Array Oper} {rest : List Oper} {o : Oper} {a : Act} {Q : Exit → Act → World → Prop} (hgd : o.guard = none) (s x : Operand) (t : TypeId)
    (ho : o.op = .call { callee := .builtin .copy, args := #[s, x], argTypes := #[t, t] }) (v u : Value) (hs : a.eval s = v) (hx : a.eval x = u) {v' : Value} {w' : World}
    (hr : (Builtin.copy_ #[t, t] o.type #[v, u]).run P w = .ok v' w') (h : wpList P ops Q rest (a.put o.dst v') w') : wpList P ops Q (o :: rest) a w :=
  wpList_plain hgd fun K hK => by
    unfold Oper.wp execOp
    simp only [ho, resolve, invoke, builtin, Sem.run_bind, Sem.run_pure, Result.andThen_ok, List.map_toArray, List.map_cons, List.map_nil, hs, hx, hr]
    exact hK _ _ h

theorem cell_new2 (w : World) (x y : Value) (t : TypeId) : ∀ j u, [x, y][j]? = some u → (w.alloc (.cells #[x, y] t)).cell? ((⟨w.heap.size, 0, none⟩ : Addr).add j) = some u := by
  intro j u hu
  have hadd : (⟨w.heap.size, 0, none⟩ : Addr).add j = ⟨w.heap.size, j, none⟩ := by unfold Addr.add; split <;> simp_all
  rw [hadd]
  have hh := heap_alloc_new w (.cells #[x, y] t)
  simp only [World.cell?, hh]
  match j, hu with
  | 0, hu => simpa using hu
  | 1, hu => simpa using hu
  | j + 2, hu => simp at hu

/-- Every block but v's own reads as it did. -/
def Keeps (w w' : World) (v : Value) : Prop := ∀ k, k < w.heap.size → v.ownBlock ≠ some k → w'.heap[k]? = w.heap[k]?
/-- 'append(list, api.Range{lo, hi})' -/
theorem append_one {w : World} {B : Nat} {a : Option Addr} {n cap : Nat} {l : List (Int × Int)} (h : Own w B (.slice a n cap) l) (hB : B ≤ w.heap.size) (lo hi : Int) (hn : n ≤ 8388608) (ty : TypeId) :
    ∃ a' cap' w', (Builtin.append_ #[23, 23] ty #[.slice a n cap, .slice (some ⟨w.heap.size, 0, none⟩) 1 1]).run Tryz.prog (w.alloc (.cells #[.int .i64 lo, .int .i64 hi] 56)) = .ok (.slice a' (n + 1) cap') w' ∧
      Own w' B (.slice a' (n + 1) cap') (l ++ [(lo, hi)]) ∧ Below B w w' ∧ w.heap.size < w'.heap.size ∧ Keeps w w' (.slice a n cap) := by
  have hlen := h.rng.len
  obtain ⟨i, hi0, hz, hs, hby⟩ := info_parts rngInfo
  have hown : (w.alloc (.cells #[.int .i64 lo, .int .i64 hi] 56)).ownsRow B 56 2 (.slice a n cap) n (flat l) := by
    rw [← hlen]
    rw [← hlen] at h
    exact World.ownsRow.alloc h _
  obtain ⟨v', w', hr, ho, hgr, _⟩ := run_append_own (P := Tryz.prog) (w.alloc (.cells #[.int .i64 lo, .int .i64 hi] 56)) B 23 ty 56 i _ 2 16 Tryz.underlying23 hi0 hz hs hby rfl (by decide) (.slice a n cap) n (flat l) hown ⟨w.heap.size, 0, none⟩ 1 1 [.int .i64 lo, .int .i64 hi] rfl (cell_new2 w _ _ _) (fun u hu => by simp at hu; rcases hu with rfl | rfl <;> rfl)
    (by simp only [maxLen]; omega) (by omega) (by simp; omega)
  have ho' : Own w' B v' (l ++ [(lo, hi)]) := by
    unfold Own
    rw [flat_append, List.length_append, hlen]
    exact ho
  obtain ⟨a', cap', rfl⟩ := ho'.shape
  have e1 : (l ++ [(lo, hi)]).length = n + 1 := by simp [hlen]
  rw [e1] at hr ho'
  refine ⟨a', cap', w', hr, ho', ?_, ?_, fun k hk hne => ?_⟩
  · refine ((Below.refl B w).alloc hB _).trans (below_grown hgr (fun k hk => ?_) (by simp; omega))
    exact (World.ownsRow.lt hown k hk).1
  · have := hgr.size
    simp at this
    omega
  · rw [hgr.block k (by simp; omega) (fun e => hne e.symm)]
    exact Below.heap_alloc w _ k hk
theorem own_ptr {w : World} {B : Nat} {a : Option Addr} {n cap : Nat} {l : List (Int × Int)} (h : Own w B (.slice a n cap) l) (hn : 0 < n) : ∃ g, a = some ⟨g, 0, none⟩ ∧ B ≤ g ∧ g < w.heap.size ∧ ∀ j, w.frozen? ⟨g, j, none⟩ = false := by
  have hlen := h.rng.len
  rcases h.2 with ⟨e, h0⟩ | ⟨g, cap', cur, e, hb, hh, _⟩
  · omega
  · simp only [Value.slice.injEq] at e
    obtain ⟨rfl, _, rfl⟩ := e
    exact ⟨g, rfl, hb, (Array.getElem?_eq_some_iff.1 hh).1, fun j => frozen_of_row w g j cur _ hh⟩
theorem getD_snoc {α : Type} (l0 : List α) (x d : α) : (l0 ++ [x]).getD l0.length d = x := by simp
theorem flat_set (l0 : List (Int × Int)) (x y z : Int) : (flat (l0 ++ [(x, y)])).set (l0.length * 2 + 1) (.int .i64 z) = flat (l0 ++ [(x, z)]) := by
  rw [flat_append, flat_append, List.set_append, flat_length, if_neg (by omega)]
  congr 1
  rw [show l0.length * 2 + 1 - l0.length * 2 = 1 by omega]
  rfl
theorem own_set2 {w : World} {B g n cap : Nat} {l0 : List (Int × Int)} {x y : Int} (h : Own w B (.slice (some ⟨g, 0, none⟩) n cap) (l0 ++ [(x, y)])) (z : Int) :
    Own (w.setCell ⟨g, l0.length * 2 + 1, none⟩ (.int .i64 z)) B (.slice (some ⟨g, 0, none⟩) n cap) (l0 ++ [(x, z)]) := by
  have hlen := h.rng.len
  have h' : w.ownsRow B 56 2 (.slice (some ⟨g, 0, none⟩) n cap) n (flat (l0 ++ [(x, y)])) := by
    unfold Own at h
    rw [hlen] at h
    exact h
  have := (World.ownsRow.stored h' (l0.length * 2 + 1) (.int .i64 z)).1
  rw [flat_set] at this
  unfold Own
  rw [List.length_append] at hlen ⊢
  simp only [List.length_cons, List.length_nil] at hlen ⊢
  rw [hlen]
  exact this

set_option maxHeartbeats 1000000 in
theorem added_keep {w : World} {B : Nat} {a : Option Addr} {n cap : Nat} {l : List (Int × Int)} (h : Own w B (.slice a n cap) l) (hB : B ≤ w.heap.size) (lo hi : Int) (hn : n ≤ 8388608) :
    Calls Tryz.prog 30 #[.slice a n cap, .int .i64 lo, .int .i64 hi] w fun e w' => ∃ a' n' cap', e = .returned (.slice a' n' cap') ∧ Own w' B (.slice a' n' cap') (addedL l lo hi) ∧ Below B w w' ∧ Keeps w w' (.slice a n cap) := by
  have hlen := h.rng.len
  obtain ⟨i0, hi0, hz, hs, hby⟩ := info_parts rngInfo
  by_cases h1 : hi ≤ lo
  · have e0 : addedL l lo hi = l := by unfold addedL; rw [if_pos h1]
    rw [e0]
    clear e0
    go_enter Tryz.func30, Tryz.ntmps30
    go_wp2_with fail
    go_ret
    exact ⟨_, _, _, rfl, h, Below.refl _ _, fun _ _ _ => rfl⟩
  · have hlt : lo < hi := by omega
    obtain ⟨a', cap', w', hr, ho, hb, _, hkp⟩ := append_one h hB lo hi hn 23
    rcases List.eq_nil_or_concat l with rfl | ⟨l0, ⟨x, y⟩, hl⟩
    · have e0 : addedL [] lo hi = [] ++ [(lo, hi)] := by unfold addedL; rw [if_neg h1]; rfl
      rw [e0]
      have HO : Hid (Own w' B (.slice a' (n + 1) cap') ([] ++ [(lo, hi)])) := ho
      generalize [] ++ [(lo, hi)] = L at HO ⊢
      clear e0 h1 ho
      simp only [List.length_nil] at hlen
      subst hlen
      go_enter Tryz.func30, Tryz.ntmps30
      go_wp2_with (at_builtin; refine wpList_append_hr rfl _ _ 23 rfl _ _ rfl rfl hr ?_)
      go_ret
      exact ⟨_, _, _, rfl, HO.out, hb, hkp⟩
    · rw [List.concat_eq_append] at hl
      subst hl
      simp only [List.length_append, List.length_cons, List.length_nil] at hlen
      obtain ⟨g, rfl, hBg, hg, hfz⟩ := own_ptr h (by omega)
      have hf1 := hfz (l0.length * 2 + 1)
      obtain ⟨g', off', hga, _, hc0, hc1⟩ := h.rng.cells l0.length (by omega)
      cases hga
      rw [getD_snoc, Nat.zero_add] at hc0 hc1
      simp only at hc0 hc1
      subst hlen
      by_cases h2 : lo ≤ y
      · have e0 : addedL (l0 ++ [(x, y)]) lo hi = l0 ++ [(x, max y hi)] := by unfold addedL; rw [if_neg h1]; simp [h2]
        rw [e0]
        have HO := own_set2 h (max y hi)
        have HO2 : Hid (Own (w.setCell ⟨g, l0.length * 2 + 1, none⟩ (.int .i64 (max y hi))) B (.slice (some ⟨g, 0, none⟩) (l0.length + 1) cap) (l0 ++ [(x, max y hi)])) := HO
        have hBl : Below B w (w.setCell ⟨g, l0.length * 2 + 1, none⟩ (.int .i64 (max y hi))) := (Below.refl B w).setCell (p := ⟨g, l0.length * 2 + 1, none⟩) hBg _
        have hKp : Keeps w (w.setCell ⟨g, l0.length * 2 + 1, none⟩ (.int .i64 (max y hi))) (.slice (some ⟨g, 0, none⟩) (l0.length + 1) cap) := fun k hk hne => heap_setCell_other w ⟨g, l0.length * 2 + 1, none⟩ k _ (fun e => hne (congrArg some (by simpa using e.symm)))
        have hmx := max_run
        clear e0 h1 ho hr HO h hi0 hz hs hby hfz hkp
        generalize l0 ++ [(x, max y hi)] = L at *
        generalize l0.length = k at *
        go_enter Tryz.func30, Tryz.ntmps30
        go_wp2_with fail
        go_ret
        exact ⟨_, _, _, rfl, HO2.out, hBl, hKp⟩
      · have e0 : addedL (l0 ++ [(x, y)]) lo hi = l0 ++ [(x, y)] ++ [(lo, hi)] := by unfold addedL; rw [if_neg h1]; simp [h2]
        rw [e0]
        have HO : Hid (Own w' B (.slice a' (l0.length + 1 + 1) cap') (l0 ++ [(x, y)] ++ [(lo, hi)])) := ho
        clear e0 h1 ho h hi0 hz hs hby hfz hf1
        generalize l0 ++ [(x, y)] ++ [(lo, hi)] = L at *
        generalize l0.length = k at *
        go_enter Tryz.func30, Tryz.ntmps30
        go_wp2_with (at_builtin; refine wpList_append_hr rfl _ _ 23 rfl _ _ rfl rfl hr ?_)
        go_ret
        exact ⟨_, _, _, rfl, HO.out, hb, hkp⟩
theorem added_any {w : World} {B : Nat} {a : Option Addr} {n cap : Nat} {l : List (Int × Int)} (h : Own w B (.slice a n cap) l) (hB : B ≤ w.heap.size) (lo hi : Int) (hn : n ≤ 8388608) :
    Calls Tryz.prog 30 #[.slice a n cap, .int .i64 lo, .int .i64 hi] w fun e w' => ∃ a' n' cap', e = .returned (.slice a' n' cap') ∧ Own w' B (.slice a' n' cap') (addedL l lo hi) ∧ Below B w w' :=
  (added_keep h hB lo hi hn).mono fun _ _ ⟨a', n', cap', he, ho, hb, _⟩ => ⟨a', n', cap', he, ho, hb⟩
end Go.Proofs.YtffkncohliollaaGreatDoor.Sp

namespace Go.Proofs.YtffkncohliollaaGreatDoor.Sp
open Go.RowKit Go.Lib
set_option maxRecDepth 100000

theorem takenL_snoc (l a : List (Int × Int)) (x : Int × Int) (lo hi d : Int) : takenL l (a ++ [x]) lo hi d = addedL (takenL l a lo hi d) (max x.1 lo + d) (min x.2 hi + d) := by
  simp [takenL, List.foldl_append]
theorem take_getD (l : List (Int × Int)) (j : Nat) (hj : j < l.length) : l.take (j + 1) = l.take j ++ [l.getD j (0, 0)] := by
  rw [List.getD_eq_getElem?_getD, List.getElem?_eq_getElem hj]
  exact List.take_succ_eq_append_getElem hj

set_option maxHeartbeats 1000000 in
theorem taken_any {w : World} {B : Nat} {a : Option Addr} {n cap : Nat} {l : List (Int × Int)} (h : Own w B (.slice a n cap) l) (hB : B ≤ w.heap.size) {b : Option Addr} {m capb : Nat} {k : List (Int × Int)} (hk : Rng w b m capb k) (hu : Under B b m)
    (lo hi d : Int) (hn : n ≤ 2097152) (hm : m ≤ 2097152) (hr : ∀ r ∈ k, -4611686018427387904 ≤ r.1 ∧ r.1 ≤ 4611686018427387903 ∧ -4611686018427387904 ≤ r.2 ∧ r.2 ≤ 4611686018427387903)
    (hlo : -4611686018427387904 ≤ lo ∧ lo ≤ 4611686018427387903) (hhi : -4611686018427387904 ≤ hi ∧ hi ≤ 4611686018427387903) (hd : -4611686018427387904 ≤ d ∧ d ≤ 4611686018427387903) :
    Calls Tryz.prog 28 #[.slice a n cap, .slice b m capb, .int .i64 lo, .int .i64 hi, .int .i64 d] w fun e w' => ∃ a' n' cap', e = .returned (.slice a' n' cap') ∧ Own w' B (.slice a' n' cap') (takenL l k lo hi d) ∧ Below B w w' := by
  have hlen := hk.len
  have hroom := hk.room
  have hln := h.rng.len
  have hmx := max_run
  have hmn := min_run
  obtain ⟨l1, l2⟩ := hlo
  obtain ⟨h1, h2⟩ := hhi
  obtain ⟨d1, d2⟩ := hd
  have HR : Hid (∀ r ∈ k, -4611686018427387904 ≤ r.1 ∧ r.1 ≤ 4611686018427387903 ∧ -4611686018427387904 ≤ r.2 ∧ r.2 ≤ 4611686018427387903) := hr
  clear hr
  go_enter Tryz.func28, Tryz.ntmps28
  go_wp2_with fail
  go_loopw [0, 15] (fun v i w' => ∃ (j : Nat) (a' : Option Addr) (n' cap' : Nat), j ≤ m ∧ i = .int .i64 j ∧ v = .slice a' n' cap' ∧ Own w' B (.slice a' n' cap') (takenL l (k.take j) lo hi d) ∧ Below B w w') (fun _ i _ => m - (RowKit.intOf i).toNat)
  case atStart => exact ⟨0, a, n, cap, Nat.zero_le _, rfl, rfl, h, Below.refl _ _⟩
  case round =>
    obtain ⟨j, a', n', cap', hjm, rfl, rfl, ho, hb⟩ := hrel
    have hsz := hb.size
    by_cases hj : j < m
    · obtain ⟨g, off, rfl, hg, hc, hd⟩ := hk.cells j hj
      have hgB := hu (by omega) g off rfl
      have c0 := (hb.cell (p := ⟨g, off + j * 2, none⟩) hgB).trans hc
      have c1 := (hb.cell (p := ⟨g, off + j * 2 + 1, none⟩) hgB).trans hd
      have hmem : k.getD j (0, 0) ∈ k := by
        rw [List.getD_eq_getElem?_getD, List.getElem?_eq_getElem (by omega)]
        exact List.getElem_mem _
      obtain ⟨r1, r2, r3, r4⟩ := HR.out _ hmem
      have hnl := ho.rng.len
      have hle := takenL_length l (k.take j) lo hi d
      rw [List.length_take] at hle
      have HT : Hid (takenL l (k.take (j + 1)) lo hi d = addedL (takenL l (k.take j) lo hi d) (max (k.getD j (0, 0)).1 lo + d) (min (k.getD j (0, 0)).2 hi + d)) := by
        show _ = _
        rw [take_getD k j (by omega), takenL_snoc]
      have hn' : n' ≤ 8388608 := by omega
      clear hnl hle hmem hc hd
      generalize (k.getD j (0, 0)).1 = x at *
      generalize (k.getD j (0, 0)).2 = y at *
      have b1 : -9223372036854775808 ≤ max x lo + d ∧ max x lo + d ≤ 9223372036854775807 := by omega
      have b2 : -9223372036854775808 ≤ min y hi + d ∧ min y hi + d ≤ 9223372036854775807 := by omega
      have HA := fun (W : World) (hO : Own W B (.slice a' n' cap') (takenL l (k.take j) lo hi d)) (hBW : B ≤ W.heap.size) => added_any hO hBW (max x lo + d) (min y hi + d) hn'
      go_wp2_with fail
      refine (HA _ ((ho.below ((Below.refl _ _).alloc (Nat.le_refl _) _))) (by simp; omega)).mono ?_
      rintro e w2 ⟨a2, n2, cap2, rfl, ho2, hb2⟩
      rw [← HT.out] at ho2
      have hB2 : Below B w w2 := (hb.alloc (by omega) _).trans hb2
      clear hb2 HA HT
      go_wp2_with fail
      go_roundw
      case rel => exact ⟨j + 1, a2, n2, cap2, by omega, by go_num, rfl, ho2, hB2⟩
      case measure => simp [RowKit.intOf]; omega
    · have e1 : k.take j = k := List.take_of_length_le (by omega)
      rw [e1] at ho
      go_wp2_with fail
      go_ret
      exact ⟨_, _, _, rfl, ho, hb⟩

set_option maxHeartbeats 400000 in
theorem bounded_any {a : Option Addr} {n cap : Nat} {w : World} :
    Calls Tryz.prog 31 #[.slice a n cap] w fun e w' => e = .returned (.tuple (if 32768 < n then #[.slice none 0 0, .int .i64 21] else #[.slice a n cap, .int .i64 0])) ∧ w' = w := by
  by_cases h : 32768 < n
  · rw [if_pos h]
    go_enter Tryz.func31, Tryz.ntmps31
    go_wp2_with fail
    go_ret2
    exact ⟨rfl, rfl⟩
  · rw [if_neg h]
    go_enter Tryz.func31, Tryz.ntmps31
    go_wp2_with fail
    go_ret2
    exact ⟨rfl, rfl⟩
end Go.Proofs.YtffkncohliollaaGreatDoor.Sp

namespace Go.Proofs.YtffkncohliollaaGreatDoor.Sp
open Go.RowKit Go.Lib
set_option maxRecDepth 100000

def vlen : Value → Nat
  | .slice _ n _ => n
  | _ => 0
/-- 'a[1:]' -/
theorem rng_tail {w : World} {g off n cap : Nat} {x : Int × Int} {l : List (Int × Int)} (h : Rng w (some ⟨g, off, none⟩) n cap (x :: l)) :
    ∃ a' n' cap', n = n' + 1 ∧ Rng w a' n' cap' l ∧ ∀ W : World, (Instr.slice 23 (.slice (some ⟨g, off, none⟩) n cap) (some (.int .i64 1)) none none).run Tryz.prog W = .ok (.slice a' n' cap') W := by
  have hlen := h.len
  have hroom := h.room
  simp only [List.length_cons] at hlen
  obtain ⟨i, hi, hz, hs, hby⟩ := info_parts rngInfo
  have hrun : ∀ W : World, (Instr.slice 23 (.slice (some ⟨g, off, none⟩) n cap) (some (.int .i64 1)) none none).run Tryz.prog W = .ok (.slice (if cap = 1 then some ⟨g, off, none⟩ else some ⟨g, off + 2, none⟩) (n - 1) (cap - 1)) W := fun W => by
    have hel : Tryz.prog.elem 23 = 56 := by kernel_rfl
    have := run_slice_l (P := Tryz.prog) W 23 (some ⟨g, off, none⟩) n cap (by rw [hel]; exact Tryz.underlying23) .i64 1 (by omega) (by omega)
    rw [this, hel]
    simp [sizeOf, typeInfo, hi, hs, sliced, Addr.add]
  refine ⟨_, n - 1, cap - 1, by omega, ?_, hrun⟩
  refine ⟨by omega, by omega, fun j hj => ?_⟩
  obtain ⟨g', off', ha, hg, hc, hd⟩ := h.cells (j + 1) (by omega)
  simp only [Option.some.injEq, Addr.mk.injEq, and_true] at ha
  obtain ⟨rfl, rfl⟩ := ha
  refine ⟨g, off + 2, by rw [if_neg (by omega)], hg, ?_, ?_⟩
  · rw [show off + 2 + j * 2 = off + (j + 1) * 2 by omega]; simpa using hc
  · rw [show off + 2 + j * 2 + 1 = off + (j + 1) * 2 + 1 by omega]; simpa using hd
theorem rng_head {w : World} {a : Option Addr} {n cap : Nat} {l : List (Int × Int)} (h : Rng w a n cap l) (hn : 0 < n) : ∃ x t g off, l = x :: t ∧ a = some ⟨g, off, none⟩ ∧ g < w.heap.size ∧ w.cell? ⟨g, off, none⟩ = some (.int .i64 x.1) ∧ w.cell? ⟨g, off + 1, none⟩ = some (.int .i64 x.2) := by
  have hlen := h.len
  obtain ⟨g, off, ha, hg, hc, hd⟩ := h.cells 0 hn
  cases l with
  | nil => simp at hlen; omega
  | cons x t => exact ⟨x, t, g, off, rfl, ha, hg, by simpa using hc, by simpa using hd⟩

/-- What holds in Union's loop: la and lb are what is left of l and k. -/
structure UInv (l k la lb lo : List (Int × Int)) : Prop where
  na : Norm (-1) la
  nb : Norm (-1) lb
  no : Norm (-1) lo
  ta : ∀ r ∈ la, r.2 ≤ 1048576
  tb : ∀ r ∈ lb, r.2 ≤ 1048576
  oa : ∀ r ∈ lo, ∀ x ∈ la, r.1 ≤ x.1
  ob : ∀ r ∈ lo, ∀ x ∈ lb, r.1 ≤ x.1
  mem : ∀ q, (Lies lo q ∨ Lies la q ∨ Lies lb q) ↔ (Lies l q ∨ Lies k q)
  len : lo.length + la.length + lb.length ≤ 65536
theorem UInv.swap {l k la lb lo : List (Int × Int)} (h : UInv l k la lb lo) : UInv l k lb la lo :=
  ⟨h.nb, h.na, h.no, h.tb, h.ta, h.ob, h.oa, fun q => by rw [← h.mem q]; constructor <;> rintro (h | h | h) <;> simp [h], by have := h.len; omega⟩
theorem UInv.step {l k la lb lo : List (Int × Int)} {x y : Int × Int} (h : UInv l k (x :: la) (y :: lb) lo) (hxy : x.1 ≤ y.1) : UInv l k la (y :: lb) (addedL lo x.1 x.2) := by
  have hx := h.na
  have ho : ∀ r ∈ lo, r.1 ≤ x.1 := fun r hr => h.oa r hr x List.mem_cons_self
  refine ⟨norm_mono hx.2.2 (by have := hx.1; have := hx.2.1; omega), h.nb, addedL_norm h.no ho (by have := hx.1; omega), fun r hr => h.ta r (List.mem_cons_of_mem _ hr), h.tb, fun r hr z hz => ?_, fun r hr z hz => ?_, fun q => ?_, ?_⟩
  · have := addedL_los ho r hr
    have := norm_lt hx.2.2 z hz
    have := hx.2.1
    omega
  · have := addedL_los ho r hr
    rcases List.mem_cons.1 hz with rfl | hz
    · omega
    · have := norm_lt h.nb.2.2 z hz
      have := h.nb.2.1
      omega
  · rw [← h.mem q, addedL_lies ho (fun r hr => (norm_lt h.no r hr).2), lies_cons x la]
    constructor
    · rintro ((h | h) | h | h) <;> simp [h]
    · rintro (h | (h | h) | h) <;> simp [h]
  · have := (addedL_length lo x.1 x.2).1
    have := h.len
    simp only [List.length_cons] at this ⊢
    omega
/-- Where one of the two is at its end: the other is taken. -/
theorem UInv.last {l k la lb lo : List (Int × Int)} (h : UInv l k la lb lo) (h0 : la = [] ∨ lb = []) :
    Norm (-1) (takenL (takenL lo la 0 1048576 0) lb 0 1048576 0) ∧ ∀ q, Lies (takenL (takenL lo la 0 1048576 0) lb 0 1048576 0) q ↔ Lies l q ∨ Lies k q := by
  have key : ∀ (lo la : List (Int × Int)), Norm (-1) la → Norm (-1) lo → (∀ r ∈ la, r.2 ≤ 1048576) → (∀ r ∈ lo, ∀ x ∈ la, r.1 ≤ x.1) →
      Norm (-1) (takenL lo la 0 1048576 0) ∧ ∀ q, Lies (takenL lo la 0 1048576 0) q ↔ Lies lo q ∨ Lies la q := fun lo la na no ta oa => by
    have := takenL_all (lo := 0) (hi := 1048576) (d := 0) (norm_los na) no (fun r hr x hx => by have := oa r hr x hx; omega) (fun x hx => by omega)
    refine ⟨this.1, fun q => ?_⟩
    rw [this.2 q, show q - 0 = q by omega]
    constructor
    · rintro (h | h)
      · exact .inl h
      · exact .inr h.1
    · rintro (h | h)
      · exact .inl h
      · refine .inr ⟨h, ?_, ?_⟩
        · have := norm_lies na h; omega
        · obtain ⟨r, hr, _, h2⟩ := h
          have := ta r hr
          omega
  rcases h0 with rfl | rfl
  · have := key lo lb h.nb h.no h.tb h.ob
    refine ⟨this.1, fun q => (this.2 q).trans ?_⟩
    rw [← h.mem q]
    simp [lies_nil]
  · have := key lo la h.na h.no h.ta h.oa
    refine ⟨this.1, fun q => (this.2 q).trans ?_⟩
    rw [← h.mem q]
    simp [lies_nil]
/-- An answer that is a list: or it would be too long. -/
def Answer (B : Nat) (e : Ending) (w' : World) (U : List (Int × Int)) : Prop :=
  (32768 < U.length ∧ e = .returned (.tuple #[.slice none 0 0, .int .i64 21])) ∨ (U.length ≤ 32768 ∧ ∃ a cap, e = .returned (.tuple #[.slice a U.length cap, .int .i64 0]) ∧ Own w' B (.slice a U.length cap) U)

set_option maxHeartbeats 400000 in
theorem checkBoth_any {w : World} {a : Option Addr} {n cap : Nat} {l : List (Int × Int)} (h : Rng w a n cap l) {b : Option Addr} {m capb : Nat} {k : List (Int × Int)} (hk : Rng w b m capb k) :
    Calls Tryz.prog 29 #[.slice a n cap, .slice b m capb] w fun e w' => e = .returned (.int .i64 (if (checkL l).2 = 0 then (checkL k).2 else (checkL l).2)) ∧ Below w.heap.size w w' := by
  have HA := check_any h
  have HB := fun w' (hb : Below w.heap.size w w') => check_any (hk.below hb)
  generalize checkL l = r at *
  generalize checkL k = s at *
  obtain ⟨r1, r2⟩ := r
  obtain ⟨s1, s2⟩ := s
  simp only at HA HB ⊢
  by_cases h0 : r2 = 0
  · subst h0
    rw [if_pos rfl]
    go_enter Tryz.func29, Tryz.ntmps29
    go_wp2_with fail
    refine HA.mono ?_
    rintro e w1 ⟨rfl, hb1⟩
    go_wp2_with fail
    refine (HB w1 hb1).mono ?_
    rintro e w2 ⟨rfl, hb2⟩
    go_wp2_with fail
    go_ret
    exact ⟨rfl, hb1.trans (hb2.mono hb1.size)⟩
  · rw [if_neg h0]
    have t1 : (r2 == 0) = false := by simp [h0]
    go_enter Tryz.func29, Tryz.ntmps29
    go_wp2_with fail
    refine HA.mono ?_
    rintro e w1 ⟨rfl, hb1⟩
    go_wp2_with fail
    go_ret
    exact ⟨rfl, hb1⟩
end Go.Proofs.YtffkncohliollaaGreatDoor.Sp
