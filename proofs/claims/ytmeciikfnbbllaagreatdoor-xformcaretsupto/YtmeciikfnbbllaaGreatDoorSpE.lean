import Derived.Test.YtmeciikfnbbllaaGreatDoorSpC
namespace Go.Proofs.YtmeciikfnbbllaaGreatDoor.Sp
open Go.RowKit Go.Lib
set_option maxRecDepth 100000
theorem max_run (ats : Array TypeId) (ty : TypeId) (x y : Int) (w : World) : (Builtin.max_ ats ty #[.int .i64 x, .int .i64 y]).run Tryz.prog w = .ok (.int .i64 (max x y)) w := by
  simp only [run_max_int2]
  congr 2
  split <;> omega
theorem min_run (ats : Array TypeId) (ty : TypeId) (x y : Int) (w : World) : (Builtin.min_ ats ty #[.int .i64 x, .int .i64 y]).run Tryz.prog w = .ok (.int .i64 (min x y)) w := by
  simp only [run_min_int2]
  congr 2
  split <;> omega
theorem append_copy {w : World} {a : Option Addr} {n cap : Nat} {l : List (Int × Int)} (h : Rng w a n cap l) (hn : n * 16 ≤ 140737488355328) (ty : TypeId) :
    ∃ v' w', (Builtin.append_ #[31, 31] ty #[.slice none 0 0, .slice a n cap]).run Tryz.prog w = .ok v' w' ∧ Own w' w.heap.size v' l ∧ Below w.heap.size w w' := by
  obtain ⟨i, hi, hz, hs, hby⟩ := info_parts rngInfo
  by_cases h0 : n = 0
  · subst h0
    obtain rfl : l = [] := List.eq_nil_of_length_eq_zero h.len
    refine ⟨.slice none 0 0, w, ?_, own_nil _ _, Below.refl _ _⟩
    cases a <;> simp [Builtin.append_, run_underlying Tryz.underlying31, sizeOf, typeInfo, hi, Builtin.lenOf, Builtin.firstCells, loadCells, loadCellsFrom]
  · obtain ⟨g, off, rfl, hg, hc⟩ := h.row (by omega)
    have hlen := h.len
    obtain ⟨v', w', hr, ho, hgr, _⟩ := run_append_own (P := Tryz.prog) w w.heap.size 31 ty 94 i _ 2 16 Tryz.underlying31 hi hz hs hby rfl (by decide) (.slice none 0 0) 0 [] (World.ownsRow_nil _ _ _ _) ⟨g, off, none⟩ n cap (flat l) (by rw [flat_length, hlen]) hc (flat_one l)
      (by simp only [maxLen]; omega) (by omega) (Nat.le_refl _)
    refine ⟨v', w', hr, ?_, below_grown hgr (fun k hk => by simp [Value.ownBlock] at hk) (Nat.le_refl _)⟩
    rw [Nat.zero_add, List.nil_append, ← hlen] at ho
    exact ho
theorem wpList_append_hr {P : Program} {w : World} {ops : Array Oper} {rest : List Oper} {o : Oper} {a : Act} {Q : Exit → Act → World → Prop} (hgd : o.guard = none) (s x : Operand) (t : TypeId)
    (ho : o.op = .call { callee := .builtin .append, args := #[s, x], argTypes := #[t, t] }) (v u : Value) (hs : a.eval s = v) (hx : a.eval x = u) {v' : Value} {w' : World}
    (hr : (Builtin.append_ #[t, t] o.type #[v, u]).run P w = .ok v' w') (h : wpList P ops Q rest (a.put o.dst v') w') : wpList P ops Q (o :: rest) a w :=
  wpList_plain hgd fun K hK => by
    unfold Oper.wp execOp
    simp only [ho, resolve, invoke, builtin, Sem.run_bind, Sem.run_pure, Result.andThen_ok, List.map_toArray, List.map_cons, List.map_nil, hs, hx, hr]
    exact hK _ _ h
theorem wpList_copy_hr {P : Program} {w : World} {ops : Array Oper} {rest : List Oper} {o : Oper} {a : Act} {Q : Exit → Act → World → Prop} (hgd : o.guard = none) (s x : Operand) (t : TypeId)
    (ho : o.op = .call { callee := .builtin .copy, args := #[s, x], argTypes := #[t, t] }) (v u : Value) (hs : a.eval s = v) (hx : a.eval x = u) {v' : Value} {w' : World}
    (hr : (Builtin.copy_ #[t, t] o.type #[v, u]).run P w = .ok v' w') (h : wpList P ops Q rest (a.put o.dst v') w') : wpList P ops Q (o :: rest) a w :=
  wpList_plain hgd fun K hK => by
    unfold Oper.wp execOp
    simp only [ho, resolve, invoke, builtin, Sem.run_bind, Sem.run_pure, Result.andThen_ok, List.map_toArray, List.map_cons, List.map_nil, hs, hx, hr]
    exact hK _ _ h
theorem cell_new2 (w : World) (x y : Value) (t : TypeId) : ∀ j u, [x, y][j]? = some u → (w.alloc (.cells #[x, y] t)).cell? ((⟨w.heap.size, 0, none⟩ : Addr).add j) = some u := by
  intro j u hu
  have hadd : (⟨w.heap.size, 0, none⟩ : Addr).add j = ⟨w.heap.size, j, none⟩ := by unfold Addr.add; split <;> simp_all
  rw [hadd]
  have hh := heap_alloc_new w (.cells #[x, y] t)
  simp only [World.cell?, hh]
  match j, hu with
  | 0, hu => simpa using hu
  | 1, hu => simpa using hu
  | j + 2, hu => simp at hu
def Keeps (w w' : World) (v : Value) : Prop := ∀ k, k < w.heap.size → v.ownBlock ≠ some k → w'.heap[k]? = w.heap[k]?
theorem append_one {w : World} {B : Nat} {a : Option Addr} {n cap : Nat} {l : List (Int × Int)} (h : Own w B (.slice a n cap) l) (hB : B ≤ w.heap.size) (lo hi : Int) (hn : n ≤ 8388608) (ty : TypeId) :
    ∃ a' cap' w', (Builtin.append_ #[31, 31] ty #[.slice a n cap, .slice (some ⟨w.heap.size, 0, none⟩) 1 1]).run Tryz.prog (w.alloc (.cells #[.int .i64 lo, .int .i64 hi] 94)) = .ok (.slice a' (n + 1) cap') w' ∧
      Own w' B (.slice a' (n + 1) cap') (l ++ [(lo, hi)]) ∧ Below B w w' ∧ w.heap.size < w'.heap.size ∧ Keeps w w' (.slice a n cap) := by
  have hlen := h.rng.len
  obtain ⟨i, hi0, hz, hs, hby⟩ := info_parts rngInfo
  have hown : (w.alloc (.cells #[.int .i64 lo, .int .i64 hi] 94)).ownsRow B 94 2 (.slice a n cap) n (flat l) := by
    rw [← hlen]
    rw [← hlen] at h
    exact World.ownsRow.alloc h _
  obtain ⟨v', w', hr, ho, hgr, _⟩ := run_append_own (P := Tryz.prog) (w.alloc (.cells #[.int .i64 lo, .int .i64 hi] 94)) B 31 ty 94 i _ 2 16 Tryz.underlying31 hi0 hz hs hby rfl (by decide) (.slice a n cap) n (flat l) hown ⟨w.heap.size, 0, none⟩ 1 1 [.int .i64 lo, .int .i64 hi] rfl (cell_new2 w _ _ _) (fun u hu => by simp at hu; rcases hu with rfl | rfl <;> rfl)
    (by simp only [maxLen]; omega) (by omega) (by simp; omega)
  have ho' : Own w' B v' (l ++ [(lo, hi)]) := by
    unfold Own
    rw [flat_append, List.length_append, hlen]
    exact ho
  obtain ⟨a', cap', rfl⟩ := ho'.shape
  have e1 : (l ++ [(lo, hi)]).length = n + 1 := by simp [hlen]
  rw [e1] at hr ho'
  refine ⟨a', cap', w', hr, ho', ?_, ?_, fun k hk hne => ?_⟩
  · refine ((Below.refl B w).alloc hB _).trans (below_grown hgr (fun k hk => ?_) (by simp; omega))
    exact (World.ownsRow.lt hown k hk).1
  · have := hgr.size
    simp at this
    omega
  · rw [hgr.block k (by simp; omega) (fun e => hne e.symm)]
    exact Below.heap_alloc w _ k hk
theorem own_ptr {w : World} {B : Nat} {a : Option Addr} {n cap : Nat} {l : List (Int × Int)} (h : Own w B (.slice a n cap) l) (hn : 0 < n) : ∃ g, a = some ⟨g, 0, none⟩ ∧ B ≤ g ∧ g < w.heap.size ∧ ∀ j, w.frozen? ⟨g, j, none⟩ = false := by
  have hlen := h.rng.len
  rcases h.2 with ⟨e, h0⟩ | ⟨g, cap', cur, e, hb, hh, _⟩
  · omega
  · simp only [Value.slice.injEq] at e
    obtain ⟨rfl, _, rfl⟩ := e
    exact ⟨g, rfl, hb, (Array.getElem?_eq_some_iff.1 hh).1, fun j => frozen_of_row w g j cur _ hh⟩
theorem getD_snoc {α : Type} (l0 : List α) (x d : α) : (l0 ++ [x]).getD l0.length d = x := by simp
theorem flat_set (l0 : List (Int × Int)) (x y z : Int) : (flat (l0 ++ [(x, y)])).set (l0.length * 2 + 1) (.int .i64 z) = flat (l0 ++ [(x, z)]) := by
  rw [flat_append, flat_append, List.set_append, flat_length, if_neg (by omega)]
  congr 1
  rw [show l0.length * 2 + 1 - l0.length * 2 = 1 by omega]
  rfl
theorem own_set2 {w : World} {B g n cap : Nat} {l0 : List (Int × Int)} {x y : Int} (h : Own w B (.slice (some ⟨g, 0, none⟩) n cap) (l0 ++ [(x, y)])) (z : Int) :
    Own (w.setCell ⟨g, l0.length * 2 + 1, none⟩ (.int .i64 z)) B (.slice (some ⟨g, 0, none⟩) n cap) (l0 ++ [(x, z)]) := by
  have hlen := h.rng.len
  have h' : w.ownsRow B 94 2 (.slice (some ⟨g, 0, none⟩) n cap) n (flat (l0 ++ [(x, y)])) := by
    unfold Own at h
    rw [hlen] at h
    exact h
  have := (World.ownsRow.stored h' (l0.length * 2 + 1) (.int .i64 z)).1
  rw [flat_set] at this
  unfold Own
  rw [List.length_append] at hlen ⊢
  simp only [List.length_cons, List.length_nil] at hlen ⊢
  rw [hlen]
  exact this
set_option maxHeartbeats 1000000 in
theorem added_keep {w : World} {B : Nat} {a : Option Addr} {n cap : Nat} {l : List (Int × Int)} (h : Own w B (.slice a n cap) l) (hB : B ≤ w.heap.size) (lo hi : Int) (hn : n ≤ 8388608) :
    Calls Tryz.prog 105 #[.slice a n cap, .int .i64 lo, .int .i64 hi] w fun e w' => ∃ a' n' cap', e = .returned (.slice a' n' cap') ∧ Own w' B (.slice a' n' cap') (addedL l lo hi) ∧ Below B w w' ∧ Keeps w w' (.slice a n cap) := by
  have hlen := h.rng.len
  obtain ⟨i0, hi0, hz, hs, hby⟩ := info_parts rngInfo
  by_cases h1 : hi ≤ lo
  · have e0 : addedL l lo hi = l := by unfold addedL; rw [if_pos h1]
    rw [e0]
    clear e0
    go_enter Tryz.func105, Tryz.ntmps105
    go_wp2_with fail
    go_ret
    exact ⟨_, _, _, rfl, h, Below.refl _ _, fun _ _ _ => rfl⟩
  · have hlt : lo < hi := by omega
    obtain ⟨a', cap', w', hr, ho, hb, _, hkp⟩ := append_one h hB lo hi hn 31
    rcases List.eq_nil_or_concat l with rfl | ⟨l0, ⟨x, y⟩, hl⟩
    · have e0 : addedL [] lo hi = [] ++ [(lo, hi)] := by unfold addedL; rw [if_neg h1]; rfl
      rw [e0]
      have HO : Hid (Own w' B (.slice a' (n + 1) cap') ([] ++ [(lo, hi)])) := ho
      generalize [] ++ [(lo, hi)] = L at HO ⊢
      clear e0 h1 ho
      simp only [List.length_nil] at hlen
      subst hlen
      go_enter Tryz.func105, Tryz.ntmps105
      go_wp2_with (at_builtin; refine wpList_append_hr rfl _ _ 31 rfl _ _ rfl rfl hr ?_)
      go_ret
      exact ⟨_, _, _, rfl, HO.out, hb, hkp⟩
    · rw [List.concat_eq_append] at hl
      subst hl
      simp only [List.length_append, List.length_cons, List.length_nil] at hlen
      obtain ⟨g, rfl, hBg, hg, hfz⟩ := own_ptr h (by omega)
      have hf1 := hfz (l0.length * 2 + 1)
      obtain ⟨g', off', hga, _, hc0, hc1⟩ := h.rng.cells l0.length (by omega)
      cases hga
      rw [getD_snoc, Nat.zero_add] at hc0 hc1
      simp only at hc0 hc1
      subst hlen
      by_cases h2 : lo ≤ y
      · have e0 : addedL (l0 ++ [(x, y)]) lo hi = l0 ++ [(x, max y hi)] := by unfold addedL; rw [if_neg h1]; simp [h2]
        rw [e0]
        have HO := own_set2 h (max y hi)
        have HO2 : Hid (Own (w.setCell ⟨g, l0.length * 2 + 1, none⟩ (.int .i64 (max y hi))) B (.slice (some ⟨g, 0, none⟩) (l0.length + 1) cap) (l0 ++ [(x, max y hi)])) := HO
        have hBl : Below B w (w.setCell ⟨g, l0.length * 2 + 1, none⟩ (.int .i64 (max y hi))) := (Below.refl B w).setCell (p := ⟨g, l0.length * 2 + 1, none⟩) hBg _
        have hKp : Keeps w (w.setCell ⟨g, l0.length * 2 + 1, none⟩ (.int .i64 (max y hi))) (.slice (some ⟨g, 0, none⟩) (l0.length + 1) cap) := fun k hk hne => heap_setCell_other w ⟨g, l0.length * 2 + 1, none⟩ k _ (fun e => hne (congrArg some (by simpa using e.symm)))
        have hmx := max_run
        clear e0 h1 ho hr HO h hi0 hz hs hby hfz hkp
        generalize l0 ++ [(x, max y hi)] = L at *
        generalize l0.length = k at *
        go_enter Tryz.func105, Tryz.ntmps105
        go_wp2_with fail
        go_ret
        exact ⟨_, _, _, rfl, HO2.out, hBl, hKp⟩
      · have e0 : addedL (l0 ++ [(x, y)]) lo hi = l0 ++ [(x, y)] ++ [(lo, hi)] := by unfold addedL; rw [if_neg h1]; simp [h2]
        rw [e0]
        have HO : Hid (Own w' B (.slice a' (l0.length + 1 + 1) cap') (l0 ++ [(x, y)] ++ [(lo, hi)])) := ho
        clear e0 h1 ho h hi0 hz hs hby hfz hf1
        generalize l0 ++ [(x, y)] ++ [(lo, hi)] = L at *
        generalize l0.length = k at *
        go_enter Tryz.func105, Tryz.ntmps105
        go_wp2_with (at_builtin; refine wpList_append_hr rfl _ _ 31 rfl _ _ rfl rfl hr ?_)
        go_ret
        exact ⟨_, _, _, rfl, HO.out, hb, hkp⟩
theorem added_any {w : World} {B : Nat} {a : Option Addr} {n cap : Nat} {l : List (Int × Int)} (h : Own w B (.slice a n cap) l) (hB : B ≤ w.heap.size) (lo hi : Int) (hn : n ≤ 8388608) :
    Calls Tryz.prog 105 #[.slice a n cap, .int .i64 lo, .int .i64 hi] w fun e w' => ∃ a' n' cap', e = .returned (.slice a' n' cap') ∧ Own w' B (.slice a' n' cap') (addedL l lo hi) ∧ Below B w w' :=
  (added_keep h hB lo hi hn).mono fun _ _ ⟨a', n', cap', he, ho, hb, _⟩ => ⟨a', n', cap', he, ho, hb⟩
end Go.Proofs.YtmeciikfnbbllaaGreatDoor.Sp
