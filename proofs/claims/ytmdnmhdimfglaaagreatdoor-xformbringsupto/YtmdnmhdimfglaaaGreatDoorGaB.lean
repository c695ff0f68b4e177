import Derived.Test.YtmdnmhdimfglaaaGreatDoorGaO
import Derived.Test.YtmdnmhdimfglaaaGreatDoorGaS
import Derived.Test.YtmdnmhdimfglaaaGreatDoorGaX
namespace Go.Proofs.YtmdnmhdimfglaaaGreatDoor
open Go.RowKit Go.Lib Sp
set_option maxRecDepth 100000
set_option maxHeartbeats 1000000 in
theorem width_any {o : OpV} {v : Value} {w : World} (hs : o.s.size ≤ 9223372036854775807) (hw : Bar w) :
    Calls Tryz.prog 44 #[opVal o v] w fun e w' => e = .returned (.int .i64 (widthP o)) ∧ Below w.heap.size w w' := by
  obtain ⟨c, n, k, p, s, l, tc, tn, on⟩ := o
  have hw2 := (Below.refl w.heap.size w).alloc (Nat.le_refl _) (Obj.cells #[.int .i64 c, .int .i64 n, .int .i64 k, .int .i64 p, .string s, v, .int .i64 tc, .int .i64 tn, .bool on] 34)
  obtain ⟨x, y, z, hc⟩ : ∃ x y z, check s = (x, y, z) := ⟨_, _, _, rfl⟩
  have HC : Hid (∀ (w' : World), Below w.heap.size w w' → Calls Tryz.prog 67 #[.string s] w' fun e w'' => e = .returned (.tuple #[.int .i64 x, .int .i64 y, .int .i64 z]) ∧ Below w'.heap.size w' w'') := fun w' hb => check_bar hs hc _ (hw.below hb)
  obtain ⟨r, hr⟩ : ∃ r, widthP ⟨c, n, k, p, s, l, tc, tn, on⟩ = r := ⟨_, rfl⟩
  rw [hr]
  simp only [widthP, hc] at hr
  clear hc hs hw
  simp only [opVal] at *
  by_cases hk : k = 1
  · subst hk
    rw [if_pos rfl] at hr; subst hr
    go_enter Tryz.func44, Tryz.ntmps44
    go_wp2_with fail
    refine (HC.out _ hw2).mono ?_
    rintro e w1 ⟨rfl, hb1⟩
    have hB := hw2.trans (hb1.mono hw2.size)
    clear hw2 hb1 HC
    go_wp2_with fail
    go_ret
    exact ⟨rfl, hB⟩
  · rw [if_neg hk] at hr; subst hr
    have t1 : (k == 1) = false := beq_eq_false_iff_ne.2 hk
    clear hk
    go_enter Tryz.func44, Tryz.ntmps44
    go_wp2_with fail
    go_ret
    exact ⟨rfl, hw2⟩
end Go.Proofs.YtmdnmhdimfglaaaGreatDoor

namespace Go.Proofs.YtmdnmhdimfglaaaGreatDoor.Sp
open Go.RowKit Go.Lib
set_option maxRecDepth 100000
theorem max_run (ats : Array TypeId) (ty : TypeId) (x y : Int) (w : World) : (Builtin.max_ ats ty #[.int .i64 x, .int .i64 y]).run Tryz.prog w = .ok (.int .i64 (max x y)) w := by
  simp only [run_max_int2]
  congr 2
  split <;> omega
theorem min_run (ats : Array TypeId) (ty : TypeId) (x y : Int) (w : World) : (Builtin.min_ ats ty #[.int .i64 x, .int .i64 y]).run Tryz.prog w = .ok (.int .i64 (min x y)) w := by
  simp only [run_min_int2]
  congr 2
  split <;> omega
theorem wpList_append_hr {P : Program} {w : World} {ops : Array Oper} {rest : List Oper} {o : Oper} {a : Act} {Q : Exit → Act → World → Prop} (hgd : o.guard = none) (s x : Operand) (t : TypeId)
    (ho : o.op = .call { callee := .builtin .append, args := #[s, x], argTypes := #[t, t] }) (v u : Value) (hs : a.eval s = v) (hx : a.eval x = u) {v' : Value} {w' : World}
    (hr : (Builtin.append_ #[t, t] o.type #[v, u]).run P w = .ok v' w') (h : wpList P ops Q rest (a.put o.dst v') w') : wpList P ops Q (o :: rest) a w :=
  wpList_plain hgd fun K hK => by
    unfold Oper.wp execOp
    simp only [ho, resolve, invoke, builtin, Sem.run_bind, Sem.run_pure, Result.andThen_ok, List.map_toArray, List.map_cons, List.map_nil, hs, hx, hr]
    exact hK _ _ h
theorem cell_new2 (w : World) (x y : Value) (t : TypeId) : ∀ j u, [x, y][j]? = some u → (w.alloc (.cells #[x, y] t)).cell? ((⟨w.heap.size, 0, none⟩ : Addr).add j) = some u := by
  intro j u hu
  have hadd : (⟨w.heap.size, 0, none⟩ : Addr).add j = ⟨w.heap.size, j, none⟩ := by unfold Addr.add; split <;> simp_all
  rw [hadd]
  have hh := heap_alloc_new w (.cells #[x, y] t)
  simp only [World.cell?, hh]
  match j, hu with
  | 0, hu => simpa using hu
  | 1, hu => simpa using hu
  | j + 2, hu => simp at hu
def Keeps (w w' : World) (v : Value) : Prop := ∀ k, k < w.heap.size → v.ownBlock ≠ some k → w'.heap[k]? = w.heap[k]?
theorem append_one {w : World} {B : Nat} {a : Option Addr} {n cap : Nat} {l : List (Int × Int)} (h : Own w B (.slice a n cap) l) (hB : B ≤ w.heap.size) (lo hi : Int) (hn : n ≤ 8388608) (ty : TypeId) :
    ∃ a' cap' w', (Builtin.append_ #[32, 32] ty #[.slice a n cap, .slice (some ⟨w.heap.size, 0, none⟩) 1 1]).run Tryz.prog (w.alloc (.cells #[.int .i64 lo, .int .i64 hi] 91)) = .ok (.slice a' (n + 1) cap') w' ∧
      Own w' B (.slice a' (n + 1) cap') (l ++ [(lo, hi)]) ∧ Below B w w' ∧ w.heap.size < w'.heap.size ∧ Keeps w w' (.slice a n cap) := by
  have hlen := h.rng.len
  obtain ⟨i, hi0, hz, hs, hby⟩ := info_parts rngInfo
  have hown : (w.alloc (.cells #[.int .i64 lo, .int .i64 hi] 91)).ownsRow B 91 2 (.slice a n cap) n (flat l) := by
    rw [← hlen]
    rw [← hlen] at h
    exact World.ownsRow.alloc h _
  obtain ⟨v', w', hr, ho, hgr, _⟩ := run_append_own (P := Tryz.prog) (w.alloc (.cells #[.int .i64 lo, .int .i64 hi] 91)) B 32 ty 91 i _ 2 16 Tryz.underlying32 hi0 hz hs hby rfl (by decide) (.slice a n cap) n (flat l) hown ⟨w.heap.size, 0, none⟩ 1 1 [.int .i64 lo, .int .i64 hi] rfl (cell_new2 w _ _ _) (fun u hu => by simp at hu; rcases hu with rfl | rfl <;> rfl)
    (by simp only [maxLen]; omega) (by omega) (by simp; omega)
  have ho' : Own w' B v' (l ++ [(lo, hi)]) := by
    unfold Own
    rw [flat_append, List.length_append, hlen]
    exact ho
  obtain ⟨a', cap', rfl⟩ := ho'.shape
  have e1 : (l ++ [(lo, hi)]).length = n + 1 := by simp [hlen]
  rw [e1] at hr ho'
  refine ⟨a', cap', w', hr, ho', ?_, ?_, fun k hk hne => ?_⟩
  · refine ((Below.refl B w).alloc hB _).trans (below_grown hgr (fun k hk => ?_) (by simp; omega))
    exact (World.ownsRow.lt hown k hk).1
  · have := hgr.size
    simp at this
    omega
  · rw [hgr.block k (by simp; omega) (fun e => hne e.symm)]
    exact Below.heap_alloc w _ k hk
theorem own_ptr {w : World} {B : Nat} {a : Option Addr} {n cap : Nat} {l : List (Int × Int)} (h : Own w B (.slice a n cap) l) (hn : 0 < n) : ∃ g, a = some ⟨g, 0, none⟩ ∧ B ≤ g ∧ g < w.heap.size ∧ ∀ j, w.frozen? ⟨g, j, none⟩ = false := by
  have hlen := h.rng.len
  rcases h.2 with ⟨e, h0⟩ | ⟨g, cap', cur, e, hb, hh, _⟩
  · omega
  · simp only [Value.slice.injEq] at e
    obtain ⟨rfl, _, rfl⟩ := e
    exact ⟨g, rfl, hb, (Array.getElem?_eq_some_iff.1 hh).1, fun j => frozen_of_row w g j cur _ hh⟩
theorem getD_snoc {α : Type} (l0 : List α) (x d : α) : (l0 ++ [x]).getD l0.length d = x := by simp
theorem flat_set (l0 : List (Int × Int)) (x y z : Int) : (flat (l0 ++ [(x, y)])).set (l0.length * 2 + 1) (.int .i64 z) = flat (l0 ++ [(x, z)]) := by
  rw [flat_append, flat_append, List.set_append, flat_length, if_neg (by omega)]
  congr 1
  rw [show l0.length * 2 + 1 - l0.length * 2 = 1 by omega]
  rfl
theorem own_set2 {w : World} {B g n cap : Nat} {l0 : List (Int × Int)} {x y : Int} (h : Own w B (.slice (some ⟨g, 0, none⟩) n cap) (l0 ++ [(x, y)])) (z : Int) :
    Own (w.setCell ⟨g, l0.length * 2 + 1, none⟩ (.int .i64 z)) B (.slice (some ⟨g, 0, none⟩) n cap) (l0 ++ [(x, z)]) := by
  have hlen := h.rng.len
  have h' : w.ownsRow B 91 2 (.slice (some ⟨g, 0, none⟩) n cap) n (flat (l0 ++ [(x, y)])) := by
    unfold Own at h
    rw [hlen] at h
    exact h
  have := (World.ownsRow.stored h' (l0.length * 2 + 1) (.int .i64 z)).1
  rw [flat_set] at this
  unfold Own
  rw [List.length_append] at hlen ⊢
  simp only [List.length_cons, List.length_nil] at hlen ⊢
  rw [hlen]
  exact this
set_option maxHeartbeats 1000000 in
theorem added_keep {w : World} {B : Nat} {a : Option Addr} {n cap : Nat} {l : List (Int × Int)} (h : Own w B (.slice a n cap) l) (hB : B ≤ w.heap.size) (lo hi : Int) (hn : n ≤ 8388608) :
    Calls Tryz.prog 99 #[.slice a n cap, .int .i64 lo, .int .i64 hi] w fun e w' => ∃ a' n' cap', e = .returned (.slice a' n' cap') ∧ Own w' B (.slice a' n' cap') (addedL l lo hi) ∧ Below B w w' ∧ Keeps w w' (.slice a n cap) := by
  have hlen := h.rng.len
  obtain ⟨i0, hi0, hz, hs, hby⟩ := info_parts rngInfo
  by_cases h1 : hi ≤ lo
  · have e0 : addedL l lo hi = l := by unfold addedL; rw [if_pos h1]
    rw [e0]
    clear e0
    go_enter Tryz.func99, Tryz.ntmps99
    go_wp2_with fail
    go_ret
    exact ⟨_, _, _, rfl, h, Below.refl _ _, fun _ _ _ => rfl⟩
  · have hlt : lo < hi := by omega
    obtain ⟨a', cap', w', hr, ho, hb, _, hkp⟩ := append_one h hB lo hi hn 32
    rcases List.eq_nil_or_concat l with rfl | ⟨l0, ⟨x, y⟩, hl⟩
    · have e0 : addedL [] lo hi = [] ++ [(lo, hi)] := by unfold addedL; rw [if_neg h1]; rfl
      rw [e0]
      have HO : Hid (Own w' B (.slice a' (n + 1) cap') ([] ++ [(lo, hi)])) := ho
      generalize [] ++ [(lo, hi)] = L at HO ⊢
      clear e0 h1 ho
      simp only [List.length_nil] at hlen
      subst hlen
      go_enter Tryz.func99, Tryz.ntmps99
      go_wp2_with (at_builtin; refine wpList_append_hr rfl _ _ 32 rfl _ _ rfl rfl hr ?_)
      go_ret
      exact ⟨_, _, _, rfl, HO.out, hb, hkp⟩
    · rw [List.concat_eq_append] at hl
      subst hl
      simp only [List.length_append, List.length_cons, List.length_nil] at hlen
      obtain ⟨g, rfl, hBg, hg, hfz⟩ := own_ptr h (by omega)
      have hf1 := hfz (l0.length * 2 + 1)
      obtain ⟨g', off', hga, _, hc0, hc1⟩ := h.rng.cells l0.length (by omega)
      cases hga
      rw [getD_snoc, Nat.zero_add] at hc0 hc1
      simp only at hc0 hc1
      subst hlen
      by_cases h2 : lo ≤ y
      · have e0 : addedL (l0 ++ [(x, y)]) lo hi = l0 ++ [(x, max y hi)] := by unfold addedL; rw [if_neg h1]; simp [h2]
        rw [e0]
        have HO := own_set2 h (max y hi)
        have HO2 : Hid (Own (w.setCell ⟨g, l0.length * 2 + 1, none⟩ (.int .i64 (max y hi))) B (.slice (some ⟨g, 0, none⟩) (l0.length + 1) cap) (l0 ++ [(x, max y hi)])) := HO
        have hBl : Below B w (w.setCell ⟨g, l0.length * 2 + 1, none⟩ (.int .i64 (max y hi))) := (Below.refl B w).setCell (p := ⟨g, l0.length * 2 + 1, none⟩) hBg _
        have hKp : Keeps w (w.setCell ⟨g, l0.length * 2 + 1, none⟩ (.int .i64 (max y hi))) (.slice (some ⟨g, 0, none⟩) (l0.length + 1) cap) := fun k hk hne => heap_setCell_other w ⟨g, l0.length * 2 + 1, none⟩ k _ (fun e => hne (congrArg some (by simpa using e.symm)))
        have hmx := max_run
        clear e0 h1 ho hr HO h hi0 hz hs hby hfz hkp
        generalize l0 ++ [(x, max y hi)] = L at *
        generalize l0.length = k at *
        go_enter Tryz.func99, Tryz.ntmps99
        go_wp2_with fail
        go_ret
        exact ⟨_, _, _, rfl, HO2.out, hBl, hKp⟩
      · have e0 : addedL (l0 ++ [(x, y)]) lo hi = l0 ++ [(x, y)] ++ [(lo, hi)] := by unfold addedL; rw [if_neg h1]; simp [h2]
        rw [e0]
        have HO : Hid (Own w' B (.slice a' (l0.length + 1 + 1) cap') (l0 ++ [(x, y)] ++ [(lo, hi)])) := ho
        clear e0 h1 ho h hi0 hz hs hby hfz hf1
        generalize l0 ++ [(x, y)] ++ [(lo, hi)] = L at *
        generalize l0.length = k at *
        go_enter Tryz.func99, Tryz.ntmps99
        go_wp2_with (at_builtin; refine wpList_append_hr rfl _ _ 32 rfl _ _ rfl rfl hr ?_)
        go_ret
        exact ⟨_, _, _, rfl, HO.out, hb, hkp⟩
theorem added_any {w : World} {B : Nat} {a : Option Addr} {n cap : Nat} {l : List (Int × Int)} (h : Own w B (.slice a n cap) l) (hB : B ≤ w.heap.size) (lo hi : Int) (hn : n ≤ 8388608) :
    Calls Tryz.prog 99 #[.slice a n cap, .int .i64 lo, .int .i64 hi] w fun e w' => ∃ a' n' cap', e = .returned (.slice a' n' cap') ∧ Own w' B (.slice a' n' cap') (addedL l lo hi) ∧ Below B w w' :=
  (added_keep h hB lo hi hn).mono fun _ _ ⟨a', n', cap', he, ho, hb, _⟩ => ⟨a', n', cap', he, ho, hb⟩
end Go.Proofs.YtmdnmhdimfglaaaGreatDoor.Sp

namespace Go.Proofs.YtmdnmhdimfglaaaGreatDoor
open Go.RowKit Go.Lib
open Sp hiding Keeps
set_option maxRecDepth 100000
theorem alloc_last (w : World) (o : Obj) (k : Nat) (hk : k = w.heap.size) : (w.alloc o).heap[k]? = some o := by
  subst hk
  show (w.heap.push o)[w.heap.size]? = _
  simp
def rangeV (x : Int × Int) : List Value := [.int .i64 x.1, .int .i64 x.2]
theorem layG : Lay rangeV 2 := ⟨fun _ => rfl, by decide, fun x u hu => by simp [rangeV] at hu; rcases hu with rfl | rfl <;> rfl⟩
theorem kindG : Kind Tryz.prog 32 91 2 16 := kind_of Tryz.underlying32 (z := .agg #[.int .i64 0, .int .i64 0]) (by kernel_rfl) rfl
theorem rng_of_rw {w : World} {a : Option Addr} {n cap : Nat} {l : List (Int × Int)} (h : Rw rangeV 2 w a n cap l) : Rng w a n cap l :=
  ⟨h.len, h.room, fun j hj => by
    obtain ⟨g, off, x, ha, hg, hx, hc⟩ := h.at j hj
    have e : l.getD j (0, 0) = x := by rw [List.getD_eq_getElem?_getD, hx]; rfl
    rw [e]
    refine ⟨g, off, ha, hg, ?_, hc 1 _ rfl⟩
    have := hc 0 _ rfl
    simpa using this⟩
theorem set9g {W : World} {b : Nat} {T : TypeId} {u0 u1 u2 u3 u4 u5 u6 u7 u8 v0 v1 v2 v3 v4 v5 v6 v7 v8 : Value} (h : W.heap[b]? = some (.cells #[u0, u1, u2, u3, u4, u5, u6, u7, u8] T)) :
    (((((((((W.setCell ⟨b, 0, none⟩ v0).setCell ⟨b, 1, none⟩ v1).setCell ⟨b, 2, none⟩ v2).setCell ⟨b, 3, none⟩ v3).setCell ⟨b, 4, none⟩ v4).setCell ⟨b, 5, none⟩ v5).setCell ⟨b, 6, none⟩ v6).setCell ⟨b, 7, none⟩ v7).setCell ⟨b, 8, none⟩ v8).heap[b]? = some (.cells #[v0, v1, v2, v3, v4, v5, v6, v7, v8] T) := by
  have h0 := (heap_setCell_same _ b 0 _ _ v0 h).trans (by simp; rfl)
  have h1 := (heap_setCell_same _ b 1 _ _ v1 h0).trans (by simp; rfl)
  have h2 := (heap_setCell_same _ b 2 _ _ v2 h1).trans (by simp; rfl)
  have h3 := (heap_setCell_same _ b 3 _ _ v3 h2).trans (by simp; rfl)
  have h4 := (heap_setCell_same _ b 4 _ _ v4 h3).trans (by simp; rfl)
  have h5 := (heap_setCell_same _ b 5 _ _ v5 h4).trans (by simp; rfl)
  have h6 := (heap_setCell_same _ b 6 _ _ v6 h5).trans (by simp; rfl)
  have h7 := (heap_setCell_same _ b 7 _ _ v7 h6).trans (by simp; rfl)
  have h8 := (heap_setCell_same _ b 8 _ _ v8 h7).trans (by simp; rfl)
  exact h8
section
variable {α : Type} {f : α → List Value} {k : Nat} {S T : TypeId} {by_ : Nat}
theorem appendF_all (hK : Kind Tryz.prog S T k by_) (hf : Lay f k) {w : World} {B : Nat} {v : Value} {l : List α} (h : OwnF f k T w B v l) (hB : B ≤ w.heap.size)
    {b : Option Addr} {m capb : Nat} {ys : List α} (hy : Rw f k w b m capb ys) (hs : (l.length + m) * by_ ≤ 140737488355328) (hs2 : l.length + m ≤ 1099511627776) (ty : TypeId) :
    ∃ a' cap' w', (Builtin.append_ #[S, S] ty #[v, .slice b m capb]).run Tryz.prog w = .ok (.slice a' (l.length + m) cap') w' ∧ OwnF f k T w' B (.slice a' (l.length + m) cap') (l ++ ys) ∧ Below B w w' ∧ Keeps w w' v := by
  by_cases hm : 0 < m
  · obtain ⟨g, cap', w', hr, ho, hb, hk, _⟩ := appendF hK hf h hB hy hm hs (by omega) ty
    exact ⟨_, cap', w', hr, ho, hb, hk⟩
  · obtain rfl : m = 0 := by omega
    obtain rfl : ys = [] := List.eq_nil_of_length_eq_zero hy.len
    obtain ⟨i, z, hi, hz, hsz, hby, _⟩ := hK.info
    obtain ⟨a', cap', rfl⟩ := h.shape
    refine ⟨a', cap', w, ?_, by rw [List.append_nil]; exact h, Below.refl _ _, fun _ _ _ => rfl⟩
    rcases h.2 with ⟨e, h0⟩ | ⟨g, cap, cur, e, _, _, hnc, _⟩
    · obtain rfl := List.eq_nil_of_length_eq_zero h0
      simp only [List.length_nil] at e ⊢
      cases e
      cases b <;> simp [Builtin.append_, run_underlying hK.under, sizeOf, typeInfo, hi, Builtin.lenOf, Builtin.firstCells, loadCells, loadCellsFrom]
    · cases e
      cases b <;> simp [Builtin.append_, run_underlying hK.under, sizeOf, typeInfo, hi, Builtin.lenOf, Builtin.firstCells, hnc, storeCells, loadCells, loadCellsFrom]
end
theorem rw_of_rng {w : World} {a : Option Addr} {n cap : Nat} {l : List (Int × Int)} (h : Rng w a n cap l) : Rw rangeV 2 w a n cap l := by
  refine ⟨h.len, h.room, fun hn => ?_⟩
  obtain ⟨g, off, rfl, hg, _, _⟩ := h.cells 0 hn
  refine ⟨g, off, rfl, hg, fun j x hj i v hv => ?_⟩
  have hl := h.len
  have hjl : j < l.length := (List.getElem?_eq_some_iff.1 hj).1
  obtain ⟨g2, off2, e, _, h0, h1⟩ := h.cells j (by omega)
  simp only [Option.some.injEq, Addr.mk.injEq, and_true] at e
  obtain ⟨rfl, rfl⟩ := e
  have ex : l.getD j (0, 0) = x := by rw [List.getD_eq_getElem?_getD, hj]; rfl
  rw [ex] at h0 h1
  have hi : i = 0 ∨ i = 1 := by
    have := (List.getElem?_eq_some_iff.1 hv).1
    simp [rangeV] at this
    omega
  rcases hi with rfl | rfl
  · simp only [rangeV, List.getElem?_cons_zero, Option.some.injEq] at hv
    subst hv
    exact h0
  · simp only [rangeV, List.getElem?_cons_succ, List.getElem?_cons_zero, Option.some.injEq] at hv
    subst hv
    exact h1
set_option maxHeartbeats 1000000 in
theorem copiedR_any {w : World} {a : Option Addr} {n cap : Nat} {l : List (Int × Int)} (h : Rng w a n cap l) (hn : n ≤ 1000000000) :
    Calls Tryz.prog 46 #[.slice a n cap] w fun e w' => ∃ v, e = .returned v ∧ OwnF rangeV 2 91 w' w.heap.size v l ∧ Below w.heap.size w w' := by
  obtain ⟨a', cap', w', hr, ho, hb, _⟩ := appendF_all kindG layG (ownF_nil (f := rangeV) (k := 2) (T := 91) w w.heap.size) (Nat.le_refl _) (rw_of_rng h) (by simp; omega) (by simp; omega) 32
  simp only [List.length_nil, List.nil_append, Nat.zero_add] at hr ho
  clear h
  go_enter Tryz.func46, Tryz.ntmps46
  go_wp2_with (at_builtin; refine wpList_append_hr rfl _ _ 32 rfl _ _ rfl rfl hr ?_)
  go_ret
  exact ⟨_, rfl, ho, hb⟩
theorem own_set {w : World} {B : Nat} {v : Value} {l : List (Int × Int)} (h : OwnF rangeV 2 91 w B v l) (b i : Nat) (u : Value) (hb : b < B) : OwnF rangeV 2 91 (w.setCell ⟨b, i, none⟩ u) B v l := by
  refine ⟨h.1, ?_⟩
  rcases h.2 with h0 | ⟨g, cap, cur, e, h1, hh, rest⟩
  · exact .inl h0
  · exact .inr ⟨g, cap, cur, e, h1, (Below.heap_setCell _ _ _ _ (by simp only; omega)).trans hh, rest⟩
end Go.Proofs.YtmdnmhdimfglaaaGreatDoor

namespace Go.Proofs.YtmdnmhdimfglaaaGreatDoor
open Go.RowKit Go.Lib
set_option maxRecDepth 100000
theorem box9 {W : World} {b : Nat} {T : TypeId} {v0 v1 v2 v3 v4 v5 v6 v7 v8 : Value} (h : W.heap[b]? = some (.cells #[v0, v1, v2, v3, v4, v5, v6, v7, v8] T)) :
    W.cell? ⟨b, 0, none⟩ = some v0 ∧ W.cell? ⟨b, 1, none⟩ = some v1 ∧ W.cell? ⟨b, 2, none⟩ = some v2 ∧ W.cell? ⟨b, 3, none⟩ = some v3 ∧ W.cell? ⟨b, 4, none⟩ = some v4 ∧ W.cell? ⟨b, 5, none⟩ = some v5 ∧ W.cell? ⟨b, 6, none⟩ = some v6 ∧ W.cell? ⟨b, 7, none⟩ = some v7 ∧ W.cell? ⟨b, 8, none⟩ = some v8 := by
  simp only [Lib.cell_of_heap h]
  exact ⟨rfl, rfl, rfl, rfl, rfl, rfl, rfl, rfl, rfl⟩
theorem wr9 {W : World} {b : Nat} {T : TypeId} {v0 v1 v2 v3 v4 v5 v6 v7 v8 : Value} (h : W.heap[b]? = some (.cells #[v0, v1, v2, v3, v4, v5, v6, v7, v8] T)) :
    W.frozen? ⟨b, 0, none⟩ = false ∧ W.frozen? ⟨b, 1, none⟩ = false ∧ W.frozen? ⟨b, 2, none⟩ = false ∧ W.frozen? ⟨b, 3, none⟩ = false ∧ W.frozen? ⟨b, 4, none⟩ = false ∧ W.frozen? ⟨b, 5, none⟩ = false ∧ W.frozen? ⟨b, 6, none⟩ = false ∧ W.frozen? ⟨b, 7, none⟩ = false ∧ W.frozen? ⟨b, 8, none⟩ = false :=
  ⟨Lib.frozen_of_heap h 0, Lib.frozen_of_heap h 1, Lib.frozen_of_heap h 2, Lib.frozen_of_heap h 3, Lib.frozen_of_heap h 4, Lib.frozen_of_heap h 5, Lib.frozen_of_heap h 6, Lib.frozen_of_heap h 7, Lib.frozen_of_heap h 8⟩
def But (b : Nat) (w w' : World) : Prop := w'.heap.size = w.heap.size ∧ ∀ k, k ≠ b → w'.heap[k]? = w.heap[k]?
theorem But.trans {b : Nat} {w w' w'' : World} (h : But b w w') (h' : But b w' w'') : But b w w'' := ⟨h'.1.trans h.1, fun k hk => (h'.2 k hk).trans (h.2 k hk)⟩
theorem But.set (b i : Nat) (w : World) (u : Value) : But b w (w.setCell ⟨b, i, none⟩ u) := ⟨by simp [World.setCell], fun k hk => Below.heap_setCell _ _ _ _ (by simp only; omega)⟩
theorem But.own {b : Nat} {w w' : World} (h : But b w w') {α : Type} {f : α → List Value} {k : Nat} {T : TypeId} {B : Nat} {v : Value} {l : List α} (ho : OwnF f k T w B v l) (hb : b < B) : OwnF f k T w' B v l := by
  refine ⟨ho.1, ?_⟩
  rcases ho.2 with h0 | ⟨g, cap, cur, e, h1, hh, rest⟩
  · exact .inl h0
  · exact .inr ⟨g, cap, cur, e, h1, (h.2 g (by omega)).trans hh, rest⟩
theorem But.block {b : Nat} {w w' : World} (h : But b w w') {k : Nat} {o : Obj} (hk : w.heap[k]? = some o) (hb : k ≠ b) : w'.heap[k]? = some o := (h.2 k hb).trans hk
theorem store9 {W : World} {b n : Nat} {w0 : World} {T : TypeId} {u0 u1 u2 u3 u4 u5 u6 u7 u8 : Value} (h : W.heap[b]? = some (.cells #[u0, u1, u2, u3, u4, u5, u6, u7, u8] T)) (hB : Below n w0 W) (hn : n ≤ b) (v0 v1 v2 v3 v4 v5 v6 v7 v8 : Value) :
    ∃ W9, (((((((((W.setCell ⟨b, 0, none⟩ v0).setCell ⟨b, 1, none⟩ v1).setCell ⟨b, 2, none⟩ v2).setCell ⟨b, 3, none⟩ v3).setCell ⟨b, 4, none⟩ v4).setCell ⟨b, 5, none⟩ v5).setCell ⟨b, 6, none⟩ v6).setCell ⟨b, 7, none⟩ v7).setCell ⟨b, 8, none⟩ v8) = W9 ∧
      W9.heap[b]? = some (.cells #[v0, v1, v2, v3, v4, v5, v6, v7, v8] T) ∧ Below n w0 W9 ∧ But b W W9 :=
  ⟨_, rfl, set9g h, by
    refine Below.setCell ?_ (by simp only; omega) _
    refine Below.setCell ?_ (by simp only; omega) _
    refine Below.setCell ?_ (by simp only; omega) _
    refine Below.setCell ?_ (by simp only; omega) _
    refine Below.setCell ?_ (by simp only; omega) _
    refine Below.setCell ?_ (by simp only; omega) _
    refine Below.setCell ?_ (by simp only; omega) _
    refine Below.setCell ?_ (by simp only; omega) _
    exact Below.setCell hB (by simp only; omega) _,
    ((((((((But.set _ _ _ _).trans (But.set _ _ _ _)).trans (But.set _ _ _ _)).trans (But.set _ _ _ _)).trans (But.set _ _ _ _)).trans (But.set _ _ _ _)).trans (But.set _ _ _ _)).trans (But.set _ _ _ _)).trans (But.set _ _ _ _)⟩
def Src (u : Value) (lu : List (Int × Int)) (w w' : World) (v : Value) (l : List (Int × Int)) : Prop := (v = u ∧ l = lu) ∨ OwnF rangeV 2 91 w' w.heap.size v l
theorem src_same (u : Value) (lu : List (Int × Int)) (w w' : World) : Src u lu w w' u lu := .inl ⟨rfl, rfl⟩
theorem src_nil (u : Value) (lu : List (Int × Int)) (w w' : World) : Src u lu w w' (.slice none 0 0) [] := .inr (ownF_nil _ _)
theorem Src.step {u v : Value} {lu l : List (Int × Int)} {w W w' W9 : World} {b : Nat} (h : Src u lu W w' v l) (hK : But b w' W9) (hb : b < W.heap.size) (hs : w.heap.size ≤ W.heap.size) : Src u lu w W9 v l := by
  rcases h with h | h
  · exact .inl h
  · exact .inr ((hK.own h hb).mono hs)
theorem Src.below {u v : Value} {lu l : List (Int × Int)} {w w' w'' : World} (h : Src u lu w w' v l) (hb : Below w'.heap.size w' w'') : Src u lu w w'' v l := by
  rcases h with h | h
  · exact .inl h
  · exact .inr (h.below hb)
def op0 : OpV := ⟨0, 0, 0, 0, ⟨#[]⟩, [], 0, 0, false⟩
end Go.Proofs.YtmdnmhdimfglaaaGreatDoor
