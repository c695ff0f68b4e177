import Derived.Test.YtokkodkhkpgebaaDoorKbG
/-! slices.Delete of one id. -/
namespace Go.Proofs.YtokkodkhkpgebaaDoor
open Go.RowKit Go.Lib
set_option maxRecDepth 100000

/-- The first i of a row of one's own. -/
theorem own_take {w : World} {B g n cap : Nat} {U : List (Int × Int)} (h : OwnF idV 2 23 w B (.slice (some ⟨g, 0, none⟩) n cap) U) (i : Nat) (hi : i ≤ n) : OwnF idV 2 23 w B (.slice (some ⟨g, 0, none⟩) i cap) (U.take i) := by
  have hl : U.length = n := (h.rw_ layI).len
  have hlt : (U.take i).length = i := by rw [List.length_take]; omega
  rcases h.2 with ⟨e, _⟩ | ⟨g', cap', cur, e, hB, hh, hn, hm, hsz, htk⟩
  · cases e
  · simp only [Value.slice.injEq, Option.some.injEq, Addr.mk.injEq, and_true] at e
    obtain ⟨rfl, _, rfl⟩ := e
    refine ⟨flatF_length layI _, .inr ⟨g, cap, cur, by rw [hlt], hB, hh, by omega, hm, hsz, ?_⟩⟩
    have e2 : flatF idV U = flatF idV (U.take i) ++ flatF idV (U.drop i) := by rw [← flatF_append, List.take_append_drop]
    rw [hlt]
    have e3 : cur.toList.take (i * 2) = (cur.toList.take (U.length * 2)).take (i * 2) := by rw [List.take_take, Nat.min_eq_left (by omega)]
    rw [e3, htk, e2, List.take_append_of_le_length (by rw [flatF_length layI, hlt]; omega), List.take_of_length_le (by rw [flatF_length layI, hlt]; omega)]
theorem own_block {w : World} {B g n cap : Nat} {U : List (Int × Int)} (h : OwnF idV 2 23 w B (.slice (some ⟨g, 0, none⟩) n cap) U) : ∃ cur, w.heap[g]? = some (.cells cur 23) ∧ cur.size = cap * 2 := by
  rcases h.2 with ⟨e, _⟩ | ⟨g', cap', cur, e, hB, hh, hn, hm, hsz, htk⟩
  · cases e
  · simp only [Value.slice.injEq, Option.some.injEq, Addr.mk.injEq, and_true] at e
    obtain ⟨rfl, _, rfl⟩ := e
    exact ⟨cur, hh, hsz⟩
theorem own_setPast {w : World} {B g n cap : Nat} {U : List (Int × Int)} (h : OwnF idV 2 23 w B (.slice (some ⟨g, 0, none⟩) n cap) U) (j : Nat) (hj : n * 2 ≤ j) (v : Value) : OwnF idV 2 23 (w.setCell ⟨g, j, none⟩ v) B (.slice (some ⟨g, 0, none⟩) n cap) U := by
  have hl : U.length = n := (h.rw_ layI).len
  rcases h.2 with ⟨e, _⟩ | ⟨g', cap', cur, e, hB, hh, hn, hm, hsz, htk⟩
  · cases e
  · simp only [Value.slice.injEq, Option.some.injEq, Addr.mk.injEq, and_true] at e
    obtain ⟨rfl, e2, rfl⟩ := e
    refine ⟨h.1, .inr ⟨g, cap, _, by rw [e2], hB, heap_setCell_same _ g j _ _ v hh, hn, hm, ?_, ?_⟩⟩
    · simpa using hsz
    · rw [← htk]
      simp only [Array.toList_setIfInBounds]
      exact List.take_set_of_le (by omega)
theorem run_clear1 (w : World) (g o c : Nat) (ty : TypeId) {ua ub : Value} (h0 : w.cell? ⟨g, o, none⟩ = some ua) (h1 : w.cell? ⟨g, o + 1, none⟩ = some ub) (f0 : w.frozen? ⟨g, o, none⟩ = false) (f1 : w.frozen? ⟨g, o + 1, none⟩ = false) :
    (Builtin.clear_ #[36] ty #[.slice (some ⟨g, o, none⟩) 1 c]).run Tryd.prog w = .ok (.tuple #[]) ((w.setCell ⟨g, o, none⟩ (.int .i64 0)).setCell ⟨g, o + 1, none⟩ (.int .i64 0)) := by
  have hst := run_storeCells_cells (P := Tryd.prog) g o [.int .i64 0, .int .i64 0] 0 w (fun j hj => by
    match j, hj with
    | 0, _ => simpa using congrArg Option.isSome h0
    | 1, _ => simpa using congrArg Option.isSome h1) (fun j hj => by
    match j, hj with
    | 0, _ => simpa using f0
    | 1, _ => simpa using f1) (by intro v hv; simp at hv; subst hv; rfl)
  simp only [Nat.add_zero] at hst
  have hzc : (Builtin.zeroCells (Value.agg #[.int .i64 0, .int .i64 0]).cells 1).toList = [.int .i64 0, .int .i64 0] := by
    simp [Builtin.zeroCells, Value.cells]
    rfl
  simp [Builtin.clear_, run_underlying Tryd.underlying36, Tryd.zeroValue23, hzc, hst, World.setCells]
set_option maxHeartbeats 2000000 in
theorem delete_any {w : World} {B g m cap : Nat} {U : List (Int × Int)} (h : OwnF idV 2 23 w B (.slice (some ⟨g, 0, none⟩) (m + 1) cap) U) (i : Nat) (hi : i ≤ m) (hn : m ≤ 1048576) :
    Calls Tryd.prog 31 #[.slice (some ⟨g, 0, none⟩) (m + 1) cap, .int .i64 i, .int .i64 ((i : Int) + 1)] w fun e w' => e = .returned (.slice (some ⟨g, 0, none⟩) m cap) ∧ OwnF idV 2 23 w' B (.slice (some ⟨g, 0, none⟩) m cap) (U.eraseIdx i) ∧ w.grownBy w' (some g) := by
  have hR := h.rw_ layI
  have hl := hR.len
  have hroom := hR.room
  have hcm : cap ≤ 9223372036854775807 := by have := hroom.2; simp only [maxLen] at this; exact this
  have h1 : (0 : Int) ≤ (i : Int) := by omega
  have h2 : (i : Int) + 1 ≤ (m : Int) + 1 := by omega
  have h3 : (m : Int) + 1 ≤ (cap : Int) := by omega
  have h4 : ((i : Int) == (i : Int) + 1) = false := beq_eq_false_iff_ne.2 (by omega)
  have n1 : i ≤ cap := by omega
  have n2 : i + 1 ≤ m + 1 := by omega
  have n3 : m + 1 ≤ cap := by omega
  have n4 : (0 : Int) ≤ (i : Int) + 1 := by omega
  obtain ⟨ii, z, hinf, _, hisz, _⟩ := kindI.info
  have hap : ∀ (sa : Nat), (∀ j u, (flatF idV (U.drop (i + 1)))[j]? = some u → w.drew.cell? ((⟨g, sa, none⟩ : Addr).add j) = some u) → ∃ w3, (Builtin.append_ #[36, 36] 36 #[.slice (some ⟨g, 0, none⟩) i cap, .slice (some ⟨g, sa, none⟩) (m - i) (cap - (i + 1))]).run Tryd.prog w.drew = .ok (.slice (some ⟨g, 0, none⟩) m cap) w3 ∧ OwnF idV 2 23 w3 B (.slice (some ⟨g, 0, none⟩) m cap) (U.eraseIdx i) ∧ w.drew.grownBy w3 (some g) := fun sa hnews => by
    have hot := own_take (h.below (Below.refl _ w).drew) i (by omega)
    have hti : (U.take i).length = i := by rw [List.length_take]; omega
    have hti2 := hot
    unfold OwnF at hti2
    rw [hti] at hti2
    obtain ⟨w3, hr, ho, hg⟩ := run_append_fits (P := Tryd.prog) w.drew B 36 36 23 ii 2 kindI.under hinf hisz g i cap (flatF idV (U.take i)) hti2 ⟨g, sa, none⟩ (m - i) (cap - (i + 1)) (flatF idV (U.drop (i + 1))) (by rw [flatF_length layI, List.length_drop]; congr 1; omega) hnews (flatF_one layI _) (by omega)
    have em : i + (m - i) = m := by omega
    rw [em] at hr ho
    refine ⟨w3, hr, ?_, hg⟩
    unfold OwnF
    rw [List.eraseIdx_eq_take_drop_succ, flatF_append, List.length_append, hti, List.length_drop, hl, show i + (m + 1 - (i + 1)) = m by omega]
    exact ho
  by_cases hcap : cap = i + 1
  · have hmi : m = i := by omega
    obtain rfl : i = m := by omega
    subst hcap
    obtain ⟨w3, hr, ho3, hg3⟩ := hap 0 (by rw [show U.drop (i + 1) = [] from List.drop_of_length_le (by omega)]; intro j u hu; simp [flatF] at hu)
    simp only [Nat.sub_self] at hr
    have n5 : (i : Int) ≤ (i : Int) + 1 := by omega
    obtain ⟨cur3, hh3, hsz3⟩ := own_block ho3
    have ca : w3.cell? ⟨g, i * 2, none⟩ = some (cur3[i * 2]'(by omega)) := by simp [World.cell?, hh3, Array.getElem?_eq_getElem (show i * 2 < cur3.size by omega)]
    have cb : w3.cell? ⟨g, i * 2 + 1, none⟩ = some (cur3[i * 2 + 1]'(by omega)) := by simp [World.cell?, hh3, Array.getElem?_eq_getElem (show i * 2 + 1 < cur3.size by omega)]
    generalize cur3[i * 2]'(by omega) = ua at ca
    generalize cur3[i * 2 + 1]'(by omega) = ub at cb
    have fa := Lib.frozen_of_heap hh3 (i * 2)
    have fb := Lib.frozen_of_heap hh3 (i * 2 + 1)
    have hcl := fun c => run_clear1 w3 g (i * 2) c 0 ca cb fa fb
    clear hh3 hap
    go_enter Tryd.func31, Tryd.ntmps31
    go_wp2_with fail
    refine wp_region_any (by kernel_rfl) ?_
    show wpAny _ _ _ _ _ _ _ w.drew
    refine takeA (i := 0) (d := some 20) (v := ?vT1) rfl rfl (by kernel_rfl) (by kernel_rfl) (by kernel_rfl) (fun _ _ _ h => h) (Or.inl ⟨by rfl, ?hyT1⟩) ?rstT1
    case hyT1 => (intro w; go_simp; (try with_reducible rfl))
    try simp only [Act.put, List.setIfInBounds_toArray, List.set_cons_zero, List.set_cons_succ]
    refine takeA (i := 1) (d := some 21) (v := ?vT2) rfl rfl (by kernel_rfl) (by kernel_rfl) (by kernel_rfl) (fun _ _ _ h => h) (Or.inl ⟨by rfl, ?hyT2⟩) ?rstT2
    case hyT2 => (intro w; go_simp; (try with_reducible rfl))
    try simp only [Act.put, List.setIfInBounds_toArray, List.set_cons_zero, List.set_cons_succ]
    refine takeA (i := 2) (d := some 22) (v := ?vT3) rfl rfl (by kernel_rfl) (by kernel_rfl) (by kernel_rfl) (fun _ _ _ h => h) (Or.inl ⟨by rfl, ?hyT3⟩) ?rstT3
    case hyT3 => (intro w; go_simp; (try with_reducible rfl))
    try simp only [Act.put, List.setIfInBounds_toArray, List.set_cons_zero, List.set_cons_succ]
    refine takeA (i := 3) (d := some 23) (v := ?vT4) rfl rfl (by kernel_rfl) (by kernel_rfl) (by kernel_rfl) (fun _ _ _ h => h) (Or.inl ⟨by rfl, ?hyT4⟩) ?rstT4
    case hyT4 => (intro w; go_simp; (try with_reducible rfl))
    try simp only [Act.put, List.setIfInBounds_toArray, List.set_cons_zero, List.set_cons_succ]
    refine takeA (i := 4) (d := some 24) (v := ?vT5) rfl rfl (by kernel_rfl) (by kernel_rfl) (by kernel_rfl) (fun _ _ _ h => h) (Or.inl ⟨by rfl, ?hyT5⟩) ?rstT5
    case hyT5 => (intro w; go_simp; (try with_reducible rfl))
    try simp only [Act.put, List.setIfInBounds_toArray, List.set_cons_zero, List.set_cons_succ]
    refine takeA (i := 5) (d := some 25) (v := ?vT6) rfl rfl (by kernel_rfl) (by kernel_rfl) (by kernel_rfl) (fun _ _ _ h => h) (Or.inl ⟨by rfl, ?hyT6⟩) ?rstT6
    case hyT6 => (intro w; go_simp; (try with_reducible rfl))
    try simp only [Act.put, List.setIfInBounds_toArray, List.set_cons_zero, List.set_cons_succ]
    refine wpAny_ready (rs := [6]) (by kernel_rfl) (by simp) (consS rfl (fun K hK => ?_) AllReady.nil)
    rw [if_pos (by rfl)]
    refine wp_append_hr (.tmp 22) (.tmp 25) 36 (some 26) rfl rfl _ _ rfl rfl hr ?_
    refine hK.out _ _ ?_
    clear hK K
    try simp only [Act.put, List.setIfInBounds_toArray, List.set_cons_zero, List.set_cons_succ]
    refine takeA (i := 7) (d := some 0) (v := ?vT7) rfl rfl (by kernel_rfl) (by kernel_rfl) (by kernel_rfl) (fun _ _ _ h => h) (Or.inl ⟨by rfl, ?hyT7⟩) ?rstT7
    case hyT7 => (intro w; go_simp; (try with_reducible rfl))
    try simp only [Act.put, List.setIfInBounds_toArray, List.set_cons_zero]
    refine wpAny_done (by kernel_rfl) ?_ _
    go_wp2_with fail
    go_ret
    refine ⟨rfl, own_setPast (own_setPast ho3 (i * 2) (Nat.le_refl _) _) (i * 2 + 1) (by omega) _, ?_⟩
    exact ⟨hg3.os, hg3.tape, hg3.output, by have := hg3.size; simpa using this, fun k hk hne => by rw [Below.heap_setCell _ _ _ _ (by simp only; intro e; exact hne (by rw [e])), Below.heap_setCell _ _ _ _ (by simp only; intro e; exact hne (by rw [e]))]; exact hg3.block k hk hne⟩
  · have hsrcB : ∀ j u, (flatF idV (U.drop (i + 1)))[j]? = some u → w.drew.cell? ((⟨g, (i + 1) * 2, none⟩ : Addr).add j) = some u := fun j u hu => by
      have hd := Rw.drop (hR.below (Below.refl _ w).drew) (i + 1) (by omega)
      have hpos : 0 < m + 1 - (i + 1) := by
        rcases Nat.eq_zero_or_pos (m + 1 - (i + 1)) with h' | h'
        · rw [List.drop_of_length_le (by omega)] at hu; simp [flatF] at hu
        · exact h'
      obtain ⟨g', off', e, _, hc⟩ := hd.row layI hpos
      cases e
      have := hc j u hu
      simpa using this
    have hsrc := hsrcB
    obtain ⟨w3, hr, ho3, hg3⟩ := hap ((i + 1) * 2) (by exact hsrc)
    obtain ⟨cur3, hh3, hsz3⟩ := own_block ho3
    have ca : w3.cell? ⟨g, m * 2, none⟩ = some (cur3[m * 2]'(by omega)) := by simp [World.cell?, hh3, Array.getElem?_eq_getElem (show m * 2 < cur3.size by omega)]
    have cb : w3.cell? ⟨g, m * 2 + 1, none⟩ = some (cur3[m * 2 + 1]'(by omega)) := by simp [World.cell?, hh3, Array.getElem?_eq_getElem (show m * 2 + 1 < cur3.size by omega)]
    generalize cur3[m * 2]'(by omega) = ua at ca
    generalize cur3[m * 2 + 1]'(by omega) = ub at cb
    have fa := Lib.frozen_of_heap hh3 (m * 2)
    have fb := Lib.frozen_of_heap hh3 (m * 2 + 1)
    have hcl := fun c => run_clear1 w3 g (m * 2) c 0 ca cb fa fb
    clear hh3 hap
    go_enter Tryd.func31, Tryd.ntmps31
    go_wp2_with fail
    refine wp_region_any (by kernel_rfl) ?_
    show wpAny _ _ _ _ _ _ _ w.drew
    refine takeA (i := 0) (d := some 20) (v := ?vT8) rfl rfl (by kernel_rfl) (by kernel_rfl) (by kernel_rfl) (fun _ _ _ h => h) (Or.inl ⟨by rfl, ?hyT8⟩) ?rstT8
    case hyT8 => (intro w; go_simp; (try with_reducible rfl))
    try simp only [Act.put, List.setIfInBounds_toArray, List.set_cons_zero, List.set_cons_succ]
    refine takeA (i := 1) (d := some 21) (v := ?vT9) rfl rfl (by kernel_rfl) (by kernel_rfl) (by kernel_rfl) (fun _ _ _ h => h) (Or.inl ⟨by rfl, ?hyT9⟩) ?rstT9
    case hyT9 => (intro w; go_simp; (try with_reducible rfl))
    try simp only [Act.put, List.setIfInBounds_toArray, List.set_cons_zero, List.set_cons_succ]
    refine takeA (i := 2) (d := some 22) (v := ?vT10) rfl rfl (by kernel_rfl) (by kernel_rfl) (by kernel_rfl) (fun _ _ _ h => h) (Or.inl ⟨by rfl, ?hyT10⟩) ?rstT10
    case hyT10 => (intro w; go_simp; (try with_reducible rfl))
    try simp only [Act.put, List.setIfInBounds_toArray, List.set_cons_zero, List.set_cons_succ]
    refine takeA (i := 3) (d := some 23) (v := ?vT11) rfl rfl (by kernel_rfl) (by kernel_rfl) (by kernel_rfl) (fun _ _ _ h => h) (Or.inl ⟨by rfl, ?hyT11⟩) ?rstT11
    case hyT11 => (intro w; go_simp; (try with_reducible rfl))
    try simp only [Act.put, List.setIfInBounds_toArray, List.set_cons_zero, List.set_cons_succ]
    refine takeA (i := 4) (d := some 24) (v := ?vT12) rfl rfl (by kernel_rfl) (by kernel_rfl) (by kernel_rfl) (fun _ _ _ h => h) (Or.inl ⟨by rfl, ?hyT12⟩) ?rstT12
    case hyT12 => (intro w; go_simp; (try with_reducible rfl))
    try simp only [Act.put, List.setIfInBounds_toArray, List.set_cons_zero, List.set_cons_succ]
    refine takeA (i := 5) (d := some 25) (v := ?vT13) rfl rfl (by kernel_rfl) (by kernel_rfl) (by kernel_rfl) (fun _ _ _ h => h) (Or.inl ⟨by rfl, ?hyT13⟩) ?rstT13
    case hyT13 => (intro w; go_simp; (try with_reducible rfl))
    try simp only [Act.put, List.setIfInBounds_toArray, List.set_cons_zero, List.set_cons_succ]
    refine wpAny_ready (rs := [6]) (by kernel_rfl) (by simp) (consS rfl (fun K hK => ?_) AllReady.nil)
    rw [if_pos (by rfl)]
    refine wp_append_hr (.tmp 22) (.tmp 25) 36 (some 26) rfl rfl _ _ rfl rfl hr ?_
    refine hK.out _ _ ?_
    clear hK K
    try simp only [Act.put, List.setIfInBounds_toArray, List.set_cons_zero, List.set_cons_succ]
    refine takeA (i := 7) (d := some 0) (v := ?vT14) rfl rfl (by kernel_rfl) (by kernel_rfl) (by kernel_rfl) (fun _ _ _ h => h) (Or.inl ⟨by rfl, ?hyT14⟩) ?rstT14
    case hyT14 => (intro w; go_simp; (try with_reducible rfl))
    try simp only [Act.put, List.setIfInBounds_toArray, List.set_cons_zero]
    refine wpAny_done (by kernel_rfl) ?_ _
    go_wp2_with fail
    go_ret
    refine ⟨rfl, own_setPast (own_setPast ho3 (m * 2) (Nat.le_refl _) _) (m * 2 + 1) (by omega) _, ?_⟩
    exact ⟨hg3.os, hg3.tape, hg3.output, by have := hg3.size; simpa using this, fun k hk hne => by rw [Below.heap_setCell _ _ _ _ (by simp only; intro e; exact hne (by rw [e])), Below.heap_setCell _ _ _ _ (by simp only; intro e; exact hne (by rw [e]))]; exact hg3.block k hk hne⟩
end Go.Proofs.YtokkodkhkpgebaaDoor
