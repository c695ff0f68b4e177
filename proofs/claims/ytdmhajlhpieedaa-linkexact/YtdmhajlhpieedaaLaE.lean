import Derived.Test.YtdmhajlhpieedaaLaD
/-! Laws of drawn regions; one flight out of the row. -/
namespace Go.Proofs.Ytdmhajlhpieedaa
open Go.RowKit Go.Lib Go.Shelf
set_option maxRecDepth 100000

/-- wpAnyH_take, the slot written out. -/
theorem takeD {P : Program} {md : Region.Mode} {ops : Array Oper} {Q : Exit → Act → World → Prop} {S : World → Prop} {i : Nat} {oi : Oper} {d : Option Nat} {v : Value} {fuel : Nat} {listed : Array Bool} {a : Act} {w : World} (hi : ops[i]? = some oi) (hd : oi.dst = d)
    (hs : Region.noSelect ops = true) (hf : Region.free md ops listed i = true) (hr : (Region.ready md ops listed).contains i = true)
    (hQ : ∀ c a w, Q (.panic c) (a.put oi.dst v) w → Q (.panic c) a w) (hy : YieldsIf P ops S oi v a) (hS : S w)
    (h : wpAnyH P md ops Q S fuel (listed.setIfInBounds i true) (a.put d v) w) : wpAnyH P md ops Q S (fuel + 1) listed a w := by
  subst hd
  exact wpAnyH_take hi hs hf hr hQ hy hS h
theorem takeA {P : Program} {md : Region.Mode} {ops : Array Oper} {Q : Exit → Act → World → Prop} {i : Nat} {oi : Oper} {d : Option Nat} {v : Value} {fuel : Nat} {listed : Array Bool} {a : Act} {w : World} (hi : ops[i]? = some oi) (hd : oi.dst = d)
    (hs : Region.noSelect ops = true) (hf : Region.free md ops listed i = true) (hr : (Region.ready md ops listed).contains i = true)
    (hQ : ∀ c a w, Q (.panic c) (a.put oi.dst v) w → Q (.panic c) a w) (hy : Yields P ops oi v a)
    (h : wpAny P md ops Q fuel (listed.setIfInBounds i true) (a.put d v) w) : wpAny P md ops Q (fuel + 1) listed a w := by
  subst hd
  exact wpAny_take hi hs hf hr hQ hy h
theorem consS {P : Program} {md : Region.Mode} {ops : Array Oper} {Q : Exit → Act → World → Prop} {fuel : Nat} {listed : Array Bool} {a : Act} {w : World} {i : Nat} {o : Oper} {rs : List Nat} (ho : ops[i]? = some o)
    (h : ∀ K' : Act → World → Prop, Shut (∀ a w, wpAny P md ops Q fuel (listed.setIfInBounds i true) a w → K' a w) → if Region.wanted o (yielded ops a.tmps) = true then Oper.wp P o a w K' Q else K' (a.put o.dst undef) w)
    (hs : AllReady P md ops Q fuel listed a w rs) : AllReady P md ops Q fuel listed a w (i :: rs) := AllReady.cons ho h hs
theorem wp_append_hr {P : Program} {w : World} {o : Oper} {a : Act} {K : Act → World → Prop} {Q : Exit → Act → World → Prop} (s x : Operand) (t : TypeId) (d : Option Nat) (hd : o.dst = d)
    (ho : o.op = .call { callee := .builtin .append, args := #[s, x], argTypes := #[t, t] }) (v u : Value) (hs : a.eval s = v) (hx : a.eval x = u) {v' : Value} {w' : World}
    (hr : (Builtin.append_ #[t, t] o.type #[v, u]).run P w = .ok v' w') (h : K (a.put d v') w') : Oper.wp P o a w K Q := by
  subst hd
  unfold Oper.wp execOp
  simp only [ho, resolve, invoke, builtin, Sem.run_bind, Sem.run_pure, Result.andThen_ok, List.map_toArray, List.map_cons, List.map_nil, hs, hx, hr]
  exact h

def zr : List Value := [.int .i64 0, .int .i64 0, .int .i64 0, .slice none 0 0, .bool false]
theorem run_clear5 (w : World) {g o c : Nat} {A E B : List Value} (hh : w.heap[g]? = some (.cells (A ++ E ++ B).toArray 73)) (hE : E.length = 5) (hA : A.length = o) (ty : TypeId) :
    (Builtin.clear_ #[52] ty #[.slice (some ⟨g, o, none⟩) 1 c]).run Try.prog w = .ok (.tuple #[]) (w.setRow g (A ++ zr ++ B).toArray) := by
  have hst := run_storeCells_at Try.prog g o 73 zr 0 _ w hh (by simp [zr, hE, hA]) (by
    intro v hv
    simp only [zr, List.mem_cons, List.not_mem_nil, or_false] at hv
    rcases hv with rfl | rfl | rfl | rfl | rfl <;> rfl)
  have e1 : ((A ++ E ++ B).toArray.toList.take (o + 0) ++ zr ++ (A ++ E ++ B).toArray.toList.drop (o + 0 + zr.length)) = A ++ zr ++ B := by
    have e2 : (A ++ E ++ B).take o = A := by rw [List.append_assoc, ← hA, List.take_left']; rfl
    have e3 : (A ++ E ++ B).drop (o + 5) = B := by
      rw [show o + 5 = (A ++ E).length by simp [hA, hE], List.drop_left']; rfl
    simp only [Nat.add_zero]
    rw [e2, show zr.length = 5 from rfl, e3]
  rw [e1] at hst
  have hzc : (Builtin.zeroCells (Value.agg #[.int .i64 0, .int .i64 0, .int .i64 0, .slice none 0 0, .bool false]).cells 1).toList = zr := by
    simp [Builtin.zeroCells, Value.cells]
    rfl
  simp [Builtin.clear_, run_underlying Try.underlying52, Try.zeroValue73, hzc, hst]
theorem drop_last {x : X} {r : List X} {post : List Value} : ∃ E, (flatF fv (x :: r) ++ post).drop (flatF fv r).length = E ++ post ∧ E.length = 5 := by
  refine ⟨(flatF fv (x :: r)).drop (flatF fv r).length, ?_, ?_⟩
  · rw [List.drop_append_of_le_length]
    rw [flatF_length layV, flatF_length layV, List.length_cons]; omega
  · rw [List.length_drop, flatF_length layV, flatF_length layV, List.length_cons]; omega
/-- What Delete's append and clear leave. -/
theorem delete_mem {w : World} {g m cap i o : Nat} {pre post : List Value} {l r : List X} {x : X} (hh : w.heap[g]? = some (.cells (pre ++ flatF fv (l ++ x :: r) ++ post).toArray 73)) (hm : l.length + r.length = m) (hi : l.length = i) (ho : pre.length = o) (hcap : m + 1 ≤ cap)
    (a : Addr) (c : Nat) (ha : r ≠ [] → a = ⟨g, o + (i + 1) * 5, none⟩) : ∃ w3 w4, (Builtin.append_ #[52, 52] 52 #[.slice (some ⟨g, o, none⟩) i cap, .slice (some a) (m - i) c]).run Try.prog w.drew = .ok (.slice (some ⟨g, o, none⟩) m cap) w3 ∧ (∀ c, (Builtin.clear_ #[52] 0 #[.slice (some ⟨g, o + m * 5, none⟩) 1 c]).run Try.prog w3 = .ok (.tuple #[]) w4) ∧ w4.heap[g]? = some (.cells (pre ++ flatF fv (l ++ r) ++ (zr ++ post)).toArray 73) ∧ Chg (fun k => k = g) w w4 := by
  have hd : (w.drew).heap[g]? = some (.cells (pre ++ flatF fv l ++ (flatF fv (x :: r) ++ post)).toArray 73) := by
    show w.heap[g]? = _
    rw [hh, flatF_append]; simp only [List.append_assoc]
  have hlf := flatF_length layV l
  have hsrc : ∀ j u, (flatF fv r)[j]? = some u → w.drew.cell? (a.add j) = some u := fun j u hu => by
    by_cases hr0 : r = []
    · subst hr0; simp [flatF] at hu
    · rw [ha hr0, addr_add']
      have hj : j < (flatF fv r).length := by
        rcases Nat.lt_or_ge j (flatF fv r).length with h' | h'
        · exact h'
        · rw [List.getElem?_eq_none h'] at hu; cases hu
      have e1 : pre ++ flatF fv l ++ (flatF fv (x :: r) ++ post) = (pre ++ flatF fv l ++ fv x) ++ flatF fv r ++ post := by
        simp [flatF, List.append_assoc]
      have e2 : o + (i + 1) * 5 = (pre ++ flatF fv l ++ fv x).length := by
        simp only [List.length_append, hlf, hi, ho, layV.len x]; omega
      rw [e1] at hd
      simp only [World.cell?, hd]
      rw [List.getElem?_toArray, e2, mid_get _ _ _ _ hj, hu]
      rfl
  have hr := run_append_off kindV layV (cap := cap) hd hi a (m - i) c (by omega) hsrc (by omega) (by rw [List.length_append, flatF_length layV, flatF_length layV, List.length_cons]; omega) 52
  obtain ⟨E, hE, hE5⟩ := drop_last (x := x) (r := r) (post := post)
  rw [hE, ho, show i + (m - i) = m by omega] at hr
  have h3 : (w.drew.setRow g (pre ++ flatF fv (l ++ r) ++ (E ++ post)).toArray).heap[g]? = some (.cells ((pre ++ flatF fv (l ++ r)) ++ E ++ post).toArray 73) := by
    rw [setRow_heap _ _ _ _ _ _ hd]; simp only [List.append_assoc]
  have hlr := flatF_length layV (l ++ r)
  have hcl := fun c => run_clear5 _ (c := c) h3 hE5 (o := o + m * 5) (by rw [List.length_append, hlr, List.length_append]; omega) 0
  refine ⟨_, _, hr, hcl, ?_, ?_⟩
  · rw [setRow_heap _ _ _ _ _ _ h3]; simp only [List.append_assoc]
  · exact (((Chg.refl (fun k => k = g) w).drew).trans (Chg.setRow (D := fun k => k = g) (q := g) _ _ rfl)).trans (Chg.setRow (D := fun k => k = g) (q := g) _ _ rfl)
set_option maxHeartbeats 2000000 in
theorem delete_any {w : World} {g m cap i o : Nat} {pre post : List Value} {l r : List X} {x : X} (hh : w.heap[g]? = some (.cells (pre ++ flatF fv (l ++ x :: r) ++ post).toArray 73)) (hm : l.length + r.length = m) (hi : l.length = i) (ho : pre.length = o) (hcap : m + 1 ≤ cap) (hcm : cap ≤ maxLen) :
    Calls Try.prog 48 #[.slice (some ⟨g, o, none⟩) (m + 1) cap, .int .i64 (i : Int), .int .i64 ((i : Int) + 1)] w fun e w' => e = .returned (.slice (some ⟨g, o, none⟩) m cap) ∧ w'.heap[g]? = some (.cells (pre ++ flatF fv (l ++ r) ++ (zr ++ post)).toArray 73) ∧ Chg (fun k => k = g) w w' := by
  have hcm' : cap ≤ 9223372036854775807 := by simp only [maxLen] at hcm; exact hcm
  have him : i ≤ m := by omega
  have h1 : (0 : Int) ≤ (i : Int) := by omega
  have h2 : (i : Int) + 1 ≤ (m : Int) + 1 := by omega
  have h3 : (m : Int) + 1 ≤ (cap : Int) := by omega
  have h4 : ((i : Int) == (i : Int) + 1) = false := beq_eq_false_iff_ne.2 (by omega)
  have n1 : i ≤ cap := by omega
  have n2 : i + 1 ≤ m + 1 := by omega
  have n3 : m + 1 ≤ cap := by omega
  have n4 : (0 : Int) ≤ (i : Int) + 1 := by omega
  by_cases hcz : cap = i + 1
  · obtain rfl : i = m := by omega
    have hr0 : r = [] := List.length_eq_zero_iff.1 (by omega)
    obtain ⟨w3, w4, hr, hcl, h5, h6⟩ := delete_mem hh hm hi ho hcap ⟨g, o, none⟩ (cap - (i + 1)) (fun h => absurd hr0 h)
    simp only [Nat.sub_self] at hr
    have n5 : (i : Int) ≤ (i : Int) + 1 := by omega
    have HP : Hid (w4.heap[g]? = some (.cells (pre ++ flatF fv (l ++ r) ++ (zr ++ post)).toArray 73) ∧ Chg (fun k => k = g) w w4) := ⟨h5, h6⟩
    clear h5 h6 hh hm hi ho
    subst hcz
    simp only [Nat.sub_self] at hr
    go_enter Try.func48, Try.ntmps48
    go_wp2_with fail
    refine wp_region_any (by kernel_rfl) ?_
    show wpAny _ _ _ _ _ _ _ w.drew
    refine takeA (i := 0) (d := some 20) (v := ?vT1) rfl rfl (by kernel_rfl) (by kernel_rfl) (by kernel_rfl) (fun _ _ _ h => h) (Or.inl ⟨by rfl, ?hyT1⟩) ?rstT1
    case hyT1 => (intro w; go_simp; (try with_reducible rfl))
    try simp only [Act.put, List.setIfInBounds_toArray, List.set_cons_zero, List.set_cons_succ]
    refine takeA (i := 1) (d := some 21) (v := ?vT2) rfl rfl (by kernel_rfl) (by kernel_rfl) (by kernel_rfl) (fun _ _ _ h => h) (Or.inl ⟨by rfl, ?hyT2⟩) ?rstT2
    case hyT2 => (intro w; go_simp; (try with_reducible rfl))
    try simp only [Act.put, List.setIfInBounds_toArray, List.set_cons_zero, List.set_cons_succ]
    refine takeA (i := 2) (d := some 22) (v := ?vT3) rfl rfl (by kernel_rfl) (by kernel_rfl) (by kernel_rfl) (fun _ _ _ h => h) (Or.inl ⟨by rfl, ?hyT3⟩) ?rstT3
    case hyT3 => (intro w; go_simp; (try with_reducible rfl))
    try simp only [Act.put, List.setIfInBounds_toArray, List.set_cons_zero, List.set_cons_succ]
    refine takeA (i := 3) (d := some 23) (v := ?vT4) rfl rfl (by kernel_rfl) (by kernel_rfl) (by kernel_rfl) (fun _ _ _ h => h) (Or.inl ⟨by rfl, ?hyT4⟩) ?rstT4
    case hyT4 => (intro w; go_simp; (try with_reducible rfl))
    try simp only [Act.put, List.setIfInBounds_toArray, List.set_cons_zero, List.set_cons_succ]
    refine takeA (i := 4) (d := some 24) (v := ?vT5) rfl rfl (by kernel_rfl) (by kernel_rfl) (by kernel_rfl) (fun _ _ _ h => h) (Or.inl ⟨by rfl, ?hyT5⟩) ?rstT5
    case hyT5 => (intro w; go_simp; (try with_reducible rfl))
    try simp only [Act.put, List.setIfInBounds_toArray, List.set_cons_zero, List.set_cons_succ]
    refine takeA (i := 5) (d := some 25) (v := ?vT6) rfl rfl (by kernel_rfl) (by kernel_rfl) (by kernel_rfl) (fun _ _ _ h => h) (Or.inl ⟨by rfl, ?hyT6⟩) ?rstT6
    case hyT6 => (intro w; go_simp; (try with_reducible rfl))
    try simp only [Act.put, List.setIfInBounds_toArray, List.set_cons_zero, List.set_cons_succ]
    refine wpAny_ready (rs := [6]) (by kernel_rfl) (by simp) (consS rfl (fun K hK => ?_) AllReady.nil)
    rw [if_pos (by rfl)]
    refine wp_append_hr (.tmp 22) (.tmp 25) 52 (some 26) rfl rfl _ _ rfl rfl hr ?_
    refine hK.out _ _ ?_
    clear hK K
    try simp only [Act.put, List.setIfInBounds_toArray, List.set_cons_zero, List.set_cons_succ]
    refine takeA (i := 7) (d := some 0) (v := ?vT7) rfl rfl (by kernel_rfl) (by kernel_rfl) (by kernel_rfl) (fun _ _ _ h => h) (Or.inl ⟨by rfl, ?hyT7⟩) ?rstT7
    case hyT7 => (intro w; go_simp; (try with_reducible rfl))
    try simp only [Act.put, List.setIfInBounds_toArray, List.set_cons_zero]
    refine wpAny_done (by kernel_rfl) ?_ _
    go_wp2_with fail
    go_ret
    exact ⟨rfl, HP.out⟩
  · obtain ⟨w3, w4, hr, hcl, h5, h6⟩ := delete_mem hh hm hi ho hcap ⟨g, o + (i + 1) * 5, none⟩ (cap - (i + 1)) (fun _ => rfl)
    have HP : Hid (w4.heap[g]? = some (.cells (pre ++ flatF fv (l ++ r) ++ (zr ++ post)).toArray 73) ∧ Chg (fun k => k = g) w w4) := ⟨h5, h6⟩
    have hcz' : ¬ cap - (i + 1) = 0 := by omega
    clear h5 h6 hh hm hi ho
    go_enter Try.func48, Try.ntmps48
    go_wp2_with fail
    refine wp_region_any (by kernel_rfl) ?_
    show wpAny _ _ _ _ _ _ _ w.drew
    refine takeA (i := 0) (d := some 20) (v := ?vT8) rfl rfl (by kernel_rfl) (by kernel_rfl) (by kernel_rfl) (fun _ _ _ h => h) (Or.inl ⟨by rfl, ?hyT8⟩) ?rstT8
    case hyT8 => (intro w; go_simp; (try with_reducible rfl))
    try simp only [Act.put, List.setIfInBounds_toArray, List.set_cons_zero, List.set_cons_succ]
    refine takeA (i := 1) (d := some 21) (v := ?vT9) rfl rfl (by kernel_rfl) (by kernel_rfl) (by kernel_rfl) (fun _ _ _ h => h) (Or.inl ⟨by rfl, ?hyT9⟩) ?rstT9
    case hyT9 => (intro w; go_simp; (try with_reducible rfl))
    try simp only [Act.put, List.setIfInBounds_toArray, List.set_cons_zero, List.set_cons_succ]
    refine takeA (i := 2) (d := some 22) (v := ?vT10) rfl rfl (by kernel_rfl) (by kernel_rfl) (by kernel_rfl) (fun _ _ _ h => h) (Or.inl ⟨by rfl, ?hyT10⟩) ?rstT10
    case hyT10 => (intro w; go_simp; (try with_reducible rfl))
    try simp only [Act.put, List.setIfInBounds_toArray, List.set_cons_zero, List.set_cons_succ]
    refine takeA (i := 3) (d := some 23) (v := ?vT11) rfl rfl (by kernel_rfl) (by kernel_rfl) (by kernel_rfl) (fun _ _ _ h => h) (Or.inl ⟨by rfl, ?hyT11⟩) ?rstT11
    case hyT11 => (intro w; go_simp; (try with_reducible rfl))
    try simp only [Act.put, List.setIfInBounds_toArray, List.set_cons_zero, List.set_cons_succ]
    refine takeA (i := 4) (d := some 24) (v := ?vT12) rfl rfl (by kernel_rfl) (by kernel_rfl) (by kernel_rfl) (fun _ _ _ h => h) (Or.inl ⟨by rfl, ?hyT12⟩) ?rstT12
    case hyT12 => (intro w; go_simp; (try with_reducible rfl))
    try simp only [Act.put, List.setIfInBounds_toArray, List.set_cons_zero, List.set_cons_succ]
    refine takeA (i := 5) (d := some 25) (v := ?vT13) rfl rfl (by kernel_rfl) (by kernel_rfl) (by kernel_rfl) (fun _ _ _ h => h) (Or.inl ⟨by rfl, ?hyT13⟩) ?rstT13
    case hyT13 => (intro w; go_simp; (try with_reducible rfl))
    try simp only [Act.put, List.setIfInBounds_toArray, List.set_cons_zero, List.set_cons_succ]
    refine wpAny_ready (rs := [6]) (by kernel_rfl) (by simp) (consS rfl (fun K hK => ?_) AllReady.nil)
    rw [if_pos (by rfl)]
    refine wp_append_hr (.tmp 22) (.tmp 25) 52 (some 26) rfl rfl _ _ rfl rfl hr ?_
    refine hK.out _ _ ?_
    clear hK K
    try simp only [Act.put, List.setIfInBounds_toArray, List.set_cons_zero, List.set_cons_succ]
    refine takeA (i := 7) (d := some 0) (v := ?vT14) rfl rfl (by kernel_rfl) (by kernel_rfl) (by kernel_rfl) (fun _ _ _ h => h) (Or.inl ⟨by rfl, ?hyT14⟩) ?rstT14
    case hyT14 => (intro w; go_simp; (try with_reducible rfl))
    try simp only [Act.put, List.setIfInBounds_toArray, List.set_cons_zero]
    refine wpAny_done (by kernel_rfl) ?_ _
    go_wp2_with fail
    go_ret
    exact ⟨rfl, HP.out⟩
end Go.Proofs.Ytdmhajlhpieedaa
