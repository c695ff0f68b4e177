import Derived.Test.YtdmhajlhpieedaaLaE
/-! A flight leaves the row. -/
namespace Go.Proofs.Ytdmhajlhpieedaa
open Go.RowKit Go.Lib Go.Shelf
set_option maxRecDepth 100000

theorem wp_copy_hr {P : Program} {w : World} {o : Oper} {a : Act} {K : Act → World → Prop} {Q : Exit → Act → World → Prop} (s x : Operand) (t t2 : TypeId) (d : Option Nat) (hd : o.dst = d)
    (ho : o.op = .call { callee := .builtin .copy, args := #[s, x], argTypes := #[t, t2] }) (v u : Value) (hs : a.eval s = v) (hx : a.eval x = u) {v' : Value} {w' : World}
    (hr : (Builtin.copy_ #[t, t2] o.type #[v, u]).run P w = .ok v' w') (h : K (a.put d v') w') : Oper.wp P o a w K Q := by
  subst hd
  unfold Oper.wp execOp
  simp only [ho, resolve, invoke, builtin, Sem.run_bind, Sem.run_pure, Result.andThen_ok, List.map_toArray, List.map_cons, List.map_nil, hs, hx, hr]
  exact h
/-- 'copy' of elements of several cells. -/
theorem run_copy_many {P : Program} {S T : TypeId} {k by_ : Nat} (hK : Kind P S T k by_) (w : World) (ty : TypeId) (g o dLen dCap : Nat) (a : Addr) (m sCap : Nat) (cur : Array Value) (t : TypeId) (cs : List Value)
    (hg : w.heap[g]? = some (.cells cur t (0, 0))) (hm : Nat.min m dLen = m) (hn : cs.length = m * k)
    (hsrc : ∀ j v, cs[j]? = some v → w.cell? (a.add j) = some v) (hfit : o + cs.length ≤ cur.size) (h1 : ∀ v ∈ cs, v.oneCell' = true) :
    (Builtin.copy_ #[S, S] ty #[.slice (some ⟨g, o, none⟩) dLen dCap, .slice (some a) m sCap]).run P w =
      .ok (goInt m) (w.setRow g (cur.toList.take o ++ cs ++ cur.toList.drop (o + cs.length)).toArray) := by
  obtain ⟨i, z, hi, hz, hsz, hby, hzc⟩ := hK.info
  have hl := run_loadCells_list (P := P) w a cs hsrc
  have hst := run_storeCells_at P g o t cs 0 cur w hg (by simpa using hfit) h1
  simp only [Nat.add_zero] at hst
  simp [Builtin.copy_, run_underlying hK.under, Builtin.lenOf, Builtin.firstCells, sizeOf, typeInfo, hi, hsz, hm, ← hn, hl, hst]
theorem set5 {W : World} {g o : Nat} {T : TypeId} {A B : List Value} {u0 u1 u2 u3 u4 : Value} (hh : W.heap[g]? = some (.cells (A ++ [u0, u1, u2, u3, u4] ++ B).toArray T)) (hA : A.length = o) (v0 v1 v2 v3 v4 : Value) :
    ∃ W9, ((((W.setCell ⟨g, o, none⟩ v0).setCell ⟨g, o + 1, none⟩ v1).setCell ⟨g, o + 2, none⟩ v2).setCell ⟨g, o + 3, none⟩ v3).setCell ⟨g, o + 4, none⟩ v4 = W9 ∧ W9.heap[g]? = some (.cells (A ++ [v0, v1, v2, v3, v4] ++ B).toArray T) ∧ Chg (fun k => k = g) W W9 := by
  subst hA
  have e0 := heap_setCell_cells hh A.length v0
  have e1 := heap_setCell_cells e0 (A.length + 1) v1
  have e2 := heap_setCell_cells e1 (A.length + 2) v2
  have e3 := heap_setCell_cells e2 (A.length + 3) v3
  have e4 := heap_setCell_cells e3 (A.length + 4) v4
  have hs : ∀ (i : Nat) (W : World) (u : Value), Chg (fun k => k = g) W (W.setCell ⟨g, i, none⟩ u) := fun i W u => Chg.set (D := fun k => k = g) (q := g) i W u rfl
  refine ⟨_, rfl, ?_, ((((hs _ _ _).trans (hs _ _ _)).trans (hs _ _ _)).trans (hs _ _ _)).trans (hs _ _ _)⟩
  rw [e4]
  simp [List.setIfInBounds_toArray, List.append_assoc]
theorem five {γ : Type} (E : List γ) (h : E.length = 5) : ∃ a b c d e, E = [a, b, c, d, e] := by
  match E, h with
  | [a, b, c, d, e], _ => exact ⟨a, b, c, d, e, rfl⟩
/-- What cut's copy, its clearing of the first flight leave. -/
theorem cut_mem {w : World} {g cap i o : Nat} {pre post : List Value} {l r : List X} {x : X} (hh : w.heap[g]? = some (.cells (pre ++ flatF fv (l ++ x :: r) ++ post).toArray 73)) (hi : l.length = i) (ho : pre.length = o) :
    ∃ w3 w4 u0 u1 u2 u3 u4, (Builtin.copy_ #[52, 52] 3 #[.slice (some ⟨g, o + 5, none⟩) i (cap - 1), .slice (some ⟨g, o, none⟩) i cap]).run Try.prog w.drew = .ok (goInt i) w3 ∧ Chg (fun k => k = g) w w3 ∧
      w3.heap[g]? = some (.cells (pre ++ [u0, u1, u2, u3, u4] ++ (flatF fv (l ++ r) ++ post)).toArray 73) ∧
      ((((w3.setCell ⟨g, o, none⟩ (.int .i64 0)).setCell ⟨g, o + 1, none⟩ (.int .i64 0)).setCell ⟨g, o + 2, none⟩ (.int .i64 0)).setCell ⟨g, o + 3, none⟩ (.slice none 0 0)).setCell ⟨g, o + 4, none⟩ (.bool false) = w4 ∧
      w4.heap[g]? = some (.cells ((pre ++ zr) ++ flatF fv (l ++ r) ++ post).toArray 73) ∧ Chg (fun k => k = g) w w4 := by
  have hlf := flatF_length layV l
  have hd : w.drew.heap[g]? = some (.cells (pre ++ (flatF fv l ++ fv x) ++ (flatF fv r ++ post)).toArray 73) := by
    show w.heap[g]? = _
    rw [hh]; simp [flatF, List.append_assoc]
  have hcp := run_copy_many kindV w.drew 3 g (o + 5) i (cap - 1) ⟨g, o, none⟩ i cap _ 73 (flatF fv l) hd (Nat.min_self i) (by rw [hlf, hi]) (fun j v hv => by
      have hj : j < (flatF fv l).length := by
        rcases Nat.lt_or_ge j (flatF fv l).length with h' | h'
        · exact h'
        · rw [List.getElem?_eq_none h'] at hv; cases hv
      rw [addr_add']
      simp only [World.cell?, hd]
      rw [List.getElem?_toArray, ← ho, mid_get _ _ _ _ (by rw [List.length_append]; omega), List.getElem?_append_left hj, hv]
      rfl) (by simp only [List.size_toArray, List.length_append, layV.len x]; omega) (flatF_one layV l)
  obtain ⟨E, hE⟩ : ∃ E, (flatF fv l ++ fv x).take 5 = E := ⟨_, rfl⟩
  have hE5 : E.length = 5 := by rw [← hE, List.length_take, List.length_append, layV.len x]; omega
  have e1 : (pre ++ (flatF fv l ++ fv x) ++ (flatF fv r ++ post)).take (o + 5) = pre ++ E := by
    rw [List.append_assoc, List.take_append, List.take_of_length_le (by omega), show o + 5 - pre.length = 5 by omega, List.take_append_of_le_length (by rw [List.length_append, layV.len x]; omega), hE]
  have e2 : (pre ++ (flatF fv l ++ fv x) ++ (flatF fv r ++ post)).drop (o + 5 + (flatF fv l).length) = flatF fv r ++ post := by
    have hx5 := layV.len x
    rw [show o + 5 + (flatF fv l).length = (pre ++ (flatF fv l ++ fv x)).length by simp only [List.length_append]; omega, List.drop_left']; rfl
  simp only [e1, e2] at hcp
  obtain ⟨u0, u1, u2, u3, u4, rfl⟩ := five E hE5
  obtain ⟨w3, hw3⟩ : ∃ w3, w.drew.setRow g (pre ++ [u0, u1, u2, u3, u4] ++ flatF fv l ++ (flatF fv r ++ post)).toArray = w3 := ⟨_, rfl⟩
  have h3 : w3.heap[g]? = some (.cells (pre ++ [u0, u1, u2, u3, u4] ++ (flatF fv (l ++ r) ++ post)).toArray 73) := by
    rw [← hw3, setRow_heap _ _ _ _ _ _ hd, flatF_append]; simp only [List.append_assoc]
  have hC3 : Chg (fun k => k = g) w w3 := by rw [← hw3]; exact ((Chg.refl (fun k => k = g) w).drew).trans (Chg.setRow (D := fun k => k = g) (q := g) _ _ rfl)
  rw [hw3] at hcp
  obtain ⟨w4, h4, h5, h6⟩ := set5 h3 ho (.int .i64 0) (.int .i64 0) (.int .i64 0) (.slice none 0 0) (.bool false)
  exact ⟨w3, w4, u0, u1, u2, u3, u4, hcp, hC3, h3, h4, by rw [h5]; simp [zr, List.append_assoc], hC3.trans h6⟩
theorem gs_apart {l r : List X} {x : X} (h : (l ++ x :: r).Pairwise (fun x y => ∀ g, x.v.ownBlock = some g → y.v.ownBlock ≠ some g)) {y : X} (hy : y ∈ l ∨ y ∈ r) {g : Nat} (hg : x.v.ownBlock = some g) : y.v.ownBlock ≠ some g := by
  rw [List.pairwise_append] at h
  rcases hy with hy | hy
  · exact fun e => h.2.2 y hy x (List.mem_cons_self ..) g e hg
  · exact (List.pairwise_cons.1 h.2.1).1 y hy g hg
theorem mem_mid {α : Type} {l r : List α} {x y : α} (h : y ∈ l ++ r) : y ∈ l ++ x :: r := by
  rcases List.mem_append.1 h with h | h <;> simp [h]
/-- The state behind a cut. -/
def cutS (S : Lk) (l r : List X) : Lk := { S with fl := (l ++ r).map X.fg }
/-- What cut leaves. -/
def CutP (W : World) (q : Nat) (S : Lk) (rv : Value) (l r : List X) (W' : World) : Prop := ∃ rv', LinkAt W' q (cutS S l r) rv' (l ++ r) ∧ Chg (fun g => g = q ∨ rv.ownBlock = some g) W W' ∧ rv'.ownBlock = rv.ownBlock
theorem cut_post {W w4 W5 : World} {q g : Nat} {S : Lk} {rv rv' : Value} {l r : List X} {x : X} (h : LinkAt W q S rv (l ++ x :: r)) (hg : rv.ownBlock = some g) (hC : Chg (fun k => k = g) W w4) (hr : OffF fv 5 73 w4 rv' (l ++ r)) (hb : rv'.ownBlock = some g) (h5 : w4.setCell ⟨q, 3, none⟩ rv' = W5) : CutP W q S rv l r W5 := by
  have hqg := h.q_ne_r hg
  have hbx : w4.heap[q]? = some (.cells #[.int .i64 (S.nodes : Int), .int .i64 (S.most : Int), .int .i64 (S.next : Int), rv] 68) := hC.block h.box hqg
  have hbx5 := heap_setCell_cells hbx 3 rv'
  rw [h5] at hbx5
  have hC5 : Chg (fun k => k = q) w4 W5 := by rw [← h5]; exact Chg.set (D := fun k => k = q) (q := q) 3 _ _ rfl
  have hCC : Chg (fun k => k = q ∨ rv.ownBlock = some k) W W5 := (hC.mono (fun k _ e => .inr (by rw [e]; exact hg))).trans (hC5.mono (fun k _ e => .inl e))
  refine ⟨rv', ⟨hbx5, hr.chg hC5 (fun k hk e => by rw [hb] at hk; cases hk; exact hqg e.symm), fun y hy => (h.own y (mem_mid hy)).chg hCC (fun k hk e => ?_), ?_, rfl⟩, hCC, by rw [hb, hg]⟩
  · rcases e with rfl | e
    · exact h.q_ne_g (mem_mid hy) hk rfl
    · exact h.r_ne_g e (mem_mid hy) hk rfl
  · exact h.gs.sublist (List.Sublist.append (List.Sublist.refl l) (List.sublist_cons_self x r))
set_option maxHeartbeats 4000000 in
theorem cut_any {W : World} {q i : Nat} {S : Lk} {rv : Value} {l r : List X} {x : X} (h : LinkAt W q S rv (l ++ x :: r)) (hn : (l ++ x :: r).length ≤ 1048576) (hi : l.length = i) :
    Calls Try.prog 29 #[.pointer (some ⟨q, 0, none⟩), .int .i64 (i : Int)] W fun e W' => e = .returned (.tuple #[]) ∧ CutP W q S rv l r W' := by
  obtain ⟨n, hln⟩ : ∃ n, (l ++ x :: r).length = n := ⟨_, rfl⟩
  rcases h.row with ⟨_, e0⟩ | ⟨g, pre, post, cap, erv, hh, hp, h1, h2⟩
  · simp at e0
  rw [hln] at hn erv hp h1
  obtain ⟨o, ho⟩ : ∃ o, pre.length = o := ⟨_, rfl⟩
  rw [ho] at erv
  have hnl : n = l.length + r.length + 1 := by rw [← hln]; simp; omega
  have hcm : cap ≤ 9223372036854775807 := by simp only [maxLen] at h2; exact h2
  have hgb : rv.ownBlock = some g := by rw [erv]; rfl
  obtain ⟨b0, b1, b2, b3⟩ := box4 h.box
  have f3 := Lib.frozen_of_heap h.box 3
  have hqg := h.q_ne_r hgb
  rw [erv] at b3
  obtain ⟨d, hd⟩ : ∃ d : Int, (n : Int) / 2 = d := ⟨_, rfl⟩
  have e1 : IntKind.i64.wrap d = d := IntWalk.i64_in _ (by omega)
  have e2 : IntKind.i64.wrap ((i : Int) + 1) = (i : Int) + 1 := IntWalk.i64_in _ (by omega)
  by_cases hA : d ≤ (i : Int)
  · have HD : Hid (Calls Try.prog 48 #[.slice (some ⟨g, o, none⟩) n cap, .int .i64 (i : Int), .int .i64 ((i : Int) + 1)] W fun e w' => e = .returned (.slice (some ⟨g, o, none⟩) (n - 1) cap) ∧ w'.heap[g]? = some (.cells (pre ++ flatF fv (l ++ r) ++ (zr ++ post)).toArray 73) ∧ Chg (fun k => k = g) W w') := by
      have := delete_any (m := n - 1) (cap := cap) hh (by omega) hi ho (by omega) h2
      rw [show n - 1 + 1 = n by omega] at this
      exact this
    have HO : Hid (∀ w4 W5, w4.heap[g]? = some (.cells (pre ++ flatF fv (l ++ r) ++ (zr ++ post)).toArray 73) → Chg (fun k => k = g) W w4 → w4.setCell ⟨q, 3, none⟩ (.slice (some ⟨g, o, none⟩) (n - 1) cap) = W5 → CutP W q S rv l r W5) := fun w4 W5 h4 hC h5 =>
      cut_post h hgb hC (.inr ⟨g, pre, zr ++ post, cap, by rw [List.length_append, show l.length + r.length = n - 1 by omega, ho], h4, by
        rw [List.length_append, hp, show zr.length = 5 from rfl, List.length_append, show l.length + r.length = n - 1 by omega, Nat.sub_mul, Nat.sub_mul]; omega, by rw [List.length_append]; omega, h2⟩) rfl h5
    have HB : Hid (∀ w4, Chg (fun k => k = g) W w4 → w4.heap[q]? = some (.cells #[.int .i64 (S.nodes : Int), .int .i64 (S.most : Int), .int .i64 (S.next : Int), rv] 68)) := fun w4 hC => hC.block h.box hqg
    obtain ⟨n1, hn1⟩ : ∃ n1, n - 1 = n1 := ⟨_, rfl⟩
    rw [hn1] at HD HO
    clear h hh hp h1 h2 hi hln hnl hcm hgb erv e1 ho hn1
    go_enter Try.func29, Try.ntmps29
    go_wp2_with fail
    refine HD.out.mono ?_
    rintro e w4 ⟨rfl, h4, hC⟩
    have k3 : w4.cell? ⟨q, 3, none⟩ = some rv := (box4 (HB.out w4 hC)).2.2.2
    have kf := Lib.frozen_of_heap (HB.out w4 hC) 3
    have H4 : Hid (w4.heap[g]? = some (.cells (pre ++ flatF fv (l ++ r) ++ (zr ++ post)).toArray 73) ∧ Chg (fun k => k = g) W w4) := ⟨h4, hC⟩
    clear h4 hC HD
    go_wp2_with fail
    refine bodyPost_ret (v := .tuple #[]) (by simp [results, Try.results29, go_sem]) rfl ?_
    exact ⟨rfl, HO.out _ _ H4.out.1 H4.out.2 rfl⟩
  · have hA' : ¬ d ≤ (i : Int) := hA
    have hn2 : 2 ≤ n := by omega
    have hin : i + 1 < n := by omega
    obtain ⟨w3, w4, u0, u1, u2, u3, u4, hcp, hC3, hh3, hs4, hh4, hC4⟩ := cut_mem (cap := cap) (i := i) hh hi ho
    have hbx3 : w3.heap[q]? = some (.cells #[.int .i64 (S.nodes : Int), .int .i64 (S.most : Int), .int .i64 (S.next : Int), rv] 68) := hC3.block h.box hqg
    have hbx4 : w4.heap[q]? = some (.cells #[.int .i64 (S.nodes : Int), .int .i64 (S.most : Int), .int .i64 (S.next : Int), rv] 68) := hC4.block h.box hqg
    have c3 : w3.cell? ⟨q, 3, none⟩ = some (.slice (some ⟨g, o, none⟩) n cap) := by rw [(box4 hbx3).2.2.2, erv]
    have d3 : w4.cell? ⟨q, 3, none⟩ = some (.slice (some ⟨g, o, none⟩) n cap) := by rw [(box4 hbx4).2.2.2, erv]
    have df := Lib.frozen_of_heap hbx4 3
    have g0 : w3.cell? ⟨g, o, none⟩ = some u0 := by rw [Lib.cell_of_heap hh3, ← ho]; simp
    have g1 : w3.cell? ⟨g, o + 1, none⟩ = some u1 := by rw [Lib.cell_of_heap hh3, ← ho]; simp
    have g2 : w3.cell? ⟨g, o + 2, none⟩ = some u2 := by rw [Lib.cell_of_heap hh3, ← ho]; simp
    have g3 : w3.cell? ⟨g, o + 3, none⟩ = some u3 := by rw [Lib.cell_of_heap hh3, ← ho]; simp
    have g4 : w3.cell? ⟨g, o + 4, none⟩ = some u4 := by rw [Lib.cell_of_heap hh3, ← ho]; simp
    have z0 := Lib.frozen_of_heap hh3 o
    have z1 := Lib.frozen_of_heap hh3 (o + 1)
    have z2 := Lib.frozen_of_heap hh3 (o + 2)
    have z3 := Lib.frozen_of_heap hh3 (o + 3)
    have z4 := Lib.frozen_of_heap hh3 (o + 4)
    have HO : Hid (∀ W5, w4.setCell ⟨q, 3, none⟩ (.slice (some ⟨g, o + 5, none⟩) (n - 1) (cap - 1)) = W5 → CutP W q S rv l r W5) := fun W5 h5 =>
      cut_post h hgb hC4 (.inr ⟨g, pre ++ zr, post, cap - 1, by rw [List.length_append, List.length_append, show l.length + r.length = n - 1 by omega, ho]; rfl, hh4, by
        rw [hp, List.length_append, show l.length + r.length = n - 1 by omega]; congr 1; omega, by rw [List.length_append]; omega, by simp only [maxLen] at h2 ⊢; omega⟩) rfl h5
    have m1 : (0 : Int) ≤ (i : Int) + 1 := by omega
    have m2 : (1 : Int) ≤ (i : Int) + 1 := by omega
    have m3 : (i : Int) + 1 ≤ (cap : Int) := by omega
    have m4 : (i : Int) ≤ (cap : Int) := by omega
    have m5 : i + 1 ≤ cap := by omega
    have m6 : i ≤ cap := by omega
    have m7 : 1 ≤ n := by omega
    have m8 : n ≤ cap := by omega
    have m9 : ¬ cap - 1 = 0 := by omega
    have m15 : ¬ cap = 1 := by omega
    have m10 : 0 < n := by omega
    have m11 : (1 : Int) ≤ (n : Int) := by omega
    have m12 : (n : Int) ≤ (cap : Int) := by omega
    have m13 : 1 ≤ cap := by omega
    have m14 : (0 : Int) < (n : Int) := by omega
    clear h hh hp h1 h2 hi hln hnl hgb erv e1 ho hC3 hh3 hh4 hC4 hbx3 hbx4
    go_enter Try.func29, Try.ntmps29
    go_wp2_with fail
    refine wp_region_held_drew (S := (fun w => w.cell? ⟨q, 3, none⟩ = some (.slice (some ⟨g, o, none⟩) n cap))) (by kernel_rfl) ?hS1 (fun hHeld => ?rest1)
    case hS1 => exact b3
    refine takeD (i := 0) (d := some 23) (v := ?vT2) rfl rfl (by kernel_rfl) (by kernel_rfl) (by kernel_rfl) (fun _ _ _ h => h) (Or.inl ⟨by rfl, ?hyT2⟩) (by assumption) ?rstT2
    case hyT2 => (intro w hSw; (try dsimp only at hSw); go_simp; (try with_reducible rfl))
    try simp only [Act.put, List.setIfInBounds_toArray, List.set_cons_zero, List.set_cons_succ]
    refine takeD (i := 1) (d := some 24) (v := ?vT3) rfl rfl (by kernel_rfl) (by kernel_rfl) (by kernel_rfl) (fun _ _ _ h => h) (Or.inl ⟨by rfl, ?hyT3⟩) (by assumption) ?rstT3
    case hyT3 => (intro w hSw; (try dsimp only at hSw); go_simp; (try with_reducible rfl))
    try simp only [Act.put, List.setIfInBounds_toArray, List.set_cons_zero, List.set_cons_succ]
    refine takeD (i := 2) (d := some 25) (v := ?vT4) rfl rfl (by kernel_rfl) (by kernel_rfl) (by kernel_rfl) (fun _ _ _ h => h) (Or.inl ⟨by rfl, ?hyT4⟩) (by assumption) ?rstT4
    case hyT4 => (intro w hSw; (try dsimp only at hSw); go_simp; (try with_reducible rfl))
    try simp only [Act.put, List.setIfInBounds_toArray, List.set_cons_zero, List.set_cons_succ]
    refine takeD (i := 3) (d := some 26) (v := ?vT5) rfl rfl (by kernel_rfl) (by kernel_rfl) (by kernel_rfl) (fun _ _ _ h => h) (Or.inl ⟨by rfl, ?hyT5⟩) (by assumption) ?rstT5
    case hyT5 => (intro w hSw; (try dsimp only at hSw); go_simp; (try with_reducible rfl))
    try simp only [Act.put, List.setIfInBounds_toArray, List.set_cons_zero, List.set_cons_succ]
    refine takeD (i := 4) (d := some 27) (v := ?vT6) rfl rfl (by kernel_rfl) (by kernel_rfl) (by kernel_rfl) (fun _ _ _ h => h) (Or.inl ⟨by rfl, ?hyT6⟩) (by assumption) ?rstT6
    case hyT6 => (intro w hSw; (try dsimp only at hSw); go_simp; (try with_reducible rfl))
    try simp only [Act.put, List.setIfInBounds_toArray, List.set_cons_zero, List.set_cons_succ]
    refine takeD (i := 5) (d := some 28) (v := ?vT7) rfl rfl (by kernel_rfl) (by kernel_rfl) (by kernel_rfl) (fun _ _ _ h => h) (Or.inl ⟨by rfl, ?hyT7⟩) (by assumption) ?rstT7
    case hyT7 => (intro w hSw; (try dsimp only at hSw); go_simp; (try with_reducible rfl))
    try simp only [Act.put, List.setIfInBounds_toArray, List.set_cons_zero, List.set_cons_succ]
    refine takeD (i := 6) (d := some 29) (v := ?vT8) rfl rfl (by kernel_rfl) (by kernel_rfl) (by kernel_rfl) (fun _ _ _ h => h) (Or.inl ⟨by rfl, ?hyT8⟩) (by assumption) ?rstT8
    case hyT8 => (intro w hSw; (try dsimp only at hSw); go_simp; (try with_reducible rfl))
    try simp only [Act.put, List.setIfInBounds_toArray, List.set_cons_zero, List.set_cons_succ]
    refine takeD (i := 7) (d := some 30) (v := ?vT9) rfl rfl (by kernel_rfl) (by kernel_rfl) (by kernel_rfl) (fun _ _ _ h => h) (Or.inl ⟨by rfl, ?hyT9⟩) (by assumption) ?rstT9
    case hyT9 => (intro w hSw; (try dsimp only at hSw); go_simp; (try with_reducible rfl))
    try simp only [Act.put, List.setIfInBounds_toArray, List.set_cons_zero, List.set_cons_succ]
    refine takeD (i := 8) (d := some 31) (v := ?vT10) rfl rfl (by kernel_rfl) (by kernel_rfl) (by kernel_rfl) (fun _ _ _ h => h) (Or.inl ⟨by rfl, ?hyT10⟩) (by assumption) ?rstT10
    case hyT10 => (intro w hSw; (try dsimp only at hSw); go_simp; (try with_reducible rfl))
    try simp only [Act.put, List.setIfInBounds_toArray, List.set_cons_zero, List.set_cons_succ]
    refine takeD (i := 9) (d := some 32) (v := ?vT11) rfl rfl (by kernel_rfl) (by kernel_rfl) (by kernel_rfl) (fun _ _ _ h => h) (Or.inl ⟨by rfl, ?hyT11⟩) (by assumption) ?rstT11
    case hyT11 => (intro w hSw; (try dsimp only at hSw); go_simp; (try with_reducible rfl))
    try simp only [Act.put, List.setIfInBounds_toArray, List.set_cons_zero, List.set_cons_succ]
    refine takeD (i := 10) (d := some 33) (v := ?vT12) rfl rfl (by kernel_rfl) (by kernel_rfl) (by kernel_rfl) (fun _ _ _ h => h) (Or.inl ⟨by rfl, ?hyT12⟩) (by assumption) ?rstT12
    case hyT12 => (intro w hSw; (try dsimp only at hSw); go_simp; (try with_reducible rfl))
    try simp only [Act.put, List.setIfInBounds_toArray, List.set_cons_zero, List.set_cons_succ]
    refine takeD (i := 11) (d := some 34) (v := ?vT13) rfl rfl (by kernel_rfl) (by kernel_rfl) (by kernel_rfl) (fun _ _ _ h => h) (Or.inl ⟨by rfl, ?hyT13⟩) (by assumption) ?rstT13
    case hyT13 => (intro w hSw; (try dsimp only at hSw); go_simp; (try with_reducible rfl))
    try simp only [Act.put, List.setIfInBounds_toArray, List.set_cons_zero, List.set_cons_succ]
    refine takeD (i := 12) (d := some 35) (v := ?vT14) rfl rfl (by kernel_rfl) (by kernel_rfl) (by kernel_rfl) (fun _ _ _ h => h) (Or.inl ⟨by rfl, ?hyT14⟩) (by assumption) ?rstT14
    case hyT14 => (intro w hSw; (try dsimp only at hSw); go_simp; (try with_reducible rfl))
    try simp only [Act.put, List.setIfInBounds_toArray, List.set_cons_zero, List.set_cons_succ]
    refine wpAnyH_ready (rs := [13]) (by kernel_rfl) (by simp) ?_
    refine AllReadyH.cons rfl (fun K hK => ?_) AllReadyH.nil
    rw [if_pos (by rfl)]
    refine wp_copy_hr (.tmp 29) (.tmp 35) 52 52 (some 36) rfl rfl _ _ rfl rfl hcp ?_
    clear hHeld
    refine hK.out _ _ ?hS15 (fun hHeld => ?rest15)
    case hS15 => exact c3
    clear hK K
    try simp only [Act.put, List.setIfInBounds_toArray, List.set_cons_zero, List.set_cons_succ]
    refine wpAnyH_done (by kernel_rfl) ?_ _
    go_wp2_with fail
    refine bodyPost_end (v := .tuple #[]) (by simp [results, Try.results29, go_sem]) rfl ?_
    exact ⟨rfl, HO.out _ rfl⟩
end Go.Proofs.Ytdmhajlhpieedaa
