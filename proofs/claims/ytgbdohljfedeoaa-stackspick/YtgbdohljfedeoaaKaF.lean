import Derived.Test.YtgbdohljfedeoaaKaD
/-! The sentences' own pick; the closure of StacksPick. -/
namespace Go.Proofs.Ytgbdohljfedeoaa
open Go.RowKit Go.Lib
set_option maxRecDepth 100000

theorem pk_fact (x n : Int) (h : 1 ≤ n) : (if x.tmod n < 0 then x.tmod n + n else x.tmod n) = x % n := by
  have h1 := Int.tmod_eq_emod (a := x) (b := n)
  have h2 := Int.emod_nonneg x (show n ≠ 0 by omega)
  have h3 := Int.emod_lt_of_pos x (show 0 < n by omega)
  have h4 : (n.natAbs : Int) = n := by omega
  split at h1 <;> rename_i hc
  · split <;> omega
  · have h5 : x % n ≠ 0 := fun e => hc (.inr (Int.dvd_of_emod_eq_zero e))
    rw [h4] at h1
    split <;> omega
set_option maxHeartbeats 1000000 in
theorem pk_any (x n : Int) (hn : 1 ≤ n) (hn2 : n ≤ 4611686018427387904) (w : World) : Calls Try.prog 8 #[.int .i64 x, .int .i64 n] w fun e w' => e = .returned (.int .i64 (x % n)) ∧ w' = w := by
  have hw := pk_fact x n hn
  have q0 := Int.emod_nonneg x (show n ≠ 0 by omega)
  have q1 := Int.emod_lt_of_pos x (show 0 < n by omega)
  obtain ⟨r, hr⟩ : ∃ r, x.tmod n = r := ⟨_, rfl⟩
  rw [hr] at hw
  obtain ⟨q, hq⟩ : ∃ q, x % n = q := ⟨_, rfl⟩
  rw [hq] at hw q0 q1 ⊢
  have b1 : -n ≤ r := by split at hw <;> omega
  have b2 : r < n := by split at hw <;> omega
  have e0 : IntKind.i64.wrap r = r := IntWalk.i64_in _ (by omega)
  have t2 : (n == 0) = false := beq_eq_false_iff_ne.2 (by omega)
  clear hq
  by_cases h0 : r < 0
  · rw [if_pos h0] at hw
    have e1 : IntKind.i64.wrap (r + n) = r + n := IntWalk.i64_in _ (by omega)
    go_enter Try.func8, Try.ntmps8
    go_wp2_with fail
    go_ret
    exact ⟨by rw [← hw]; rfl, rfl⟩
  · rw [if_neg h0] at hw
    have t3 : decide (r < 0) = false := decide_eq_false h0
    go_enter Try.func8, Try.ntmps8
    go_wp2_with fail
    go_ret
    exact ⟨by rw [← hw]; rfl, rfl⟩

section
variable {α : Type} {f : α → List Value} {k : Nat} {S T : TypeId} {by_ : Nat}
/-- 'append(v, u...)', also of nothing. -/
theorem appendI_all (hK : Kind Try.prog S T k by_) (hf : Lay f k) {w : World} {B : Nat} {v : Value} {l : List α} (h : OwnF f k T w B v l) (hB : B ≤ w.heap.size)
    {b : Option Addr} {m capb : Nat} {ys : List α} (hy : Rw f k w b m capb ys) (hs : (l.length + m) * by_ ≤ 140737488355328) (hs2 : l.length + m ≤ 9223372036854775807) (ty : TypeId) :
    ∃ a' cap' w', (Builtin.append_ #[S, S] ty #[v, .slice b m capb]).run Try.prog w = .ok (.slice a' (l.length + m) cap') w' ∧ OwnF f k T w' B (.slice a' (l.length + m) cap') (l ++ ys) ∧ Below B w w' ∧ Keeps w w' v := by
  by_cases hm : 0 < m
  · obtain ⟨g, cap', w', hr, ho, hb, hk, _⟩ := appendF hK hf h hB hy hm hs hs2 ty
    exact ⟨_, cap', w', hr, ho, hb, hk⟩
  · obtain rfl : m = 0 := by omega
    obtain rfl : ys = [] := List.eq_nil_of_length_eq_zero hy.len
    obtain ⟨i, z, hi, hz, hsz, hby, _⟩ := hK.info
    obtain ⟨a', cap', rfl⟩ := h.shape
    refine ⟨a', cap', w, ?_, by rw [List.append_nil]; exact h, Below.refl _ _, fun _ _ _ => rfl⟩
    rcases h.2 with ⟨e, h0⟩ | ⟨g, cap, cur, e, _, _, hnc, _⟩
    · obtain rfl := List.eq_nil_of_length_eq_zero h0
      simp only [List.length_nil] at e ⊢
      cases e
      cases b <;> simp [Builtin.append_, run_underlying hK.under, sizeOf, typeInfo, hi, Builtin.lenOf, Builtin.firstCells, loadCells, loadCellsFrom]
    · cases e
      cases b <;> simp [Builtin.append_, run_underlying hK.under, sizeOf, typeInfo, hi, Builtin.lenOf, Builtin.firstCells, hnc, storeCells, loadCells, loadCellsFrom]
end

def yesP (by_ rest : Int) (x : Int × Int) : Bool := decide (x.2 % by_ = rest)
set_option maxHeartbeats 2000000 in
/-- The closure: it writes down what it is asked. Bq: its row lies beyond. -/
theorem pick1_any (B B1 B2 Bq : Nat) (by_ rest : Int) (h1 : 1 ≤ by_) (h2 : by_ ≤ 6) (x : Int × Int) (A : List (Int × Int)) (v : Value) (hA : (A.length + 1) * 16 ≤ 140737488355328) (W : World) (h : W.heap[B]? = some (.cells #[v] 22)) (hb1 : W.heap[B1]? = some (.cells #[.int .i64 by_] 3)) (hb2 : W.heap[B2]? = some (.cells #[.int .i64 rest] 3))
    (ho : OwnF idV 2 24 W Bq v A) (hBq : B < Bq) (hB1 : B1 < B) (hB2 : B2 < B) (hqW : Bq ≤ W.heap.size) :
    Calls Try.prog 9 (#[idA x] ++ #[.pointer (some ⟨B, 0, none⟩), .pointer (some ⟨B1, 0, none⟩), .pointer (some ⟨B2, 0, none⟩)]) W fun e W' => e = .returned (.bool (yesP by_ rest x)) ∧ (∃ v', W'.heap[B]? = some (.cells #[v'] 22) ∧ OwnF idV 2 24 W' Bq v' (A ++ [x])) ∧ Chg (fun g => g = B ∨ v.ownBlock = some g) W W' := by
  have hBl := (Array.getElem?_eq_some_iff.1 h).1
  obtain ⟨va, vc, rfl⟩ := ho.shape
  obtain ⟨W1, hW1⟩ : ∃ W1, W.alloc (.cells #[.int .i64 x.1, .int .i64 x.2] 24) = W1 := ⟨_, rfl⟩
  have hz1 : W1.heap.size = W.heap.size + 1 := by rw [← hW1]; simp
  have k1 : Below W.heap.size W W1 := by rw [← hW1]; exact (Below.refl _ _).alloc (Nat.le_refl _) _
  have hx1 : W1.heap[W.heap.size]? = some (.cells #[.int .i64 x.1, .int .i64 x.2] 24) := by rw [← hW1]; exact heap_alloc_new _ _
  have ho1 := ho.below k1
  obtain ⟨g, cap', w2, hr, ho2, hbl, hk, hsz, hat⟩ := appendF_one kindI layI ho1 (by omega) (x.1, x.2) #[.int .i64 x.1, .int .i64 x.2] rfl 24 (by omega) (by omega) 22
  have hBne : ∀ g, (Value.slice va A.length vc).ownBlock = some g → Bq ≤ g := fun g hg => ho1.ge hg
  have b0 := (k1.block _ hBl).trans h
  have b2 : w2.heap[B]? = _ := (hk B (by omega) (fun e => by have := hBne B e; omega)).trans b0
  have hl1 := (Array.getElem?_eq_some_iff.1 hb1).1
  have hl2 := (Array.getElem?_eq_some_iff.1 hb2).1
  have p2 : w2.heap[B1]? = _ := (hk B1 (by omega) (fun e => by have := hBne B1 e; omega)).trans ((k1.block _ hl1).trans hb1)
  have r2 : w2.heap[B2]? = _ := (hk B2 (by omega) (fun e => by have := hBne B2 e; omega)).trans ((k1.block _ hl2).trans hb2)
  have x2 : w2.heap[W.heap.size]? = _ := (hk W.heap.size (by omega) (fun e => by have := ho.lt e; omega)).trans hx1
  have c0 : W1.cell? ⟨B, 0, none⟩ = some (.slice va A.length vc) := by rw [Lib.cell_of_heap b0]; rfl
  have c1 : W1.cell? ⟨W.heap.size, 0, none⟩ = some (.int .i64 x.1) := by rw [Lib.cell_of_heap hx1]; rfl
  have c2 : W1.cell? ⟨W.heap.size, 1, none⟩ = some (.int .i64 x.2) := by rw [Lib.cell_of_heap hx1]; rfl
  have d0 : w2.cell? ⟨B, 0, none⟩ = some (.slice va A.length vc) := by rw [Lib.cell_of_heap b2]; rfl
  have f0 := Lib.frozen_of_heap b2 0
  obtain ⟨w3, hw3⟩ : ∃ w3, w2.setCell ⟨B, 0, none⟩ (.slice (some ⟨g, 0, none⟩) (A.length + 1) cap') = w3 := ⟨_, rfl⟩
  have b3 : w3.heap[B]? = some (.cells #[.slice (some ⟨g, 0, none⟩) (A.length + 1) cap'] 22) := by rw [← hw3]; exact (heap_setCell_same _ B 0 _ _ _ b2).trans (by simp)
  have hC3 : Chg (fun g => g = B) w2 w3 := by rw [← hw3]; exact Chg.set (D := fun g => g = B) (q := B) 0 _ _ rfl
  have p3 := hC3.block p2 (by omega)
  have r3 := hC3.block r2 (by omega)
  have x3 := hC3.block x2 (by omega)
  have lp := (Array.getElem?_eq_some_iff.1 p3).1
  have lr := (Array.getElem?_eq_some_iff.1 r3).1
  have lx := (Array.getElem?_eq_some_iff.1 x3).1
  have e1 : w3.cell? ⟨B1, 0, none⟩ = some (.int .i64 by_) := by rw [Lib.cell_of_heap p3]; rfl
  have e2 : w3.cell? ⟨B2, 0, none⟩ = some (.int .i64 rest) := by rw [Lib.cell_of_heap r3]; rfl
  have e3 : w3.cell? ⟨W.heap.size, 1, none⟩ = some (.int .i64 x.2) := by rw [Lib.cell_of_heap x3]; rfl
  have hgB : Bq ≤ g := by
    rcases hat with e | e
    · exact hBne g e
    · omega
  have ho3 : OwnF idV 2 24 w3 Bq (.slice (some ⟨g, 0, none⟩) (A.length + 1) cap') (A ++ [x]) := hC3.own ho2 (fun k hk => by simp [Value.ownBlock] at hk; omega)
  have hCw : Chg (fun g => g = B ∨ (Value.slice va A.length vc).ownBlock = some g) W w3 := (Chg.of_below k1).trans ((keeps_chg hk (hbl.mono (Nat.zero_le _)) (fun g hg => .inr hg)).trans (hC3.mono (fun g _ e => .inl e)))
  have HP : Hid (∀ W, Calls Try.prog 8 #[.int .i64 x.2, .int .i64 by_] W fun e w' => e = .returned (.int .i64 (x.2 % by_)) ∧ W = w') := fun W => (pk_any x.2 by_ h1 (by omega) W).mono fun e w' h => ⟨h.1, h.2.symm⟩
  have HY : Hid ((x.2 % by_ == rest) = yesP by_ rest x) := by unfold yesP; exact Bool.beq_eq_decide_eq _ _
  have hcur : Below w3.heap.size w3 w3 := Below.refl _ _
  clear hb1 hb2 h
  show Calls Try.prog 9 #[.agg #[.int .i64 x.1, .int .i64 x.2], .pointer (some ⟨B, 0, none⟩), .pointer (some ⟨B1, 0, none⟩), .pointer (some ⟨B2, 0, none⟩)] W _
  go_enter Try.func9, Try.ntmps9
  rw [hz1] at hr
  go_wp2_with (at_builtin; refine wpList_append_hr rfl _ _ 22 rfl _ _ rfl rfl hr ?_)
  try rw [hw3]
  refine wp_region_held_drew (S := (fun W => ∀ p : Addr, p.block < w3.heap.size → W.cell? p = w3.cell? p)) (by kernel_rfl) ?hS1 (fun hHeld => ?rest1)
  case hS1 => (intro p hp; refine Below.cell (B := w3.heap.size) ?_ hp; (repeat (first | with_reducible exact hcur | (with_reducible refine Below.drew ?_))))
  refine takeD (i := 0) (d := some 10) (v := ?vT2) rfl rfl (by kernel_rfl) (by kernel_rfl) (by kernel_rfl) (fun _ _ _ h => h) (Or.inl ⟨by rfl, ?hyT2⟩) (by assumption) ?rstT2
  case hyT2 => (intro w hSw; (try dsimp only at hSw); go_simp; (try with_reducible rfl))
  try simp only [Act.put, List.setIfInBounds_toArray, List.set_cons_zero, List.set_cons_succ]
  refine takeD (i := 1) (d := some 11) (v := ?vT3) rfl rfl (by kernel_rfl) (by kernel_rfl) (by kernel_rfl) (fun _ _ _ h => h) (Or.inl ⟨by rfl, ?hyT3⟩) (by assumption) ?rstT3
  case hyT3 => (intro w hSw; (try dsimp only at hSw); go_simp; (try with_reducible rfl))
  try simp only [Act.put, List.setIfInBounds_toArray, List.set_cons_zero, List.set_cons_succ]
  refine takeD (i := 2) (d := some 12) (v := ?vT4) rfl rfl (by kernel_rfl) (by kernel_rfl) (by kernel_rfl) (fun _ _ _ h => h) (Or.inl ⟨by rfl, ?hyT4⟩) (by assumption) ?rstT4
  case hyT4 => (intro w hSw; (try dsimp only at hSw); go_simp; (try with_reducible rfl))
  try simp only [Act.put, List.setIfInBounds_toArray, List.set_cons_zero, List.set_cons_succ]
  refine takeD (i := 4) (d := some 14) (v := ?vT5) rfl rfl (by kernel_rfl) (by kernel_rfl) (by kernel_rfl) (fun _ _ _ h => h) (Or.inl ⟨by rfl, ?hyT5⟩) (by assumption) ?rstT5
  case hyT5 => (intro w hSw; (try dsimp only at hSw); go_simp; (try with_reducible rfl))
  try simp only [Act.put, List.setIfInBounds_toArray, List.set_cons_zero, List.set_cons_succ]
  refine wpAnyH_ready (rs := [3]) (by kernel_rfl) (by simp) ?_
  refine AllReadyH.cons rfl (fun K hK => ?_) AllReadyH.nil
  go_simp
  refine (HP.out _).mono ?_
  rintro e2 w4 ⟨rfl, rfl⟩
  clear hHeld
  refine hK.out _ _ ?hS6 (fun hHeld => ?rest6)
  case hS6 => (intro p hp; refine Below.cell (B := w3.heap.size) ?_ hp; (repeat (first | with_reducible exact hcur | (with_reducible refine Below.drew ?_))))
  clear hK K
  try simp only [Act.put, List.setIfInBounds_toArray, List.set_cons_zero, List.set_cons_succ]
  refine takeD (i := 5) (d := some 15) (v := ?vT7) rfl rfl (by kernel_rfl) (by kernel_rfl) (by kernel_rfl) (fun _ _ _ h => h) (Or.inl ⟨by rfl, ?hyT7⟩) (by assumption) ?rstT7
  case hyT7 => (intro w hSw; (try dsimp only at hSw); go_simp; (try with_reducible rfl))
  try simp only [Act.put, List.setIfInBounds_toArray, List.set_cons_zero, List.set_cons_succ]
  refine takeD (i := 6) (d := some 5) (v := ?vT8) rfl rfl (by kernel_rfl) (by kernel_rfl) (by kernel_rfl) (fun _ _ _ h => h) (Or.inl ⟨by rfl, ?hyT8⟩) (by assumption) ?rstT8
  case hyT8 => (intro w hSw; (try dsimp only at hSw); go_simp; (try with_reducible rfl))
  try simp only [Act.put, List.setIfInBounds_toArray, List.set_cons_zero, List.set_cons_succ]
  refine wpAnyH_done (by kernel_rfl) ?_ _
  go_wp2_with fail
  go_ret
  exact ⟨by rw [← HY.out]; rfl, ⟨_, b3, ho3.below (Below.refl _ _).drew⟩, hCw.trans (Chg.of_below (Below.refl _ _).drew)⟩
end Go.Proofs.Ytgbdohljfedeoaa
