import Derived.Test.YtkdhcokefnffaaaDoorMbA
import Derived.Test.YtkdhcokefnffaaaDoorMaV
import Derived.Test.YtkdhcokefnffaaaDoorOpAG
/-! The reader's amount, kind, target, text. -/
namespace Go.Proofs.YtkdhcokefnffaaaDoor
open Go.RowKit Go.Lib Sp
set_option maxRecDepth 100000

theorem Bar.chg {W W' : World} {D : Nat → Prop} (h : Bar W) (hC : Chg D W W') (hD : ¬ D 0) : Bar W' := by
  obtain ⟨t, fr, hg⟩ := h.lies
  exact ⟨t, fr, hC.block hg hD⟩
theorem bar_ne {W : World} (h : Bar W) {g : Nat} {a : Option Addr} {n c : Nat} {v1 : Value} {T : TypeId} (hg : W.heap[g]? = some (.cells #[.slice a n c, v1] T)) : 0 ≠ g := by
  rintro rfl
  obtain ⟨t, fr, h2⟩ := h.lies
  rw [hg] at h2
  simp [barCells] at h2

theorem set2_alloc {W : World} {b : Nat} {T : TypeId} {u0 u1 : Value} (h : W.heap[b]? = some (.cells #[u0, u1] T)) (v0 v1 : Value) (o : Obj) : (((W.setCell ⟨b, 0, none⟩ v0).setCell ⟨b, 1, none⟩ v1).alloc o).heap[b]? = some (.cells #[v0, v1] T) ∧ Chg (fun g => g = b) W (((W.setCell ⟨b, 0, none⟩ v0).setCell ⟨b, 1, none⟩ v1).alloc o) := by
  have h0 : (W.setCell ⟨b, 0, none⟩ v0).heap[b]? = some (.cells #[v0, u1] T) := heap_setCell_cells h 0 v0
  have h1 : ((W.setCell ⟨b, 0, none⟩ v0).setCell ⟨b, 1, none⟩ v1).heap[b]? = some (.cells #[v0, v1] T) := heap_setCell_cells h0 1 v1
  have hs : ∀ (i : Nat) (X : World) (v : Value), Chg (fun g => g = b) X (X.setCell ⟨b, i, none⟩ v) := fun i X v => Chg.set (D := fun g => g = b) (q := b) i X v rfl
  exact ⟨(Below.heap_alloc _ _ _ (Array.getElem?_eq_some_iff.1 h1).1).trans h1, ((hs 0 _ _).trans (hs 1 _ _)).trans (Chg.alloc _ _ _)⟩

set_option maxHeartbeats 2000000 in
theorem amount_yes {w : World} {p n cap i x : Nat} {a : Option Addr} {bs : List Nat} (h : Rdr w p a n cap bs i) (hA : Agr (bs.drop i) (encP x)) (most none_ many : Int) (h1 : 1 ≤ x) (h2 : (x : Int) ≤ most) (hx : x < 268435456) (hq : i + (encP x).length ≤ n) :
    Calls Tryd.prog 56 #[.pointer (some ⟨p, 0, none⟩), .int .i64 most, .int .i64 none_, .int .i64 many] w fun e w' => e = .returned (.int .i64 x) ∧ Rdr w' p a n cap bs (i + (encP x).length) ∧ Chg (fun g => g = p) w w' := by
  obtain ⟨c0, c1⟩ := box2 h.box
  have HB := between_yes h hA 1 268435455 none_ (by omega) (by omega) hx hq
  have d : decide (most < (x : Int)) = false := decide_eq_false (by omega)
  clear h hA hq
  go_enter Tryd.func56, Tryd.ntmps56
  go_wp2_with fail
  refine HB.mono ?_
  rintro e w1 ⟨rfl, hR, hC⟩
  clear HB
  go_wp2_with fail
  refine (refuse_no _ _ _ _).mono ?_
  rintro e wx ⟨rfl, rfl⟩
  go_wp2_with fail
  go_ret
  exact ⟨rfl, hR, hC⟩
set_option maxHeartbeats 2000000 in
theorem amount_cut {w : World} {p n cap i x : Nat} {a : Option Addr} {bs : List Nat} (h : Rdr w p a n cap bs i) (hA : Agr (bs.drop i) (encP x)) (most none_ many : Int) (h1 : 1 ≤ x) (hx : x < 268435456) (hq : n < i + (encP x).length) :
    Calls Tryd.prog 56 #[.pointer (some ⟨p, 0, none⟩), .int .i64 most, .int .i64 none_, .int .i64 many] w fun e w' => e = thrown n 102 ∧ Chg (fun g => g = p) w w' := by
  obtain ⟨c0, c1⟩ := box2 h.box
  have HB := between_cut h hA 1 268435455 none_ (by omega) (by omega) hx hq
  clear h hA hq
  go_enter Tryd.func56, Tryd.ntmps56
  go_wp2_with fail
  refine HB.mono ?_
  rintro e w1 ⟨rfl, hC⟩
  clear HB
  unfold thrown
  try dsimp only
  go_wp2_with fail
  exact ⟨rfl, rfl, hC⟩

set_option maxHeartbeats 2000000 in
theorem kind_yes {w : World} {p n cap i x : Nat} {a : Option Addr} {bs : List Nat} (h : Rdr w p a n cap bs i) (hA : Agr (bs.drop i) (encP x)) (hx : x = 1 ∨ x = 2 ∨ x = 4) (hq : i + (encP x).length ≤ n) :
    Calls Tryd.prog 38 #[.pointer (some ⟨p, 0, none⟩)] w fun e w' => e = .returned (.int .i64 x) ∧ Rdr w' p a n cap bs (i + (encP x).length) ∧ Chg (fun g => g = p) w w' := by
  obtain ⟨c0, c1⟩ := box2 h.box
  have HB := between_yes h hA 1 4 40 (by omega) (by omega) (by omega) hq
  have d : ((x : Int) == 3) = false := beq_eq_false_iff_ne.2 (by omega)
  have e0 : IntKind.i64.wrap (x : Int) = (x : Int) := IntWalk.i64_in _ (by omega)
  clear h hA hq
  go_enter Tryd.func38, Tryd.ntmps38
  go_wp2_with fail
  refine HB.mono ?_
  rintro e w1 ⟨rfl, hR, hC⟩
  clear HB
  go_wp2_with fail
  refine (refuse_no _ _ _ _).mono ?_
  rintro e wx ⟨rfl, rfl⟩
  go_wp2_with fail
  go_ret
  exact ⟨rfl, hR, hC⟩
set_option maxHeartbeats 2000000 in
theorem kind_cut {w : World} {p n cap i x : Nat} {a : Option Addr} {bs : List Nat} (h : Rdr w p a n cap bs i) (hA : Agr (bs.drop i) (encP x)) (hx : x = 1 ∨ x = 2 ∨ x = 4) (hq : n < i + (encP x).length) :
    Calls Tryd.prog 38 #[.pointer (some ⟨p, 0, none⟩)] w fun e w' => e = thrown n 102 ∧ Chg (fun g => g = p) w w' := by
  obtain ⟨c0, c1⟩ := box2 h.box
  have HB := between_cut h hA 1 4 40 (by omega) (by omega) (by omega) hq
  clear h hA hq
  go_enter Tryd.func38, Tryd.ntmps38
  go_wp2_with fail
  refine HB.mono ?_
  rintro e w1 ⟨rfl, hC⟩
  clear HB
  unfold thrown
  try dsimp only
  go_wp2_with fail
  exact ⟨rfl, rfl, hC⟩

set_option maxHeartbeats 2000000 in
theorem target_yes {w : World} {p n cap i x y : Nat} {a : Option Addr} {bs : List Nat} (h : Rdr w p a n cap bs i) (hA : Agr (bs.drop i) (encP x ++ encP y)) (c m : Int) (hx : 1 ≤ x ∧ x ≤ 8) (hy : 1 ≤ y ∧ y ≤ 1024) (hne : ¬ ((x : Int) = c ∧ (y : Int) = m)) (hra : ∀ g, a = some g → g.block ≠ w.heap.size + 1) (hq : i + ((encP x).length + (encP y).length) ≤ n) :
    Calls Tryd.prog 41 #[.pointer (some ⟨p, 0, none⟩), .agg #[.int .i64 c, .int .i64 m]] w fun e w' => e = .returned (.agg #[.int .i64 x, .int .i64 y]) ∧ Rdr w' p a n cap bs (i + ((encP x).length + (encP y).length)) ∧ Chg (fun g => g = p) w w' := by
  obtain ⟨wa, ewa⟩ : ∃ W, (w.alloc (.cells #[.int .i64 c, .int .i64 m] 29)).alloc (.cells #[.int .i64 0, .int .i64 0] 29) = W := ⟨_, rfl⟩
  have hba : Below w.heap.size w wa := ewa ▸ ((Below.refl _ _).alloc (Nat.le_refl _) _).alloc (by simp) _
  have hO : wa.heap[w.heap.size]? = some (.cells #[.int .i64 c, .int .i64 m] 29) := by
    rw [← ewa, Below.heap_alloc _ _ _ (by simp)]
    exact heap_alloc_new _ _
  have hZ : wa.heap[w.heap.size + 1]? = some (.cells #[.int .i64 0, .int .i64 0] 29) := by
    rw [← ewa]
    have := heap_alloc_new (w.alloc (.cells #[.int .i64 c, .int .i64 m] 29)) (.cells #[.int .i64 0, .int .i64 0] 29)
    rwa [World.size_alloc] at this
  have hpl := h.lt
  have ha := h.chg (D := fun _ => False) (Chg.of_below hba) (fun h => h) (fun _ _ h => h)
  have HI := run_eqID
  have HG : Tryd.prog.eqGuardType Tryd.prog.depth 29 = false := by kernel_rfl
  have HB := between_yes ha hA.fst 1 8 63 (by omega) (by omega) (by omega) (by omega)
  have hA2 := hA.next
  clear h hA ha
  go_enter Tryd.func41, Tryd.ntmps41
  go_wp2_with fail
  refine HB.mono ?_
  rintro e w1 ⟨rfl, hR, hC⟩
  clear HB
  obtain ⟨c0, c1⟩ := box2 hR.box
  have HB := between_yes hR hA2 1 1024 63 (by omega) (by omega) (by omega) (by omega)
  clear hR hA2
  go_wp2_with fail
  refine HB.mono ?_
  rintro e w2 ⟨rfl, hR, hC2⟩
  clear HB c0 c1
  have hO2 := hC2.block (hC.block hO (by omega)) (by omega)
  have hZ2 := hC2.block (hC.block hZ (by omega)) (by omega)
  have hlo := (Array.getElem?_eq_some_iff.1 hO2).1
  have hlz := (Array.getElem?_eq_some_iff.1 hZ2).1
  obtain ⟨o0, o1⟩ := box2 hO2
  obtain ⟨z0, z1⟩ := box2 hZ2
  have FZ : ∀ i, w2.frozen? ⟨w.heap.size + 1, i, none⟩ = false := fun i => Lib.frozen_of_heap hZ2 i
  have HX : Hid (Chg (fun g => g = p) w w2 ∧ Rdr w2 p a n cap bs (i + ((encP x).length + (encP y).length)) ∧ w2.heap[w.heap.size + 1]? = some (.cells #[.int .i64 0, .int .i64 0] 29)) := ⟨(Chg.of_below hba).trans (hC.trans hC2), by rw [← Nat.add_assoc]; exact hR, hZ2⟩
  clear hC hC2 hR hx hy hq hO hZ hO2 hZ2 hba
  have d : (((x : Int) == c) && ((y : Int) == m)) = false := by
    cases h1 : ((x : Int) == c) <;> cases h2 : ((y : Int) == m) <;> simp_all
  by_cases hd : (x : Int) = c
  · have d1 : ((x : Int) == c) = true := by simp [hd]
    have d2 : ((y : Int) == m) = false := beq_eq_false_iff_ne.2 (fun e => hne ⟨hd, e⟩)
    clear d hne hd
    go_wp2_with fail
    refine (refuse_no _ _ _ _).mono ?_
    rintro e wx ⟨rfl, rfl⟩
    go_wp2_with fail
    obtain ⟨hC, hR, hZ2⟩ := HX.out
    obtain ⟨hx, hCx⟩ := set2_alloc hZ2 (.int .i64 (x : Int)) (.int .i64 (y : Int)) (.cells #[.int .i64 (x : Int), .int .i64 (y : Int)] 29)
    clear o0 o1 z0 z1 FZ
    revert hx hCx
    generalize World.alloc (World.setCell _ ⟨w.heap.size + 1, 1, none⟩ (.int .i64 (y : Int))) _ = w9
    intro hx hCx
    obtain ⟨z0, z1⟩ := box2 hx
    refine bodyPost_ret (v := .agg #[.int .i64 x, .int .i64 y]) (by simp [results, Tryd.results41, go_sem, z0, z1]) rfl ?_
    exact ⟨rfl, hR.chg hCx (by omega) hra, (hC.mono (E := fun g => g = p ∨ w.heap.size ≤ g) (fun _ _ e => .inl e)).trans (hCx.mono (fun _ _ e => .inr (by omega))) |>.mono (fun g hg e => by omega)⟩
  · have d1 : ((x : Int) == c) = false := beq_eq_false_iff_ne.2 hd
    clear d hne hd
    go_wp2_with fail
    refine (refuse_no _ _ _ _).mono ?_
    rintro e wx ⟨rfl, rfl⟩
    go_wp2_with fail
    obtain ⟨hC, hR, hZ2⟩ := HX.out
    obtain ⟨hx, hCx⟩ := set2_alloc hZ2 (.int .i64 (x : Int)) (.int .i64 (y : Int)) (.cells #[.int .i64 (x : Int), .int .i64 (y : Int)] 29)
    clear o0 o1 z0 z1 FZ
    revert hx hCx
    generalize World.alloc (World.setCell _ ⟨w.heap.size + 1, 1, none⟩ (.int .i64 (y : Int))) _ = w9
    intro hx hCx
    obtain ⟨z0, z1⟩ := box2 hx
    refine bodyPost_ret (v := .agg #[.int .i64 x, .int .i64 y]) (by simp [results, Tryd.results41, go_sem, z0, z1]) rfl ?_
    exact ⟨rfl, hR.chg hCx (by omega) hra, (hC.mono (E := fun g => g = p ∨ w.heap.size ≤ g) (fun _ _ e => .inl e)).trans (hCx.mono (fun _ _ e => .inr (by omega))) |>.mono (fun g hg e => by omega)⟩
set_option maxHeartbeats 2000000 in
theorem target_cut {w : World} {p n cap i x y : Nat} {a : Option Addr} {bs : List Nat} (h : Rdr w p a n cap bs i) (hA : Agr (bs.drop i) (encP x ++ encP y)) (c m : Int) (hx : 1 ≤ x ∧ x ≤ 8) (hy : 1 ≤ y ∧ y ≤ 1024) (hq : n < i + ((encP x).length + (encP y).length)) :
    Calls Tryd.prog 41 #[.pointer (some ⟨p, 0, none⟩), .agg #[.int .i64 c, .int .i64 m]] w fun e w' => e = thrown n 102 ∧ Chg (fun g => g = p) w w' := by
  obtain ⟨wa, ewa⟩ : ∃ W, (w.alloc (.cells #[.int .i64 c, .int .i64 m] 29)).alloc (.cells #[.int .i64 0, .int .i64 0] 29) = W := ⟨_, rfl⟩
  have hba : Below w.heap.size w wa := ewa ▸ ((Below.refl _ _).alloc (Nat.le_refl _) _).alloc (by simp) _
  have hO : wa.heap[w.heap.size]? = some (.cells #[.int .i64 c, .int .i64 m] 29) := by
    rw [← ewa, Below.heap_alloc _ _ _ (by simp)]
    exact heap_alloc_new _ _
  have hZ : wa.heap[w.heap.size + 1]? = some (.cells #[.int .i64 0, .int .i64 0] 29) := by
    rw [← ewa]
    have := heap_alloc_new (w.alloc (.cells #[.int .i64 c, .int .i64 m] 29)) (.cells #[.int .i64 0, .int .i64 0] 29)
    rwa [World.size_alloc] at this
  have hpl := h.lt
  have ha := h.chg (D := fun _ => False) (Chg.of_below hba) (fun h => h) (fun _ _ h => h)
  rcases Nat.lt_or_ge n (i + (encP x).length) with h1 | h1
  · have HB := between_cut ha hA.fst 1 8 63 (by omega) (by omega) (by omega) h1
    clear h hA ha
    go_enter Tryd.func41, Tryd.ntmps41
    go_wp2_with fail
    refine HB.mono ?_
    rintro e w1 ⟨rfl, hC⟩
    clear HB
    unfold thrown
    try dsimp only
    go_wp2_with fail
    exact ⟨rfl, rfl, (Chg.of_below hba).trans hC⟩
  · have HB := between_yes ha hA.fst 1 8 63 (by omega) (by omega) (by omega) h1
    have hA2 := hA.next
    clear h hA ha
    go_enter Tryd.func41, Tryd.ntmps41
    go_wp2_with fail
    refine HB.mono ?_
    rintro e w1 ⟨rfl, hR, hC⟩
    clear HB
    obtain ⟨c0, c1⟩ := box2 hR.box
    have HB := between_cut hR hA2 1 1024 63 (by omega) (by omega) (by omega) (by omega)
    clear hR hA2
    go_wp2_with fail
    refine HB.mono ?_
    rintro e w2 ⟨rfl, hC2⟩
    clear HB c0 c1
    unfold thrown
    try dsimp only
    go_wp2_with fail
    exact ⟨rfl, rfl, (Chg.of_below hba).trans (hC.trans hC2)⟩

set_option maxHeartbeats 2000000 in
theorem text_yes {w : World} {p n cap i : Nat} {a : Option Addr} {bs : List Nat} (h : Rdr w p a n cap bs i) {S : List Nat} (hA : Agr (bs.drop i) (encP S.length ++ S)) (hS : 1 ≤ S.length ∧ S.length ≤ 1024) (r room : Int) (hc : check (strB S) = (r, 0, 0)) (hr : r ≤ 256) (hr2 : r ≤ room) (hw : Bar w) (hq : i + ((encP S.length).length + S.length) ≤ n) :
    Calls Tryd.prog 39 #[.pointer (some ⟨p, 0, none⟩), .int .i64 room] w fun e w' => e = .returned (.string (strB S)) ∧ Rdr w' p a n cap bs (i + ((encP S.length).length + S.length)) ∧ Chg (fun g => g = p) w w' := by
  have hbar := bar_ne hw h.box
  have HB := amount_yes h hA.fst 1024 15 14 hS.1 (by omega) (by omega) (by omega)
  have hA2 := hA.next
  have d1 : decide ((256 : Int) < r) = false := decide_eq_false (by omega)
  have d2 : decide (room < r) = false := decide_eq_false (by omega)
  clear h hA hr hr2
  go_enter Tryd.func39, Tryd.ntmps39
  go_wp2_with fail
  refine HB.mono ?_
  rintro e w1 ⟨rfl, hR, hC⟩
  clear HB
  obtain ⟨c0, c1⟩ := box2 hR.box
  obtain ⟨g, off, ha, hg, _⟩ := hR.row.cells (by omega)
  subst ha
  have HT := take_ok hR S.length (by omega) (by omega)
  clear hR
  go_wp2_with fail
  refine HT.mono ?_
  rintro e w2 ⟨rfl, hR, hC2⟩
  clear HT c0 c1
  have hSb : (bs.drop (i + (encP S.length).length)).take S.length = S := by
    have hl := hR.row.len
    refine List.ext_getElem? fun j => ?_
    rw [List.getElem?_take]
    by_cases hj : j < S.length
    · rw [if_pos hj]
      have hy : S[j]? = some S[j] := List.getElem?_eq_getElem hj
      rw [hy]
      exact hA2 j _ hy (by rw [List.length_drop]; omega)
    · rw [if_neg hj, List.getElem?_eq_none (by omega)]
  have hb256 := hR.byte
  have hrw := (hR.row.drop (i + (encP S.length).length) (by omega)).take S.length (by omega)
  rw [hSb, Nat.mul_one] at hrw
  have hcv := conv_bytes hrw (by omega) (fun x hx => hb256 x (by rw [← hSb] at hx; exact List.mem_of_mem_drop (List.mem_of_mem_take hx)))
  have hw2 : Bar w2 := hw.chg (hC.trans hC2) hbar
  obtain ⟨t, fr, hgb⟩ := hw2.lies
  have HK := check_eq (strB S) (by rw [strB_size]; simp only [maxLen]; omega) hc w2 fr t hgb
  have HX : Hid (Chg (fun g => g = p) w w2 ∧ Rdr w2 p (some ⟨g, off, none⟩) n cap bs (i + (encP S.length).length + S.length)) := ⟨hC.trans hC2, hR⟩
  clear hR hC hC2 hw hw2 hgb hSb hb256 hrw hA2 hc hq hS hbar hg
  go_wp2_with fail
  refine HK.mono ?_
  rintro e w3 ⟨rfl, hb3⟩
  clear HK hcv
  go_wp2_with fail
  refine (refuse_no _ _ _ _).mono ?_
  rintro e wx ⟨rfl, rfl⟩
  go_wp2_with fail
  refine (refuse_no _ _ _ _).mono ?_
  rintro e wx ⟨rfl, rfl⟩
  go_wp2_with fail
  refine (refuse_no _ _ _ _).mono ?_
  rintro e wx ⟨rfl, rfl⟩
  go_wp2_with fail
  go_ret
  obtain ⟨hC, hR⟩ := HX.out
  rw [Nat.add_assoc] at hR
  exact ⟨rfl, hR.chg (D := fun _ => False) (Chg.of_below hb3) (fun h => h) (fun _ _ h => h), hC.trans (Chg.of_below hb3)⟩
set_option maxHeartbeats 2000000 in
theorem text_cut {w : World} {p n cap i : Nat} {a : Option Addr} {bs : List Nat} (h : Rdr w p a n cap bs i) {S : List Nat} (hA : Agr (bs.drop i) (encP S.length ++ S)) (hS : 1 ≤ S.length ∧ S.length ≤ 1024) (room : Int) (hq : n < i + ((encP S.length).length + S.length)) :
    Calls Tryd.prog 39 #[.pointer (some ⟨p, 0, none⟩), .int .i64 room] w fun e w' => e = thrown n 102 ∧ Chg (fun g => g = p) w w' := by
  rcases Nat.lt_or_ge n (i + (encP S.length).length) with h1 | h1
  · have HB := amount_cut h hA.fst 1024 15 14 hS.1 (by omega) h1
    clear h hA
    go_enter Tryd.func39, Tryd.ntmps39
    go_wp2_with fail
    refine HB.mono ?_
    rintro e w1 ⟨rfl, hC⟩
    clear HB
    unfold thrown
    try dsimp only
    go_wp2_with fail
    exact ⟨rfl, rfl, hC⟩
  · have HB := amount_yes h hA.fst 1024 15 14 hS.1 (by omega) (by omega) h1
    clear h hA
    go_enter Tryd.func39, Tryd.ntmps39
    go_wp2_with fail
    refine HB.mono ?_
    rintro e w1 ⟨rfl, hR, hC⟩
    clear HB
    obtain ⟨c0, c1⟩ := box2 hR.box
    have HT := take_cut hR S.length (by omega)
    clear hR
    go_wp2_with fail
    refine HT.mono ?_
    rintro e w2 ⟨rfl, hC2⟩
    clear HT c0 c1
    unfold thrown
    try dsimp only
    go_wp2_with fail
    exact ⟨rfl, rfl, hC.trans hC2⟩
end Go.Proofs.YtkdhcokefnffaaaDoor
