import Derived.Test.YtgbdohljfedeoaaKaF
import Derived.Shelf.Abstract
namespace Go.Proofs.Ytgbdohljfedeoaa
open Go.RowKit Go.Lib Go.Shelf
set_option maxRecDepth 100000

/-- Two ids of a literal. -/
theorem rw_lit2 (w : World) (x y : Int × Int) (t : TypeId) : Rw idV 2 (w.alloc (.cells #[.int .i64 x.1, .int .i64 x.2, .int .i64 y.1, .int .i64 y.2] t)) (some ⟨w.heap.size, 0, none⟩) 2 2 [x, y] := by
  have hh := heap_alloc_new w (.cells #[.int .i64 x.1, .int .i64 x.2, .int .i64 y.1, .int .i64 y.2] t)
  refine ⟨rfl, ⟨Nat.le_refl _, by simp [maxLen]⟩, fun _ => ⟨w.heap.size, 0, rfl, by simp, fun j z hj i v hv => ?_⟩⟩
  rw [Lib.cell_of_heap hh]
  match j, hj with
  | 0, hj =>
    simp at hj; subst hj
    match i, hv with
    | 0, hv => simpa [idV] using hv
    | 1, hv => simpa [idV] using hv
  | 1, hj =>
    simp at hj; subst hj
    match i, hv with
    | 0, hv => simpa [idV] using hv
    | 1, hv => simpa [idV] using hv

/-- Pick with the closure that writes down what it is asked. -/
theorem pick_asked {w7 : World} {g7 n cap7 B1 B2 : Nat} {L : List (Int × Int)} {b r : Int} (hb1 : 1 ≤ b) (hb2 : b ≤ 6) (hR : Rw idV 2 w7 (some ⟨g7, 0, none⟩) n cap7 L) (hn : n * 16 ≤ 140737488351300) (p1 : w7.heap[B1]? = some (.cells #[.int .i64 b] 3)) (p2 : w7.heap[B2]? = some (.cells #[.int .i64 r] 3)) :
    Calls Try.prog 6 #[.slice (some ⟨g7, 0, none⟩) n cap7, .func (.func 9) #[] #[.pointer (some ⟨w7.heap.size, 0, none⟩), .pointer (some ⟨B1, 0, none⟩), .pointer (some ⟨B2, 0, none⟩)]] (w7.alloc (.cells #[.slice none 0 0] 22)) fun e w' =>
      ∃ v, Below w7.heap.size w7 w' ∧ w'.heap[w7.heap.size]? = some (.cells #[v] 22) ∧
      ((∃ (at_ : Nat) (x : Int × Int), at_ < n ∧ L[at_]? = some x ∧ yesP b r x = true ∧ (∀ (j : Nat) (y : Int × Int), at_ < j → L[j]? = some y → yesP b r y = false) ∧ e = .returned (.tuple #[idA x, .int .i64 at_, .int .i64 0]) ∧ OwnF idV 2 24 w' (w7.heap.size + 2) v (L.drop at_).reverse) ∨
      (∀ (j : Nat) (y : Int × Int), L[j]? = some y → yesP b r y = false)) := by
  have hLn := hR.len
  have l1 := (Array.getElem?_eq_some_iff.1 p1).1
  have l2 := (Array.getElem?_eq_some_iff.1 p2).1
  have HP := pick_any 9 #[.pointer (some ⟨w7.heap.size, 0, none⟩), .pointer (some ⟨B1, 0, none⟩), .pointer (some ⟨B2, 0, none⟩)] (some ⟨g7, 0, none⟩) n cap7 L (w7.alloc (.cells #[.slice none 0 0] 22)) (yesP b r)
    (fun m W => m ≤ n ∧ Below w7.heap.size w7 W ∧ ∃ v, W.heap[w7.heap.size]? = some (.cells #[v] 22) ∧ OwnF idV 2 24 W (w7.heap.size + 2) v (L.drop m).reverse) (by omega) (enters_of Try.func9 (by kernel_rfl) rfl)
    (fun m W W' ⟨hm, hb, v, hc, ho⟩ hB => by
      rw [World.size_alloc] at hB
      exact ⟨hm, hb.trans (hB.below (by omega) hb.size), v, hB.block hc (by omega), hB.own ho (by omega)⟩)
    (fun m W ⟨_, hb, _⟩ => hR.below hb)
    ⟨Nat.le_refl _, ((Below.refl _ w7).alloc (Nat.le_refl _) _).alloc (by simp) _, .slice none 0 0, by
      rw [Below.heap_alloc _ _ _ (by simp)]; exact heap_alloc_new _ _, by rw [List.drop_of_length_le (by omega)]; exact ownF_nil _ _⟩
    (fun m x W ⟨hm, hb, v, hc, ho⟩ hx hq => by
      rw [World.size_alloc] at hq ⊢
      have hcl := (Array.getElem?_eq_some_iff.1 hc).1
      have ka : Below W.heap.size W (W.alloc (.cells #[.int .i64 x.1, .int .i64 x.2] 24)) := (Below.refl _ _).alloc (Nat.le_refl _) _
      have hs := hb.size
      refine (pick1_any w7.heap.size B1 B2 (w7.heap.size + 2) b r hb1 hb2 x _ v (by simp; omega) _ ((ka.block _ hcl).trans hc) ((ka.block _ (by omega)).trans ((hb.block _ l1).trans p1)) ((ka.block _ (by omega)).trans ((hb.block _ l2).trans p2)) (ho.below ka) (by omega) l1 l2 (by simp; omega)).mono ?_
      rintro e W' ⟨rfl, ⟨v', hv', ho'⟩, hC⟩
      have hge : ∀ g, v.ownBlock = some g → w7.heap.size + 2 ≤ g := fun g hg => ho.ge hg
      have hlt : ∀ g, v.ownBlock = some g → g < W.heap.size := fun g hg => ho.lt hg
      have hrev : (L.drop (m + 1)).reverse ++ [x] = (L.drop m).reverse := by
        have hml : m < L.length := (List.getElem?_eq_some_iff.1 hx).1
        have hx' : L[m] = x := (List.getElem?_eq_some_iff.1 hx).2
        rw [List.drop_eq_getElem_cons hml, List.reverse_cons, hx']
      rw [hrev] at ho'
      have g1 : ∀ g, (g = w7.heap.size ∨ v.ownBlock = some g) → w7.heap.size ≤ g := fun g hg => by
        rcases hg with h | h
        · omega
        · have := hge g h; omega
      have g2 : ¬ (w7.heap.size + 1 = w7.heap.size ∨ v.ownBlock = some (w7.heap.size + 1)) := fun hg => by
        rcases hg with h | h
        · omega
        · have := hge _ h; omega
      have g3 : ¬ (W.heap.size = w7.heap.size ∨ v.ownBlock = some W.heap.size) := fun hg => by
        rcases hg with h | h
        · omega
        · have := hlt _ h; omega
      refine ⟨rfl, ⟨by omega, hb.trans ((ka.mono hs).trans (hC.below g1 (by simp; omega))), v', hv', ho'⟩, ?_, ?_⟩
      · rw [hC.2 _ (by simp; omega) g2]
        exact Below.heap_alloc _ _ _ (by omega)
      · rw [hC.2 _ (by simp) g3]
        exact heap_alloc_new _ _)
  refine HP.mono ?_
  rintro e w' (⟨at_, x, h1, h2, h3, h4, h5, _, hb, v, hc, ho⟩ | ⟨h1, _, _, hb, v, hc, ho⟩)
  · exact ⟨v, hb, hc, .inl ⟨at_, x, h1, h2, h3, h4, h5, ho⟩⟩
  · exact ⟨v, hb, hc, .inr h1⟩

set_option maxHeartbeats 4000000 in
theorem stacksPick_any (a : Option Addr) (n0 cap : Nat) (l : List (Int × Int)) (rest by_ : Int) (w : World) (h : Rw idV 2 w a n0 cap l) (hn : n0 * 16 ≤ 140737488351232) :
    Calls Try.prog 4 #[.slice a n0 cap, .int .i64 rest, .int .i64 by_] w fun e w' => e = .returned (.bool true) ∧ Below w.heap.size w w' := by
  have hl := h.len
  obtain ⟨b, hbd⟩ : ∃ b, 1 + by_ % 6 = b := ⟨_, rfl⟩
  have hb1 : 1 ≤ b := by have := Int.emod_nonneg by_ (show (6 : Int) ≠ 0 by decide); omega
  have hb2 : b ≤ 6 := by have := Int.emod_lt_of_pos by_ (show (0 : Int) < 6 by decide); omega
  obtain ⟨r, hrd⟩ : ∃ r, rest % b = r := ⟨_, rfl⟩
  have hr1 : 0 ≤ r := by rw [← hrd]; exact Int.emod_nonneg _ (by omega)
  have hr2 : r < b := by rw [← hrd]; exact Int.emod_lt_of_pos _ (by omega)
  have HP1 : Hid (∀ W, Calls Try.prog 8 #[.int .i64 by_, .int .i64 6] W fun e w' => e = .returned (.int .i64 (by_ % 6)) ∧ W = w') := fun W => (pk_any by_ 6 (by decide) (by decide) W).mono fun e w' h => ⟨h.1, h.2.symm⟩
  have HP2 : Hid (∀ W, Calls Try.prog 8 #[.int .i64 rest, .int .i64 b] W fun e w' => e = .returned (.int .i64 r) ∧ W = w') := fun W => hrd ▸ (pk_any rest b hb1 (by omega) W).mono fun e w' h => ⟨h.1, h.2.symm⟩
  obtain ⟨q6, hq6⟩ : ∃ q, by_ % 6 = q := ⟨_, rfl⟩
  have hqb : 1 + q6 = b := by rw [← hq6]; exact hbd
  rw [hq6] at HP1
  clear hbd hrd hq6
  go_enter Try.func4, Try.ntmps4
  go_wp2_with fail
  refine (HP1.out _).mono ?_
  rintro e w1 ⟨rfl, rfl⟩
  obtain ⟨W2, hW2⟩ : ∃ W2, (w.alloc (.cells #[.int .i64 r] 3)).alloc (.cells #[.int .i64 b] 3) = W2 := ⟨_, rfl⟩
  have hz2 : W2.heap.size = w.heap.size + 2 := by rw [← hW2]; simp
  have k2 : Below w.heap.size w W2 := by rw [← hW2]; exact ((Below.refl _ _).alloc (Nat.le_refl _) _).alloc (by simp) _
  have r2 : W2.heap[w.heap.size]? = some (.cells #[.int .i64 r] 3) := by rw [← hW2, Below.heap_alloc _ _ _ (by simp)]; exact heap_alloc_new _ _
  have b2 : W2.heap[w.heap.size + 1]? = some (.cells #[.int .i64 b] 3) := by
    rw [← hW2]
    have := heap_alloc_new (w.alloc (.cells #[.int .i64 r] 3)) (.cells #[.int .i64 b] 3)
    rw [World.size_alloc] at this
    exact this
  have kw : Below W2.heap.size W2 (W2.alloc (.cells #[.int .i64 1, .int .i64 r, .int .i64 2, .int .i64 (r + 1)] 24)) := (Below.refl _ _).alloc (Nat.le_refl _) _
  obtain ⟨g4, cap4, w4, hr4, ho4, hb4, hk4, _⟩ := appendF kindI layI (ownF_nil (W2.alloc (.cells #[.int .i64 1, .int .i64 r, .int .i64 2, .int .i64 (r + 1)] 24)) W2.heap.size) (by simp) (rw_lit2 W2 (1, r) (2, r + 1) 24) (by decide) (by decide) (by decide) 22
  have k4 : Below W2.heap.size W2 w4 := kw.trans hb4
  have hs4 := k4.size
  obtain ⟨a5, cap5, w5, hr5, ho5, hb5, _⟩ := appendI_all kindI layI ho4 hs4 (h.below (k2.trans (k4.mono (by omega)))) (by simp; omega) (by simp; omega) 22
  have k5 : Below W2.heap.size W2 w5 := k4.trans hb5
  obtain ⟨g7, cap7, w7, hr7, ho7, hb7, _, _, _⟩ := appendF_one kindI layI ho5 k5.size (-7, -7) #[.int .i64 (-7), .int .i64 (-7)] rfl 24 (by simp; omega) (by simp; omega) 22
  have k7 : Below W2.heap.size W2 w7 := k5.trans hb7
  have hr4' : (Builtin.append_ #[22, 22] 22 #[.slice none 0 0, .slice (some ⟨W2.heap.size, 0, none⟩) 2 2]).run Try.prog (W2.alloc (.cells #[.int .i64 1, .int .i64 r, .int .i64 2, .int .i64 (r + 1)] 24)) = .ok (.slice (some ⟨g4, 0, none⟩) 2 cap4) w4 := hr4
  have hr5' : (Builtin.append_ #[22, 22] 22 #[.slice (some ⟨g4, 0, none⟩) 2 cap4, .slice a n0 cap]).run Try.prog w4 = .ok (.slice a5 (2 + n0) cap5) w5 := hr5
  obtain ⟨L, hL⟩ : ∃ L : List (Int × Int), ([] ++ [(1, r), (2, r + 1)]) ++ l = L := ⟨_, rfl⟩
  have hLn : L.length = 2 + n0 := by rw [← hL]; simp; omega
  have hL0 : L[0]? = some (1, r) := by rw [← hL]; rfl
  have hLl : ∀ j, L[j + 2]? = l[j]? := fun j => by rw [← hL]; simp
  rw [hL] at ho7
  rw [hL, hLn] at hr7
  obtain ⟨n, hnn⟩ : ∃ n, 2 + n0 = n := ⟨_, rfl⟩
  rw [hnn] at hr5' hLn hr7
  have hrow7 := ho7.rw_ layI
  rw [hLn] at ho7 hrow7
  have e7 : ([] ++ [((1 : Int), r), (2, r + 1)]).length + n0 = n := hnn
  rw [e7] at hr7
  have hR7 : Rw idV 2 w7 (some ⟨g7, 0, none⟩) n cap7 L := by
    have := hrow7.take n (by omega)
    rw [List.take_append_of_le_length (by omega), List.take_of_length_le (by omega)] at this
    exact this
  have hc7 : ((n : Nat) : Int) + 1 ≤ (cap7 : Int) := by have := hrow7.room.1; omega
  have hcm : (cap7 : Int) ≤ 9223372036854775807 := by have := hrow7.room.2; simp only [maxLen] at this; omega
  have p1 := (k7.block _ (by omega)).trans b2
  have p2 := (k7.block _ (by omega)).trans r2
  have HPk := pick_asked hb1 hb2 hR7 (by omega) p1 p2
  clear hk4 hb4 hb5 hb7 ho4 ho5 hr4 hr5 kw e7
  rw [hz2] at hr4'
  clear HP1 k4 k5 hs4
  have cr2 : W2.cell? ⟨w.heap.size, 0, none⟩ = some (.int .i64 r) := by rw [Lib.cell_of_heap r2]; rfl
  go_wp2_with fail
  refine (HP2.out _).mono ?_
  rintro e w1 ⟨rfl, rfl⟩
  go_wp2_with (first | (have hgd := hr4'; at_builtin; refine wpList_append_hr rfl _ _ 22 rfl _ _ rfl rfl hgd ?_; clear hgd hr4') | (have hgd := hr5'; at_builtin; refine wpList_append_hr rfl _ _ 22 rfl _ _ rfl rfl hgd ?_; clear hgd hr5') | (have hgd := hr7; at_builtin; refine wpList_append_hr rfl _ _ 22 rfl _ _ rfl rfl hgd ?_; clear hgd hr7))
  refine HPk.mono ?_
  rintro e w8 ⟨v, k8, hask8, (⟨at_, x, hat, hxl, hyx, hno, rfl, hA⟩ | hno)⟩
  rotate_left
  · exfalso
    have := hno 0 _ hL0
    unfold yesP at this
    rw [decide_eq_false_iff_not] at this
    exact this (Int.emod_eq_of_lt hr1 hr2)
  clear HPk HP2 hW2
  obtain ⟨x1, x2⟩ := x
  simp only [idA]
  obtain ⟨K, hK⟩ : ∃ K, n - at_ = K := ⟨_, rfl⟩
  have hAl : (L.drop at_).reverse.length = K := by simp; omega
  obtain ⟨va, vc, rfl⟩ := hA.shape
  have hAr := hA.rw_ layI
  rw [hAl] at hask8 hAr
  obtain ⟨A, hAe⟩ : ∃ A, (L.drop at_).reverse = A := ⟨_, rfl⟩
  rw [hAe] at hAr
  have HA : Hid (∀ i, i < K → A[i]? = L[n - 1 - i]?) := fun i hi => by
    rw [← hAe, List.getElem?_reverse (by simp; omega), List.getElem?_drop]
    congr 1
    simp
    omega
  clear hAl hA hAe
  obtain ⟨w9, hw9⟩ : ∃ w9, w8.alloc (.cells #[.int .i64 x1, .int .i64 x2] 24) = w9 := ⟨_, rfl⟩
  have k9 : Below w8.heap.size w8 w9 := by rw [← hw9]; exact (Below.refl _ _).alloc (Nat.le_refl _) _
  have hz9 : w9.heap.size = w8.heap.size + 1 := by rw [← hw9]; simp
  have hid9 : w9.heap[w8.heap.size]? = some (.cells #[.int .i64 x1, .int .i64 x2] 24) := by rw [← hw9]; exact heap_alloc_new _ _
  have hs7 := k7.size
  have hs8 := k8.size
  have hl9 := (Array.getElem?_eq_some_iff.1 hask8).1
  have hask9 := (k9.block _ hl9).trans hask8
  have k79 : Below w7.heap.size w7 w9 := k8.trans (k9.mono hs8)
  have hB9 : Below w.heap.size w w9 := k2.trans ((k7.mono (by omega)).trans (k79.mono (by omega)))
  have q1 := (k79.block _ (by omega)).trans p1
  have q2 := (k79.block _ (by omega)).trans p2
  have hR9 := hR7.below k79
  have hA9 := hAr.below k9
  have hW9 : Rw idV 2 w9 (some ⟨g7, 0, none⟩) (n + 1) cap7 (L ++ [(-7, -7)]) := hrow7.below k79
  have hl9w := h.below hB9
  have hg7 : g7 < w9.heap.size := by
    obtain ⟨g, off, y, e, hg, _⟩ := hR9.at 0 (by omega)
    cases e
    exact hg
  have cB : w9.cell? ⟨w.heap.size + 1, 0, none⟩ = some (.int .i64 b) := by rw [Lib.cell_of_heap q1]; rfl
  have cR : w9.cell? ⟨w.heap.size, 0, none⟩ = some (.int .i64 r) := by rw [Lib.cell_of_heap q2]; rfl
  have cA : w9.cell? ⟨w7.heap.size, 0, none⟩ = some (.slice va K vc) := by rw [Lib.cell_of_heap hask9]; rfl
  obtain ⟨i0, i1⟩ := box2 hid9
  have lB : w.heap.size + 1 < w9.heap.size := by omega
  have lR : w.heap.size < w9.heap.size := by omega
  have lA : w7.heap.size < w9.heap.size := by omega
  have lI : w8.heap.size < w9.heap.size := by omega
  have HG : ∀ (w : World) (a b c d : Int), (Op.equalIn 10000 24 (.agg #[.int .i64 a, .int .i64 b]) (.agg #[.int .i64 c, .int .i64 d])).run Try.prog w = .ok (a == c && b == d) w := run_eqI
  have HP0 : Hid (∀ (y : Int) W, Calls Try.prog 8 #[.int .i64 y, .int .i64 b] W fun e w' => e = .returned (.int .i64 (y % b)) ∧ W = w') := fun y W => (pk_any y b hb1 (by omega) W).mono fun e w' h => ⟨h.1, h.2.symm⟩
  have hyx' : x2 % b = r := by unfold yesP at hyx; exact of_decide_eq_true hyx
  have HP3 : Hid (∀ W, Calls Try.prog 8 #[.int .i64 x2, .int .i64 b] W fun e w' => e = .returned (.int .i64 r) ∧ W = w') := fun W => hyx' ▸ HP0.out x2 W
  have n1 : decide ((at_ : Int) < 0) = false := decide_eq_false (by omega)
  have n2 : decide ((n : Int) ≤ (at_ : Int)) = false := decide_eq_false (by omega)
  have n2' : decide (n ≤ at_) = false := decide_eq_false (by omega)
  have n3 : IntKind.i64.wrap ((n : Int) - (at_ : Int)) = (K : Int) := by rw [IntWalk.i64_in _ (by omega)]; omega
  have n4 : (0 : Int) ≤ (at_ : Int) := by omega
  have n5 : (at_ : Int) < (n : Int) := by omega
  have hcx : w9.cell? ⟨g7, at_ * 2, none⟩ = some (.int .i64 x1) ∧ w9.cell? ⟨g7, at_ * 2 + 1, none⟩ = some (.int .i64 x2) := by
    obtain ⟨g, off, y, e, hg, hy, hcs⟩ := hR9.at at_ hat
    cases e
    rw [hxl] at hy
    cases hy
    have h0 := hcs 0 _ rfl
    have h1 := hcs 1 _ rfl
    simp only [Nat.zero_add, Nat.add_zero] at h0 h1
    exact ⟨h0, h1⟩
  obtain ⟨x0c, x1c⟩ := hcx
  have hcur : Below w9.heap.size w9 w9 := Below.refl _ _
  have HL0 : Hid (L[0]? = some (1, r)) := hL0
  have HLl : Hid (∀ j, L[j + 2]? = l[j]?) := hLl
  have HNo : Hid (∀ (j : Nat) (y : Int × Int), at_ < j → L[j]? = some y → ¬ y.2 % b = r) := fun j y h1 h2 => by have := hno j y h1 h2; unfold yesP at this; exact of_decide_eq_false this
  clear hno
  clear hz9 hask8 k8 k9 hid9 hask9 q1 q2 p1 p2 k7 k2 r2 b2 cr2 hLl hL ho7 hR7 hAr hL0 hyx hyx'
  go_wp2_with fail
  clear hw9
  go_cut [81] (fun v wx => v = .bool false ∧ Below w9.heap.size w9 wx)
  case first =>
    refine wp_region_held_drew (S := (fun W => ∀ p : Addr, p.block < w9.heap.size → W.cell? p = w9.cell? p)) (by kernel_rfl) ?hS1 (fun hHeld => ?rest1)
    case hS1 => (intro p hp; refine Below.cell (B := w9.heap.size) ?_ hp; (repeat (first | with_reducible exact hcur | (with_reducible refine Below.drew ?_))))
    refine takeD (i := 0) (d := some 47) (v := ?vT2) rfl rfl (by kernel_rfl) (by kernel_rfl) (by kernel_rfl) (fun _ _ _ h => h) (Or.inl ⟨by rfl, ?hyT2⟩) (by assumption) ?rstT2
    case hyT2 => (intro w hSw; (try dsimp only at hSw); go_simp; (try with_reducible rfl))
    try simp only [Act.put, List.setIfInBounds_toArray, List.set_cons_zero, List.set_cons_succ]
    refine takeD (i := 1) (d := some 48) (v := ?vT3) rfl rfl (by kernel_rfl) (by kernel_rfl) (by kernel_rfl) (fun _ _ _ h => h) (Or.inl ⟨by rfl, ?hyT3⟩) (by assumption) ?rstT3
    case hyT3 => (intro w hSw; (try dsimp only at hSw); go_simp; (try with_reducible rfl))
    try simp only [Act.put, List.setIfInBounds_toArray, List.set_cons_zero, List.set_cons_succ]
    refine takeD (i := 2) (d := some 49) (v := ?vT4) rfl rfl (by kernel_rfl) (by kernel_rfl) (by kernel_rfl) (fun _ _ _ h => h) (Or.inl ⟨by rfl, ?hyT4⟩) (by assumption) ?rstT4
    case hyT4 => (intro w hSw; (try dsimp only at hSw); go_simp; (try with_reducible rfl))
    try simp only [Act.put, List.setIfInBounds_toArray, List.set_cons_zero, List.set_cons_succ]
    refine takeD (i := 3) (d := some 50) (v := ?vT5) rfl rfl (by kernel_rfl) (by kernel_rfl) (by kernel_rfl) (fun _ _ _ h => h) (Or.inl ⟨by rfl, ?hyT5⟩) (by assumption) ?rstT5
    case hyT5 => (intro w hSw; (try dsimp only at hSw); go_simp; (try with_reducible rfl))
    try simp only [Act.put, List.setIfInBounds_toArray, List.set_cons_zero, List.set_cons_succ]
    refine takeD (i := 4) (d := some 51) (v := ?vT6) rfl rfl (by kernel_rfl) (by kernel_rfl) (by kernel_rfl) (fun _ _ _ h => h) (Or.inl ⟨by rfl, ?hyT6⟩) (by assumption) ?rstT6
    case hyT6 => (intro w hSw; (try dsimp only at hSw); go_simp; (try with_reducible rfl))
    try simp only [Act.put, List.setIfInBounds_toArray, List.set_cons_zero, List.set_cons_succ]
    refine takeD (i := 5) (d := some 52) (v := ?vT7) rfl rfl (by kernel_rfl) (by kernel_rfl) (by kernel_rfl) (fun _ _ _ h => h) (Or.inl ⟨by rfl, ?hyT7⟩) (by assumption) ?rstT7
    case hyT7 => (intro w hSw; (try dsimp only at hSw); go_simp; (try with_reducible rfl))
    try simp only [Act.put, List.setIfInBounds_toArray, List.set_cons_zero, List.set_cons_succ]
    refine takeD (i := 6) (d := some 53) (v := ?vT8) rfl rfl (by kernel_rfl) (by kernel_rfl) (by kernel_rfl) (fun _ _ _ h => h) (Or.inl ⟨by rfl, ?hyT8⟩) (by assumption) ?rstT8
    case hyT8 => (intro w hSw; (try dsimp only at hSw); go_simp; (try with_reducible rfl))
    try simp only [Act.put, List.setIfInBounds_toArray, List.set_cons_zero, List.set_cons_succ]
    refine takeD (i := 7) (d := some 54) (v := ?vT9) rfl rfl (by kernel_rfl) (by kernel_rfl) (by kernel_rfl) (fun _ _ _ h => h) (Or.inl ⟨by rfl, ?hyT9⟩) (by assumption) ?rstT9
    case hyT9 => (intro w hSw; (try dsimp only at hSw); go_simp; (try with_reducible rfl))
    try simp only [Act.put, List.setIfInBounds_toArray, List.set_cons_zero, List.set_cons_succ]
    refine takeD (i := 8) (d := some 55) (v := ?vT10) rfl rfl (by kernel_rfl) (by kernel_rfl) (by kernel_rfl) (fun _ _ _ h => h) (Or.inl ⟨by rfl, ?hyT10⟩) (by assumption) ?rstT10
    case hyT10 => (intro w hSw; (try dsimp only at hSw); go_simp; (try with_reducible rfl))
    try simp only [Act.put, List.setIfInBounds_toArray, List.set_cons_zero, List.set_cons_succ]
    refine takeD (i := 9) (d := some 56) (v := ?vT11) rfl rfl (by kernel_rfl) (by kernel_rfl) (by kernel_rfl) (fun _ _ _ h => h) (Or.inl ⟨by rfl, ?hyT11⟩) (by assumption) ?rstT11
    case hyT11 => (intro w hSw; (try dsimp only at hSw); go_simp; (try with_reducible rfl))
    try simp only [Act.put, List.setIfInBounds_toArray, List.set_cons_zero, List.set_cons_succ]
    refine takeD (i := 10) (d := some 57) (v := ?vT12) rfl rfl (by kernel_rfl) (by kernel_rfl) (by kernel_rfl) (fun _ _ _ h => h) (Or.inl ⟨by rfl, ?hyT12⟩) (by assumption) ?rstT12
    case hyT12 => (intro w hSw; (try dsimp only at hSw); go_simp; (try with_reducible rfl))
    try simp only [Act.put, List.setIfInBounds_toArray, List.set_cons_zero, List.set_cons_succ]
    refine takeD (i := 11) (d := some 58) (v := ?vT13) rfl rfl (by kernel_rfl) (by kernel_rfl) (by kernel_rfl) (fun _ _ _ h => h) (Or.inl ⟨by rfl, ?hyT13⟩) (by assumption) ?rstT13
    case hyT13 => (intro w hSw; (try dsimp only at hSw); go_simp; (try with_reducible rfl))
    try simp only [Act.put, List.setIfInBounds_toArray, List.set_cons_zero, List.set_cons_succ]
    refine takeD (i := 12) (d := some 59) (v := ?vT14) rfl rfl (by kernel_rfl) (by kernel_rfl) (by kernel_rfl) (fun _ _ _ h => h) (Or.inl ⟨by rfl, ?hyT14⟩) (by assumption) ?rstT14
    case hyT14 => (intro w hSw; (try dsimp only at hSw); go_simp; (try with_reducible rfl))
    try simp only [Act.put, List.setIfInBounds_toArray, List.set_cons_zero, List.set_cons_succ]
    refine takeD (i := 13) (d := some 60) (v := ?vT15) rfl rfl (by kernel_rfl) (by kernel_rfl) (by kernel_rfl) (fun _ _ _ h => h) (Or.inl ⟨by rfl, ?hyT15⟩) (by assumption) ?rstT15
    case hyT15 => (intro w hSw; (try dsimp only at hSw); go_simp; (try with_reducible rfl))
    try simp only [Act.put, List.setIfInBounds_toArray, List.set_cons_zero, List.set_cons_succ]
    refine takeD (i := 14) (d := some 61) (v := ?vT16) rfl rfl (by kernel_rfl) (by kernel_rfl) (by kernel_rfl) (fun _ _ _ h => h) (Or.inl ⟨by rfl, ?hyT16⟩) (by assumption) ?rstT16
    case hyT16 => (intro w hSw; (try dsimp only at hSw); go_simp; (try with_reducible rfl))
    try simp only [Act.put, List.setIfInBounds_toArray, List.set_cons_zero, List.set_cons_succ]
    refine takeD (i := 15) (d := some 62) (v := ?vT17) rfl rfl (by kernel_rfl) (by kernel_rfl) (by kernel_rfl) (fun _ _ _ h => h) (Or.inl ⟨by rfl, ?hyT17⟩) (by assumption) ?rstT17
    case hyT17 => (intro w hSw; (try dsimp only at hSw); go_simp; (try with_reducible rfl))
    try simp only [Act.put, List.setIfInBounds_toArray, List.set_cons_zero, List.set_cons_succ]
    refine takeD (i := 16) (d := some 63) (v := ?vT18) rfl rfl (by kernel_rfl) (by kernel_rfl) (by kernel_rfl) (fun _ _ _ h => h) (Or.inl ⟨by rfl, ?hyT18⟩) (by assumption) ?rstT18
    case hyT18 => (intro w hSw; (try dsimp only at hSw); go_simp; (try with_reducible rfl))
    try simp only [Act.put, List.setIfInBounds_toArray, List.set_cons_zero, List.set_cons_succ]
    refine takeD (i := 17) (d := some 64) (v := ?vT19) rfl rfl (by kernel_rfl) (by kernel_rfl) (by kernel_rfl) (fun _ _ _ h => h) (Or.inl ⟨by rfl, ?hyT19⟩) (by assumption) ?rstT19
    case hyT19 => (intro w hSw; (try dsimp only at hSw); go_simp; (try with_reducible rfl))
    try simp only [Act.put, List.setIfInBounds_toArray, List.set_cons_zero, List.set_cons_succ]
    refine takeD (i := 18) (d := some 65) (v := ?vT20) rfl rfl (by kernel_rfl) (by kernel_rfl) (by kernel_rfl) (fun _ _ _ h => h) (Or.inl ⟨by rfl, ?hyT20⟩) (by assumption) ?rstT20
    case hyT20 => (intro w hSw; (try dsimp only at hSw); go_simp; (try with_reducible rfl))
    try simp only [Act.put, List.setIfInBounds_toArray, List.set_cons_zero, List.set_cons_succ]
    refine takeD (i := 19) (d := some 66) (v := ?vT21) rfl rfl (by kernel_rfl) (by kernel_rfl) (by kernel_rfl) (fun _ _ _ h => h) (Or.inl ⟨by rfl, ?hyT21⟩) (by assumption) ?rstT21
    case hyT21 => (intro w hSw; (try dsimp only at hSw); go_simp; (try with_reducible rfl))
    try simp only [Act.put, List.setIfInBounds_toArray, List.set_cons_zero, List.set_cons_succ]
    refine takeD (i := 20) (d := some 67) (v := ?vT22) rfl rfl (by kernel_rfl) (by kernel_rfl) (by kernel_rfl) (fun _ _ _ h => h) (Or.inl ⟨by rfl, ?hyT22⟩) (by assumption) ?rstT22
    case hyT22 => (intro w hSw; (try dsimp only at hSw); go_simp; (try with_reducible rfl))
    try simp only [Act.put, List.setIfInBounds_toArray, List.set_cons_zero, List.set_cons_succ]
    refine takeD (i := 21) (d := some 68) (v := ?vT23) rfl rfl (by kernel_rfl) (by kernel_rfl) (by kernel_rfl) (fun _ _ _ h => h) (Or.inl ⟨by rfl, ?hyT23⟩) (by assumption) ?rstT23
    case hyT23 => (intro w hSw; (try dsimp only at hSw); go_simp; (try with_reducible rfl))
    try simp only [Act.put, List.setIfInBounds_toArray, List.set_cons_zero, List.set_cons_succ]
    refine takeD (i := 22) (d := some 69) (v := ?vT24) rfl rfl (by kernel_rfl) (by kernel_rfl) (by kernel_rfl) (fun _ _ _ h => h) (Or.inl ⟨by rfl, ?hyT24⟩) (by assumption) ?rstT24
    case hyT24 => (intro w hSw; (try dsimp only at hSw); go_simp; (try with_reducible rfl))
    try simp only [Act.put, List.setIfInBounds_toArray, List.set_cons_zero, List.set_cons_succ]
    refine takeD (i := 23) (d := some 70) (v := ?vT25) rfl rfl (by kernel_rfl) (by kernel_rfl) (by kernel_rfl) (fun _ _ _ h => h) (Or.inl ⟨by rfl, ?hyT25⟩) (by assumption) ?rstT25
    case hyT25 => (intro w hSw; (try dsimp only at hSw); go_simp; (try with_reducible rfl))
    try simp only [Act.put, List.setIfInBounds_toArray, List.set_cons_zero, List.set_cons_succ]
    refine takeD (i := 24) (d := some 71) (v := ?vT26) rfl rfl (by kernel_rfl) (by kernel_rfl) (by kernel_rfl) (fun _ _ _ h => h) (Or.inl ⟨by rfl, ?hyT26⟩) (by assumption) ?rstT26
    case hyT26 => (intro w hSw; (try dsimp only at hSw); go_simp; (try with_reducible rfl))
    try simp only [Act.put, List.setIfInBounds_toArray, List.set_cons_zero, List.set_cons_succ]
    refine takeD (i := 25) (d := some 72) (v := ?vT27) rfl rfl (by kernel_rfl) (by kernel_rfl) (by kernel_rfl) (fun _ _ _ h => h) (Or.inl ⟨by rfl, ?hyT27⟩) (by assumption) ?rstT27
    case hyT27 => (intro w hSw; (try dsimp only at hSw); go_simp; (try with_reducible rfl))
    try simp only [Act.put, List.setIfInBounds_toArray, List.set_cons_zero, List.set_cons_succ]
    refine takeD (i := 26) (d := some 73) (v := ?vT28) rfl rfl (by kernel_rfl) (by kernel_rfl) (by kernel_rfl) (fun _ _ _ h => h) (Or.inl ⟨by rfl, ?hyT28⟩) (by assumption) ?rstT28
    case hyT28 => (intro w hSw; (try dsimp only at hSw); go_simp; (try with_reducible rfl))
    try simp only [Act.put, List.setIfInBounds_toArray, List.set_cons_zero, List.set_cons_succ]
    refine takeD (i := 27) (d := some 74) (v := ?vT29) rfl rfl (by kernel_rfl) (by kernel_rfl) (by kernel_rfl) (fun _ _ _ h => h) (Or.inl ⟨by rfl, ?hyT29⟩) (by assumption) ?rstT29
    case hyT29 => (intro w hSw; (try dsimp only at hSw); go_simp; (try with_reducible rfl))
    try simp only [Act.put, List.setIfInBounds_toArray, List.set_cons_zero, List.set_cons_succ]
    refine takeD (i := 28) (d := some 75) (v := ?vT30) rfl rfl (by kernel_rfl) (by kernel_rfl) (by kernel_rfl) (fun _ _ _ h => h) (Or.inl ⟨by rfl, ?hyT30⟩) (by assumption) ?rstT30
    case hyT30 => (intro w hSw; (try dsimp only at hSw); go_simp; (try with_reducible rfl))
    try simp only [Act.put, List.setIfInBounds_toArray, List.set_cons_zero, List.set_cons_succ]
    refine takeD (i := 29) (d := some 76) (v := ?vT31) rfl rfl (by kernel_rfl) (by kernel_rfl) (by kernel_rfl) (fun _ _ _ h => h) (Or.inl ⟨by rfl, ?hyT31⟩) (by assumption) ?rstT31
    case hyT31 => (intro w hSw; (try dsimp only at hSw); go_simp; (try with_reducible rfl))
    try simp only [Act.put, List.setIfInBounds_toArray, List.set_cons_zero, List.set_cons_succ]
    refine takeD (i := 30) (d := some 77) (v := ?vT32) rfl rfl (by kernel_rfl) (by kernel_rfl) (by kernel_rfl) (fun _ _ _ h => h) (Or.inl ⟨by rfl, ?hyT32⟩) (by assumption) ?rstT32
    case hyT32 => (intro w hSw; (try dsimp only at hSw); go_simp; (try with_reducible rfl))
    try simp only [Act.put, List.setIfInBounds_toArray, List.set_cons_zero, List.set_cons_succ]
    refine takeD (i := 32) (d := some 79) (v := ?vT33) rfl rfl (by kernel_rfl) (by kernel_rfl) (by kernel_rfl) (fun _ _ _ h => h) (Or.inl ⟨by rfl, ?hyT33⟩) (by assumption) ?rstT33
    case hyT33 => (intro w hSw; (try dsimp only at hSw); go_simp; (try with_reducible rfl))
    try simp only [Act.put, List.setIfInBounds_toArray, List.set_cons_zero, List.set_cons_succ]
    refine wpAnyH_ready (rs := [31]) (by kernel_rfl) (by simp) ?_
    refine AllReadyH.cons rfl (fun K hK => ?_) AllReadyH.nil
    go_simp
    refine (HP3.out _).mono ?_
    rintro e2 w10 ⟨rfl, rfl⟩
    clear hHeld
    refine hK.out _ _ ?hS34 (fun hHeld => ?rest34)
    case hS34 => (intro p hp; refine Below.cell (B := w9.heap.size) ?_ hp; (repeat (first | with_reducible exact hcur | (with_reducible refine Below.drew ?_))))
    clear hK K
    try simp only [Act.put, List.setIfInBounds_toArray, List.set_cons_zero, List.set_cons_succ]
    refine takeD (i := 33) (d := some 80) (v := ?vT35) rfl rfl (by kernel_rfl) (by kernel_rfl) (by kernel_rfl) (fun _ _ _ h => h) (Or.inl ⟨by rfl, ?hyT35⟩) (by assumption) ?rstT35
    case hyT35 => (intro w hSw; (try dsimp only at hSw); go_simp; (try with_reducible rfl))
    try simp only [Act.put, List.setIfInBounds_toArray, List.set_cons_zero, List.set_cons_succ]
    refine takeD (i := 34) (d := some 81) (v := ?vT36) rfl rfl (by kernel_rfl) (by kernel_rfl) (by kernel_rfl) (fun _ _ _ h => h) (Or.inl ⟨by rfl, ?hyT36⟩) (by assumption) ?rstT36
    case hyT36 => (intro w hSw; (try dsimp only at hSw); go_simp; (try with_reducible rfl))
    try simp only [Act.put, List.setIfInBounds_toArray, List.set_cons_zero, List.set_cons_succ]
    refine wpAnyH_done (by kernel_rfl) ?_ _
    go_wp2_with fail
    go_meet
    case rel => exact ⟨rfl, by first | exact hcur | exact hcur.drew⟩
  case rest =>
    obtain ⟨W10, rfl⟩ : ∃ x, x = wc := ⟨_, rfl⟩
    obtain ⟨rfl, k10⟩ := hcut
    clear HP3 n1 n2 n2' n3 n4 n5 x0c x1c i0 i1 hcur
    go_wp2_with fail
    go_loopw [13] (fun i wr => ∃ j : Nat, j ≤ K ∧ i = .int .i64 j ∧ Below w9.heap.size w9 wr) (fun i _ => K - (RowKit.intOf i).toNat)
    case atStart => exact ⟨0, Nat.zero_le _, rfl, k10⟩
    case round =>
      obtain ⟨j, hjK, rfl, hcur⟩ := hrel
      have cA' := (hcur.cell (p := ⟨w7.heap.size, 0, none⟩) lA).trans cA
      by_cases hj : j < K
      · obtain ⟨m, hm⟩ : ∃ m, n = m + 1 + j := ⟨n - 1 - j, by omega⟩
        obtain ⟨ga, offa, y, rfl, hga, hy, hcsa⟩ := hA9.at j hj
        have hyL := HA.out j hj
        rw [hy, show n - 1 - j = m by omega] at hyL
        obtain ⟨y1, y2⟩ := y
        have d0 := hcsa 0 _ rfl
        have d1 := hcsa 1 _ rfl
        have hcl : w9.cell? ⟨g7, m * 2, none⟩ = some (.int .i64 y1) ∧ w9.cell? ⟨g7, m * 2 + 1, none⟩ = some (.int .i64 y2) := by
          obtain ⟨g, off, z, e, hg, hz, hcs⟩ := hR9.at m (by omega)
          cases e
          rw [← hyL] at hz
          cases hz
          have h0 := hcs 0 _ rfl
          have h1 := hcs 1 _ rfl
          simp only [Nat.zero_add, Nat.add_zero] at h0 h1
          exact ⟨h0, h1⟩
        obtain ⟨z0, z1⟩ := hcl
        simp only [Nat.add_zero] at d0 d1
        have m1 : IntKind.i64.wrap ((n : Int) - 1) = (n : Int) - 1 := IntWalk.i64_in _ (by omega)
        have m2 : IntKind.i64.wrap ((n : Int) - 1 - (j : Int)) = (m : Int) := by rw [IntWalk.i64_in _ (by omega)]; omega
        have m3 : (0 : Int) ≤ (m : Int) := by omega
        have m4 : (m : Int) < (n : Int) := by omega
        have m5 : (0 : Int) ≤ (j : Int) := by omega
        have m6 : (j : Int) < (K : Int) := by omega
        have m7 : IntKind.i64.wrap ((K : Int) - 1) = (K : Int) - 1 := IntWalk.i64_in _ (by omega)
        clear hcsa hA9 hR9 hW9 hl9w h hyL
        by_cases hjl : j + 1 < K
        · have hne : ¬ y2 % b = r := HNo.out m (y1, y2) (by omega) (by have := HA.out j hj; rw [hy, show n - 1 - j = m by omega] at this; exact this.symm)
          have m8 : decide ((j : Int) < (K : Int) - 1) = true := decide_eq_true (by omega)
          have m9 : (y2 % b == r) = false := beq_eq_false_iff_ne.2 hne
          clear hne hm
          go_wp2_with fail
          go_cut [117] (fun v wx => v = .bool false ∧ Below w9.heap.size w9 wx)
          case first =>
            refine wp_region_held_drew (S := (fun W => ∀ p : Addr, p.block < w9.heap.size → W.cell? p = w9.cell? p)) (by kernel_rfl) ?hS37 (fun hHeld => ?rest37)
            case hS37 => (intro p hp; refine Below.cell (B := w9.heap.size) ?_ hp; (repeat (first | with_reducible exact hcur | (with_reducible refine Below.drew ?_))))
            refine takeD (i := 0) (d := some 88) (v := ?vT38) rfl rfl (by kernel_rfl) (by kernel_rfl) (by kernel_rfl) (fun _ _ _ h => h) (Or.inl ⟨by rfl, ?hyT38⟩) (by assumption) ?rstT38
            case hyT38 => (intro w hSw; (try dsimp only at hSw); go_simp; (try with_reducible rfl))
            try simp only [Act.put, List.setIfInBounds_toArray, List.set_cons_zero, List.set_cons_succ]
            refine takeD (i := 1) (d := some 89) (v := ?vT39) rfl rfl (by kernel_rfl) (by kernel_rfl) (by kernel_rfl) (fun _ _ _ h => h) (Or.inl ⟨by rfl, ?hyT39⟩) (by assumption) ?rstT39
            case hyT39 => (intro w hSw; (try dsimp only at hSw); go_simp; (try with_reducible rfl))
            try simp only [Act.put, List.setIfInBounds_toArray, List.set_cons_zero, List.set_cons_succ]
            refine takeD (i := 2) (d := some 90) (v := ?vT40) rfl rfl (by kernel_rfl) (by kernel_rfl) (by kernel_rfl) (fun _ _ _ h => h) (Or.inl ⟨by rfl, ?hyT40⟩) (by assumption) ?rstT40
            case hyT40 => (intro w hSw; (try dsimp only at hSw); go_simp; (try with_reducible rfl))
            try simp only [Act.put, List.setIfInBounds_toArray, List.set_cons_zero, List.set_cons_succ]
            refine takeD (i := 3) (d := some 91) (v := ?vT41) rfl rfl (by kernel_rfl) (by kernel_rfl) (by kernel_rfl) (fun _ _ _ h => h) (Or.inl ⟨by rfl, ?hyT41⟩) (by assumption) ?rstT41
            case hyT41 => (intro w hSw; (try dsimp only at hSw); go_simp; (try with_reducible rfl))
            try simp only [Act.put, List.setIfInBounds_toArray, List.set_cons_zero, List.set_cons_succ]
            refine takeD (i := 4) (d := some 92) (v := ?vT42) rfl rfl (by kernel_rfl) (by kernel_rfl) (by kernel_rfl) (fun _ _ _ h => h) (Or.inl ⟨by rfl, ?hyT42⟩) (by assumption) ?rstT42
            case hyT42 => (intro w hSw; (try dsimp only at hSw); go_simp; (try with_reducible rfl))
            try simp only [Act.put, List.setIfInBounds_toArray, List.set_cons_zero, List.set_cons_succ]
            refine takeD (i := 5) (d := some 93) (v := ?vT43) rfl rfl (by kernel_rfl) (by kernel_rfl) (by kernel_rfl) (fun _ _ _ h => h) (Or.inl ⟨by rfl, ?hyT43⟩) (by assumption) ?rstT43
            case hyT43 => (intro w hSw; (try dsimp only at hSw); go_simp; (try with_reducible rfl))
            try simp only [Act.put, List.setIfInBounds_toArray, List.set_cons_zero, List.set_cons_succ]
            refine takeD (i := 6) (d := some 94) (v := ?vT44) rfl rfl (by kernel_rfl) (by kernel_rfl) (by kernel_rfl) (fun _ _ _ h => h) (Or.inl ⟨by rfl, ?hyT44⟩) (by assumption) ?rstT44
            case hyT44 => (intro w hSw; (try dsimp only at hSw); go_simp; (try with_reducible rfl))
            try simp only [Act.put, List.setIfInBounds_toArray, List.set_cons_zero, List.set_cons_succ]
            refine takeD (i := 7) (d := some 95) (v := ?vT45) rfl rfl (by kernel_rfl) (by kernel_rfl) (by kernel_rfl) (fun _ _ _ h => h) (Or.inl ⟨by rfl, ?hyT45⟩) (by assumption) ?rstT45
            case hyT45 => (intro w hSw; (try dsimp only at hSw); go_simp; (try with_reducible rfl))
            try simp only [Act.put, List.setIfInBounds_toArray, List.set_cons_zero, List.set_cons_succ]
            refine takeD (i := 8) (d := some 96) (v := ?vT46) rfl rfl (by kernel_rfl) (by kernel_rfl) (by kernel_rfl) (fun _ _ _ h => h) (Or.inl ⟨by rfl, ?hyT46⟩) (by assumption) ?rstT46
            case hyT46 => (intro w hSw; (try dsimp only at hSw); go_simp; (try with_reducible rfl))
            try simp only [Act.put, List.setIfInBounds_toArray, List.set_cons_zero, List.set_cons_succ]
            refine takeD (i := 9) (d := some 97) (v := ?vT47) rfl rfl (by kernel_rfl) (by kernel_rfl) (by kernel_rfl) (fun _ _ _ h => h) (Or.inl ⟨by rfl, ?hyT47⟩) (by assumption) ?rstT47
            case hyT47 => (intro w hSw; (try dsimp only at hSw); go_simp; (try with_reducible rfl))
            try simp only [Act.put, List.setIfInBounds_toArray, List.set_cons_zero, List.set_cons_succ]
            refine takeD (i := 10) (d := some 98) (v := ?vT48) rfl rfl (by kernel_rfl) (by kernel_rfl) (by kernel_rfl) (fun _ _ _ h => h) (Or.inl ⟨by rfl, ?hyT48⟩) (by assumption) ?rstT48
            case hyT48 => (intro w hSw; (try dsimp only at hSw); go_simp; (try with_reducible rfl))
            try simp only [Act.put, List.setIfInBounds_toArray, List.set_cons_zero, List.set_cons_succ]
            refine takeD (i := 11) (d := some 99) (v := ?vT49) rfl rfl (by kernel_rfl) (by kernel_rfl) (by kernel_rfl) (fun _ _ _ h => h) (Or.inl ⟨by rfl, ?hyT49⟩) (by assumption) ?rstT49
            case hyT49 => (intro w hSw; (try dsimp only at hSw); go_simp; (try with_reducible rfl))
            try simp only [Act.put, List.setIfInBounds_toArray, List.set_cons_zero, List.set_cons_succ]
            refine takeD (i := 12) (d := some 100) (v := ?vT50) rfl rfl (by kernel_rfl) (by kernel_rfl) (by kernel_rfl) (fun _ _ _ h => h) (Or.inl ⟨by rfl, ?hyT50⟩) (by assumption) ?rstT50
            case hyT50 => (intro w hSw; (try dsimp only at hSw); go_simp; (try with_reducible rfl))
            try simp only [Act.put, List.setIfInBounds_toArray, List.set_cons_zero, List.set_cons_succ]
            refine takeD (i := 13) (d := some 101) (v := ?vT51) rfl rfl (by kernel_rfl) (by kernel_rfl) (by kernel_rfl) (fun _ _ _ h => h) (Or.inl ⟨by rfl, ?hyT51⟩) (by assumption) ?rstT51
            case hyT51 => (intro w hSw; (try dsimp only at hSw); go_simp; (try with_reducible rfl))
            try simp only [Act.put, List.setIfInBounds_toArray, List.set_cons_zero, List.set_cons_succ]
            refine takeD (i := 14) (d := some 102) (v := ?vT52) rfl rfl (by kernel_rfl) (by kernel_rfl) (by kernel_rfl) (fun _ _ _ h => h) (Or.inl ⟨by rfl, ?hyT52⟩) (by assumption) ?rstT52
            case hyT52 => (intro w hSw; (try dsimp only at hSw); go_simp; (try with_reducible rfl))
            try simp only [Act.put, List.setIfInBounds_toArray, List.set_cons_zero, List.set_cons_succ]
            refine takeD (i := 15) (d := some 103) (v := ?vT53) rfl rfl (by kernel_rfl) (by kernel_rfl) (by kernel_rfl) (fun _ _ _ h => h) (Or.inl ⟨by rfl, ?hyT53⟩) (by assumption) ?rstT53
            case hyT53 => (intro w hSw; (try dsimp only at hSw); go_simp; (try with_reducible rfl))
            try simp only [Act.put, List.setIfInBounds_toArray, List.set_cons_zero, List.set_cons_succ]
            refine takeD (i := 16) (d := some 104) (v := ?vT54) rfl rfl (by kernel_rfl) (by kernel_rfl) (by kernel_rfl) (fun _ _ _ h => h) (Or.inl ⟨by rfl, ?hyT54⟩) (by assumption) ?rstT54
            case hyT54 => (intro w hSw; (try dsimp only at hSw); go_simp; (try with_reducible rfl))
            try simp only [Act.put, List.setIfInBounds_toArray, List.set_cons_zero, List.set_cons_succ]
            refine takeD (i := 17) (d := some 105) (v := ?vT55) rfl rfl (by kernel_rfl) (by kernel_rfl) (by kernel_rfl) (fun _ _ _ h => h) (Or.inl ⟨by rfl, ?hyT55⟩) (by assumption) ?rstT55
            case hyT55 => (intro w hSw; (try dsimp only at hSw); go_simp; (try with_reducible rfl))
            try simp only [Act.put, List.setIfInBounds_toArray, List.set_cons_zero, List.set_cons_succ]
            refine takeD (i := 18) (d := some 106) (v := ?vT56) rfl rfl (by kernel_rfl) (by kernel_rfl) (by kernel_rfl) (fun _ _ _ h => h) (Or.inl ⟨by rfl, ?hyT56⟩) (by assumption) ?rstT56
            case hyT56 => (intro w hSw; (try dsimp only at hSw); go_simp; (try with_reducible rfl))
            try simp only [Act.put, List.setIfInBounds_toArray, List.set_cons_zero, List.set_cons_succ]
            refine takeD (i := 19) (d := some 107) (v := ?vT57) rfl rfl (by kernel_rfl) (by kernel_rfl) (by kernel_rfl) (fun _ _ _ h => h) (Or.inl ⟨by rfl, ?hyT57⟩) (by assumption) ?rstT57
            case hyT57 => (intro w hSw; (try dsimp only at hSw); go_simp; (try with_reducible rfl))
            try simp only [Act.put, List.setIfInBounds_toArray, List.set_cons_zero, List.set_cons_succ]
            refine takeD (i := 20) (d := some 108) (v := ?vT58) rfl rfl (by kernel_rfl) (by kernel_rfl) (by kernel_rfl) (fun _ _ _ h => h) (Or.inl ⟨by rfl, ?hyT58⟩) (by assumption) ?rstT58
            case hyT58 => (intro w hSw; (try dsimp only at hSw); go_simp; (try with_reducible rfl))
            try simp only [Act.put, List.setIfInBounds_toArray, List.set_cons_zero, List.set_cons_succ]
            refine takeD (i := 21) (d := some 109) (v := ?vT59) rfl rfl (by kernel_rfl) (by kernel_rfl) (by kernel_rfl) (fun _ _ _ h => h) (Or.inl ⟨by rfl, ?hyT59⟩) (by assumption) ?rstT59
            case hyT59 => (intro w hSw; (try dsimp only at hSw); go_simp; (try with_reducible rfl))
            try simp only [Act.put, List.setIfInBounds_toArray, List.set_cons_zero, List.set_cons_succ]
            refine takeD (i := 22) (d := some 110) (v := ?vT60) rfl rfl (by kernel_rfl) (by kernel_rfl) (by kernel_rfl) (fun _ _ _ h => h) (Or.inl ⟨by rfl, ?hyT60⟩) (by assumption) ?rstT60
            case hyT60 => (intro w hSw; (try dsimp only at hSw); go_simp; (try with_reducible rfl))
            try simp only [Act.put, List.setIfInBounds_toArray, List.set_cons_zero, List.set_cons_succ]
            refine takeD (i := 23) (d := some 111) (v := ?vT61) rfl rfl (by kernel_rfl) (by kernel_rfl) (by kernel_rfl) (fun _ _ _ h => h) (Or.inl ⟨by rfl, ?hyT61⟩) (by assumption) ?rstT61
            case hyT61 => (intro w hSw; (try dsimp only at hSw); go_simp; (try with_reducible rfl))
            try simp only [Act.put, List.setIfInBounds_toArray, List.set_cons_zero, List.set_cons_succ]
            refine takeD (i := 24) (d := some 112) (v := ?vT62) rfl rfl (by kernel_rfl) (by kernel_rfl) (by kernel_rfl) (fun _ _ _ h => h) (Or.inl ⟨by rfl, ?hyT62⟩) (by assumption) ?rstT62
            case hyT62 => (intro w hSw; (try dsimp only at hSw); go_simp; (try with_reducible rfl))
            try simp only [Act.put, List.setIfInBounds_toArray, List.set_cons_zero, List.set_cons_succ]
            refine takeD (i := 26) (d := some 114) (v := ?vT63) rfl rfl (by kernel_rfl) (by kernel_rfl) (by kernel_rfl) (fun _ _ _ h => h) (Or.inl ⟨by rfl, ?hyT63⟩) (by assumption) ?rstT63
            case hyT63 => (intro w hSw; (try dsimp only at hSw); go_simp; (try with_reducible rfl))
            try simp only [Act.put, List.setIfInBounds_toArray, List.set_cons_zero, List.set_cons_succ]
            refine wpAnyH_ready (rs := [25]) (by kernel_rfl) (by simp) ?_
            refine AllReadyH.cons rfl (fun K hK => ?_) AllReadyH.nil
            go_simp
            refine (HP0.out y2 _).mono ?_
            rintro e2 w10 ⟨rfl, rfl⟩
            clear hHeld
            refine hK.out _ _ ?hS64 (fun hHeld => ?rest64)
            case hS64 => (intro p hp; refine Below.cell (B := w9.heap.size) ?_ hp; (repeat (first | with_reducible exact hcur | (with_reducible refine Below.drew ?_))))
            clear hK K
            try simp only [Act.put, List.setIfInBounds_toArray, List.set_cons_zero, List.set_cons_succ]
            refine takeD (i := 27) (d := some 115) (v := ?vT65) rfl rfl (by kernel_rfl) (by kernel_rfl) (by kernel_rfl) (fun _ _ _ h => h) (Or.inl ⟨by rfl, ?hyT65⟩) (by assumption) ?rstT65
            case hyT65 => (intro w hSw; (try dsimp only at hSw); go_simp; (try with_reducible rfl))
            try simp only [Act.put, List.setIfInBounds_toArray, List.set_cons_zero, List.set_cons_succ]
            refine takeD (i := 28) (d := some 116) (v := ?vT66) rfl rfl (by kernel_rfl) (by kernel_rfl) (by kernel_rfl) (fun _ _ _ h => h) (Or.inl ⟨by rfl, ?hyT66⟩) (by assumption) ?rstT66
            case hyT66 => (intro w hSw; (try dsimp only at hSw); go_simp; (try with_reducible rfl))
            try simp only [Act.put, List.setIfInBounds_toArray, List.set_cons_zero, List.set_cons_succ]
            refine takeD (i := 29) (d := some 117) (v := ?vT67) rfl rfl (by kernel_rfl) (by kernel_rfl) (by kernel_rfl) (fun _ _ _ h => h) (Or.inl ⟨by rfl, ?hyT67⟩) (by assumption) ?rstT67
            case hyT67 => (intro w hSw; (try dsimp only at hSw); go_simp; (try with_reducible rfl))
            try simp only [Act.put, List.setIfInBounds_toArray, List.set_cons_zero, List.set_cons_succ]
            refine wpAnyH_done (by kernel_rfl) ?_ _
            go_wp2_with fail
            go_meet
            case rel => exact ⟨rfl, by first | exact hcur | exact hcur.drew⟩
          case rest =>
            obtain ⟨W11, rfl⟩ : ∃ x, x = wc := ⟨_, rfl⟩
            obtain ⟨rfl, k11⟩ := hcut
            go_wp2_with fail
            go_roundw
            case rel => exact ⟨j + 1, by omega, by go_num, k11⟩
            case measure => simp [RowKit.intOf]; omega
        · have m8 : decide ((j : Int) < (K : Int) - 1) = false := decide_eq_false (by omega)
          clear hm
          go_wp2_with fail
          go_cut [117] (fun v wx => v = .bool false ∧ Below w9.heap.size w9 wx)
          case first =>
            refine wp_region_held_drew (S := (fun W => ∀ p : Addr, p.block < w9.heap.size → W.cell? p = w9.cell? p)) (by kernel_rfl) ?hS68 (fun hHeld => ?rest68)
            case hS68 => (intro p hp; refine Below.cell (B := w9.heap.size) ?_ hp; (repeat (first | with_reducible exact hcur | (with_reducible refine Below.drew ?_))))
            refine takeD (i := 0) (d := some 88) (v := ?vT69) rfl rfl (by kernel_rfl) (by kernel_rfl) (by kernel_rfl) (fun _ _ _ h => h) (Or.inl ⟨by rfl, ?hyT69⟩) (by assumption) ?rstT69
            case hyT69 => (intro w hSw; (try dsimp only at hSw); go_simp; (try with_reducible rfl))
            try simp only [Act.put, List.setIfInBounds_toArray, List.set_cons_zero, List.set_cons_succ]
            refine takeD (i := 1) (d := some 89) (v := ?vT70) rfl rfl (by kernel_rfl) (by kernel_rfl) (by kernel_rfl) (fun _ _ _ h => h) (Or.inl ⟨by rfl, ?hyT70⟩) (by assumption) ?rstT70
            case hyT70 => (intro w hSw; (try dsimp only at hSw); go_simp; (try with_reducible rfl))
            try simp only [Act.put, List.setIfInBounds_toArray, List.set_cons_zero, List.set_cons_succ]
            refine takeD (i := 2) (d := some 90) (v := ?vT71) rfl rfl (by kernel_rfl) (by kernel_rfl) (by kernel_rfl) (fun _ _ _ h => h) (Or.inl ⟨by rfl, ?hyT71⟩) (by assumption) ?rstT71
            case hyT71 => (intro w hSw; (try dsimp only at hSw); go_simp; (try with_reducible rfl))
            try simp only [Act.put, List.setIfInBounds_toArray, List.set_cons_zero, List.set_cons_succ]
            refine takeD (i := 3) (d := some 91) (v := ?vT72) rfl rfl (by kernel_rfl) (by kernel_rfl) (by kernel_rfl) (fun _ _ _ h => h) (Or.inl ⟨by rfl, ?hyT72⟩) (by assumption) ?rstT72
            case hyT72 => (intro w hSw; (try dsimp only at hSw); go_simp; (try with_reducible rfl))
            try simp only [Act.put, List.setIfInBounds_toArray, List.set_cons_zero, List.set_cons_succ]
            refine takeD (i := 4) (d := some 92) (v := ?vT73) rfl rfl (by kernel_rfl) (by kernel_rfl) (by kernel_rfl) (fun _ _ _ h => h) (Or.inl ⟨by rfl, ?hyT73⟩) (by assumption) ?rstT73
            case hyT73 => (intro w hSw; (try dsimp only at hSw); go_simp; (try with_reducible rfl))
            try simp only [Act.put, List.setIfInBounds_toArray, List.set_cons_zero, List.set_cons_succ]
            refine takeD (i := 5) (d := some 93) (v := ?vT74) rfl rfl (by kernel_rfl) (by kernel_rfl) (by kernel_rfl) (fun _ _ _ h => h) (Or.inl ⟨by rfl, ?hyT74⟩) (by assumption) ?rstT74
            case hyT74 => (intro w hSw; (try dsimp only at hSw); go_simp; (try with_reducible rfl))
            try simp only [Act.put, List.setIfInBounds_toArray, List.set_cons_zero, List.set_cons_succ]
            refine takeD (i := 6) (d := some 94) (v := ?vT75) rfl rfl (by kernel_rfl) (by kernel_rfl) (by kernel_rfl) (fun _ _ _ h => h) (Or.inl ⟨by rfl, ?hyT75⟩) (by assumption) ?rstT75
            case hyT75 => (intro w hSw; (try dsimp only at hSw); go_simp; (try with_reducible rfl))
            try simp only [Act.put, List.setIfInBounds_toArray, List.set_cons_zero, List.set_cons_succ]
            refine takeD (i := 7) (d := some 95) (v := ?vT76) rfl rfl (by kernel_rfl) (by kernel_rfl) (by kernel_rfl) (fun _ _ _ h => h) (Or.inl ⟨by rfl, ?hyT76⟩) (by assumption) ?rstT76
            case hyT76 => (intro w hSw; (try dsimp only at hSw); go_simp; (try with_reducible rfl))
            try simp only [Act.put, List.setIfInBounds_toArray, List.set_cons_zero, List.set_cons_succ]
            refine takeD (i := 8) (d := some 96) (v := ?vT77) rfl rfl (by kernel_rfl) (by kernel_rfl) (by kernel_rfl) (fun _ _ _ h => h) (Or.inl ⟨by rfl, ?hyT77⟩) (by assumption) ?rstT77
            case hyT77 => (intro w hSw; (try dsimp only at hSw); go_simp; (try with_reducible rfl))
            try simp only [Act.put, List.setIfInBounds_toArray, List.set_cons_zero, List.set_cons_succ]
            refine takeD (i := 9) (d := some 97) (v := ?vT78) rfl rfl (by kernel_rfl) (by kernel_rfl) (by kernel_rfl) (fun _ _ _ h => h) (Or.inl ⟨by rfl, ?hyT78⟩) (by assumption) ?rstT78
            case hyT78 => (intro w hSw; (try dsimp only at hSw); go_simp; (try with_reducible rfl))
            try simp only [Act.put, List.setIfInBounds_toArray, List.set_cons_zero, List.set_cons_succ]
            refine takeD (i := 10) (d := some 98) (v := ?vT79) rfl rfl (by kernel_rfl) (by kernel_rfl) (by kernel_rfl) (fun _ _ _ h => h) (Or.inl ⟨by rfl, ?hyT79⟩) (by assumption) ?rstT79
            case hyT79 => (intro w hSw; (try dsimp only at hSw); go_simp; (try with_reducible rfl))
            try simp only [Act.put, List.setIfInBounds_toArray, List.set_cons_zero, List.set_cons_succ]
            refine takeD (i := 11) (d := some 99) (v := ?vT80) rfl rfl (by kernel_rfl) (by kernel_rfl) (by kernel_rfl) (fun _ _ _ h => h) (Or.inl ⟨by rfl, ?hyT80⟩) (by assumption) ?rstT80
            case hyT80 => (intro w hSw; (try dsimp only at hSw); go_simp; (try with_reducible rfl))
            try simp only [Act.put, List.setIfInBounds_toArray, List.set_cons_zero, List.set_cons_succ]
            refine takeD (i := 12) (d := some 100) (v := ?vT81) rfl rfl (by kernel_rfl) (by kernel_rfl) (by kernel_rfl) (fun _ _ _ h => h) (Or.inl ⟨by rfl, ?hyT81⟩) (by assumption) ?rstT81
            case hyT81 => (intro w hSw; (try dsimp only at hSw); go_simp; (try with_reducible rfl))
            try simp only [Act.put, List.setIfInBounds_toArray, List.set_cons_zero, List.set_cons_succ]
            refine takeD (i := 13) (d := some 101) (v := ?vT82) rfl rfl (by kernel_rfl) (by kernel_rfl) (by kernel_rfl) (fun _ _ _ h => h) (Or.inl ⟨by rfl, ?hyT82⟩) (by assumption) ?rstT82
            case hyT82 => (intro w hSw; (try dsimp only at hSw); go_simp; (try with_reducible rfl))
            try simp only [Act.put, List.setIfInBounds_toArray, List.set_cons_zero, List.set_cons_succ]
            refine takeD (i := 14) (d := some 102) (v := ?vT83) rfl rfl (by kernel_rfl) (by kernel_rfl) (by kernel_rfl) (fun _ _ _ h => h) (Or.inl ⟨by rfl, ?hyT83⟩) (by assumption) ?rstT83
            case hyT83 => (intro w hSw; (try dsimp only at hSw); go_simp; (try with_reducible rfl))
            try simp only [Act.put, List.setIfInBounds_toArray, List.set_cons_zero, List.set_cons_succ]
            refine takeD (i := 15) (d := some 103) (v := ?vT84) rfl rfl (by kernel_rfl) (by kernel_rfl) (by kernel_rfl) (fun _ _ _ h => h) (Or.inl ⟨by rfl, ?hyT84⟩) (by assumption) ?rstT84
            case hyT84 => (intro w hSw; (try dsimp only at hSw); go_simp; (try with_reducible rfl))
            try simp only [Act.put, List.setIfInBounds_toArray, List.set_cons_zero, List.set_cons_succ]
            refine takeD (i := 16) (d := some 104) (v := ?vT85) rfl rfl (by kernel_rfl) (by kernel_rfl) (by kernel_rfl) (fun _ _ _ h => h) (Or.inl ⟨by rfl, ?hyT85⟩) (by assumption) ?rstT85
            case hyT85 => (intro w hSw; (try dsimp only at hSw); go_simp; (try with_reducible rfl))
            try simp only [Act.put, List.setIfInBounds_toArray, List.set_cons_zero, List.set_cons_succ]
            refine takeD (i := 17) (d := some 105) (v := ?vT86) rfl rfl (by kernel_rfl) (by kernel_rfl) (by kernel_rfl) (fun _ _ _ h => h) (Or.inl ⟨by rfl, ?hyT86⟩) (by assumption) ?rstT86
            case hyT86 => (intro w hSw; (try dsimp only at hSw); go_simp; (try with_reducible rfl))
            try simp only [Act.put, List.setIfInBounds_toArray, List.set_cons_zero, List.set_cons_succ]
            refine takeD (i := 18) (d := some 106) (v := ?vT87) rfl rfl (by kernel_rfl) (by kernel_rfl) (by kernel_rfl) (fun _ _ _ h => h) (Or.inl ⟨by rfl, ?hyT87⟩) (by assumption) ?rstT87
            case hyT87 => (intro w hSw; (try dsimp only at hSw); go_simp; (try with_reducible rfl))
            try simp only [Act.put, List.setIfInBounds_toArray, List.set_cons_zero, List.set_cons_succ]
            refine takeD (i := 19) (d := some 107) (v := undef) rfl rfl (by kernel_rfl) (by kernel_rfl) (by kernel_rfl) (fun _ _ _ h => h) (Or.inr ⟨by rfl, rfl⟩) (by assumption) ?_
            try simp only [Act.put, List.setIfInBounds_toArray, List.set_cons_zero, List.set_cons_succ]
            refine takeD (i := 20) (d := some 108) (v := undef) rfl rfl (by kernel_rfl) (by kernel_rfl) (by kernel_rfl) (fun _ _ _ h => h) (Or.inr ⟨by rfl, rfl⟩) (by assumption) ?_
            try simp only [Act.put, List.setIfInBounds_toArray, List.set_cons_zero, List.set_cons_succ]
            refine takeD (i := 21) (d := some 109) (v := undef) rfl rfl (by kernel_rfl) (by kernel_rfl) (by kernel_rfl) (fun _ _ _ h => h) (Or.inr ⟨by rfl, rfl⟩) (by assumption) ?_
            try simp only [Act.put, List.setIfInBounds_toArray, List.set_cons_zero, List.set_cons_succ]
            refine takeD (i := 22) (d := some 110) (v := undef) rfl rfl (by kernel_rfl) (by kernel_rfl) (by kernel_rfl) (fun _ _ _ h => h) (Or.inr ⟨by rfl, rfl⟩) (by assumption) ?_
            try simp only [Act.put, List.setIfInBounds_toArray, List.set_cons_zero, List.set_cons_succ]
            refine takeD (i := 23) (d := some 111) (v := undef) rfl rfl (by kernel_rfl) (by kernel_rfl) (by kernel_rfl) (fun _ _ _ h => h) (Or.inr ⟨by rfl, rfl⟩) (by assumption) ?_
            try simp only [Act.put, List.setIfInBounds_toArray, List.set_cons_zero, List.set_cons_succ]
            refine takeD (i := 24) (d := some 112) (v := undef) rfl rfl (by kernel_rfl) (by kernel_rfl) (by kernel_rfl) (fun _ _ _ h => h) (Or.inr ⟨by rfl, rfl⟩) (by assumption) ?_
            try simp only [Act.put, List.setIfInBounds_toArray, List.set_cons_zero, List.set_cons_succ]
            refine takeD (i := 25) (d := some 113) (v := undef) rfl rfl (by kernel_rfl) (by kernel_rfl) (by kernel_rfl) (fun _ _ _ h => h) (Or.inr ⟨by rfl, rfl⟩) (by assumption) ?_
            try simp only [Act.put, List.setIfInBounds_toArray, List.set_cons_zero, List.set_cons_succ]
            refine takeD (i := 26) (d := some 114) (v := undef) rfl rfl (by kernel_rfl) (by kernel_rfl) (by kernel_rfl) (fun _ _ _ h => h) (Or.inr ⟨by rfl, rfl⟩) (by assumption) ?_
            try simp only [Act.put, List.setIfInBounds_toArray, List.set_cons_zero, List.set_cons_succ]
            refine takeD (i := 27) (d := some 115) (v := undef) rfl rfl (by kernel_rfl) (by kernel_rfl) (by kernel_rfl) (fun _ _ _ h => h) (Or.inr ⟨by rfl, rfl⟩) (by assumption) ?_
            try simp only [Act.put, List.setIfInBounds_toArray, List.set_cons_zero, List.set_cons_succ]
            refine takeD (i := 28) (d := some 116) (v := ?vT88) rfl rfl (by kernel_rfl) (by kernel_rfl) (by kernel_rfl) (fun _ _ _ h => h) (Or.inl ⟨by rfl, ?hyT88⟩) (by assumption) ?rstT88
            case hyT88 => (intro w hSw; (try dsimp only at hSw); go_simp; (try with_reducible rfl))
            try simp only [Act.put, List.setIfInBounds_toArray, List.set_cons_zero, List.set_cons_succ]
            refine takeD (i := 29) (d := some 117) (v := ?vT89) rfl rfl (by kernel_rfl) (by kernel_rfl) (by kernel_rfl) (fun _ _ _ h => h) (Or.inl ⟨by rfl, ?hyT89⟩) (by assumption) ?rstT89
            case hyT89 => (intro w hSw; (try dsimp only at hSw); go_simp; (try with_reducible rfl))
            try simp only [Act.put, List.setIfInBounds_toArray, List.set_cons_zero, List.set_cons_succ]
            refine wpAnyH_done (by kernel_rfl) ?_ _
            go_wp2_with fail
            go_meet
            case rel => exact ⟨rfl, by first | exact hcur | exact hcur.drew⟩
          case rest =>
            obtain ⟨W11, rfl⟩ : ∃ x, x = wc := ⟨_, rfl⟩
            obtain ⟨rfl, k11⟩ := hcut
            go_wp2_with fail
            go_roundw
            case rel => exact ⟨j + 1, by omega, by go_num, k11⟩
            case measure => simp [RowKit.intOf]; omega
      · obtain rfl : j = K := by omega
        go_wp2_with fail
        go_loopw [14] (fun i wr => ∃ j : Nat, j ≤ n0 ∧ i = .int .i64 j ∧ Below w9.heap.size w9 wr) (fun i _ => n0 - (RowKit.intOf i).toNat)
        case atStart => exact ⟨0, Nat.zero_le _, rfl, hcur⟩
        case round =>
          obtain ⟨j2, hj2n, rfl, hcur2⟩ := hrel
          by_cases hj2 : j2 < n0
          · obtain ⟨ga, offa, y, rfl, hga, hy, hcsa⟩ := hl9w.at j2 hj2
            obtain ⟨y1, y2⟩ := y
            have d0 := (hcur2.cell (p := ⟨ga, offa + j2 * 2, none⟩) hga).trans (hcsa 0 _ rfl)
            have d1 := (hcur2.cell (p := ⟨ga, offa + j2 * 2 + 1, none⟩) hga).trans (hcsa 1 _ rfl)
            have hcl : wr.cell? ⟨g7, (j2 + 2) * 2, none⟩ = some (.int .i64 y1) ∧ wr.cell? ⟨g7, (j2 + 2) * 2 + 1, none⟩ = some (.int .i64 y2) := by
              obtain ⟨g, off, z, e, hg, hz, hcs⟩ := hR9.at (j2 + 2) (by omega)
              cases e
              rw [HLl.out, hy] at hz
              cases hz
              have h0 := hcs 0 _ rfl
              have h1 := hcs 1 _ rfl
              simp only [Nat.zero_add, Nat.add_zero] at h0 h1
              exact ⟨(hcur2.cell (p := ⟨g7, (j2 + 2) * 2, none⟩) hg7).trans h0, (hcur2.cell (p := ⟨g7, (j2 + 2) * 2 + 1, none⟩) hg7).trans h1⟩
            obtain ⟨z0, z1⟩ := hcl
            simp only at d0 d1
            have m3 : IntKind.i64.wrap ((j2 : Int) + 2) = ((j2 + 2 : Nat) : Int) := by rw [IntWalk.i64_in _ (by omega)]; omega
            have m4 : ((j2 + 2 : Nat) : Int) < (n : Int) := by omega
            clear hcsa hA9 hR9 hW9 hl9w h
            go_wp2_with fail
            go_quiet (fail)
            go_wp2_with fail
            go_roundw
            case rel => exact ⟨j2 + 1, by omega, by go_num, below_drewN hcur2 _⟩
            case measure => simp [RowKit.intOf]; omega
          · obtain rfl : j2 = n0 := by omega
            have hcl : wr.cell? ⟨g7, 0, none⟩ = some (.int .i64 1) ∧ wr.cell? ⟨g7, 1, none⟩ = some (.int .i64 r) := by
              obtain ⟨g, off, z, e, hg, hz, hcs⟩ := hR9.at 0 (by omega)
              cases e
              rw [HL0.out] at hz
              cases hz
              have h0 := hcs 0 _ rfl
              have h1 := hcs 1 _ rfl
              simp only [Nat.zero_add, Nat.zero_mul, Nat.add_zero] at h0 h1
              exact ⟨(hcur2.cell (p := ⟨g7, 0, none⟩) hg7).trans h0, (hcur2.cell (p := ⟨g7, 1, none⟩) hg7).trans h1⟩
            have hce : wr.cell? ⟨g7, n * 2, none⟩ = some (.int .i64 (-7)) ∧ wr.cell? ⟨g7, n * 2 + 1, none⟩ = some (.int .i64 (-7)) := by
              obtain ⟨g, off, z, e, hg, hz, hcs⟩ := hW9.at n (by omega)
              cases e
              rw [List.getElem?_append_right (by omega), hLn, Nat.sub_self] at hz
              cases hz
              have h0 := hcs 0 _ rfl
              have h1 := hcs 1 _ rfl
              simp only [Nat.zero_add, Nat.add_zero] at h0 h1
              exact ⟨(hcur2.cell (p := ⟨g7, n * 2, none⟩) hg7).trans h0, (hcur2.cell (p := ⟨g7, n * 2 + 1, none⟩) hg7).trans h1⟩
            obtain ⟨z0, z1⟩ := hcl
            obtain ⟨z2, z3⟩ := hce
            have cR' := (hcur2.cell (p := ⟨w.heap.size, 0, none⟩) lR).trans cR
            have m3 : IntKind.i64.wrap ((n : Int) + 1) = ((n + 1 : Nat) : Int) := by rw [IntWalk.i64_in _ (by omega)]; omega
            have m4 : ((n + 1 : Nat) : Int) ≤ (cap7 : Int) := by omega
            have m5 : (0 : Int) < (n : Int) := by omega
            have m6 : (n : Int) < ((n + 1 : Nat) : Int) := by omega
            have m7 : (0 : Int) ≤ ((n + 1 : Nat) : Int) := by omega
            clear hA9 hR9 hW9 hl9w h
            go_wp2_with fail
            go_quiet (fail)
            go_wp2_with fail
            go_ret
            exact ⟨rfl, hB9.trans ((below_drewN hcur2 _).mono hB9.size)⟩
end Go.Proofs.Ytgbdohljfedeoaa
