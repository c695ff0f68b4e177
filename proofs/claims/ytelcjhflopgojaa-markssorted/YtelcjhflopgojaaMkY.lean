import Derived.Test.YtelcjhflopgojaaMkV
/-! The plain side of MarksSorted; pick. -/
namespace Go.Proofs.Ytelcjhflopgojaa
open Go.RowKit Go.Lib Go.Sort Go.Shelf
set_option maxRecDepth 100000

set_option maxHeartbeats 1000000 in
theorem pick_any (k : Int) (n : Int) (hn : 0 < n) (hk : -9223372036854775808 ≤ k ∧ k ≤ 9223372036854775807) (hm : n ≤ 9223372036854775807) (w : World) : Calls Try.prog 12 #[.int .i64 k, .int .i64 n] w fun e w' => e = .returned (.int .i64 (k % n)) ∧ w' = w := by
  obtain ⟨hk1, hk2⟩ := hk
  have hlt := Int.emod_lt_of_pos k hn
  have hge := Int.emod_nonneg k (show n ≠ 0 by omega)
  have hne : (n == 0) = false := beq_eq_false_iff_ne.2 (by omega)
  have hne1 : (n == -1) = false := beq_eq_false_iff_ne.2 (by omega)
  obtain ⟨r, hr⟩ : ∃ r, k % n = r := ⟨_, rfl⟩
  obtain ⟨q, hq⟩ : ∃ q, k.tmod n = q := ⟨_, rfl⟩
  have hqr : q = r ∨ (q < 0 ∧ q + n = r) := by
    rw [← hq, ← hr]
    by_cases h0 : 0 ≤ k
    · left
      exact Int.tmod_eq_emod_of_nonneg h0
    · have h1 : k.tmod n = k % n - (if (n ∣ k) then 0 else n) := by
        rw [Int.tmod_eq_emod]
        have : ¬ (0 ≤ k) := h0
        simp [this]
        split
        · rfl
        · omega
      by_cases h2 : n ∣ k
      · left; rw [h1, if_pos h2]; omega
      · right
        rw [h1, if_neg h2]
        omega
  have hqb : IntKind.i64.wrap q = q := IntWalk.i64_in _ (by omega)
  rw [hr] at hlt hge ⊢
  have H : Hid (q = r ∨ (q < 0 ∧ q + n = r)) := hqr
  have hn0 : ¬ n = 0 := by omega
  clear hqr hr
  go_enter Try.func12, Try.ntmps12
  rcases Int.lt_or_le q 0 with h0 | h0
  · have z : decide (q < 0) = true := decide_eq_true h0
    have y : IntKind.i64.wrap (q + n) = r := by
      rcases H.out with h | h
      · omega
      · rw [h.2]; exact IntWalk.i64_in _ (by omega)
    go_wp2_with fail
    go_ret
    exact ⟨rfl, rfl⟩
  · have z : decide (q < 0) = false := decide_eq_false (by omega)
    obtain rfl : q = r := by
      rcases H.out with h | h
      · exact h
      · omega
    go_wp2_with fail
    go_ret
    exact ⟨rfl, rfl⟩
def nm3 (i : Nat) : List UInt8 := [UInt8.ofNat (97 + i % 7), UInt8.ofNat (48 + i % 10), UInt8.ofNat (97 + i / 7)]
theorem nm3_ok : ∀ i, i < 60 → nameOk (nm3 i) = true := by decide +kernel
theorem nm3_new : ∀ i, i < 60 → ∀ j, j < i → nm3 j ≠ nm3 i := by decide +kernel
theorem nm3_cells {i : Nat} (h : i < 60) : flatF byU (nm3 i) = (#[.int .u8 (97 + (i : Int) % 7), .int .u8 (48 + (i : Int) % 10), .int .u8 (97 + (i : Int) / 7)] : Array Value).toList := by
  have h1 : (UInt8.ofNat (97 + i % 7)).toNat = 97 + i % 7 := by rw [UInt8.toNat_ofNat']; omega
  have h2 : (UInt8.ofNat (48 + i % 10)).toNat = 48 + i % 10 := by rw [UInt8.toNat_ofNat']; omega
  have h3 : (UInt8.ofNat (97 + i / 7)).toNat = 97 + i / 7 := by rw [UInt8.toNat_ofNat']; omega
  show [Value.int .u8 ((UInt8.ofNat (97 + i % 7)).toNat : Int), Value.int .u8 ((UInt8.ofNat (48 + i % 10)).toNat : Int), Value.int .u8 ((UInt8.ofNat (97 + i / 7)).toNat : Int)] = [Value.int .u8 (97 + (i : Int) % 7), Value.int .u8 (48 + (i : Int) % 10), Value.int .u8 (97 + (i : Int) / 7)]
  rw [h1, h2, h3]
  rfl
def xS (l : List (Int × Int)) (i : Nat) : Nat := ((l.getD i (0, 0)).1 % 100).toNat
def zS (l : List (Int × Int)) (i : Nat) : Nat := ((l.getD i (0, 0)).2 % ((100 - xS l i : Nat) : Int)).toNat
def LS (l : List (Int × Int)) (j : Nat) : List Mk := (List.range j).map fun i => ⟨nm3 i, xS l i, xS l i + 1 + zS l i⟩
theorem xS_is (l : List (Int × Int)) (i : Nat) : (l.getD i (0, 0)).1 % 100 = (xS l i : Int) ∧ xS l i < 100 := by
  have h1 := Int.emod_nonneg (l.getD i (0, 0)).1 (show (100 : Int) ≠ 0 by decide)
  have h2 := Int.emod_lt_of_pos (l.getD i (0, 0)).1 (show (0 : Int) < 100 by decide)
  unfold xS
  omega
theorem zS_is (l : List (Int × Int)) (i : Nat) : (l.getD i (0, 0)).2 % (100 - (xS l i : Int)) = (zS l i : Int) ∧ xS l i + 1 + zS l i ≤ 100 := by
  have hx := (xS_is l i).2
  have e : ((100 - xS l i : Nat) : Int) = 100 - (xS l i : Int) := by omega
  have h1 := Int.emod_nonneg (l.getD i (0, 0)).2 (show (100 - (xS l i : Int)) ≠ 0 by omega)
  have h2 := Int.emod_lt_of_pos (l.getD i (0, 0)).2 (show (0 : Int) < 100 - (xS l i : Int) by omega)
  unfold zS
  rw [e]
  omega
theorem LS_len (l : List (Int × Int)) (j : Nat) : (LS l j).length = j := by unfold LS; rw [List.length_map, List.length_range]
theorem LS_new {l : List (Int × Int)} {i : Nat} (h : i < 60) : hasL (LS l i) (nm3 i) = false := by
  simp only [hasL, LS, List.any_map, List.any_eq_false, Function.comp_apply, decide_eq_true_eq, List.mem_range]
  exact fun j hj => nm3_new i h j hj
theorem putS {l : List (Int × Int)} {i : Nat} (h : i < 60) : putE 100 (LS l i) (nm3 i) (xS l i : Int) ((xS l i + 1 + zS l i : Nat) : Int) = 0 := by
  have hz := (zS_is l i).2
  unfold putE
  rw [if_neg (by rw [nm3_ok i h]; decide), if_neg (by omega), if_neg (by rw [LS_new h]; decide), if_neg (by rw [LS_len]; omega)]
theorem putSL {l : List (Int × Int)} {i : Nat} (h : i < 60) : putL 100 (LS l i) (nm3 i) (xS l i : Int) ((xS l i + 1 + zS l i : Nat) : Int) = LS l (i + 1) := by
  unfold putL
  rw [if_pos (putS h)]
  unfold LS
  rw [List.range_succ, List.map_append]
  rfl
theorem LS_mem {l : List (Int × Int)} {j : Nat} {m : Mk} (h : m ∈ LS l j) : m.lo < m.hi := by
  unfold LS at h
  obtain ⟨i, _, rfl⟩ := List.mem_map.1 h
  show xS l i < xS l i + 1 + zS l i
  omega
def zzN : List UInt8 := [122, 122]
theorem putZ {l : List (Int × Int)} {j : Nat} (h : j ≤ 60) : putE 100 (LS l j) zzN 0 1 = 0 := by
  unfold putE
  rw [if_neg (by decide), if_neg (by omega), if_neg, if_neg (by rw [LS_len]; omega)]
  have : hasL (LS l j) zzN = false := by
    simp only [hasL, LS, List.any_map, List.any_eq_false, Function.comp_apply, decide_eq_true_eq]
    intro i _ e
    have := congrArg List.length e
    simp [nm3, zzN] at this
  rw [this]; decide
theorem putZL {l : List (Int × Int)} {j : Nat} (h : j ≤ 60) : putL 100 (LS l j) zzN 0 1 = LS l j ++ [⟨zzN, 0, 1⟩] := by
  unfold putL
  rw [if_pos (putZ h)]
  rfl
/-! The order -/
theorem ltM_total {x y : Mk} (hn : x.nm ≠ y.nm) (h : ¬ cmpM y x < 0) : ltM x y := by
  rw [cmpM_lt] at h
  unfold ltM at *
  have he := cmp_eq_of x.nm y.nm
  by_cases g1 : Lib.compareBytes x.nm y.nm < 0 <;> by_cases g2 : Lib.compareBytes y.nm x.nm < 0
  · omega
  · omega
  · omega
  · exact absurd (he g1 g2) hn
theorem Rises.next {k : List Mk} (h : Rises k) (hn : (k.map (·.nm)).Nodup) {i : Nat} {x y : Mk} (hx : k[i]? = some x) (hy : k[i + 1]? = some y) : ltM x y := by
  obtain ⟨h1, e1⟩ := List.getElem?_eq_some_iff.1 hx
  obtain ⟨h2, e2⟩ := List.getElem?_eq_some_iff.1 hy
  have hp := List.pairwise_iff_getElem.1 h i (i + 1) h1 h2 (Nat.lt_succ_self i)
  rw [e1, e2] at hp
  refine ltM_total (fun e => ?_) hp
  have hq := List.pairwise_iff_getElem.1 hn i (i + 1) (by rw [List.length_map]; exact h1) (by rw [List.length_map]; exact h2) (Nat.lt_succ_self i)
  rw [List.getElem_map, List.getElem_map, e1, e2] at hq
  exact hq e
theorem rises_unique : ∀ {a b : List Mk}, a.Perm b → (a.map (·.nm)).Nodup → Rises a → Rises b → a = b
  | [], b, h, _, _, _ => (List.Perm.nil_eq h)
  | x :: a, [], h, _, _, _ => absurd h.length_eq (by simp)
  | x :: a, y :: b, h, hn, ha, hb => by
    have hxy : x = y := by
      by_cases e : x = y
      · exact e
      · exfalso
        have h1 : x ∈ b := by
          rcases List.mem_cons.1 (h.mem_iff.1 (List.mem_cons_self ..)) with h1 | h1
          · exact absurd h1 e
          · exact h1
        have h2 : y ∈ a := by
          rcases List.mem_cons.1 (h.mem_iff.2 (List.mem_cons_self ..)) with h1 | h1
          · exact absurd h1.symm e
          · exact h1
        have c1 := (List.pairwise_cons.1 hb).1 x h1
        have c2 := (List.pairwise_cons.1 ha).1 y h2
        rw [List.map_cons, List.nodup_cons] at hn
        have hne : x.nm ≠ y.nm := fun e2 => hn.1 (by rw [e2]; exact List.mem_map.2 ⟨y, h2, rfl⟩)
        have := ltM_total hne c2
        exact c1 ((cmpM_lt x y).2 this)
    subst hxy
    rw [List.map_cons, List.nodup_cons] at hn
    rw [rises_unique h.cons_inv hn.2 (List.pairwise_cons.1 ha).2 (List.pairwise_cons.1 hb).2]
/-- How many of the first i are selected. -/
def cntF (P : Mk → Bool) (k : List Mk) (i : Nat) : Nat := ((k.take i).filter P).length
theorem cntF_succ {P : Mk → Bool} {k : List Mk} {i : Nat} {x : Mk} (h : k[i]? = some x) : cntF P k (i + 1) = if P x = true then cntF P k i + 1 else cntF P k i := by
  unfold cntF
  rw [List.take_add_one, h]
  simp only [Option.toList_some, List.filter_append, List.length_append]
  by_cases hp : P x = true
  · rw [if_pos hp]; simp [hp]
  · rw [if_neg hp]; simp [hp]
theorem cntF_get {P : Mk → Bool} {k : List Mk} {i : Nat} {x : Mk} (h : k[i]? = some x) (hp : P x = true) : (k.filter P)[cntF P k i]? = some x := by
  obtain ⟨hi, e⟩ := List.getElem?_eq_some_iff.1 h
  have h1 : k = k.take i ++ x :: k.drop (i + 1) := by
    rw [← e, ← List.drop_eq_getElem_cons hi, List.take_append_drop]
  unfold cntF
  have h2 : k.filter P = (k.take i).filter P ++ x :: (k.drop (i + 1)).filter P := by
    conv => lhs; rw [h1]
    rw [List.filter_append, List.filter_cons_of_pos hp]
  rw [h2, List.getElem?_append_right (Nat.le_refl _), Nat.sub_self]
  rfl
theorem cntF_le {P : Mk → Bool} {k : List Mk} (i : Nat) : cntF P k i ≤ i := by
  unfold cntF
  exact Nat.le_trans (List.length_filter_le _ _) (List.length_take_le _ _)
theorem less_eq : ∀ a b : List UInt8, Op.bytesLess a b = decide (Lib.compareBytes a b < 0)
  | [], [] => rfl
  | [], _ :: _ => rfl
  | _ :: _, [] => rfl
  | x :: a, y :: b => by
    have ih := less_eq a b
    simp only [Op.bytesLess, Lib.compareBytes, ih]
    by_cases h1 : x < y
    · simp [h1]
    · by_cases h2 : y < x
      · have h3 : ¬ x = y := fun e => by rw [e] at h2; exact UInt8.lt_irrefl _ h2
        simp [h1, h2, h3]
      · have h3 : x = y := UInt8.toNat_inj.1 (by rw [UInt8.lt_iff_toNat_lt] at h1 h2; omega)
        simp [h3]
theorem less_yes {a b : List UInt8} (h : Lib.compareBytes a b < 0) : Op.bytesLess (⟨a.toArray⟩ : ByteArray).toList (⟨b.toArray⟩ : ByteArray).toList = true := by
  rw [Lib.toList_data, Lib.toList_data, less_eq]
  exact decide_eq_true h
/-- 'a >= b' of strings, where a is the lesser. -/
theorem geq_no {a b : List UInt8} (h : Lib.compareBytes a b < 0) (W : World) : (binOp .geq 9 (.string ⟨a.toArray⟩) (.string ⟨b.toArray⟩)).run Try.prog W = .ok (.bool false) W := by
  have e : binOp .geq 9 (.string ⟨a.toArray⟩) (.string ⟨b.toArray⟩) = pure (.bool !(Op.bytesLess (⟨a.toArray⟩ : ByteArray).toList (⟨b.toArray⟩ : ByteArray).toList)) := by simp [binOp, Op.stringOp]
  rw [e, Lib.toList_data, Lib.toList_data, less_eq, decide_eq_true h]
  rfl
end Go.Proofs.Ytelcjhflopgojaa
