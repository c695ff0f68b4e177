import Derived.Test.YtohfckcikincoacSpUp
namespace Go.Proofs.Ytohfckcikincoac
open Go.RowKit Go.Lib
set_option maxRecDepth 100000

theorem pget {l : List (Int × Int)} {i : Nat} (h : i < l.length) : l.getD i (0, 0) = l[i] := by
  rw [List.getD_eq_getElem?_getD, List.getElem?_eq_getElem h]; rfl
theorem pget_mem {l : List (Int × Int)} {i : Nat} (h : i < l.length) : l.getD i (0, 0) ∈ l := by rw [pget h]; exact List.getElem_mem h
theorem norm_rise {b : Int} {l : List (Int × Int)} (h : Norm b l) : ∀ {i j : Nat}, i < j → j < l.length → (l.getD i (0, 0)).2 < (l.getD j (0, 0)).1 := by
  induction l generalizing b with
  | nil => intro i j _ hj; simp at hj
  | cons r t ih =>
    intro i j hij hj
    obtain ⟨_, h2, h3⟩ := h
    cases j with
    | zero => omega
    | succ j =>
      have hj' : j < t.length := by simpa using hj
      cases i with
      | zero =>
        have := (norm_lt h3 (t.getD j (0, 0)) (pget_mem hj')).1
        simpa using this
      | succ i => simpa using ih h3 (by omega : i < j) hj'
theorem norm_wide {b : Int} {l : List (Int × Int)} (h : Norm b l) {i : Nat} (hi : i < l.length) : (l.getD i (0, 0)).1 < (l.getD i (0, 0)).2 :=
  (norm_lt h (l.getD i (0, 0)) (pget_mem hi)).2
theorem norm_los_le {b : Int} {l : List (Int × Int)} (h : Norm b l) {i j : Nat} (hij : i ≤ j) (hj : j < l.length) : (l.getD i (0, 0)).1 ≤ (l.getD j (0, 0)).1 := by
  by_cases e : i = j
  · subst e; exact Int.le_refl _
  · have := norm_rise h (by omega : i < j) hj
    have := norm_wide h (by omega : i < l.length)
    omega
theorem in_iff {b : Int} {l : List (Int × Int)} (h : Norm b l) {q : Int} {k : Nat} (hk : k ≤ l.length) (h1 : ∀ i, i < k → (l.getD i (0, 0)).1 ≤ q) (h2 : ∀ i, k ≤ i → i < l.length → q < (l.getD i (0, 0)).1) :
    Lies l q ↔ 0 < k ∧ q < (l.getD (k - 1) (0, 0)).2 := by
  constructor
  · rintro ⟨r, hr, ha, hb⟩
    obtain ⟨i, hi, e⟩ := List.getElem_of_mem hr
    have e' : l.getD i (0, 0) = r := by rw [pget hi, e]
    have hik : i < k := by
      by_cases c : i < k
      · exact c
      · have := h2 i (by omega) hi; rw [e'] at this; omega
    refine ⟨by omega, ?_⟩
    by_cases c : i = k - 1
    · rw [← c, e']; exact hb
    · have a1 := norm_rise h (by omega : i < k - 1) (by omega)
      have a2 := h1 (k - 1) (by omega)
      rw [e'] at a1
      omega
  · rintro ⟨h0, hq⟩
    exact ⟨l.getD (k - 1) (0, 0), pget_mem (by omega), h1 (k - 1) (by omega), hq⟩

set_option maxHeartbeats 1000000 in
theorem refIn_any {w : World} {a : Option Addr} {n cap : Nat} {l : List (Int × Int)} (h : Rng w a n cap l) {b : Int} (hs : Norm b l) (x : Int) (r : Bool) (HR : Hid (r = true ↔ Lies l x)) :
    Calls Try.prog 62 #[.slice a n cap, .int .i64 x] w fun e w' => e = .returned (.bool r) ∧ w' = w := by
  have hln := h.len
  have hnb : n ≤ 9223372036854775807 := by have := h.room; simp only [maxLen] at this; omega
  go_enter Try.func62, Try.ntmps62
  go_wp2_with fail
  go_loop [5, 6] (fun lo hi => ∃ j k : Nat, j ≤ k ∧ k ≤ n ∧ lo = .int .i64 j ∧ hi = .int .i64 k ∧ Hid ((∀ i, i < j → (l.getD i (0, 0)).1 ≤ x) ∧ ∀ i, k ≤ i → i < n → x < (l.getD i (0, 0)).1)) (fun lo hi => (intOf hi).toNat - (intOf lo).toNat)
  case atStart => exact ⟨0, n, Nat.zero_le _, Nat.le_refl _, rfl, rfl, fun i hi => by omega, fun i h1 h2 => by omega⟩
  case round =>
    obtain ⟨j, k, hlk, hkn, rfl, rfl, HE⟩ := hrel
    by_cases hlt : j < k
    · obtain ⟨g, off, rfl, hg, hc, hd⟩ := h.cells (j + (k - j) / 2) (by omega)
      by_cases hx : (l.getD (j + (k - j) / 2) (0, 0)).1 ≤ x
      · have HE2 : Hid ((∀ i, i < j + (k - j) / 2 + 1 → (l.getD i (0, 0)).1 ≤ x) ∧ ∀ i, k ≤ i → i < n → x < (l.getD i (0, 0)).1) :=
          ⟨fun i hi => Int.le_trans (norm_los_le hs (by omega) (by omega)) hx, HE.out.2⟩
        generalize (l.getD (j + (k - j) / 2) (0, 0)).1 = y at *
        generalize (l.getD (j + (k - j) / 2) (0, 0)).2 = z at *
        clear HE
        go_wp2_with fail
        go_round
        case rel => exact ⟨j + (k - j) / 2 + 1, k, by omega, hkn, by go_num, rfl, HE2⟩
        case measure => simp only [intOf]; omega
      · have HE2 : Hid ((∀ i, i < j → (l.getD i (0, 0)).1 ≤ x) ∧ ∀ i, j + (k - j) / 2 ≤ i → i < n → x < (l.getD i (0, 0)).1) :=
          ⟨HE.out.1, fun i h1 h2 => Int.lt_of_lt_of_le (by omega) (norm_los_le hs h1 (by omega))⟩
        generalize (l.getD (j + (k - j) / 2) (0, 0)).1 = y at *
        generalize (l.getD (j + (k - j) / 2) (0, 0)).2 = z at *
        clear HE
        go_wp2_with fail
        go_round
        case rel => exact ⟨j, j + (k - j) / 2, by omega, by omega, rfl, by go_num, HE2⟩
        case measure => simp only [intOf]; omega
    · have hr : r = true ↔ 0 < j ∧ x < (l.getD (j - 1) (0, 0)).2 :=
        HR.out.trans (in_iff hs (by omega) HE.out.1 (fun i h1 h2 => HE.out.2 i (by omega) (by omega)))
      clear HE HR
      by_cases h0 : 0 < j
      · obtain ⟨g, off, rfl, hg, hc, hd⟩ := h.cells (j - 1) (by omega)
        generalize (l.getD (j - 1) (0, 0)).1 = y at *
        generalize (l.getD (j - 1) (0, 0)).2 = z at *
        by_cases hx : x < z
        · have : r = true := hr.2 ⟨h0, hx⟩
          subst this
          clear hr
          go_wp2_with fail
          go_ret
          exact ⟨rfl, rfl⟩
        · have : r = false := by
            cases r
            · rfl
            · exact absurd (hr.1 rfl).2 hx
          subst this
          clear hr
          go_wp2_with fail
          go_ret
          exact ⟨rfl, rfl⟩
      · have : r = false := by
          cases r
          · rfl
          · exact absurd (hr.1 rfl).1 h0
        subst this
        clear hr
        have : j = 0 := by omega
        subst this
        go_wp2_with fail
        go_ret
        exact ⟨rfl, rfl⟩
end Go.Proofs.Ytohfckcikincoac
