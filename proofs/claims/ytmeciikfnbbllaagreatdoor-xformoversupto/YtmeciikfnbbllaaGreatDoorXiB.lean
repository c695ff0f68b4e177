import Derived.Test.YtmeciikfnbbllaaGreatDoorXiA
import Derived.Test.YtmeciikfnbbllaaGreatDoorGaG
namespace Go.Proofs.YtmeciikfnbbllaaGreatDoor
open Go.RowKit Go.Lib
set_option maxRecDepth 100000
def bothI (p2 n2 p n : Int) : List Sth := withL 1 p n (ctxI p2 n2) 0
def preS (b : Bool) (s : Sth) : List Sth := if b = true then [s] else []
theorem preS_t (s : Sth) : preS true s = [s] := rfl
theorem preS_f (s : Sth) : preS false s = [] := rfl
theorem ctxI_pre {p n : Int} (h0 : 0 ≤ p) (h1 : p ≤ 1048576) : ctxI p n = preS (decide (0 < p)) (0, 0, p) ++ [(2, 0, n), (0, p, 2097152)] := by
  rw [ctxI_eq h0 h1]
  by_cases h : 0 < p
  · rw [if_pos h, decide_eq_true h]; rfl
  · rw [if_neg h, decide_eq_false h]; rfl
theorem withL_one {who at_ n : Int} {s : Sth} {t : List Sth} {z : Int} {a : List Sth} {z2 : Int} (ha : withOne who at_ n s z = a) (hz : z + wid s = z2) : withL who at_ n (s :: t) z = a ++ withL who at_ n t z2 := by
  subst ha hz
  rfl
theorem wOne_no {who at_ n : Int} {s : Sth} {z : Int} (h : ¬ (z ≤ at_ ∧ at_ < z + wid s)) : withOne who at_ n s z = [s] := if_neg h
theorem wOne_at {who at_ n : Int} {s : Sth} {z : Int} (h : z = at_ ∧ 0 < wid s) : withOne who at_ n s z = [(who, 0, n), s] := by
  unfold withOne
  rw [if_pos ⟨by omega, by omega⟩, if_neg (by omega), List.nil_append, show s.2.1 + at_ - z = s.2.1 by omega]
theorem wOne_in {who at_ n : Int} {s : Sth} {z : Int} (h : z < at_ ∧ at_ < z + wid s) : withOne who at_ n s z = [(s.1, s.2.1, s.2.1 + at_ - z), (who, 0, n), (s.1, s.2.1 + at_ - z, s.2.2)] := by
  unfold withOne
  rw [if_pos ⟨by omega, by omega⟩, if_pos (by omega)]
  rfl
theorem both_lt {p2 n2 p n : Int} (h0 : 0 ≤ p2) (h1 : p2 ≤ 1048576) (hp : 0 ≤ p) (h : p < p2) (hn2 : 0 < n2) : bothI p2 n2 p n = preS (decide (0 < p)) (0, 0, p) ++ [(1, 0, n), (0, p, p2), (2, 0, n2), (0, p2, 2097152)] := by
  unfold bothI
  rw [ctxI_pre h0 h1, decide_eq_true (show 0 < p2 by omega), preS_t]
  simp only [List.cons_append, List.nil_append]
  by_cases hq : 0 < p
  · rw [withL_one (wOne_in (by simp only [wid]; omega)) rfl, withL_one (wOne_no (by simp only [wid]; omega)) rfl, withL_one (wOne_no (by simp only [wid]; omega)) rfl, decide_eq_true hq, preS_t]
    simp [withL]
  · obtain rfl : p = 0 := by omega
    rw [withL_one (wOne_at ⟨rfl, by simp only [wid]; omega⟩) rfl, withL_one (wOne_no (by simp only [wid]; omega)) rfl, withL_one (wOne_no (by simp only [wid]; omega)) rfl]
    simp [withL, preS]
theorem both_eq {p2 n2 n : Int} (h0 : 0 ≤ p2) (h1 : p2 ≤ 1048576) (hn2 : 0 < n2) : bothI p2 n2 p2 n = preS (decide (0 < p2)) (0, 0, p2) ++ [(1, 0, n), (2, 0, n2), (0, p2, 2097152)] := by
  unfold bothI
  rw [ctxI_pre h0 h1]
  by_cases hq : 0 < p2
  · rw [decide_eq_true hq, preS_t]
    simp only [List.cons_append, List.nil_append]
    rw [withL_one (wOne_no (by simp only [wid]; omega)) rfl, withL_one (wOne_at (by simp only [wid]; omega)) rfl, withL_one (wOne_no (by simp only [wid]; omega)) rfl]
    simp [withL]
  · obtain rfl : p2 = 0 := by omega
    rw [decide_eq_false hq, preS_f]
    simp only [List.nil_append]
    rw [withL_one (wOne_at ⟨rfl, by simp only [wid]; omega⟩) rfl, withL_one (wOne_no (by simp only [wid]; omega)) rfl]
    simp [withL]
theorem both_in {p2 n2 p n : Int} (h0 : 0 ≤ p2) (h1 : p2 ≤ 1048576) (h : p2 < p) (h3 : p < p2 + n2) : bothI p2 n2 p n = preS (decide (0 < p2)) (0, 0, p2) ++ [(2, 0, p - p2), (1, 0, n), (2, p - p2, n2), (0, p2, 2097152)] := by
  unfold bothI
  rw [ctxI_pre h0 h1]
  by_cases hq : 0 < p2
  · rw [decide_eq_true hq, preS_t]
    simp only [List.cons_append, List.nil_append]
    rw [withL_one (wOne_no (by simp only [wid]; omega)) rfl, withL_one (wOne_in (by simp only [wid]; omega)) rfl, withL_one (wOne_no (by simp only [wid]; omega)) rfl]
    simp [withL, wid]
  · obtain rfl : p2 = 0 := by omega
    rw [decide_eq_false hq, preS_f]
    simp only [List.nil_append]
    rw [withL_one (wOne_in (by simp only [wid]; omega)) rfl, withL_one (wOne_no (by simp only [wid]; omega)) rfl]
    simp [withL]
theorem both_gt {p2 n2 p n : Int} (h0 : 0 ≤ p2) (h1 : p2 ≤ 1048576) (hn2 : 0 < n2) (h : p2 + n2 ≤ p) (hp : p ≤ 1048576) : bothI p2 n2 p n = preS (decide (0 < p2)) (0, 0, p2) ++ [(2, 0, n2)] ++ preS (decide (p2 + n2 < p)) (0, p2, p - n2) ++ [(1, 0, n), (0, p - n2, 2097152)] := by
  unfold bothI
  rw [ctxI_pre h0 h1]
  by_cases hq : 0 < p2
  · rw [decide_eq_true hq, preS_t]
    simp only [List.cons_append, List.nil_append]
    rw [withL_one (wOne_no (by simp only [wid]; omega)) rfl, withL_one (wOne_no (by simp only [wid]; omega)) rfl]
    by_cases hr : p2 + n2 < p
    · rw [withL_one (wOne_in (by simp only [wid]; omega)) rfl, decide_eq_true hr, preS_t]
      simp only [withL, wid, List.cons_append, List.nil_append]
      rw [show p2 + p - (0 + (p2 - 0) + (n2 - 0)) = p - n2 by omega]
    · rw [withL_one (wOne_at (by simp only [wid]; omega)) rfl, decide_eq_false hr, preS_f]
      simp only [withL, List.cons_append, List.nil_append]
      rw [show p - n2 = p2 by omega]
  · obtain rfl : p2 = 0 := by omega
    rw [decide_eq_false hq, preS_f]
    simp only [List.nil_append]
    rw [withL_one (wOne_no (by simp only [wid]; omega)) rfl]
    by_cases hr : 0 + n2 < p
    · rw [withL_one (wOne_in (by simp only [wid]; omega)) rfl, decide_eq_true hr, preS_t]
      simp only [withL, wid, List.cons_append, List.nil_append]
      rw [show 0 + p - (0 + (n2 - 0)) = p - n2 by omega]
    · rw [withL_one (wOne_at (by simp only [wid]; omega)) rfl, decide_eq_false hr, preS_f]
      simp only [withL, List.cons_append, List.nil_append]
      rw [show p - n2 = 0 by omega]
theorem both_cnt {p2 n2 p n : Int} (h0 : 0 ≤ p2) (h1 : p2 ≤ 1048576) (hp : 0 ≤ p) (hp1 : p ≤ 1048576) (hn2 : 0 < n2) : (cntL 2 (bothI p2 n2 p n) == 1) = !(decide (p2 < p ∧ p < p2 + n2)) := by
  by_cases q1 : p < p2
  · have hd : decide (p2 < p ∧ p < p2 + n2) = false := decide_eq_false (by omega)
    rw [hd, both_lt h0 h1 hp q1 hn2]
    cases decide (0 < p) <;> simp [preS, cntL]
  · by_cases q2 : p = p2
    · subst q2
      have hd : decide (p < p ∧ p < p + n2) = false := decide_eq_false (by omega)
      rw [hd, both_eq h0 h1 hn2]
      cases decide (0 < p) <;> simp [preS, cntL]
    · by_cases q3 : p < p2 + n2
      · have hd : decide (p2 < p ∧ p < p2 + n2) = true := decide_eq_true ⟨by omega, q3⟩
        rw [hd, both_in h0 h1 (by omega) q3]
        cases decide (0 < p2) <;> simp [preS, cntL]
      · have hd : decide (p2 < p ∧ p < p2 + n2) = false := decide_eq_false (by omega)
        rw [hd, both_gt h0 h1 hn2 (by omega) hp1]
        cases decide (0 < p2) <;> cases decide (p2 + n2 < p) <;> simp [preS, cntL]
theorem both_place {p2 n2 p n : Int} (h0 : 0 ≤ p2) (h1 : p2 ≤ 1048576) (hp : 0 ≤ p) (hp1 : p ≤ 1048576) (hn2 : 0 < n2) (hn : 0 < n) (hno : ¬ (p2 < p ∧ p < p2 + n2)) : placeL 1 0 (wtoL 2 (bothI p2 n2 p n)) 0 = if p2 + n2 ≤ p then p - n2 else p := by
  by_cases q1 : p < p2
  · rw [both_lt h0 h1 hp q1 hn2, if_neg (by omega)]
    by_cases hq : 0 < p
    · rw [decide_eq_true hq]
      simp [preS, wtoL, wtoS, placeL, hn]
    · obtain rfl : p = 0 := by omega
      simp [preS, wtoL, wtoS, placeL, hn]
  · by_cases q2 : p = p2
    · subst q2
      rw [both_eq h0 h1 hn2, if_neg (by omega)]
      by_cases hq : 0 < p
      · rw [decide_eq_true hq]
        simp [preS, wtoL, wtoS, placeL, hn]
      · obtain rfl : p = 0 := by omega
        simp [preS, wtoL, wtoS, placeL, hn]
    · rw [both_gt h0 h1 hn2 (by omega) hp1, if_pos (by omega)]
      by_cases hq : 0 < p2
      · rw [decide_eq_true hq]
        by_cases hr : p2 + n2 < p
        · rw [decide_eq_true hr]
          simp [preS, wtoL, wtoS, placeL, hn]
        · rw [decide_eq_false hr]
          simp [preS, wtoL, wtoS, placeL, hn]
          omega
      · obtain rfl : p2 = 0 := by omega
        by_cases hr : 0 + n2 < p
        · rw [decide_eq_true hr]
          simp [preS, wtoL, wtoS, placeL, hn]
        · rw [decide_eq_false hr]
          simp [preS, wtoL, wtoS, placeL, hn]
          omega
theorem withOne_ok {who at_ n : Int} {s : Sth} {z : Int} (hn : 0 ≤ n ∧ n ≤ 4194304) (hs : 0 ≤ s.2.1 ∧ s.2.1 ≤ s.2.2 ∧ s.2.2 ≤ 4194304) : SthOk (withOne who at_ n s z) := fun x hx => by
  unfold withOne at hx
  split at hx
  · rename_i hc
    simp only [wid] at hc
    rcases List.mem_append.1 hx with hx | hx
    · split at hx
      · simp only [List.mem_singleton] at hx
        subst hx
        simp only
        omega
      · cases hx
    · simp only [List.mem_cons, List.not_mem_nil, or_false] at hx
      rcases hx with rfl | rfl
      · simp only; omega
      · simp only; omega
  · simp only [List.mem_singleton] at hx
    subst hx
    exact hs
theorem withL_ok {who at_ n : Int} (hn : 0 ≤ n ∧ n ≤ 4194304) : ∀ {R : List Sth} {z : Int}, SthOk R → SthOk (withL who at_ n R z)
  | [], z, _ => fun x hx => by cases hx
  | s :: t, z, h => fun x hx => by
    rcases List.mem_append.1 hx with hx | hx
    · exact withOne_ok hn (h s (List.mem_cons_self ..)) x hx
    · exact withL_ok hn (fun y hy => h y (List.mem_cons_of_mem _ hy)) x hx
theorem wtoS_ok {who : Int} {O : List Sth} {s : Sth} (hO : SthOk O) (hs : 0 ≤ s.2.1 ∧ s.2.1 ≤ s.2.2 ∧ s.2.2 ≤ 4194304) : SthOk (wtoS who O s) := fun x hx => by
  unfold wtoS at hx
  split at hx
  · exact hO x hx
  · split at hx
    · rename_i z hz
      have hzo := hO z (List.mem_of_getLast? hz)
      split at hx
      · rcases List.mem_append.1 hx with hx | hx
        · exact hO x (List.dropLast_subset _ hx)
        · simp only [List.mem_singleton] at hx
          subst hx
          rename_i hc
          simp only
          omega
      · rcases List.mem_append.1 hx with hx | hx
        · exact hO x hx
        · simp only [List.mem_singleton] at hx
          subst hx
          exact hs
    · simp only [List.mem_singleton] at hx
      subst hx
      exact hs
theorem wtoL_ok {who : Int} {R : List Sth} (h : SthOk R) : SthOk (wtoL who R) := by
  have key : ∀ (R O : List Sth), SthOk R → SthOk O → SthOk (R.foldl (wtoS who) O) := by
    intro R
    induction R with
    | nil => intro O _ hO; exact hO
    | cons s t ih => intro O hR hO; exact ih _ (fun y hy => hR y (List.mem_cons_of_mem _ hy)) (wtoS_ok hO (hR s (List.mem_cons_self ..)))
  exact key R [] h (fun x hx => by cases hx)
end Go.Proofs.YtmeciikfnbbllaaGreatDoor
