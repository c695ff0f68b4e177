import Derived.Test.YtmdnmhdimfglaaaGreatDoorGr15
import Derived.Test.YtmdnmhdimfglaaaGreatDoorGaG
namespace Go.Proofs.YtmdnmhdimfglaaaGreatDoor
open Go.RowKit Go.Lib
set_option maxRecDepth 100000
def bothI (p2 n2 p n : Int) : List Sth := withL 1 p n (ctxI p2 n2) 0
def preS (b : Bool) (s : Sth) : List Sth := if b = true then [s] else []
theorem preS_t (s : Sth) : preS true s = [s] := rfl
theorem preS_f (s : Sth) : preS false s = [] := rfl
theorem ctxI_pre {p n : Int} (h0 : 0 ≤ p) (h1 : p ≤ 1048576) : ctxI p n = preS (decide (0 < p)) (0, 0, p) ++ [(2, 0, n), (0, p, 2097152)] := by
  rw [ctxI_eq h0 h1]
  by_cases h : 0 < p
  · rw [if_pos h, decide_eq_true h]; rfl
  · rw [if_neg h, decide_eq_false h]; rfl
theorem withL_one {who at_ n : Int} {s : Sth} {t : List Sth} {z : Int} {a : List Sth} {z2 : Int} (ha : withOne who at_ n s z = a) (hz : z + wid s = z2) : withL who at_ n (s :: t) z = a ++ withL who at_ n t z2 := by
  subst ha hz
  rfl
theorem wOne_no {who at_ n : Int} {s : Sth} {z : Int} (h : ¬ (z ≤ at_ ∧ at_ < z + wid s)) : withOne who at_ n s z = [s] := if_neg h
theorem wOne_at {who at_ n : Int} {s : Sth} {z : Int} (h : z = at_ ∧ 0 < wid s) : withOne who at_ n s z = [(who, 0, n), s] := by
  unfold withOne
  rw [if_pos ⟨by omega, by omega⟩, if_neg (by omega), List.nil_append, show s.2.1 + at_ - z = s.2.1 by omega]
theorem wOne_in {who at_ n : Int} {s : Sth} {z : Int} (h : z < at_ ∧ at_ < z + wid s) : withOne who at_ n s z = [(s.1, s.2.1, s.2.1 + at_ - z), (who, 0, n), (s.1, s.2.1 + at_ - z, s.2.2)] := by
  unfold withOne
  rw [if_pos ⟨by omega, by omega⟩, if_pos (by omega)]
  rfl
theorem both_lt {p2 n2 p n : Int} (h0 : 0 ≤ p2) (h1 : p2 ≤ 1048576) (hp : 0 ≤ p) (h : p < p2) (hn2 : 0 < n2) : bothI p2 n2 p n = preS (decide (0 < p)) (0, 0, p) ++ [(1, 0, n), (0, p, p2), (2, 0, n2), (0, p2, 2097152)] := by
  unfold bothI
  rw [ctxI_pre h0 h1, decide_eq_true (show 0 < p2 by omega), preS_t]
  simp only [List.cons_append, List.nil_append]
  by_cases hq : 0 < p
  · rw [withL_one (wOne_in (by simp only [wid]; omega)) rfl, withL_one (wOne_no (by simp only [wid]; omega)) rfl, withL_one (wOne_no (by simp only [wid]; omega)) rfl, decide_eq_true hq, preS_t]
    simp [withL]
  · obtain rfl : p = 0 := by omega
    rw [withL_one (wOne_at ⟨rfl, by simp only [wid]; omega⟩) rfl, withL_one (wOne_no (by simp only [wid]; omega)) rfl, withL_one (wOne_no (by simp only [wid]; omega)) rfl]
    simp [withL, preS]
theorem both_eq {p2 n2 n : Int} (h0 : 0 ≤ p2) (h1 : p2 ≤ 1048576) (hn2 : 0 < n2) : bothI p2 n2 p2 n = preS (decide (0 < p2)) (0, 0, p2) ++ [(1, 0, n), (2, 0, n2), (0, p2, 2097152)] := by
  unfold bothI
  rw [ctxI_pre h0 h1]
  by_cases hq : 0 < p2
  · rw [decide_eq_true hq, preS_t]
    simp only [List.cons_append, List.nil_append]
    rw [withL_one (wOne_no (by simp only [wid]; omega)) rfl, withL_one (wOne_at (by simp only [wid]; omega)) rfl, withL_one (wOne_no (by simp only [wid]; omega)) rfl]
    simp [withL]
  · obtain rfl : p2 = 0 := by omega
    rw [decide_eq_false hq, preS_f]
    simp only [List.nil_append]
    rw [withL_one (wOne_at ⟨rfl, by simp only [wid]; omega⟩) rfl, withL_one (wOne_no (by simp only [wid]; omega)) rfl]
    simp [withL]
theorem both_in {p2 n2 p n : Int} (h0 : 0 ≤ p2) (h1 : p2 ≤ 1048576) (h : p2 < p) (h3 : p < p2 + n2) : bothI p2 n2 p n = preS (decide (0 < p2)) (0, 0, p2) ++ [(2, 0, p - p2), (1, 0, n), (2, p - p2, n2), (0, p2, 2097152)] := by
  unfold bothI
  rw [ctxI_pre h0 h1]
  by_cases hq : 0 < p2
  · rw [decide_eq_true hq, preS_t]
    simp only [List.cons_append, List.nil_append]
    rw [withL_one (wOne_no (by simp only [wid]; omega)) rfl, withL_one (wOne_in (by simp only [wid]; omega)) rfl, withL_one (wOne_no (by simp only [wid]; omega)) rfl]
    simp [withL, wid]
  · obtain rfl : p2 = 0 := by omega
    rw [decide_eq_false hq, preS_f]
    simp only [List.nil_append]
    rw [withL_one (wOne_in (by simp only [wid]; omega)) rfl, withL_one (wOne_no (by simp only [wid]; omega)) rfl]
    simp [withL]
theorem both_gt {p2 n2 p n : Int} (h0 : 0 ≤ p2) (h1 : p2 ≤ 1048576) (hn2 : 0 < n2) (h : p2 + n2 ≤ p) (hp : p ≤ 1048576) : bothI p2 n2 p n = preS (decide (0 < p2)) (0, 0, p2) ++ [(2, 0, n2)] ++ preS (decide (p2 + n2 < p)) (0, p2, p - n2) ++ [(1, 0, n), (0, p - n2, 2097152)] := by
  unfold bothI
  rw [ctxI_pre h0 h1]
  by_cases hq : 0 < p2
  · rw [decide_eq_true hq, preS_t]
    simp only [List.cons_append, List.nil_append]
    rw [withL_one (wOne_no (by simp only [wid]; omega)) rfl, withL_one (wOne_no (by simp only [wid]; omega)) rfl]
    by_cases hr : p2 + n2 < p
    · rw [withL_one (wOne_in (by simp only [wid]; omega)) rfl, decide_eq_true hr, preS_t]
      simp only [withL, wid, List.cons_append, List.nil_append]
      rw [show p2 + p - (0 + (p2 - 0) + (n2 - 0)) = p - n2 by omega]
    · rw [withL_one (wOne_at (by simp only [wid]; omega)) rfl, decide_eq_false hr, preS_f]
      simp only [withL, List.cons_append, List.nil_append]
      rw [show p - n2 = p2 by omega]
  · obtain rfl : p2 = 0 := by omega
    rw [decide_eq_false hq, preS_f]
    simp only [List.nil_append]
    rw [withL_one (wOne_no (by simp only [wid]; omega)) rfl]
    by_cases hr : 0 + n2 < p
    · rw [withL_one (wOne_in (by simp only [wid]; omega)) rfl, decide_eq_true hr, preS_t]
      simp only [withL, wid, List.cons_append, List.nil_append]
      rw [show 0 + p - (0 + (n2 - 0)) = p - n2 by omega]
    · rw [withL_one (wOne_at (by simp only [wid]; omega)) rfl, decide_eq_false hr, preS_f]
      simp only [withL, List.cons_append, List.nil_append]
      rw [show p - n2 = 0 by omega]
theorem both_cnt {p2 n2 p n : Int} (h0 : 0 ≤ p2) (h1 : p2 ≤ 1048576) (hp : 0 ≤ p) (hp1 : p ≤ 1048576) (hn2 : 0 < n2) : (cntL 2 (bothI p2 n2 p n) == 1) = !(decide (p2 < p ∧ p < p2 + n2)) := by
  by_cases q1 : p < p2
  · have hd : decide (p2 < p ∧ p < p2 + n2) = false := decide_eq_false (by omega)
    rw [hd, both_lt h0 h1 hp q1 hn2]
    cases decide (0 < p) <;> simp [preS, cntL]
  · by_cases q2 : p = p2
    · subst q2
      have hd : decide (p < p ∧ p < p + n2) = false := decide_eq_false (by omega)
      rw [hd, both_eq h0 h1 hn2]
      cases decide (0 < p) <;> simp [preS, cntL]
    · by_cases q3 : p < p2 + n2
      · have hd : decide (p2 < p ∧ p < p2 + n2) = true := decide_eq_true ⟨by omega, q3⟩
        rw [hd, both_in h0 h1 (by omega) q3]
        cases decide (0 < p2) <;> simp [preS, cntL]
      · have hd : decide (p2 < p ∧ p < p2 + n2) = false := decide_eq_false (by omega)
        rw [hd, both_gt h0 h1 hn2 (by omega) hp1]
        cases decide (0 < p2) <;> cases decide (p2 + n2 < p) <;> simp [preS, cntL]
theorem both_place {p2 n2 p n : Int} (h0 : 0 ≤ p2) (h1 : p2 ≤ 1048576) (hp : 0 ≤ p) (hp1 : p ≤ 1048576) (hn2 : 0 < n2) (hn : 0 < n) (hno : ¬ (p2 < p ∧ p < p2 + n2)) : placeL 1 0 (wtoL 2 (bothI p2 n2 p n)) 0 = if p2 + n2 ≤ p then p - n2 else p := by
  by_cases q1 : p < p2
  · rw [both_lt h0 h1 hp q1 hn2, if_neg (by omega)]
    by_cases hq : 0 < p
    · rw [decide_eq_true hq]
      simp [preS, wtoL, wtoS, placeL, hn]
    · obtain rfl : p = 0 := by omega
      simp [preS, wtoL, wtoS, placeL, hn]
  · by_cases q2 : p = p2
    · subst q2
      rw [both_eq h0 h1 hn2, if_neg (by omega)]
      by_cases hq : 0 < p
      · rw [decide_eq_true hq]
        simp [preS, wtoL, wtoS, placeL, hn]
      · obtain rfl : p = 0 := by omega
        simp [preS, wtoL, wtoS, placeL, hn]
    · rw [both_gt h0 h1 hn2 (by omega) hp1, if_pos (by omega)]
      by_cases hq : 0 < p2
      · rw [decide_eq_true hq]
        by_cases hr : p2 + n2 < p
        · rw [decide_eq_true hr]
          simp [preS, wtoL, wtoS, placeL, hn]
        · rw [decide_eq_false hr]
          simp [preS, wtoL, wtoS, placeL, hn]
          omega
      · obtain rfl : p2 = 0 := by omega
        by_cases hr : 0 + n2 < p
        · rw [decide_eq_true hr]
          simp [preS, wtoL, wtoS, placeL, hn]
        · rw [decide_eq_false hr]
          simp [preS, wtoL, wtoS, placeL, hn]
          omega
theorem withOne_ok {who at_ n : Int} {s : Sth} {z : Int} (hn : 0 ≤ n ∧ n ≤ 4194304) (hs : 0 ≤ s.2.1 ∧ s.2.1 ≤ s.2.2 ∧ s.2.2 ≤ 4194304) : SthOk (withOne who at_ n s z) := fun x hx => by
  unfold withOne at hx
  split at hx
  · rename_i hc
    simp only [wid] at hc
    rcases List.mem_append.1 hx with hx | hx
    · split at hx
      · simp only [List.mem_singleton] at hx
        subst hx
        simp only
        omega
      · cases hx
    · simp only [List.mem_cons, List.not_mem_nil, or_false] at hx
      rcases hx with rfl | rfl
      · simp only; omega
      · simp only; omega
  · simp only [List.mem_singleton] at hx
    subst hx
    exact hs
theorem withL_ok {who at_ n : Int} (hn : 0 ≤ n ∧ n ≤ 4194304) : ∀ {R : List Sth} {z : Int}, SthOk R → SthOk (withL who at_ n R z)
  | [], z, _ => fun x hx => by cases hx
  | s :: t, z, h => fun x hx => by
    rcases List.mem_append.1 hx with hx | hx
    · exact withOne_ok hn (h s (List.mem_cons_self ..)) x hx
    · exact withL_ok hn (fun y hy => h y (List.mem_cons_of_mem _ hy)) x hx
theorem wtoS_ok {who : Int} {O : List Sth} {s : Sth} (hO : SthOk O) (hs : 0 ≤ s.2.1 ∧ s.2.1 ≤ s.2.2 ∧ s.2.2 ≤ 4194304) : SthOk (wtoS who O s) := fun x hx => by
  unfold wtoS at hx
  split at hx
  · exact hO x hx
  · split at hx
    · rename_i z hz
      have hzo := hO z (List.mem_of_getLast? hz)
      split at hx
      · rcases List.mem_append.1 hx with hx | hx
        · exact hO x (List.dropLast_subset _ hx)
        · simp only [List.mem_singleton] at hx
          subst hx
          rename_i hc
          simp only
          omega
      · rcases List.mem_append.1 hx with hx | hx
        · exact hO x hx
        · simp only [List.mem_singleton] at hx
          subst hx
          exact hs
    · simp only [List.mem_singleton] at hx
      subst hx
      exact hs
theorem wtoL_ok {who : Int} {R : List Sth} (h : SthOk R) : SthOk (wtoL who R) := by
  have key : ∀ (R O : List Sth), SthOk R → SthOk O → SthOk (R.foldl (wtoS who) O) := by
    intro R
    induction R with
    | nil => intro O _ hO; exact hO
    | cons s t ih => intro O hR hO; exact ih _ (fun y hy => hR y (List.mem_cons_of_mem _ hy)) (wtoS_ok hO (hR s (List.mem_cons_self ..)))
  exact key R [] h (fun x hx => by cases hx)
end Go.Proofs.YtmdnmhdimfglaaaGreatDoor

namespace Go.Proofs.YtmdnmhdimfglaaaGreatDoor
open Go.RowKit Go.Lib
set_option maxRecDepth 100000
theorem among_ctx (who lo hi : Int) : amongL who lo hi ctxL 0 = if 0 = who ∧ 0 < hi ∧ lo < 2097152 then [(max lo 0, min hi 2097152)] else [] := by
  unfold ctxL amongL amongL amongOne
  split
  · simp
  · rfl
def out1 (p : Int) (l : List (Int × Int)) : List (Int × Int) := l.flatMap (fun r => if r.1 < p then [(r.1, min r.2 p)] else [])
def rst (p : Int) (l : List (Int × Int)) : List (Int × Int) := l.dropWhile (fun r => decide (r.2 ≤ p))
theorem out1_nil {p : Int} {l : List (Int × Int)} (h : ∀ r ∈ l, p ≤ r.1) : out1 p l = [] := by
  unfold out1
  apply List.flatMap_eq_nil_iff.2
  intro r hr
  rw [if_neg (by have := h r hr; omega)]
theorem rst_self {p : Int} {l : List (Int × Int)} (h : ∀ r, l.head? = some r → p < r.2) : rst p l = l := by
  cases l with
  | nil => rfl
  | cons r t =>
    have := h r rfl
    unfold rst
    rw [List.dropWhile_cons_of_neg (by simp; omega)]
theorem inn1 {p : Int} (h0 : 0 < p) (h1 : p ≤ 1048576) : ∀ {l : List (Int × Int)} {b : Int} (acc : List (Int × Int)), Sp.Norm b l → (∀ r ∈ l, 0 ≤ r.1) → innL ctxL (0, 0, p) 0 l acc = some (acc ++ out1 p l, rst p l)
  | [], b, acc, _, _ => by simp [innL, out1, rst]
  | (x, y) :: t, b, acc, h, hz => by
    obtain ⟨q1, q2, q3⟩ := h
    simp only at q1 q2 q3
    have hx := hz (x, y) (List.mem_cons_self ..)
    simp only at hx
    have hge : ∀ r ∈ t, y < r.1 := fun r hr => (Sp.norm_lt q3 r hr).1
    by_cases hxp : x < p
    · have hG : amongL (0 : Int) (0 + max x 0 - 0) (0 + min y p - 0) ctxL 0 = [(x, min y p)] := by
        rw [among_ctx, if_pos ⟨rfl, by omega, by omega⟩]
        simp only [List.cons.injEq, Prod.mk.injEq, and_true]
        omega
      have ho : out1 p ((x, y) :: t) = (x, min y p) :: out1 p t := by
        unfold out1
        rw [List.flatMap_cons, if_pos (by simpa using hxp)]
        rfl
      rw [innL_cons (e := p) (by simp [wid]) hG, if_pos (by simpa using hxp), if_neg (by simp), ho]
      by_cases hyp : p < y
      · rw [if_pos (by simpa using hyp), out1_nil (fun r hr => by have := hge r hr; omega), rst_self (fun r hr => by cases hr; exact hyp)]
      · rw [if_neg (by simpa using hyp), inn1 h0 h1 _ q3 (fun r hr => hz r (List.mem_cons_of_mem _ hr))]
        have hr : rst p ((x, y) :: t) = rst p t := by
          unfold rst
          rw [List.dropWhile_cons_of_pos (by simp; omega)]
        rw [hr, List.append_assoc]
        rfl
    · rw [innL_cons (e := p) (G := amongL (0 : Int) (0 + max x 0 - 0) (0 + min y p - 0) ctxL 0) (by simp [wid]) rfl, if_neg (by simpa using hxp), out1_nil (fun r hr => by
        rcases List.mem_cons.1 hr with rfl | hr
        · simp only; omega
        · have := hge r hr; omega), rst_self (fun r hr => by cases hr; simp only; omega), List.append_nil]
theorem inn2 {p n : Int} {l acc : List (Int × Int)} : innL ctxL (2, 0, n) p l acc = match l with
    | [] => some (acc, [])
    | r :: t => if r.1 < p + n then none else some (acc, r :: t) := by
  cases l with
  | nil => rfl
  | cons r t =>
    have hG : amongL (2 : Int) (0 + max r.1 p - p) (0 + min r.2 (p + n) - p) ctxL 0 = [] := by rw [among_ctx, if_neg (fun hh => absurd hh.1 (by decide))]
    rw [innL_cons (e := p + n) (by simp [wid]) hG]
    rfl
def shf (n : Int) (l : List (Int × Int)) : List (Int × Int) := l.map fun r => (r.1 - n, r.2 - n)
theorem inn3 {p n : Int} (h0 : 0 ≤ p) (hn : 0 ≤ n) : ∀ {l : List (Int × Int)} (acc : List (Int × Int)), (∀ r ∈ l, p + n ≤ r.1 ∧ r.1 < r.2 ∧ r.2 ≤ 1048576) → innL ctxL (0, p, 2097152) (p + n) l acc = some (acc ++ shf n l, [])
  | [], acc, _ => by simp [innL, shf]
  | (x, y) :: t, acc, h => by
    obtain ⟨q1, q2, q3⟩ := h (x, y) (List.mem_cons_self ..)
    simp only at q1 q2 q3
    have hG : amongL (0 : Int) (p + max x (p + n) - (p + n)) (p + min y (n + 2097152) - (p + n)) ctxL 0 = [(x - n, y - n)] := by
      rw [among_ctx, if_pos ⟨rfl, by omega, by omega⟩]
      simp only [List.cons.injEq, Prod.mk.injEq, and_true]
      omega
    rw [innL_cons (e := n + 2097152) (by simp only [wid]; omega) hG, if_pos (by simp only; omega), if_neg (by simp), if_neg (by simp only; omega), inn3 h0 hn _ (fun r hr => h r (List.mem_cons_of_mem _ hr))]
    simp [shf]
theorem rst_norm {p : Int} : ∀ {l : List (Int × Int)} {b : Int}, Sp.Norm b l → ∃ b, Sp.Norm b (rst p l) := by
  intro l
  induction l with
  | nil => intro b h; exact ⟨b, h⟩
  | cons x t ih =>
    intro b h
    unfold rst
    by_cases q : x.2 ≤ p
    · rw [List.dropWhile_cons_of_pos (by simpa using q)]
      exact ih h.2.2
    · rw [List.dropWhile_cons_of_neg (by simpa using q)]
      exact ⟨b, h⟩
theorem found_outE {p n : Int} (h0 : 0 ≤ p) (h1 : p ≤ 1048576) (hn : 0 < n) {l : List (Int × Int)} (hl : Sp.Lst l) :
    foundL ctxL (ctxI p n) 0 l [] = match rst p l with
      | [] => some (out1 p l)
      | r :: _ => if r.1 < p + n then none else some (out1 p l ++ shf n (rst p l)) := by
  have hnn := hl.nonneg
  have key : foundL ctxL (ctxI p n) 0 l [] = foundL ctxL [(2, 0, n), (0, p, 2097152)] p (rst p l) (out1 p l) := by
    rw [ctxI_eq h0 h1]
    by_cases hp : 0 < p
    · rw [if_pos hp]
      simp only [List.cons_append, List.nil_append]
      rw [foundL, inn1 hp h1 [] hl.norm (fun r hr => (hnn r hr).1)]
      simp only [List.nil_append, wid]
      rw [show (0 : Int) + (p - 0) = p by omega]
    · obtain rfl : p = 0 := by omega
      rw [if_neg hp, List.nil_append, out1_nil (fun r hr => (hnn r hr).1), rst_self (fun r hr => by have := hnn r (List.mem_of_head? hr); omega)]
  rw [key, foundL, inn2]
  have hsub : ∀ r ∈ rst p l, r ∈ l := fun r hr => (List.dropWhile_sublist _).subset hr
  have hnorm : ∃ b, Sp.Norm b (rst p l) := by
    exact rst_norm hl.norm
  cases hr : rst p l with
  | nil =>
    simp only
    rw [foundL, show ∀ acc, innL ctxL (0, p, 2097152) (p + wid (2, 0, n)) [] acc = some (acc, []) from fun _ => rfl]
    rfl
  | cons x t =>
    simp only
    by_cases q : x.1 < p + n
    · rw [if_pos q, if_pos q]
    · rw [if_neg q, if_neg q]
      simp only
      obtain ⟨b, hb⟩ := hnorm
      rw [hr] at hsub hb
      rw [foundL, show p + wid (2, 0, n) = p + n by simp [wid], inn3 h0 (by omega) _ (fun r hr2 => by
        have h5 := hnn r (hsub r hr2)
        rcases List.mem_cons.1 hr2 with rfl | hr3
        · omega
        · have := (Sp.norm_lt hb.2.2 r hr3).1
          have := hb.2.1
          omega)]
      rfl
theorem rst_mem {p : Int} : ∀ {l : List (Int × Int)} {b : Int}, Sp.Norm b l → ∀ r ∈ l, r ∈ rst p l ↔ p < r.2
  | [], b, _, r, hr => by cases hr
  | x :: t, b, h, r, hr => by
    unfold rst
    by_cases q : x.2 ≤ p
    · rw [List.dropWhile_cons_of_pos (by simpa using q)]
      rcases List.mem_cons.1 hr with rfl | hr2
      · constructor
        · intro hm
          have hm2 := (List.dropWhile_sublist _).subset hm
          have := (Sp.norm_lt h.2.2 r hm2).1
          have := h.2.1
          omega
        · intro hh; omega
      · exact rst_mem h.2.2 r hr2
    · rw [List.dropWhile_cons_of_neg (by simpa using q)]
      constructor
      · intro _
        rcases List.mem_cons.1 hr with rfl | hr2
        · omega
        · have := Sp.norm_lt h.2.2 r hr2
          omega
      · intro _; exact hr
theorem lies_out1 {p : Int} {l : List (Int × Int)} {q : Int} : Sp.Lies (out1 p l) q ↔ Sp.Lies l q ∧ q < p := by
  unfold out1
  rw [Sp.lies_flat]
  constructor
  · rintro ⟨r, hr, x, hx, a1, a2⟩
    split at hx
    · simp only [List.mem_singleton] at hx
      subst hx
      simp only at a1 a2
      exact ⟨⟨r, hr, a1, by omega⟩, by omega⟩
    · cases hx
  · rintro ⟨⟨r, hr, a1, a2⟩, a3⟩
    refine ⟨r, hr, (r.1, min r.2 p), ?_, a1, by simp only; omega⟩
    rw [if_pos (by omega)]
    exact List.mem_singleton.2 rfl
theorem lies_shf {n : Int} {l : List (Int × Int)} {q : Int} : Sp.Lies (shf n l) q ↔ Sp.Lies l (q + n) := by
  unfold shf
  constructor
  · rintro ⟨x, hx, a1, a2⟩
    obtain ⟨r, hr, rfl⟩ := List.mem_map.1 hx
    simp only at a1 a2
    exact ⟨r, hr, by omega, by omega⟩
  · rintro ⟨r, hr, a1, a2⟩
    exact ⟨_, List.mem_map.2 ⟨r, hr, rfl⟩, by simp only; omega, by simp only; omega⟩
theorem found_out {p n : Int} (h0 : 0 ≤ p) (h1 : p ≤ 1048576) (hn : 0 < n) {l : List (Int × Int)} (hl : Sp.Lst l) :
    foundL ctxL (ctxI p n) 0 l [] = if Sp.backInL l p n ≠ [] then none else some (out1 p l ++ shf n (rst p l)) := by
  obtain ⟨b1, b2⟩ := Sp.backInL_all hl (at_ := p) (n := n)
  have hsub : ∀ r ∈ rst p l, r ∈ l := fun r hr => (List.dropWhile_sublist _).subset hr
  rw [found_outE h0 h1 hn hl]
  have hin : ∀ q, 0 ≤ q → q < n → Sp.Lies l (q + p) → Sp.backInL l p n ≠ [] := fun q a1 a2 hq e => by
    have : Sp.Lies (Sp.backInL l p n) q := (b2 q).2 ⟨hq, a1, a2⟩
    rw [e] at this
    exact Sp.lies_nil _ this
  cases hr : rst p l with
  | nil =>
    simp only
    rw [if_neg, shf]
    · simp
    · intro hne
      cases hb : Sp.backInL l p n with
      | nil => exact hne hb
      | cons x t =>
        have hx := Sp.norm_lt b1 x (by rw [hb]; exact List.mem_cons_self ..)
        have hl2 : Sp.Lies (Sp.backInL l p n) x.1 := ⟨x, by rw [hb]; exact List.mem_cons_self .., by omega, by omega⟩
        obtain ⟨⟨r, hrm, a1, a2⟩, a3, a4⟩ := (b2 _).1 hl2
        have := (rst_mem hl.norm r hrm (p := p)).2 (by omega)
        rw [hr] at this
        cases this
  | cons x t =>
    simp only
    have hx := hsub x (by rw [hr]; exact List.mem_cons_self ..)
    have hx2 := (rst_mem hl.norm x hx (p := p)).1 (by rw [hr]; exact List.mem_cons_self ..)
    have hx3 := hl.nonneg x hx
    by_cases q : x.1 < p + n
    · rw [if_pos q, if_pos (hin (max x.1 p - p) (by omega) (by omega) ⟨x, hx, by omega, by omega⟩)]
    · rw [if_neg q, if_neg]
      intro hne
      cases hb : Sp.backInL l p n with
      | nil => exact hne hb
      | cons y u =>
        have hy := Sp.norm_lt b1 y (by rw [hb]; exact List.mem_cons_self ..)
        have hl2 : Sp.Lies (Sp.backInL l p n) y.1 := ⟨y, by rw [hb]; exact List.mem_cons_self .., by omega, by omega⟩
        obtain ⟨⟨r, hrm, a1, a2⟩, a3, a4⟩ := (b2 _).1 hl2
        have hrr := (rst_mem hl.norm r hrm (p := p)).2 (by omega)
        have hnorm : ∃ b, Sp.Norm b (rst p l) := rst_norm hl.norm
        obtain ⟨b, hb2⟩ := hnorm
        rw [hr] at hrr hb2
        rcases List.mem_cons.1 hrr with rfl | h3
        · omega
        · have := (Sp.norm_lt hb2.2.2 r h3).1
          have := hb2.2.1
          omega
theorem pl_back {p n : Int} (h0 : 0 ≤ p) (h1 : p ≤ 1048576) (hn : 0 < n) {l L : List (Int × Int)} (hl : Sp.Lst l) (hin : Sp.backInL l p n = []) (h : Sp.PlOf (out1 p l ++ shf n (rst p l)) L) : L = Sp.backOldL l p n := by
  obtain ⟨q1, q2⟩ := Sp.backOldL_all hl (at_ := p) (n := n) ⟨h0, h1⟩
  obtain ⟨b1, b2⟩ := Sp.backInL_all hl (at_ := p) (n := n)
  refine Sp.norm_unique h.1 q1 (fun q => (h.2.2.1 q).trans ?_)
  rw [Sp.lies_append, lies_out1, lies_shf, q2 q]
  constructor
  · rintro (hh | ⟨r, hr, a1, a2⟩)
    · exact .inl hh
    · have hrl : r ∈ l := (List.dropWhile_sublist _).subset hr
      have hr2 := (rst_mem hl.norm r hrl (p := p)).1 hr
      right
      refine ⟨⟨r, hrl, a1, a2⟩, ?_⟩
      refine Int.not_lt.1 (fun hq => ?_)
      have : Sp.Lies (Sp.backInL l p n) (max r.1 p - p) := (b2 _).2 ⟨⟨r, hrl, by omega, by omega⟩, by omega, by omega⟩
      rw [hin] at this
      exact Sp.lies_nil _ this
  · rintro (hh | ⟨⟨r, hr, a1, a2⟩, a3⟩)
    · exact .inl hh
    · exact .inr ⟨r, (rst_mem hl.norm r hr (p := p)).2 (by omega), a1, a2⟩
theorem taken_cnt (lo hi d : Int) : ∀ (a l : List (Int × Int)), (Sp.takenL l a lo hi d).length ≤ l.length + (a.filter (fun r => decide (max r.1 lo < min r.2 hi))).length
  | [], l => by simp [Sp.takenL]
  | r :: t, l => by
    have ih := taken_cnt lo hi d t (Sp.addedL l (max r.1 lo + d) (min r.2 hi + d))
    have e : Sp.takenL l (r :: t) lo hi d = Sp.takenL (Sp.addedL l (max r.1 lo + d) (min r.2 hi + d)) t lo hi d := rfl
    rw [e]
    by_cases q : max r.1 lo < min r.2 hi
    · have := (Sp.addedL_length l (max r.1 lo + d) (min r.2 hi + d)).1
      rw [List.filter_cons_of_pos (by simpa using q), List.length_cons]
      omega
    · have : Sp.addedL l (max r.1 lo + d) (min r.2 hi + d) = l := by unfold Sp.addedL; rw [if_pos (by omega)]
      rw [this] at ih ⊢
      rw [List.filter_cons_of_neg (by simpa using q)]
      exact ih
theorem filter_both {α : Type} (f g : α → Bool) : ∀ l : List α, (∀ x ∈ l, ¬ (f x = true ∧ g x = true)) → (l.filter f).length + (l.filter g).length ≤ l.length
  | [], _ => by simp
  | x :: t, h => by
    have ih := filter_both f g t (fun y hy => h y (List.mem_cons_of_mem _ hy))
    have hx := h x (List.mem_cons_self ..)
    simp only [List.filter_cons, List.length_cons]
    cases hf : f x <;> cases hg : g x <;> simp_all <;> omega
theorem back_few {p n : Int} (h0 : 0 ≤ p) (hn : 0 < n) {l : List (Int × Int)} (hl : Sp.Lst l) (hin : Sp.backInL l p n = []) : (Sp.backOldL l p n).length ≤ 32768 := by
  obtain ⟨b1, b2⟩ := Sp.backInL_all hl (at_ := p) (n := n)
  have h1 := taken_cnt 0 p 0 l []
  have h2 := taken_cnt (p + n) 1048576 (-n) l (Sp.takenL [] l 0 p 0)
  have h3 := filter_both (fun r : Int × Int => decide (max r.1 0 < min r.2 p)) (fun r => decide (max r.1 (p + n) < min r.2 1048576)) l (fun r hr hh => by
    have a1 := of_decide_eq_true hh.1
    have a2 := of_decide_eq_true hh.2
    have : Sp.Lies (Sp.backInL l p n) 0 := (b2 _).2 ⟨⟨r, hr, by omega, by omega⟩, by omega, by omega⟩
    rw [hin] at this
    exact Sp.lies_nil _ this)
  have := hl.few
  show (Sp.takenL (Sp.takenL [] l 0 p 0) l (p + n) 1048576 (-n)).length ≤ 32768
  simp only [List.length_nil] at h1
  omega
theorem back_end {p n : Int} (h0 : 0 ≤ p) (h1 : p ≤ 1048576) (hn : 0 < n) {l : List (Int × Int)} (hl : Sp.Lst l) : overEnd (Sp.backOldL l p n) = false := by
  obtain ⟨q1, q2⟩ := Sp.backOldL_all hl (at_ := p) (n := n) ⟨h0, h1⟩
  unfold overEnd
  cases hz : (Sp.backOldL l p n).getLast? with
  | none => rfl
  | some z =>
    have hm := List.mem_of_getLast? hz
    have hpos := Sp.norm_lt q1 z hm
    have hlies : Sp.Lies (Sp.backOldL l p n) (z.2 - 1) := ⟨z, hm, by omega, by omega⟩
    refine decide_eq_false ?_
    rcases (q2 _).1 hlies with ⟨⟨r, hr, a1, a2⟩, _⟩ | ⟨⟨r, hr, a1, a2⟩, a3⟩
    · have := hl.nonneg r hr
      omega
    · have := hl.nonneg r hr
      omega
theorem rst_ge {p n : Int} (hn : 0 < n) {l : List (Int × Int)} (hl : Sp.Lst l) (hin : Sp.backInL l p n = []) : ∀ r ∈ rst p l, p + n ≤ r.1 := fun r hr => by
  obtain ⟨b1, b2⟩ := Sp.backInL_all hl (at_ := p) (n := n)
  have hrl : r ∈ l := (List.dropWhile_sublist _).subset hr
  have hr2 := (rst_mem hl.norm r hrl (p := p)).1 hr
  have hr3 := hl.nonneg r hrl
  refine Int.not_lt.1 (fun hq => ?_)
  have : Sp.Lies (Sp.backInL l p n) (max r.1 p - p) := (b2 _).2 ⟨⟨r, hrl, by omega, by omega⟩, by omega, by omega⟩
  rw [hin] at this
  exact Sp.lies_nil _ this
theorem out_bound {p n : Int} (hn : 0 ≤ n) {l : List (Int × Int)} (hl : Sp.Lst l) (hge : ∀ r ∈ rst p l, n ≤ r.1) : ∀ r ∈ out1 p l ++ shf n (rst p l), 0 ≤ r.1 ∧ r.1 ≤ r.2 ∧ r.2 ≤ 2097152 := fun r hr => by
  rcases List.mem_append.1 hr with hr | hr
  · obtain ⟨s, hs, hr⟩ := List.mem_flatMap.1 hr
    have := hl.nonneg s hs
    split at hr
    · simp only [List.mem_singleton] at hr
      subst hr
      simp only
      omega
    · cases hr
  · obtain ⟨s, hs, rfl⟩ := List.mem_map.1 hr
    have := hl.nonneg s ((List.dropWhile_sublist _).subset hs)
    have := hge s hs
    simp only
    omega
theorem out_len {p n : Int} (l : List (Int × Int)) : (out1 p l ++ shf n (rst p l)).length ≤ 2 * l.length := by
  have h1 : (out1 p l).length ≤ l.length := by
    unfold out1
    induction l with
    | nil => simp
    | cons x t ih =>
      simp only [List.flatMap_cons, List.length_append, List.length_cons]
      split <;> simp only [List.length_cons, List.length_nil] <;> omega
  have h2 : (rst p l).length ≤ l.length := (List.dropWhile_sublist _).length_le
  simp only [List.length_append, shf, List.length_map]
  omega
end Go.Proofs.YtmdnmhdimfglaaaGreatDoor
