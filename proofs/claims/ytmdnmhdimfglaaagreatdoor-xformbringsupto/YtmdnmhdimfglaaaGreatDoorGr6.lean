import Derived.Test.YtmdnmhdimfglaaaGreatDoorGaX
import Derived.Test.YtmdnmhdimfglaaaGreatDoorGaE
import Derived.Test.YtmdnmhdimfglaaaGreatDoorGaC
import Derived.Deep.RegionHeld3
import Derived.Test.YtmdnmhdimfglaaaGreatDoorGr16
namespace Go.Proofs.YtmdnmhdimfglaaaGreatDoor
open Go.RowKit Go.Lib
set_option maxRecDepth 100000
theorem ctx_ok : SthOk ctxL := fun s hs => by
  simp only [ctxL, List.mem_singleton] at hs
  subst hs
  simp
def ctxI (p n : Int) : List Sth := withL 2 p n ctxL 0
theorem ctxI_eq {p n : Int} (h0 : 0 ≤ p) (h1 : p ≤ 1048576) : ctxI p n = (if 0 < p then [(0, 0, p)] else []) ++ [(2, 0, n), (0, p, 2097152)] := by
  unfold ctxI ctxL withL withL withOne
  rw [if_pos ⟨h0, by simp only [wid]; omega⟩]
  simp
theorem ctxI_ok {p n : Int} (h0 : 0 ≤ p) (h1 : p ≤ 1048576) (h2 : 0 ≤ n) (h3 : n ≤ 4194304) : SthOk (ctxI p n) := fun s hs => by
  rw [ctxI_eq h0 h1] at hs
  split at hs <;> simp at hs <;> rcases hs with rfl | rfl | rfl <;> simp <;> omega
theorem ctxI_len {p n : Int} (h0 : 0 ≤ p) (h1 : p ≤ 1048576) : (ctxI p n).length ≤ 3 := by
  rw [ctxI_eq h0 h1]
  split <;> simp
theorem place_ctx {p n k : Int} (h0 : 0 ≤ p) (h1 : p ≤ 1048576) (hk : 0 ≤ k) (hk2 : k < 2097152) : placeL 0 k (ctxI p n) 0 = if k < p then k else k + n := by
  rw [ctxI_eq h0 h1]
  by_cases hp : 0 < p
  · rw [if_pos hp]
    simp only [List.cons_append, List.nil_append, placeL]
    by_cases h : k < p
    · rw [if_pos ⟨trivial, hk, h⟩, if_pos h]; omega
    · rw [if_neg (fun hh => h hh.2.2), if_neg (fun hh => absurd hh.1 (by decide)), if_pos ⟨trivial, by omega, hk2⟩, if_neg h]; omega
  · rw [if_neg hp]
    simp only [List.nil_append, placeL]
    rw [if_neg (fun hh => absurd hh.1 (by decide)), if_pos ⟨trivial, by omega, hk2⟩, if_neg (by omega)]
    omega
theorem place_ins {p n : Int} (h0 : 0 ≤ p) (h1 : p ≤ 1048576) (hn : 0 < n) : placeL 2 0 (ctxI p n) 0 = p := by
  rw [ctxI_eq h0 h1]
  by_cases hp : 0 < p
  · rw [if_pos hp]
    simp only [List.cons_append, List.nil_append, placeL]
    rw [if_neg (fun hh => absurd hh.1 (by decide)), if_pos ⟨trivial, by omega, hn⟩]; omega
  · rw [if_neg hp]
    simp only [List.nil_append, placeL]
    rw [if_pos ⟨trivial, by omega, hn⟩]; omega
end Go.Proofs.YtmdnmhdimfglaaaGreatDoor

namespace Go.Proofs.YtmdnmhdimfglaaaGreatDoor
open Go.RowKit Go.Lib
set_option maxRecDepth 100000
theorem among_ctxI {p n lo hi : Int} (h0 : 0 ≤ p) (h1 : p ≤ 1048576) (hl : 0 ≤ lo) (hh : lo < hi) (hm : hi ≤ 1048576) : amongL 0 lo hi (ctxI p n) 0 = Sp.thr p n (lo, hi) := by
  rw [ctxI_eq h0 h1]
  unfold Sp.thr
  by_cases hp : 0 < p
  · rw [if_pos hp]
    simp only [List.cons_append, List.nil_append, amongL, amongOne, wid, List.append_nil]
    rw [if_neg (show ¬ ((2 : Int) = 0 ∧ (0 : Int) < hi ∧ lo < n) from fun hh => absurd hh.1 (by decide)), List.nil_append]
    congr 1
    · by_cases q : lo < p
      · rw [if_pos ⟨trivial, by omega, q⟩, if_pos q]
        simp only [List.cons.injEq, Prod.mk.injEq, and_true]
        omega
      · rw [if_neg (fun hh => q hh.2.2), if_neg q]
    · by_cases q : p < hi
      · rw [if_pos ⟨trivial, q, by omega⟩, if_pos q]
        simp only [List.cons.injEq, Prod.mk.injEq, and_true]
        omega
      · rw [if_neg (fun hh => q hh.2.1), if_neg q]
  · obtain rfl : p = 0 := by omega
    rw [if_neg hp]
    simp only [List.nil_append, amongL, amongOne, wid, List.append_nil]
    rw [if_neg (show ¬ ((2 : Int) = 0 ∧ (0 : Int) < hi ∧ lo < n) from fun hh => absurd hh.1 (by decide)), List.nil_append, if_neg (show ¬ lo < 0 by omega), List.nil_append]
    rw [if_pos ⟨trivial, by omega, by omega⟩, if_pos (by omega)]
    simp only [List.cons.injEq, Prod.mk.injEq, and_true]
    omega
theorem thr_some {p n : Int} {r : Int × Int} (h : r.1 < r.2) : Sp.thr p n r ≠ [] := by
  unfold Sp.thr
  by_cases q : r.1 < p
  · rw [if_pos q]; simp
  · rw [if_neg q, if_pos (by omega)]; simp
theorem innL_cons {T : List Sth} {s : Sth} {z e : Int} {r : Int × Int} {t acc G : List (Int × Int)} (he : z + wid s = e) (hG : amongL s.1 (s.2.1 + max r.1 z - z) (s.2.1 + min r.2 e - z) T 0 = G) :
    innL T s z (r :: t) acc = if r.1 < e then if G = [] then none else if e < r.2 then some (acc ++ G, r :: t) else innL T s z t (acc ++ G) else some (acc, r :: t) := by
  subst he hG
  rfl
theorem inn_in {p n : Int} (h0 : 0 ≤ p) (h1 : p ≤ 1048576) : ∀ (l acc : List (Int × Int)), (∀ r ∈ l, 0 ≤ r.1 ∧ r.1 < r.2 ∧ r.2 ≤ 1048576) → innL (ctxI p n) (0, 0, 2097152) 0 l acc = some (acc ++ l.flatMap (Sp.thr p n), [])
  | [], acc, _ => by simp [innL]
  | (x, y) :: t, acc, h => by
    obtain ⟨q1, q2, q3⟩ := h (x, y) (List.mem_cons_self ..)
    simp only at q1 q2 q3
    have hG : amongL (0 : Int) (0 + max x 0 - 0) (0 + min y 2097152 - 0) (ctxI p n) 0 = Sp.thr p n (x, y) := by
      rw [show (0 : Int) + max x 0 - 0 = x by omega, show (0 : Int) + min y 2097152 - 0 = y by omega]
      exact among_ctxI h0 h1 q1 q2 q3
    rw [innL_cons (e := 2097152) rfl hG, if_pos (by simp only; omega), if_neg (thr_some q2), if_neg (by simp only; omega), inn_in h0 h1 t _ (fun r hr => h r (List.mem_cons_of_mem _ hr))]
    simp [List.flatMap_cons]
theorem found_in {p n : Int} (h0 : 0 ≤ p) (h1 : p ≤ 1048576) {l : List (Int × Int)} (h : ∀ r ∈ l, 0 ≤ r.1 ∧ r.1 < r.2 ∧ r.2 ≤ 1048576) : foundL (ctxI p n) ctxL 0 l [] = some (l.flatMap (Sp.thr p n)) := by
  unfold ctxL
  simp only [foundL]
  rw [inn_in h0 h1 l [] h]
  rfl
theorem thr_bound {p n : Int} (h0 : 0 ≤ p) (hn : 0 ≤ n) (hn2 : n ≤ 256) {l : List (Int × Int)} (h : ∀ r ∈ l, 0 ≤ r.1 ∧ r.1 < r.2 ∧ r.2 ≤ 1048576) : ∀ r ∈ l.flatMap (Sp.thr p n), 0 ≤ r.1 ∧ r.1 ≤ r.2 ∧ r.2 ≤ 2097152 := fun r hr => by
  obtain ⟨s, hs, hr⟩ := List.mem_flatMap.1 hr
  obtain ⟨q1, q2, q3⟩ := h s hs
  unfold Sp.thr at hr
  rcases List.mem_append.1 hr with hr | hr
  · split at hr
    · simp only [List.mem_singleton] at hr
      subst hr
      simp only
      omega
    · cases hr
  · split at hr
    · simp only [List.mem_singleton] at hr
      subst hr
      simp only
      omega
    · cases hr
theorem pl_through {p n : Int} (h0 : 0 ≤ p) (h1 : p ≤ 1048576) (hn : 0 ≤ n) (hn2 : n ≤ 256) {l L : List (Int × Int)} (hl : Sp.Lst l) (h : Sp.PlOf (l.flatMap (Sp.thr p n)) L) : L = Sp.throughL l p n := by
  obtain ⟨q1, q2⟩ := Sp.throughL_all hl (at_ := p) (n := n) ⟨h0, h1⟩ ⟨hn, by omega⟩
  exact Sp.norm_unique h.1 q1 (fun q => (h.2.2.1 q).trans (Sp.thrL_lies.trans (q2 q).symm))
def overEnd (L : List (Int × Int)) : Bool := match L.getLast? with
  | some z => decide (1048576 < z.2)
  | none => false
theorem over_grow {p n : Int} (h0 : 0 ≤ p) (h1 : p ≤ 1048576) (hn : 0 ≤ n) (hn2 : n ≤ 256) {l : List (Int × Int)} (hl : Sp.Lst l) : overEnd (Sp.throughL l p n) = growB l p n := by
  obtain ⟨q1, q2⟩ := Sp.throughL_all hl (at_ := p) (n := n) ⟨h0, h1⟩ ⟨hn, by omega⟩
  have hb : growB l p n = true ↔ Sp.grows l p n := growB_iff l p n
  have key : overEnd (Sp.throughL l p n) = true ↔ Sp.grows l p n := by
    unfold overEnd Sp.grows
    constructor
    · intro h
      cases hz : (Sp.throughL l p n).getLast? with
      | none => rw [hz] at h; cases h
      | some z =>
        rw [hz] at h
        have h2 : 1048576 < z.2 := of_decide_eq_true h
        have hm := List.mem_of_getLast? hz
        have hpos := Sp.norm_lt q1 z hm
        have hlies : Sp.Lies (Sp.throughL l p n) (z.2 - 1) := ⟨z, hm, by omega, by omega⟩
        rcases (q2 _).1 hlies with ⟨⟨r, hr, a1, a2⟩, _⟩ | ⟨⟨r, hr, a1, a2⟩, a3⟩
        · have := hl.nonneg r hr
          omega
        · cases hz2 : l.getLast? with
          | none => rw [List.getLast?_eq_none_iff] at hz2; subst hz2; cases hr
          | some y =>
            have := Sp.lst_last hl.norm hz2 r hr
            exact ⟨y, rfl, by omega, by omega⟩
    · rintro ⟨y, hy, a1, a2⟩
      have hm := List.mem_of_getLast? hy
      have hy2 := hl.nonneg y hm
      have hlies : Sp.Lies (Sp.throughL l p n) (y.2 - 1 + n) := (q2 _).2 (.inr ⟨⟨y, hm, by omega, by omega⟩, by omega⟩)
      obtain ⟨r, hr, b1, b2⟩ := hlies
      cases hz : (Sp.throughL l p n).getLast? with
      | none => rw [List.getLast?_eq_none_iff] at hz; rw [hz] at hr; cases hr
      | some z =>
        have := Sp.lst_last q1 hz r hr
        exact decide_eq_true (by omega)
  cases e1 : overEnd (Sp.throughL l p n) <;> cases e2 : growB l p n
  · rfl
  · rw [key.2 (hb.1 e2)] at e1; cases e1
  · rw [hb.2 (key.1 e1)] at e2; cases e2
  · rfl
end Go.Proofs.YtmdnmhdimfglaaaGreatDoor
