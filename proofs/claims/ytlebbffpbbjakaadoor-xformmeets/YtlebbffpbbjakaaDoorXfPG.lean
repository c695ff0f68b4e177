import Derived.Test.YtlebbffpbbjakaaDoorXeP
import Derived.Test.YtlebbffpbbjakaaDoorXbR
import Derived.Test.YtlebbffpbbjakaaDoorXfD
namespace Go.Proofs.YtlebbffpbbjakaaDoor
open Go.RowKit Go.Lib
set_option maxRecDepth 100000

/-! Two operations of one context, each carried over the other, make one row (P5.10); two runs likewise (P5.11). -/
def liesB (l : List (Int × Int)) (q : Int) : Bool := l.any fun r => decide (r.1 ≤ q) && decide (q < r.2)
theorem liesB_iff (l : List (Int × Int)) (q : Int) : liesB l q = true ↔ Sp.Lies l q := by
  unfold liesB Sp.Lies
  simp [List.any_eq_true]
theorem liesB_congr {l k : List (Int × Int)} {q r : Int} (h : Sp.Lies l q ↔ Sp.Lies k r) : liesB l q = liesB k r := by
  rw [Bool.eq_iff_iff, liesB_iff, liesB_iff]
  exact h
theorem liesB_no {l : List (Int × Int)} {q : Int} (h : ¬ Sp.Lies l q) : liesB l q = false := by
  cases e : liesB l q with
  | false => rfl
  | true => exact absurd ((liesB_iff _ _).1 e) h
def addC (d : Int) (b : Bool) (c : CellW) : CellW := match b with
  | true => (c.1, c.2.1, c.2.2 + d)
  | false => c
theorem addC_comm (d e : Int) (a b : Bool) (c : CellW) : addC e b (addC d a c) = addC d a (addC e b c) := by
  cases a <;> cases b <;> simp only [addC]
  rw [show c.2.2 + d + e = c.2.2 + e + d by omega]
theorem upAll_pt (d : Int) : ∀ (l : List (Int × Int)) (b : Int), -1 ≤ b → Sp.Norm b l → ∀ (R : List CellW) (j : Nat), (upAll R l d)[j]? = R[j]?.map (addC d (liesB l (j : Int)))
  | [], b, _, _, R, j => by
    show R[j]? = _
    cases R[j]? <;> rfl
  | r :: l, b, hb, hN, R, j => by
    obtain ⟨h1, h2, h3⟩ := hN
    show (upAll (upTo R r.1.toNat r.2.toNat d) l d)[j]? = _
    rw [upAll_pt d l r.2 (by omega) h3, upTo_get]
    cases R[j]? with
    | none => rfl
    | some x =>
      simp only [Option.map_some]
      congr 1
      by_cases hj : r.1 ≤ (j : Int) ∧ (j : Int) < r.2
      · rw [if_pos (by omega), liesB_no (fun h => by have := Sp.norm_lies h3 h; omega), (liesB_iff (r :: l) j).2 ((Sp.lies_cons _ _ _).2 (.inl hj))]
        rfl
      · rw [if_neg (by omega), liesB_congr (l := r :: l) (k := l) (r := (j : Int)) ((Sp.lies_cons _ _ _).trans ⟨fun h => h.resolve_left hj, .inr⟩)]
theorem insL_pt (R : List CellW) (p : Nat) (N : List CellW) (hp : p ≤ R.length) (j : Nat) : (insL R p N)[j]? = if j < p then R[j]? else if j < p + N.length then N[j - p]? else R[j - N.length]? := by
  unfold insL
  have e1 : (R.take p).length = p := by rw [List.length_take]; omega
  by_cases h1 : j < p
  · rw [if_pos h1, List.append_assoc, List.getElem?_append_left (by omega), List.getElem?_take, if_pos h1]
  · rw [if_neg h1, List.append_assoc, List.getElem?_append_right (by omega), e1]
    by_cases h2 : j < p + N.length
    · rw [if_pos h2, List.getElem?_append_left (by omega)]
    · rw [if_neg h2, List.getElem?_append_right (by omega), List.getElem?_drop]
      congr 1
      omega
theorem ins_ins (R : List CellW) {p q : Nat} (N M : List CellW) (hpq : p ≤ q) (hq : q ≤ R.length) : insL (insL R p N) (q + N.length) M = insL (insL R q M) p N := by
  refine List.ext_getElem? fun j => ?_
  rw [insL_pt (insL R p N) (q + N.length) M (by rw [insL_length _ _ _ (by omega)]; omega), insL_pt (insL R q M) p N (by rw [insL_length _ _ _ hq]; omega), insL_pt R p N (by omega), insL_pt R p N (by omega), insL_pt R q M hq, insL_pt R q M hq]
  repeat' split
  all_goals first
    | rfl
    | (exfalso; omega)
    | (congr 1; omega)
theorem up_up (R : List CellW) {l k : List (Int × Int)} (d e : Int) (hl : Sp.Norm (-1) l) (hk : Sp.Norm (-1) k) : upAll (upAll R l d) k e = upAll (upAll R k e) l d := by
  refine List.ext_getElem? fun j => ?_
  rw [upAll_pt _ _ _ (by omega) hk, upAll_pt _ _ _ (by omega) hl, upAll_pt _ _ _ (by omega) hl, upAll_pt _ _ _ (by omega) hk]
  cases R[j]? with
  | none => rfl
  | some x => simp only [Option.map_some, addC_comm]
theorem up_ins (R : List CellW) {p : Nat} (N : List CellW) {l : List (Int × Int)} (d : Int) (hl : Sp.Lst l) (hp : p ≤ R.length) (hp2 : p ≤ 1048576) (hN : N.length ≤ 1048576) :
    upAll (insL R p N) (Sp.throughL l (p : Int) (N.length : Int)) d = insL (upAll R l d) p N := by
  obtain ⟨hn, hq⟩ := Sp.throughL_all hl (at_ := (p : Int)) (n := (N.length : Int)) ⟨by omega, by omega⟩ ⟨by omega, by omega⟩
  refine List.ext_getElem? fun j => ?_
  rw [upAll_pt _ _ _ (by omega) hn, insL_pt _ _ _ hp, insL_pt _ _ _ (by rw [upAll_len]; exact hp), upAll_pt _ _ _ (by omega) hl.norm, upAll_pt _ _ _ (by omega) hl.norm]
  by_cases h1 : j < p
  · rw [if_pos h1, if_pos h1, liesB_congr (k := l) (r := (j : Int))]
    rw [hq]
    exact ⟨fun h => h.elim (·.1) (fun h => absurd h.2 (by omega)), fun h => .inl ⟨h, by omega⟩⟩
  · rw [if_neg h1, if_neg h1]
    by_cases h2 : j < p + N.length
    · rw [if_pos h2, if_pos h2, liesB_no (fun h => by rcases (hq _).1 h with h | h <;> omega)]
      cases N[j - p]? <;> rfl
    · rw [if_neg h2, if_neg h2, liesB_congr (k := l) (r := ((j - N.length : Nat) : Int))]
      rw [hq, show (j : Int) - (N.length : Int) = ((j - N.length : Nat) : Int) by omega]
      exact ⟨fun h => h.elim (fun h => absurd h.2 (by omega)) (·.1), fun h => .inr ⟨h, by omega⟩⟩
theorem norm_count {t : Int} : ∀ {b : Int} {l : List (Int × Int)}, Sp.Norm b l → (∀ r ∈ l, r.2 ≤ t) → l = [] ∨ (l.length : Int) ≤ t - b - 1
  | b, [], _, _ => .inl rfl
  | b, r :: l, hN, ht => by
    obtain ⟨h1, h2, h3⟩ := hN
    have h4 := ht r List.mem_cons_self
    refine .inr ?_
    rw [List.length_cons]
    rcases norm_count h3 (fun x hx => ht x (List.mem_cons_of_mem _ hx)) with rfl | h
    · simp; omega
    · omega
/-- The list of a Hide or Show behind an insert. -/
theorem thr_made {t p w : Nat} {l : List (Int × Int)} (ht : t ≤ 900) (hp : p ≤ t) (hw : w ≤ 5) (hne : l ≠ []) (hN : Sp.Norm (-1) l) (hT : ∀ r ∈ l, r.2 ≤ (t : Int)) (hL : l.length ≤ t) :
    Sp.throughL l (p : Int) (w : Int) ≠ [] ∧ Sp.Norm (-1) (Sp.throughL l (p : Int) (w : Int)) ∧ (∀ r ∈ Sp.throughL l (p : Int) (w : Int), r.2 ≤ ((t + w : Nat) : Int)) ∧ (Sp.throughL l (p : Int) (w : Int)).length ≤ t + w := by
  have hl := made_lst ht hN hT hL
  obtain ⟨hn, hq⟩ := Sp.throughL_all hl (at_ := (p : Int)) (n := (w : Int)) ⟨by omega, by omega⟩ ⟨by omega, by omega⟩
  have hin : ∀ q, Sp.Lies l q → q < (t : Int) := fun q ⟨r, hr, h⟩ => by have := hT r hr; omega
  have htop : ∀ r ∈ Sp.throughL l (p : Int) (w : Int), r.2 ≤ ((t + w : Nat) : Int) := fun r hr => by
    have h1 := Sp.norm_lt hn r hr
    have h2 : Sp.Lies (Sp.throughL l (p : Int) (w : Int)) (r.2 - 1) := ⟨r, hr, by omega, by omega⟩
    rcases (hq _).1 h2 with h | h
    · have := hin _ h.1; omega
    · have := hin _ h.1; omega
  refine ⟨fun e => ?_, hn, htop, ?_⟩
  · obtain ⟨r, hr⟩ := List.exists_mem_of_ne_nil l hne
    have h1 := Sp.norm_lt hN r hr
    by_cases h2 : r.1 < (p : Int)
    · have := (hq r.1).2 (.inl ⟨⟨r, hr, by omega, by omega⟩, h2⟩)
      rw [e] at this
      exact Sp.lies_nil _ this
    · have := (hq (r.1 + w)).2 (.inr ⟨⟨r, hr, by omega, by omega⟩, by omega⟩)
      rw [e] at this
      exact Sp.lies_nil _ this
  · rcases norm_count hn htop with h | h
    · rw [h]; simp
    · omega
/-- All but the place is kept. -/
structure KeepO (a b : OpV) : Prop where
  c : b.c = a.c
  n : b.n = a.n
  k : b.k = a.k
  s : b.s = a.s
  tc : b.tc = a.tc
  tn : b.tn = a.tn
  on : b.on = a.on
theorem KeepO.refl (a : OpV) : KeepO a a := ⟨rfl, rfl, rfl, rfl, rfl, rfl, rfl⟩
theorem KeepO.trans {a b c : OpV} (h : KeepO a b) (g : KeepO b c) : KeepO a c := ⟨g.c.trans h.c, g.n.trans h.n, g.k.trans h.k, g.s.trans h.s, g.tc.trans h.tc, g.tn.trans h.tn, g.on.trans h.on⟩
theorem KeepO.wd {a b : OpV} (h : KeepO a b) : wdL b = wdL a := by unfold wdL; rw [h.k, h.s]
theorem clash_no {a b : OpV} (h : ¬ (a.c = b.c ∧ a.n = b.n)) : clashP a b = false := by
  unfold clashP
  cases e : (a.c == b.c && a.n == b.n) with
  | false => rfl
  | true => exact absurd (by simpa using e) h
theorem incl_same {a b : OpV} (e : Bool) (h : ¬ (a.c = b.c ∧ a.n = b.n)) (hk : b.k ≠ 1 ∨ a.k = 4) : inclP a b e = (a, 0) := by
  unfold inclP
  rw [clash_no h, if_neg (by simp), if_pos hk]
theorem incl_ii {c n c' n' : Int} {p q i j : Nat} (e : Bool) (hi : i < 5) (hj : j < 5) (hp : p ≤ 900) (h : ¬ (c = c' ∧ n = n')) :
    inclP (insV c n p i) (insV c' n' q j) e = (insV c n ((if q < p ∨ (q = p ∧ e = true) then p + (j + 1) else p : Nat) : Int) i, 0) := by
  unfold inclP
  rw [clash_no h, if_neg (by simp), if_neg (by simp [insV]), if_neg (by simp [insV]), insV_width _ _ _ _ hj]
  by_cases h1 : q < p ∨ (q = p ∧ e = true)
  · rw [if_pos (show (insV c' n' q j).p < (insV c n p i).p ∨ ((insV c' n' q j).p = (insV c n p i).p ∧ e = true) from h1.imp (fun h => by simp only [insV]; omega) (fun h => ⟨by simp only [insV]; omega, h.2⟩)), if_pos h1]
    unfold shiftP
    rw [insV_width _ _ _ _ hi, if_neg (by simp only [insV]; omega)]
    simp only [insV]
    congr 2
  · rw [if_neg (show ¬ ((insV c' n' q j).p < (insV c n p i).p ∨ ((insV c' n' q j).p = (insV c n p i).p ∧ e = true)) from fun hh => h1 (hh.imp (fun h => by simp only [insV] at h; omega) (fun h => ⟨by have := h.1; simp only [insV] at this; omega, h.2⟩))), if_neg h1]
theorem incl_hi {c n k c' n' : Int} {l : List (Int × Int)} {t q j : Nat} (e : Bool) (hk : k = 2 ∨ k = 3) (hj : j < 5) (ht : t ≤ 900) (hq : q ≤ t) (hne : l ≠ []) (hN : Sp.Norm (-1) l) (hT : ∀ r ∈ l, r.2 ≤ (t : Int)) (hL : l.length ≤ t) (h : ¬ (c = c' ∧ n = n')) :
    inclP ⟨c, n, k, 0, ⟨#[]⟩, l, 0, 0, false⟩ (insV c' n' q j) e = (⟨c, n, k, 0, ⟨#[]⟩, Sp.throughL l (q : Int) ((j + 1 : Nat) : Int), 0, 0, false⟩, 0) := by
  obtain ⟨h1, h2, h3, h4⟩ := thr_made (w := j + 1) ht hq (by omega) hne hN hT hL
  unfold inclP
  rw [clash_no h, if_neg (by simp), if_neg (by simp [insV]; omega), if_pos (by simp only; omega)]
  unfold thrP
  rw [insV_width _ _ _ _ hj]
  have he : thrE l (q : Int) ((j + 1 : Nat) : Int) = 0 := by
    unfold thrE
    rw [if_neg, if_neg (by omega)]
    rw [growB_iff]
    rintro ⟨r, hr, h5, h6⟩
    have := hT r (List.mem_of_getLast? hr)
    omega
  rw [if_neg (by simp only [insV]; rw [he]; simp)]
  rfl
theorem incl_made {c n c' n' : Int} {t : Nat} {a b : OpV} (ht : t ≤ 800) (ha : Made c n t a) (hb : Made c' n' t b) (h : ¬ (c = c' ∧ n = n')) (e : Bool) : (inclP a b e).2 = 0 ∧ Made c n (t + wdL b) (inclP a b e).1 ∧ KeepO a (inclP a b e).1 := by
  have h' : ¬ (a.c = b.c ∧ a.n = b.n) := by rw [ha.id.1, ha.id.2, hb.id.1, hb.id.2]; exact h
  have same : (b.k ≠ 1 ∨ a.k = 4) → Made c n (t + wdL b) a → (inclP a b e).2 = 0 ∧ Made c n (t + wdL b) (inclP a b e).1 ∧ KeepO a (inclP a b e).1 := fun hk hm => by
    rw [incl_same e h' hk]
    exact ⟨rfl, hm, KeepO.refl a⟩
  have w0 : b.k ≠ 1 → wdL b = 0 := fun hk => by unfold wdL; rw [if_neg hk]
  rcases hb.kind with ⟨q, j, hq, hj, rfl⟩ | ⟨k', on', hk', rfl⟩ | ⟨k', l', hk', h0', rfl, _⟩
  · rw [insV_wdL _ _ _ _ hj] at *
    rcases ha.kind with ⟨p, i, hp, hi, rfl⟩ | ⟨k, on, hk, rfl⟩ | ⟨k, l, hk, h0, rfl, hne, hN, hT, hL⟩
    · rw [incl_ii e hi hj (by omega) h]
      refine ⟨rfl, ⟨⟨rfl, rfl⟩, ha.size, .inl ⟨_, i, ?_, hi, rfl⟩⟩, rfl, rfl, rfl, rfl, rfl, rfl, rfl⟩
      split <;> omega
    · exact same (.inr rfl) ⟨⟨rfl, rfl⟩, ha.size, .inr (.inl ⟨k, on, hk, rfl⟩)⟩
    · rw [incl_hi e hk hj (by omega) hq hne hN hT hL h]
      obtain ⟨h1, h2, h3, h4⟩ := thr_made (w := j + 1) (by omega) hq (by omega) hne hN hT hL
      exact ⟨rfl, ⟨⟨rfl, rfl⟩, ha.size, .inr (.inr ⟨k, _, hk, by omega, rfl, h1, h2, h3, h4⟩)⟩, rfl, rfl, rfl, rfl, rfl, rfl, rfl⟩
  · exact same (.inl (by simp)) (by rw [w0 (by simp)]; exact ha)
  · exact same (.inl (by simp only; omega)) (by rw [w0 (by simp only; omega)]; exact ha)
theorem doesV_st (R : List CellW) {o : OpV} (h : o.k = 4) : doesV R o = R := by unfold doesV; rw [if_neg (by omega), if_pos h]
theorem doesV_up (R : List CellW) {o : OpV} (h : o.k = 2 ∨ o.k = 3) : doesV R o = upAll R o.l (byP o.k) := by unfold doesV; rw [if_neg (by omega), if_neg (by omega)]
/-- Two operations of one context (P5.10). -/
theorem meet1 {c n c' n' : Int} {R : List CellW} {a b : OpV} (hR : R.length ≤ 800) (ha : Made c n R.length a) (hb : Made c' n' R.length b) (h : ¬ (c = c' ∧ n = n')) :
    doesV (doesV R a) (inclP b a true).1 = doesV (doesV R b) (inclP a b false).1 := by
  have h' : ¬ (a.c = b.c ∧ a.n = b.n) := by rw [ha.id.1, ha.id.2, hb.id.1, hb.id.2]; exact h
  have h2 : ¬ (c' = c ∧ n' = n) := fun e => h ⟨e.1.symm, e.2.symm⟩
  have h2' : ¬ (b.c = a.c ∧ b.n = a.n) := fun e => h' ⟨e.1.symm, e.2.symm⟩
  rcases ha.kind with ⟨p, i, hp, hi, rfl⟩ | ⟨k, on, hk, rfl⟩ | ⟨k, l, hk, h0, rfl, hne, hN, hT, hL⟩
  · rcases hb.kind with ⟨q, j, hq, hj, rfl⟩ | ⟨k', on', hk', rfl⟩ | ⟨k', l', hk', h0', rfl, hne', hN', hT', hL'⟩
    · rw [incl_ii true hj hi (by omega) h2, incl_ii false hi hj (by omega) h]
      show doesV (doesV R (insV c n p i)) (insV c' n' _ j) = doesV (doesV R (insV c' n' q j)) (insV c n _ i)
      rw [does_insV' _ _ _ _ _ hi, does_insV' _ _ _ _ _ hj, does_insV' _ _ _ _ _ hi, does_insV' _ _ _ _ _ hj]
      by_cases hpq : p ≤ q
      · rw [if_pos (show p < q ∨ (p = q ∧ true = true) from (Nat.lt_or_eq_of_le hpq).imp id (fun h => ⟨h, rfl⟩)), if_neg (by simp; omega)]
        have := ins_ins R (newL c n (i + 1)) (newL c' n' (j + 1)) hpq hq
        rw [newL_length] at this
        exact this
      · rw [if_neg (by simp; omega), if_pos (.inl (by omega))]
        have := ins_ins R (newL c' n' (j + 1)) (newL c n (i + 1)) (show q ≤ p by omega) hp
        rw [newL_length] at this
        exact this.symm
    · rw [incl_same true h2' (.inr rfl), incl_same false h' (.inl (by simp))]
      simp only
      rw [doesV_st _ (o := ⟨c', n', 4, 0, ⟨#[]⟩, [], 3, ((1 + k' : Nat) : Int), on'⟩) rfl, doesV_st _ (o := ⟨c', n', 4, 0, ⟨#[]⟩, [], 3, ((1 + k' : Nat) : Int), on'⟩) rfl]
    · rw [incl_hi true hk' hi (by omega) hp hne' hN' hT' hL' h2, incl_same false h' (.inl (by simp only; omega))]
      simp only
      rw [does_insV' _ _ _ _ _ hi, does_insV' _ _ _ _ _ hi, doesV_up _ (by exact hk'), doesV_up _ (by exact hk')]
      have := up_ins R (newL c n (i + 1)) (byP k') (made_lst (by omega) hN' hT' hL') hp (by omega) (by rw [newL_length]; omega)
      rw [newL_length] at this
      exact this
  · rw [incl_same true h2' (.inl (by simp)), incl_same false h' (.inr rfl)]
    simp only
    rw [doesV_st _ (o := ⟨c, n, 4, 0, ⟨#[]⟩, [], 3, ((1 + k : Nat) : Int), on⟩) rfl, doesV_st _ (o := ⟨c, n, 4, 0, ⟨#[]⟩, [], 3, ((1 + k : Nat) : Int), on⟩) rfl]
  · rcases hb.kind with ⟨q, j, hq, hj, rfl⟩ | ⟨k', on', hk', rfl⟩ | ⟨k', l', hk', h0', rfl, hne', hN', hT', hL'⟩
    · rw [incl_same true h2' (.inl (by simp only; omega)), incl_hi false hk hj (by omega) hq hne hN hT hL h]
      simp only
      rw [does_insV' _ _ _ _ _ hj, does_insV' _ _ _ _ _ hj, doesV_up _ (by exact hk), doesV_up _ (by exact hk)]
      have := up_ins R (newL c' n' (j + 1)) (byP k) (made_lst (by omega) hN hT hL) hq (by omega) (by rw [newL_length]; omega)
      rw [newL_length] at this
      exact this.symm
    · rw [incl_same true h2' (.inr rfl), incl_same false h' (.inl (by simp))]
      simp only
      rw [doesV_st _ (o := ⟨c', n', 4, 0, ⟨#[]⟩, [], 3, ((1 + k' : Nat) : Int), on'⟩) rfl, doesV_st _ (o := ⟨c', n', 4, 0, ⟨#[]⟩, [], 3, ((1 + k' : Nat) : Int), on'⟩) rfl]
    · rw [incl_same true h2' (.inl (by simp only; omega)), incl_same false h' (.inl (by simp only; omega))]
      simp only
      have A1 : ∀ R : List CellW, doesV R ⟨c, n, k, 0, ⟨#[]⟩, l, 0, 0, false⟩ = upAll R l (byP k) := fun R => doesV_up R hk
      have A2 : ∀ R : List CellW, doesV R ⟨c', n', k', 0, ⟨#[]⟩, l', 0, 0, false⟩ = upAll R l' (byP k') := fun R => doesV_up R hk'
      simp only [A1, A2]
      exact up_up R _ _ hN hN'
end Go.Proofs.YtlebbffpbbjakaaDoor

namespace Go.Proofs.YtlebbffpbbjakaaDoor
open Go.RowKit Go.Lib
set_option maxRecDepth 100000

/-! Runs carried over one another. -/
/-- A right operation of the sentences where there are t cells. -/
structure GoodO (t : Nat) (o : OpV) : Prop where
  made : Made o.c o.n t o
  id : isIdP o.c o.n = true
  no3 : o.c ≠ 3
theorem GoodO.own {t : Nat} {o : OpV} (h : GoodO t o) (ht : t ≤ 900) : ownP o = 0 := made_own h.id h.no3 ht h.made
theorem GoodO.wd {t : Nat} {o : OpV} (h : GoodO t o) : wdL o ≤ 5 := wdL_made h.made
def RunG : Nat → List OpV → Prop
  | _, [] => True
  | t, o :: L => GoodO t o ∧ RunG (t + wdL o) L
def Unlike (a b : OpV) : Prop := ¬ (a.c = b.c ∧ a.n = b.n)
theorem Unlike.symm {a b : OpV} (h : Unlike a b) : Unlike b a := fun e => h ⟨e.1.symm, e.2.symm⟩
theorem Unlike.keep {a b a' b' : OpV} (h : Unlike a b) (ha : KeepO a a') (hb : KeepO b b') : Unlike a' b' := fun e => h (by rw [← ha.c, ← ha.n, ← hb.c, ← hb.n]; exact e)
theorem good_incl {t : Nat} {a b : OpV} (ht : t ≤ 800) (ha : GoodO t a) (hb : GoodO t b) (h : Unlike a b) (e : Bool) : (inclP a b e).2 = 0 ∧ GoodO (t + wdL b) (inclP a b e).1 ∧ KeepO a (inclP a b e).1 := by
  obtain ⟨h1, h2, h3⟩ := incl_made ht ha.made hb.made h e
  refine ⟨h1, ⟨?_, ?_, ?_⟩, h3⟩
  · rw [h3.c, h3.n]; exact h2
  · rw [h3.c, h3.n]; exact ha.id
  · rw [h3.c]; exact ha.no3
/-- One operation over a run: the run behind it, it behind the run. -/
def crossRow : List OpV → OpV → List OpV × OpV
  | [], l => ([], l)
  | f :: F, l => ((inclP f l false).1 :: (crossRow F (inclP l f true).1).1, (crossRow F (inclP l f true).1).2)
def crossAll : List OpV → List OpV → List OpV × List OpV
  | F, [] => (F, [])
  | F, l :: L => ((crossAll (crossRow F l).1 L).1, (crossRow F l).2 :: (crossAll (crossRow F l).1 L).2)
def overL (o : OpV) (e : Bool) (L : List OpV) : OpV := L.foldl (fun o f => (inclP o f e).1) o
def Kept : List OpV → List OpV → Prop
  | [], [] => True
  | a :: A, b :: B => KeepO a b ∧ Kept A B
  | _, _ => False
theorem Kept.refl : ∀ A, Kept A A
  | [] => trivial
  | a :: A => ⟨KeepO.refl a, Kept.refl A⟩
theorem Kept.trans : ∀ {A B C}, Kept A B → Kept B C → Kept A C
  | [], [], [], _, _ => trivial
  | _ :: _, _ :: _, _ :: _, h, g => ⟨h.1.trans g.1, Kept.trans h.2 g.2⟩
theorem Kept.len : ∀ {A B}, Kept A B → A.length = B.length
  | [], [], _ => rfl
  | _ :: A, _ :: B, h => by rw [List.length_cons, List.length_cons, Kept.len h.2]
theorem Kept.at : ∀ {A B}, Kept A B → ∀ (i : Nat) (a b : OpV), A[i]? = some a → B[i]? = some b → KeepO a b
  | [], [], _, i, a, b, ha, hb => by simp at ha
  | x :: A, y :: B, h, 0, a, b, ha, hb => by simp at ha hb; subst ha hb; exact h.1
  | x :: A, y :: B, h, i + 1, a, b, ha, hb => Kept.at h.2 i a b (by simpa using ha) (by simpa using hb)
theorem Kept.unlike {l l' : OpV} (hl : KeepO l l') : ∀ (A B : List OpV), Kept A B → (∀ f ∈ A, Unlike f l) → ∀ f ∈ B, Unlike f l' := by
  intro A
  induction A with
  | nil =>
    intro B h _ f hf
    match B, h with
    | [], _ => cases hf
  | cons a A ih =>
    intro B h hu f hf
    match B, h with
    | b :: B, h =>
      rcases List.mem_cons.1 hf with rfl | hf
      · exact (hu a List.mem_cons_self).keep h.1 hl
      · exact ih B h.2 (fun x hx => hu x (List.mem_cons_of_mem _ hx)) f hf
theorem endT_cons (t : Nat) (o : OpV) (L : List OpV) : endT t (o :: L) = endT (t + wdL o) L := rfl
theorem endT_le {t : Nat} : ∀ {L : List OpV}, RunG t L → endT t L ≤ t + 5 * L.length
  | [], _ => by simp [endT]
  | o :: L, h => by
    have := endT_le h.2
    have := h.1.wd
    rw [endT_cons, List.length_cons]
    omega
theorem endT_kept : ∀ {F G : List OpV}, Kept F G → ∀ t k : Nat, endT t F + k = endT (t + k) G
  | [], [], _, t, k => rfl
  | f :: F, g :: G, h, t, k => by
    rw [endT_cons, endT_cons, h.1.wd, Nat.add_right_comm t k]
    exact endT_kept h.2 _ _
theorem row_ok : ∀ {F : List OpV} {t : Nat} {l : OpV}, RunG t F → GoodO t l → (∀ f ∈ F, Unlike f l) → t + 5 * F.length ≤ 700 →
    RunG (t + wdL l) (crossRow F l).1 ∧ GoodO (endT t F) (crossRow F l).2 ∧ KeepO l (crossRow F l).2 ∧ Kept F (crossRow F l).1 ∧ ∀ R : List CellW, R.length = t → foldV R (F ++ [(crossRow F l).2]) = foldV R (l :: (crossRow F l).1)
  | [], t, l, _, hl, _, _ => ⟨trivial, hl, KeepO.refl l, trivial, fun R _ => rfl⟩
  | f :: F, t, l, hF, hl, hu, ht => by
    rw [List.length_cons] at ht
    have hf := hF.1
    have hfl := hu f List.mem_cons_self
    have h1 := good_incl (by omega) hl hf hfl.symm true
    have h2 := good_incl (by omega) hf hl hfl false
    have hw := hf.wd
    obtain ⟨g1, g2, g3, g4, g5⟩ := row_ok (F := F) (t := t + wdL f) (l := (inclP l f true).1) hF.2 h1.2.1 (fun x hx => (hu x (List.mem_cons_of_mem _ hx)).keep (KeepO.refl x) h1.2.2) (by omega)
    refine ⟨⟨h2.2.1, ?_⟩, g2, h1.2.2.trans g3, ⟨h2.2.2, g4⟩, fun R hR => ?_⟩
    · rw [h1.2.2.wd] at g1
      rw [h2.2.2.wd, Nat.add_right_comm]
      exact g1
    · subst hR
      have e1 := g5 (doesV R f) (does_len hf.made)
      show foldV (doesV R f) (F ++ [(crossRow F (inclP l f true).1).2]) = foldV (doesV R l) ((inclP f l false).1 :: (crossRow F (inclP l f true).1).1)
      rw [e1]
      show foldV (doesV (doesV R f) (inclP l f true).1) _ = foldV (doesV (doesV R l) (inclP f l false).1) _
      rw [meet1 (by omega) hf.made hl.made hfl]
theorem all_ok : ∀ {L F : List OpV} {t : Nat}, RunG t F → RunG t L → (∀ f ∈ F, ∀ l ∈ L, Unlike f l) → t + 5 * F.length + 5 * L.length ≤ 700 →
    RunG (endT t L) (crossAll F L).1 ∧ RunG (endT t F) (crossAll F L).2 ∧ Kept F (crossAll F L).1 ∧ Kept L (crossAll F L).2 ∧ ∀ R : List CellW, R.length = t → foldV R (F ++ (crossAll F L).2) = foldV R (L ++ (crossAll F L).1)
  | [], F, t, hF, _, _, _ => ⟨hF, trivial, Kept.refl F, trivial, fun R _ => by simp [crossAll]⟩
  | l :: L, F, t, hF, hL, hu, ht => by
    rw [List.length_cons] at ht
    obtain ⟨g1, g2, g3, g4, g5⟩ := row_ok hF hL.1 (fun f hf => hu f hf l List.mem_cons_self) (by omega)
    have hw := hL.1.wd
    obtain ⟨k1, k2, k3, k4, k5⟩ := all_ok (L := L) (F := (crossRow F l).1) g1 hL.2 (fun f hf x hx => Kept.unlike (KeepO.refl x) _ _ g4 (fun y hy => hu y hy x (List.mem_cons_of_mem _ hx)) f hf) (by rw [← g4.len]; omega)
    refine ⟨k1, ⟨g2, ?_⟩, g4.trans k3, ⟨g3, k4⟩, fun R hR => ?_⟩
    · have e : endT (endT t F) [(crossRow F l).2] = endT (t + wdL l) (crossRow F l).1 := by
        show endT t F + wdL (crossRow F l).2 = _
        rw [g3.wd]
        exact endT_kept g4 t (wdL l)
      show RunG (endT (endT t F) [(crossRow F l).2]) _
      rw [e]
      exact k2
    · show foldV R (F ++ ((crossRow F l).2 :: _)) = foldV (doesV R l) (L ++ _)
      have e1 := g5 R hR
      rw [show F ++ ((crossRow F l).2 :: (crossAll (crossRow F l).1 L).2) = (F ++ [(crossRow F l).2]) ++ (crossAll (crossRow F l).1 L).2 by simp]
      unfold foldV at *
      rw [List.foldl_append, e1]
      show List.foldl doesV (List.foldl doesV (doesV R l) (crossRow F l).1) _ = _
      rw [← List.foldl_append]
      subst hR
      exact k5 (doesV R l) (does_len hL.1.made)
end Go.Proofs.YtlebbffpbbjakaaDoor

namespace Go.Proofs.YtlebbffpbbjakaaDoor
open Go.RowKit Go.Lib
set_option maxRecDepth 100000

/-! Where Cross stands: i operations of the later run have gone over the first run. -/
structure St (R1 R2 : List OpV) (n m i : Nat) (F L : List OpV) : Prop where
  lenF : F.length = n
  lenL : L.length = m
  ex : ∃ t, RunG t F ∧ RunG t (L.drop i) ∧ (∀ f ∈ F, ∀ l ∈ L.drop i, Unlike f l) ∧ t + 5 * F.length + 5 * (L.drop i).length ≤ 700 ∧ (crossAll F (L.drop i)).1 = R1 ∧ L.take i ++ (crossAll F (L.drop i)).2 = R2
/-- The i-th of them has gone over j. -/
structure St2 (R1 R2 : List OpV) (n m i j : Nat) (F L : List OpV) (l : OpV) (t : Nat) : Prop where
  lenF : F.length = n
  lenL : L.length = m
  at_ : L[i]? = some l
  run : RunG t (F.drop j)
  good : GoodO t l
  unl : ∀ f ∈ F.drop j, Unlike f l
  bd : t + 5 * (F.drop j).length ≤ 700
  nxt : St R1 R2 n m (i + 1) (F.take j ++ (crossRow (F.drop j) l).1) (L.set i (crossRow (F.drop j) l).2)
theorem st_start {F L : List OpV} {t : Nat} (hF : RunG t F) (hL : RunG t L) (hu : ∀ f ∈ F, ∀ l ∈ L, Unlike f l) (hb : t + 5 * F.length + 5 * L.length ≤ 700) : St (crossAll F L).1 (crossAll F L).2 F.length L.length 0 F L :=
  ⟨rfl, rfl, t, hF, hL, hu, hb, rfl, rfl⟩
theorem st_end {R1 R2 : List OpV} {n m : Nat} {F L : List OpV} (h : St R1 R2 n m m F L) : F = R1 ∧ L = R2 := by
  obtain ⟨t, _, _, _, _, h1, h2⟩ := h.ex
  rw [List.drop_of_length_le (by rw [h.lenL]; exact Nat.le_refl _)] at h1 h2
  rw [List.take_of_length_le (by rw [h.lenL]; exact Nat.le_refl _)] at h2
  simp only [crossAll, List.append_nil] at h1 h2
  exact ⟨h1, h2⟩
theorem drop_at {α : Type} {L : List α} {i : Nat} {x : α} (h : L[i]? = some x) : L.drop i = x :: L.drop (i + 1) := by
  obtain ⟨hi, rfl⟩ := List.getElem?_eq_some_iff.1 h
  exact List.drop_eq_getElem_cons hi
theorem take_set_at {α : Type} {L : List α} {i : Nat} {x y : α} (h : L[i]? = some x) : (L.set i y).take (i + 1) = L.take i ++ [y] := by
  obtain ⟨hi, rfl⟩ := List.getElem?_eq_some_iff.1 h
  rw [List.take_succ_eq_append_getElem (by rw [List.length_set]; exact hi), List.take_set_of_le (Nat.le_refl _), List.getElem_set_self]
theorem drop_set_at {α : Type} (L : List α) (i : Nat) (y : α) : (L.set i y).drop (i + 1) = L.drop (i + 1) := List.drop_set_of_lt (Nat.lt_succ_self _)
theorem st_row {R1 R2 : List OpV} {n m i : Nat} {F L : List OpV} (h : St R1 R2 n m i F L) (hi : i < m) : ∃ l t, St2 R1 R2 n m i 0 F L l t := by
  obtain ⟨t, hF, hL, hu, hb, h1, h2⟩ := h.ex
  have hil : i < L.length := by rw [h.lenL]; exact hi
  have hl : L[i]? = some L[i] := List.getElem?_eq_getElem hil
  rw [drop_at hl] at hL hu hb h1 h2
  rw [List.length_cons] at hb
  have hu1 : ∀ f ∈ F, Unlike f L[i] := fun f hf => hu f hf _ List.mem_cons_self
  obtain ⟨g1, g2, g3, g4, g5⟩ := row_ok hF hL.1 hu1 (by omega)
  have hw := hL.1.wd
  refine ⟨L[i], t, h.lenF, h.lenL, hl, hF, hL.1, hu1, by rw [List.drop_zero]; omega, ?_⟩
  refine ⟨?_, by rw [List.length_set]; exact h.lenL, t + wdL L[i], ?_, ?_, ?_, ?_, ?_, ?_⟩
  · rw [List.take_zero, List.nil_append, List.drop_zero, ← g4.len]; exact h.lenF
  · exact g1
  · rw [drop_set_at]; exact hL.2
  · rw [drop_set_at]
    exact fun f hf x hx => Kept.unlike (KeepO.refl x) _ _ g4 (fun y hy => hu y hy x (List.mem_cons_of_mem _ hx)) f hf
  · rw [drop_set_at, List.take_zero, List.nil_append, List.drop_zero, ← g4.len]; omega
  · rw [drop_set_at]; exact h1
  · rw [drop_set_at, take_set_at hl, List.append_assoc]; exact h2
theorem st2_step {R1 R2 : List OpV} {n m i j : Nat} {F L : List OpV} {l f : OpV} {t : Nat} (h : St2 R1 R2 n m i j F L l t) (hf : F[j]? = some f) :
    (inclP l f true).2 = 0 ∧ (inclP f l false).2 = 0 ∧ ownP f = 0 ∧ ownP l = 0 ∧ St2 R1 R2 n m i (j + 1) (F.set j (inclP f l false).1) (L.set i (inclP l f true).1) (inclP l f true).1 (t + wdL f) := by
  have hr := h.run
  have hu := h.unl
  have hb := h.bd
  have hn := h.nxt
  rw [drop_at hf] at hr hu hb hn
  rw [List.length_cons] at hb
  have hfl := hu f List.mem_cons_self
  have hw := hr.1.wd
  have h1 := good_incl (by omega) h.good hr.1 hfl.symm true
  have h2 := good_incl (by omega) hr.1 h.good hfl false
  have hil : i < L.length := (List.getElem?_eq_some_iff.1 h.at_).1
  refine ⟨h1.1, h2.1, hr.1.own (by omega), h.good.own (by omega), by rw [List.length_set]; exact h.lenF, by rw [List.length_set]; exact h.lenL, by rw [List.getElem?_set_self hil], ?_, h1.2.1, ?_, ?_, ?_⟩
  · rw [drop_set_at]; exact hr.2
  · rw [drop_set_at]
    exact fun x hx => (hu x (List.mem_cons_of_mem _ hx)).keep (KeepO.refl x) h1.2.2
  · rw [drop_set_at]; omega
  · rw [drop_set_at, take_set_at hf, List.set_set, List.append_assoc]
    exact hn
theorem st2_end {R1 R2 : List OpV} {n m i : Nat} {F L : List OpV} {l : OpV} {t : Nat} (h : St2 R1 R2 n m i n F L l t) : St R1 R2 n m (i + 1) F L := by
  have hn := h.nxt
  rw [List.drop_of_length_le (by rw [h.lenF]; exact Nat.le_refl _), List.take_of_length_le (by rw [h.lenF]; exact Nat.le_refl _)] at hn
  simp only [crossRow, List.append_nil] at hn
  have e : L.set i l = L := by
    obtain ⟨hi, e⟩ := List.getElem?_eq_some_iff.1 h.at_
    rw [← e]
    exact List.set_getElem_self hi
  rw [e] at hn
  exact hn
theorem RunG.own {t : Nat} : ∀ {L : List OpV}, RunG t L → t + 5 * L.length ≤ 900 → firstErr L = 0
  | [], _, _ => rfl
  | o :: L, h, hb => by
    rw [List.length_cons] at hb
    have := h.1.wd
    unfold firstErr
    rw [if_neg (by rw [h.1.own (by omega)]; simp)]
    exact RunG.own h.2 (by omega)
end Go.Proofs.YtlebbffpbbjakaaDoor

namespace Go.Proofs.YtlebbffpbbjakaaDoor
open Go.RowKit Go.Lib
set_option maxRecDepth 100000

/-- Two rows of operations of one's own, apart from one another and from all their ranges. -/
structure MemC (w : World) (a1 a2 : Option Addr) (n c1 m c2 : Nat) (W : World) (FM LM : List OpM) : Prop where
  fst : OwnF opF 9 42 W w.heap.size (.slice a1 n c1) FM
  snd : OwnF opF 9 42 W w.heap.size (.slice a2 m c2) LM
  rf : ∀ x ∈ FM, Rdy W x ∧ Apt a1 x ∧ Apt a2 x
  rl : ∀ x ∈ LM, Rdy W x ∧ Apt a1 x ∧ Apt a2 x
  bel : Below w.heap.size w W
theorem cells_of {W : World} {B g n cap : Nat} {L : List OpM} (h : OwnF opF 9 42 W B (.slice (some ⟨g, 0, none⟩) n cap) L) {j : Nat} {x : OpM} (hx : L[j]? = some x) : W.cell? ⟨g, j * 9, none⟩ = some (.int .i64 x.1.c) ∧ W.cell? ⟨g, j * 9 + 1, none⟩ = some (.int .i64 x.1.n) ∧ W.cell? ⟨g, j * 9 + 2, none⟩ = some (.int .i64 x.1.k) ∧ W.cell? ⟨g, j * 9 + 3, none⟩ = some (.int .i64 x.1.p) ∧ W.cell? ⟨g, j * 9 + 4, none⟩ = some (.string x.1.s) ∧ W.cell? ⟨g, j * 9 + 5, none⟩ = some (.slice x.2.1 x.2.2.1 x.2.2.2) ∧ W.cell? ⟨g, j * 9 + 6, none⟩ = some (.int .i64 x.1.tc) ∧ W.cell? ⟨g, j * 9 + 7, none⟩ = some (.int .i64 x.1.tn) ∧ W.cell? ⟨g, j * 9 + 8, none⟩ = some (.bool x.1.on) := by
  have hl := (h.rw_ layO).len
  have hj : j < n := by have := (List.getElem?_eq_some_iff.1 hx).1; omega
  obtain ⟨g', off, x', ha', _, hx', c0, c1, c2, c3, c4, c5, c6, c7, c8⟩ := (h.rw_ layO).at9 (Below.refl _ _) j hj
  cases ha'
  rw [hx] at hx'
  cases hx'
  simp only [Nat.zero_add] at c0 c1 c2 c3 c4 c5 c6 c7 c8
  exact ⟨c0, c1, c2, c3, c4, c5, c6, c7, c8⟩
theorem src_rdy {W w5 : World} {x : OpM} {o1 : OpV} {va : Option Addr} {vm vc g1 g2 : Nat} (hb : Below W.heap.size W w5) (hx : Rdy W x ∧ Apt (some ⟨g1, 0, none⟩) x ∧ Apt (some ⟨g2, 0, none⟩) x) (hg1 : g1 < W.heap.size) (hg2 : g2 < W.heap.size)
    (hs : Src (.slice x.2.1 x.2.2.1 x.2.2.2) x.1.l W w5 (.slice va vm vc) o1.l) (q1 : o1.l.length ≤ 1000000000) (q2 : o1.s.size ≤ 281474976710656) :
    Rdy w5 (o1, (va, vm, vc)) ∧ Apt (some ⟨g1, 0, none⟩) ((o1, (va, vm, vc)) : OpM) ∧ Apt (some ⟨g2, 0, none⟩) ((o1, (va, vm, vc)) : OpM) := by
  rcases hs with ⟨e, el⟩ | ho
  · cases e
    exact ⟨⟨by rw [el]; exact hx.1.rng.below hb, q1, q2⟩, hx.2.1, hx.2.2⟩
  · refine ⟨⟨rng_of_rw (ho.rw_ layG), q1, q2⟩, own_apt (B := W.heap.size) ho (fun ad e => ?_), own_apt (B := W.heap.size) ho (fun ad e => ?_)⟩
    · cases e; exact hg1
    · cases e; exact hg2
theorem mem_step {w wr w5 : World} {g1 g2 n c1 m c2 i j : Nat} {FM LM : List OpM} {x y : OpM} {o1 o2 : OpV} {va : Option Addr} {vm vc : Nat} {ya : Option Addr} {ym yc : Nat} (hM : MemC w (some ⟨g1, 0, none⟩) (some ⟨g2, 0, none⟩) n c1 m c2 wr FM LM) (hx : FM[j]? = some x) (hy : LM[i]? = some y) (hg : g1 ≠ g2) (hb : Below wr.heap.size wr w5)
    (hs1 : Src (.slice x.2.1 x.2.2.1 x.2.2.2) x.1.l wr w5 (.slice va vm vc) o1.l) (hs2 : Src (.slice y.2.1 y.2.2.1 y.2.2.2) y.1.l wr w5 (.slice ya ym yc) o2.l) (q1 : o1.l.length ≤ 1000000000 ∧ o1.s.size ≤ 281474976710656) (q2 : o2.l.length ≤ 1000000000 ∧ o2.s.size ≤ 281474976710656) :
    ∃ W9 W8, (((((((((w5.setCell ⟨g1, j * 9, none⟩ (.int .i64 o1.c)).setCell ⟨g1, j * 9 + 1, none⟩ (.int .i64 o1.n)).setCell ⟨g1, j * 9 + 2, none⟩ (.int .i64 o1.k)).setCell ⟨g1, j * 9 + 3, none⟩ (.int .i64 o1.p)).setCell ⟨g1, j * 9 + 4, none⟩ (.string o1.s)).setCell ⟨g1, j * 9 + 5, none⟩ (.slice va vm vc)).setCell ⟨g1, j * 9 + 6, none⟩ (.int .i64 o1.tc)).setCell ⟨g1, j * 9 + 7, none⟩ (.int .i64 o1.tn)).setCell ⟨g1, j * 9 + 8, none⟩ (.bool o1.on)) = W9 ∧ (((((((((W9.setCell ⟨g2, i * 9, none⟩ (.int .i64 o2.c)).setCell ⟨g2, i * 9 + 1, none⟩ (.int .i64 o2.n)).setCell ⟨g2, i * 9 + 2, none⟩ (.int .i64 o2.k)).setCell ⟨g2, i * 9 + 3, none⟩ (.int .i64 o2.p)).setCell ⟨g2, i * 9 + 4, none⟩ (.string o2.s)).setCell ⟨g2, i * 9 + 5, none⟩ (.slice ya ym yc)).setCell ⟨g2, i * 9 + 6, none⟩ (.int .i64 o2.tc)).setCell ⟨g2, i * 9 + 7, none⟩ (.int .i64 o2.tn)).setCell ⟨g2, i * 9 + 8, none⟩ (.bool o2.on)) = W8 ∧ MemC w (some ⟨g1, 0, none⟩) (some ⟨g2, 0, none⟩) n c1 m c2 W8 (FM.set j (o1, (va, vm, vc))) (LM.set i (o2, (ya, ym, yc))) ∧ (w5.cell? ⟨g1, j * 9, none⟩ = some (.int .i64 x.1.c) ∧ w5.cell? ⟨g1, j * 9 + 1, none⟩ = some (.int .i64 x.1.n) ∧ w5.cell? ⟨g1, j * 9 + 2, none⟩ = some (.int .i64 x.1.k) ∧ w5.cell? ⟨g1, j * 9 + 3, none⟩ = some (.int .i64 x.1.p) ∧ w5.cell? ⟨g1, j * 9 + 4, none⟩ = some (.string x.1.s) ∧ w5.cell? ⟨g1, j * 9 + 5, none⟩ = some (.slice x.2.1 x.2.2.1 x.2.2.2) ∧ w5.cell? ⟨g1, j * 9 + 6, none⟩ = some (.int .i64 x.1.tc) ∧ w5.cell? ⟨g1, j * 9 + 7, none⟩ = some (.int .i64 x.1.tn) ∧ w5.cell? ⟨g1, j * 9 + 8, none⟩ = some (.bool x.1.on)) ∧ (w5.frozen? ⟨g1, j * 9, none⟩ = false ∧ w5.frozen? ⟨g1, j * 9 + 1, none⟩ = false ∧ w5.frozen? ⟨g1, j * 9 + 2, none⟩ = false ∧ w5.frozen? ⟨g1, j * 9 + 3, none⟩ = false ∧ w5.frozen? ⟨g1, j * 9 + 4, none⟩ = false ∧ w5.frozen? ⟨g1, j * 9 + 5, none⟩ = false ∧ w5.frozen? ⟨g1, j * 9 + 6, none⟩ = false ∧ w5.frozen? ⟨g1, j * 9 + 7, none⟩ = false ∧ w5.frozen? ⟨g1, j * 9 + 8, none⟩ = false) ∧ (W9.cell? ⟨g2, i * 9, none⟩ = some (.int .i64 y.1.c) ∧ W9.cell? ⟨g2, i * 9 + 1, none⟩ = some (.int .i64 y.1.n) ∧ W9.cell? ⟨g2, i * 9 + 2, none⟩ = some (.int .i64 y.1.k) ∧ W9.cell? ⟨g2, i * 9 + 3, none⟩ = some (.int .i64 y.1.p) ∧ W9.cell? ⟨g2, i * 9 + 4, none⟩ = some (.string y.1.s) ∧ W9.cell? ⟨g2, i * 9 + 5, none⟩ = some (.slice y.2.1 y.2.2.1 y.2.2.2) ∧ W9.cell? ⟨g2, i * 9 + 6, none⟩ = some (.int .i64 y.1.tc) ∧ W9.cell? ⟨g2, i * 9 + 7, none⟩ = some (.int .i64 y.1.tn) ∧ W9.cell? ⟨g2, i * 9 + 8, none⟩ = some (.bool y.1.on)) ∧ (W9.frozen? ⟨g2, i * 9, none⟩ = false ∧ W9.frozen? ⟨g2, i * 9 + 1, none⟩ = false ∧ W9.frozen? ⟨g2, i * 9 + 2, none⟩ = false ∧ W9.frozen? ⟨g2, i * 9 + 3, none⟩ = false ∧ W9.frozen? ⟨g2, i * 9 + 4, none⟩ = false ∧ W9.frozen? ⟨g2, i * 9 + 5, none⟩ = false ∧ W9.frozen? ⟨g2, i * 9 + 6, none⟩ = false ∧ W9.frozen? ⟨g2, i * 9 + 7, none⟩ = false ∧ W9.frozen? ⟨g2, i * 9 + 8, none⟩ = false) := by
  have l1 := (hM.fst.rw_ layO).len
  have l2 := (hM.snd.rw_ layO).len
  have hj : j < n := by have := (List.getElem?_eq_some_iff.1 hx).1; omega
  have hi : i < m := by have := (List.getElem?_eq_some_iff.1 hy).1; omega
  have hg1 : g1 < wr.heap.size := hM.fst.lt rfl
  have hg2 : g2 < wr.heap.size := hM.snd.lt rfl
  have bg1 : w.heap.size ≤ g1 := hM.fst.ge rfl
  have bg2 : w.heap.size ≤ g2 := hM.snd.ge rfl
  have f5 := hM.fst.below hb
  have s5 := hM.snd.below hb
  obtain ⟨W9, e9, f9, k9, b9⟩ := f5.put j hj (o1, (va, vm, vc))
  have A9 : Alt (some ⟨g1, 0, none⟩) w5 W9 := Alt.of_but (b9.mono (Nat.zero_le _)) k9
  have s9 := A9.own s5 (fun g ad0 e e0 => by cases e; cases e0; exact hg.symm)
  obtain ⟨W8, e8, s8, k8, b8⟩ := s9.put i hi (o2, (ya, ym, yc))
  have A8 : Alt (some ⟨g2, 0, none⟩) W9 W8 := Alt.of_but (b8.mono (Nat.zero_le _)) k8
  have f8 := A8.own f9 (fun g ad0 e e0 => by cases e; cases e0; exact hg)
  have r1 := src_rdy hb (hM.rf x (List.mem_of_getElem? hx)) hg1 hg2 hs1 q1.1 q1.2
  have r2 := src_rdy hb (hM.rl y (List.mem_of_getElem? hy)) hg1 hg2 hs2 q2.1 q2.2
  have up : ∀ z : OpM, Rdy w5 z ∧ Apt (some ⟨g1, 0, none⟩) z ∧ Apt (some ⟨g2, 0, none⟩) z → Rdy W8 z ∧ Apt (some ⟨g1, 0, none⟩) z ∧ Apt (some ⟨g2, 0, none⟩) z := fun z hz => ⟨(hz.1.alt A9 hz.2.1).alt A8 hz.2.2, hz.2⟩
  refine ⟨W9, W8, e9, e8, ⟨f8, s8, fun z hz => up z ?_, fun z hz => up z ?_, ?_⟩, cells_of f5 hx, ⟨f5.fz _, f5.fz _, f5.fz _, f5.fz _, f5.fz _, f5.fz _, f5.fz _, f5.fz _, f5.fz _⟩, cells_of s9 hy, ⟨s9.fz _, s9.fz _, s9.fz _, s9.fz _, s9.fz _, s9.fz _, s9.fz _, s9.fz _, s9.fz _⟩⟩
  · rcases List.mem_or_eq_of_mem_set hz with hz | rfl
    · have := hM.rf z hz
      exact ⟨this.1.below hb, this.2⟩
    · exact r1
  · rcases List.mem_or_eq_of_mem_set hz with hz | rfl
    · have := hM.rl z hz
      exact ⟨this.1.below hb, this.2⟩
    · exact r2
  · exact ((hM.bel.trans (hb.mono hM.bel.size)).trans (b9.mono bg1)).trans (b8.mono bg2)
theorem made_few {t : Nat} {o : OpV} (h : GoodO t o) : o.l.length ≤ t ∧ o.s.size ≤ 8 := by
  refine ⟨?_, h.made.size⟩
  rcases h.made.kind with ⟨p, i, _, _, e⟩ | ⟨k, on, _, e⟩ | ⟨k, l, _, _, e, _, _, _, hl⟩
  · rw [e]; simp [insV]
  · rw [e]; simp
  · rw [e]; exact hl
end Go.Proofs.YtlebbffpbbjakaaDoor
