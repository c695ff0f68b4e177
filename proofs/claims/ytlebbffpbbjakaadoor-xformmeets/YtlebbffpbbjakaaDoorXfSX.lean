import Derived.Test.YtlebbffpbbjakaaDoorXfPG
import Derived.Test.YtlebbffpbbjakaaDoorXfM
import Derived.Test.YtlebbffpbbjakaaDoorXfJ
import Derived.Test.YtlebbffpbbjakaaDoorXfE
import Derived.Deep.RegionWith
import Derived.BigQuiet
namespace Go.Proofs.YtlebbffpbbjakaaDoor
open Go.RowKit Go.Lib
set_option maxRecDepth 100000

/-! What is included and then excluded is what it was (P5.12); two behind one another transposed, and back (P5.13). -/
theorem nil_of_none {b : Int} {l : List (Int × Int)} (h : Sp.Norm b l) (hn : ∀ q, ¬ Sp.Lies l q) : l = [] := by
  cases l with
  | nil => rfl
  | cons r l => exact absurd ⟨r, List.mem_cons_self, Int.le_refl _, h.2.1⟩ (hn r.1)
theorem back_thr {t p w : Nat} {l : List (Int × Int)} (ht : t ≤ 800) (hp : p ≤ t) (hw : w ≤ 5) (hne : l ≠ []) (hN : Sp.Norm (-1) l) (hT : ∀ r ∈ l, r.2 ≤ (t : Int)) (hL : l.length ≤ t) :
    Sp.backInL (Sp.throughL l (p : Int) (w : Int)) (p : Int) (w : Int) = [] ∧ Sp.backOldL (Sp.throughL l (p : Int) (w : Int)) (p : Int) (w : Int) = l := by
  obtain ⟨h1, h2, h3, h4⟩ := thr_made (by omega) hp hw hne hN hT hL
  have hl := made_lst (by omega) hN hT hL
  have hl2 := made_lst (t := t + w) (by omega) h2 h3 h4
  obtain ⟨_, hq⟩ := Sp.throughL_all hl (at_ := (p : Int)) (n := (w : Int)) ⟨by omega, by omega⟩ ⟨by omega, by omega⟩
  obtain ⟨n1, q1⟩ := Sp.backInL_all hl2 (at_ := (p : Int)) (n := (w : Int))
  obtain ⟨n2, q2⟩ := Sp.backOldL_all hl2 (at_ := (p : Int)) (n := (w : Int)) ⟨by omega, by omega⟩
  refine ⟨nil_of_none n1 (fun q h => ?_), Sp.norm_unique n2 hN (fun q => ?_)⟩
  · obtain ⟨h5, h6, h7⟩ := (q1 q).1 h
    rcases (hq _).1 h5 with h | h
    · have := h.2; omega
    · have := h.2; omega
  · rw [q2, hq, hq]
    constructor
    · rintro (⟨h | h, h6⟩ | ⟨h | h, h6⟩)
      · exact h.1
      · have := h.2; omega
      · have := h.2; omega
      · have := h.1; rwa [show q + (w : Int) - (w : Int) = q by omega] at this
    · intro h
      by_cases h6 : q < (p : Int)
      · exact .inl ⟨.inl ⟨h, h6⟩, h6⟩
      · exact .inr ⟨.inr ⟨by rw [show q + (w : Int) - (w : Int) = q by omega]; exact h, by omega⟩, by omega⟩
/-- The list as it was ahead of an insert whose cells it has not. -/
theorem thr_back {t p w : Nat} {l : List (Int × Int)} (ht : t ≤ 800) (hp : p ≤ t) (hw : w ≤ 5) (hne : l ≠ []) (hN : Sp.Norm (-1) l) (hT : ∀ r ∈ l, r.2 ≤ ((t + w : Nat) : Int)) (hL : l.length ≤ t + w) (hin : Sp.backInL l (p : Int) (w : Int) = []) :
    Sp.throughL (Sp.backOldL l (p : Int) (w : Int)) (p : Int) (w : Int) = l ∧ Sp.backOldL l (p : Int) (w : Int) ≠ [] ∧ Sp.Norm (-1) (Sp.backOldL l (p : Int) (w : Int)) ∧ (∀ r ∈ Sp.backOldL l (p : Int) (w : Int), r.2 ≤ (t : Int)) ∧ (Sp.backOldL l (p : Int) (w : Int)).length ≤ t := by
  have hl := made_lst (by omega) hN hT hL
  obtain ⟨n1, q1⟩ := Sp.backInL_all hl (at_ := (p : Int)) (n := (w : Int))
  obtain ⟨n2, q2⟩ := Sp.backOldL_all hl (at_ := (p : Int)) (n := (w : Int)) ⟨by omega, by omega⟩
  have hno : ∀ q, Sp.Lies l q → q < (p : Int) ∨ (p : Int) + w ≤ q := fun q h => by
    by_cases h1 : q < (p : Int)
    · exact .inl h1
    · by_cases h2 : (p : Int) + w ≤ q
      · exact .inr h2
      · have := (q1 (q - p)).2 ⟨by rw [show q - (p : Int) + p = q by omega]; exact h, by omega, by omega⟩
        rw [hin] at this
        exact absurd this (Sp.lies_nil _)
  have hlt : ∀ q, Sp.Lies l q → q < ((t + w : Nat) : Int) := fun q ⟨r, hr, h⟩ => by have := hT r hr; omega
  have htop : ∀ r ∈ Sp.backOldL l (p : Int) (w : Int), r.2 ≤ (t : Int) := fun r hr => by
    have h1 := Sp.norm_lt n2 r hr
    rcases (q2 (r.2 - 1)).1 ⟨r, hr, by omega, by omega⟩ with h | h
    · have := h.2; omega
    · have := hlt _ h.1; omega
  have hlen : (Sp.backOldL l (p : Int) (w : Int)).length ≤ t := by
    rcases norm_count n2 htop with h | h
    · rw [h]; simp
    · omega
  have hl2 := made_lst (t := t) (by omega) n2 htop hlen
  obtain ⟨n3, q3⟩ := Sp.throughL_all hl2 (at_ := (p : Int)) (n := (w : Int)) ⟨by omega, by omega⟩ ⟨by omega, by omega⟩
  refine ⟨Sp.norm_unique n3 hN (fun q => ?_), fun e => ?_, n2, htop, hlen⟩
  · rw [q3, q2, q2]
    constructor
    · rintro (⟨h | h, h6⟩ | ⟨h | h, h6⟩)
      · exact h.1
      · have := h.2; omega
      · have := h.2; omega
      · have := h.1; rwa [show q - (w : Int) + (w : Int) = q by omega] at this
    · intro h
      rcases hno q h with h6 | h6
      · exact .inl ⟨.inl ⟨h, h6⟩, h6⟩
      · exact .inr ⟨.inr ⟨by rw [show q - (w : Int) + (w : Int) = q by omega]; exact h, by omega⟩, by omega⟩
  · obtain ⟨r, hr⟩ := List.exists_mem_of_ne_nil l hne
    have h1 := Sp.norm_lt hN r hr
    have h2 : Sp.Lies l r.1 := ⟨r, hr, Int.le_refl _, h1.2⟩
    rcases hno r.1 h2 with h6 | h6
    · have := (q2 r.1).2 (.inl ⟨h2, h6⟩)
      rw [e] at this
      exact Sp.lies_nil _ this
    · have := (q2 (r.1 - w)).2 (.inr ⟨by rw [show r.1 - (w : Int) + (w : Int) = r.1 by omega]; exact h2, by omega⟩)
      rw [e] at this
      exact Sp.lies_nil _ this
theorem excl_same {a b : OpV} (h : Unlike a b) (hk : b.k ≠ 1 ∨ a.k = 4) (ht : ¬ (a.tc = b.c ∧ a.tn = b.n)) : exclP a b = (a, 0) := by
  unfold exclP
  rw [clash_no h, if_neg (by simp), if_neg (fun x => ht x.2), if_pos hk]
theorem excl_ii {c n c' n' : Int} {p q i j : Nat} (hj : j < 5) (h : ¬ (c = c' ∧ n = n')) :
    exclP (insV c n p i) (insV c' n' q j) = if q + (j + 1) ≤ p then (insV c n ((p - (j + 1) : Nat) : Int) i, 0) else if q < p then (op0, 23) else (insV c n p i, 0) := by
  unfold exclP
  rw [clash_no h, if_neg (by simp), if_neg (by simp [insV]), if_neg (by simp [insV]), if_neg (by simp [insV])]
  unfold outP
  rw [insV_width _ _ _ _ hj]
  by_cases h1 : q + (j + 1) ≤ p
  · rw [if_pos h1, if_pos (by simp only [insV]; omega)]
    simp only [insV, Prod.mk.injEq, OpV.mk.injEq, and_true, true_and]
    omega
  · rw [if_neg h1, if_neg (by simp only [insV]; omega)]
    by_cases h2 : q < p
    · rw [if_pos h2, if_pos (by simp only [insV]; omega)]
    · rw [if_neg h2, if_neg (by simp only [insV]; omega)]
theorem excl_hi {c n k c' n' : Int} {l : List (Int × Int)} {q j : Nat} (hk : k = 2 ∨ k = 3) (hj : j < 5) (h : ¬ (c = c' ∧ n = n')) :
    exclP ⟨c, n, k, 0, ⟨#[]⟩, l, 0, 0, false⟩ (insV c' n' q j) = if Sp.backInL l (q : Int) ((j + 1 : Nat) : Int) ≠ [] then (op0, 23) else (⟨c, n, k, 0, ⟨#[]⟩, Sp.backOldL l (q : Int) ((j + 1 : Nat) : Int), 0, 0, false⟩, 0) := by
  unfold exclP
  rw [clash_no h, if_neg (by simp), if_neg (fun x => by have := x.1; simp only at this; omega), if_neg (by simp [insV]; omega), if_pos (by simp only; omega)]
  unfold backP
  rw [insV_width _ _ _ _ hj]
  rfl
/-- P5.12 -/
theorem back_ok {t : Nat} {a b : OpV} (ht : t ≤ 700) (ha : GoodO t a) (hb : GoodO t b) (h : Unlike a b) (e : Bool) : exclP (inclP a b e).1 b = (a, 0) := by
  have ha' := ha.made
  have hb' := hb.made
  have hb3 := hb.no3
  generalize hc : a.c = c at ha'
  generalize hn : a.n = n at ha'
  generalize hc' : b.c = c' at hb' hb3
  generalize hn' : b.n = n' at hb'
  have hu : ¬ (c = c' ∧ n = n') := by rw [← hc, ← hn, ← hc', ← hn']; exact h
  rcases hb'.kind with ⟨q, j, hq, hj, rfl⟩ | ⟨k', on', hk', rfl⟩ | ⟨k', l', hk', h0', rfl, _⟩
  · rcases ha'.kind with ⟨p, i, hp, hi, rfl⟩ | ⟨k, on, hk, rfl⟩ | ⟨k, l, hk, h0, rfl, hne, hN, hT, hL⟩
    · rw [incl_ii e hi hj (by omega) hu]
      show exclP (insV c n _ i) (insV c' n' q j) = _
      rw [excl_ii hj hu]
      by_cases h1 : q < p ∨ (q = p ∧ e = true)
      · rw [if_pos h1, if_pos (by omega), Nat.add_sub_cancel]
      · rw [if_neg h1, if_neg (by omega), if_neg (by omega)]
    · rw [incl_same e h (.inr rfl)]
      exact excl_same h (.inr rfl) (fun x => hb3 x.1.symm)
    · rw [incl_hi e hk hj (by omega) hq hne hN hT hL hu]
      show exclP ⟨c, n, k, 0, ⟨#[]⟩, _, 0, 0, false⟩ (insV c' n' q j) = _
      obtain ⟨e1, e2⟩ := back_thr (w := j + 1) (by omega) hq (by omega) hne hN hT hL
      rw [excl_hi hk hj hu, e1, e2]
      rfl
  · rw [incl_same e h (.inl (by simp))]
    refine excl_same h (.inl (by simp)) (fun x => ?_)
    rcases ha'.kind with ⟨p, i, hp, hi, rfl⟩ | ⟨k, on, hk, rfl⟩ | ⟨k, l, hk, h0, rfl, _⟩
    · have := hb.id; simp only [insV] at x; rw [← x.1] at this; simp [isIdP] at this
    · exact hb3 x.1.symm
    · have := hb.id; simp only at x; rw [← x.1] at this; simp [isIdP] at this
  · rw [incl_same e h (.inl (by simp only; omega))]
    refine excl_same h (.inl (by simp only; omega)) (fun x => ?_)
    rcases ha'.kind with ⟨p, i, hp, hi, rfl⟩ | ⟨k, on, hk, rfl⟩ | ⟨k, l, hk, h0, rfl, _⟩
    · have := hb.id; simp only [insV] at x; rw [← x.1] at this; simp [isIdP] at this
    · exact hb3 x.1.symm
    · have := hb.id; simp only at x; rw [← x.1] at this; simp [isIdP] at this
end Go.Proofs.YtlebbffpbbjakaaDoor

namespace Go.Proofs.YtlebbffpbbjakaaDoor
open Go.RowKit Go.Lib
set_option maxRecDepth 100000

/-- b, made behind a, stands between two of its cells or covers one. -/
def leanP (a b : OpV) : Bool := decide (a.k = 1) && (if b.k = 1 then decide (a.p < b.p ∧ b.p < a.p + widthP a) else if b.k = 4 then false else !(Sp.backInL b.l a.p (widthP a)).isEmpty)
/-- Two Status on one target that don't agree. -/
def clashS (a b : OpV) : Bool := decide (a.k = 4) && (decide (b.k = 4) && ((a.tc == b.tc && a.tn == b.tn) && (a.on != b.on)))
theorem clashS_symm (a b : OpV) : clashS b a = clashS a b := by
  unfold clashS
  rw [show (b.tc == a.tc) = (a.tc == b.tc) from Bool.beq_comm, show (b.tn == a.tn) = (a.tn == b.tn) from Bool.beq_comm]
  cases decide (a.k = 4) <;> cases decide (b.k = 4) <;> cases a.on <;> cases b.on <;> simp
theorem GoodO.tgt {t : Nat} {a : OpV} (h : GoodO t a) : a.tc = 0 ∨ a.tc = 3 := by
  rcases h.made.kind with ⟨p, i, _, _, e⟩ | ⟨k, on, _, e⟩ | ⟨k, l, _, _, e, _⟩
  · exact .inl (by rw [e]; rfl)
  · exact .inr (by rw [e])
  · exact .inl (by rw [e])
theorem GoodO.pos {t : Nat} {a : OpV} (h : GoodO t a) : 1 ≤ a.c := by
  have := h.id
  unfold isIdP at this
  rw [decide_eq_true_iff] at this
  omega
theorem no_tgt {t s : Nat} {a b : OpV} (ha : GoodO t a) (hb : GoodO s b) : ¬ (a.tc = b.c ∧ a.tn = b.n) := fun h => by
  have h1 := ha.tgt
  have h2 := hb.pos
  have h3 := hb.no3
  omega
theorem ord_eq {t s : Nat} {a b : OpV} (ha : GoodO t a) (hb : GoodO s b) : orderedP a b = clashS a b := by
  unfold orderedP clashS
  rw [show (a.tc == b.c && a.tn == b.n) = false by
    cases e : (a.tc == b.c && a.tn == b.n) with
    | false => rfl
    | true => exact absurd (by simpa using e) (no_tgt ha hb)]
  rw [Bool.false_or]
theorem trans_of {a b x y : OpV} (h1 : exclP b a = (x, 0)) (h2 : orderedP a b = false) (h3 : inclP a b true = (y, 0)) : transP a b = ((x, y), 0) := by
  unfold transP
  rw [h1, h2, h3]
  rw [if_neg (by simp), if_neg (by simp), if_neg (by simp)]
theorem trans_err {a b : OpV} {e : Int} {x : OpV} (h1 : exclP b a = (x, e)) (he : e ≠ 0) : transP a b = ((op0, op0), e) := by
  unfold transP
  rw [h1, if_pos he]
/-- What Transpose does. -/
structure TrOk (t : Nat) (a b b1 a1 : OpV) : Prop where
  eq : transP a b = ((b1, a1), 0)
  gb : GoodO t b1
  ga : GoodO (t + wdL b1) a1
  un : Unlike b1 a1
  fold : ∀ R : List CellW, R.length = t → foldV R [a, b] = foldV R [b1, a1]
  back : transP b1 a1 = ((a, b), 0)
theorem foldV2 (R : List CellW) (a b : OpV) : foldV R [a, b] = doesV (doesV R a) b := rfl
theorem GoodO.mk' {c n : Int} {t : Nat} {o : OpV} (h : Made c n t o) (hid : isIdP c n = true) (h3 : c ≠ 3) : GoodO t o := ⟨by rw [h.id.1, h.id.2]; exact h, by rw [h.id.1, h.id.2]; exact hid, by rw [h.id.1]; exact h3⟩
theorem tr_same {t : Nat} {a b : OpV} (ha : GoodO t a) (hb : GoodO (t + wdL a) b) (h : Unlike a b) (hs : clashS a b = false) (wa : wdL a = 0) (wb : wdL b = 0) (k1 : a.k ≠ 1 ∨ b.k = 4) (k2 : b.k ≠ 1 ∨ a.k = 4) (hf : ∀ R : List CellW, R.length = t → foldV R [a, b] = foldV R [b, a]) : TrOk t a b b a := by
  rw [wa, Nat.add_zero] at hb
  exact ⟨trans_of (excl_same h.symm k1 (no_tgt hb ha)) (by rw [ord_eq ha hb]; exact hs) (incl_same true h k2), hb, by rw [wb, Nat.add_zero]; exact ha, h.symm, hf, trans_of (excl_same h k2 (no_tgt ha hb)) (by rw [ord_eq hb ha, clashS_symm]; exact hs) (incl_same true h.symm k1)⟩
theorem trans_all {t : Nat} {a b : OpV} (ht : t ≤ 700) (ha : GoodO t a) (hb : GoodO (t + wdL a) b) (h : Unlike a b) :
    (leanP a b = true → transP a b = ((op0, op0), 23)) ∧ (leanP a b = false → clashS a b = true → transP a b = ((op0, op0), 50)) ∧ (leanP a b = false → clashS a b = false → ∃ b1 a1, TrOk t a b b1 a1) := by
  have ga := ha
  have gb := hb
  have ha' := ha.made
  have hb' := hb.made
  have hia := ha.id
  have hib := hb.id
  have ha3 := ha.no3
  have hb3 := hb.no3
  generalize hc : a.c = c at ha' hia ha3
  generalize hn : a.n = n at ha' hia
  generalize hc' : b.c = c' at hb' hib hb3
  generalize hn' : b.n = n' at hb' hib
  have hu : ¬ (c = c' ∧ n = n') := by rw [← hc, ← hn, ← hc', ← hn']; exact h
  have hu2 : ¬ (c' = c ∧ n' = n) := fun e => hu ⟨e.1.symm, e.2.symm⟩
  have w0 : ∀ o : OpV, o.k ≠ 1 → wdL o = 0 := fun o hk => by unfold wdL; rw [if_neg hk]
  rcases ha'.kind with ⟨p, i, hp, hi, rfl⟩ | ⟨k, on, hk, rfl⟩ | ⟨k, l, hk, h0, rfl, hne, hN, hT, hL⟩
  · have hwd := insV_wdL c n p i hi
    have hwp := insV_width c n p i hi
    have ncs : ∀ x : OpV, clashS (insV c n p i) x = false := fun x => by unfold clashS; simp [insV]
    have ord1 : ∀ x : OpV, orderedP (insV c n p i) x = false := fun x => by unfold orderedP; simp [insV]
    rw [hwd] at hb'
    refine ⟨?_, fun _ h2 => by rw [ncs] at h2; exact absurd h2 (by decide), ?_⟩
    · intro hl
      unfold leanP at hl
      rw [hwp] at hl
      rcases hb'.kind with ⟨q, j, hq, hj, rfl⟩ | ⟨k', on', hk', rfl⟩ | ⟨k', l', hk', h0', rfl, hne', hN', hT', hL'⟩
      · simp [insV] at hl
        refine trans_err (x := op0) ?_ (by decide)
        rw [excl_ii hi hu2, if_neg (by omega), if_pos (by omega)]
      · simp at hl
      · refine trans_err (x := op0) ?_ (by decide)
        rw [excl_hi hk' hi hu2, if_pos]
        intro e
        rw [if_neg (by simp only; omega), if_neg (by simp only; omega)] at hl
        simp only [insV] at hl
        rw [e] at hl
        simp at hl
    · intro hl _
      unfold leanP at hl
      rw [hwp] at hl
      rcases hb'.kind with ⟨q, j, hq, hj, rfl⟩ | ⟨k', on', hk', rfl⟩ | ⟨k', l', hk', h0', rfl, hne', hN', hT', hL'⟩
      · have hql : ¬ (p < q ∧ q < p + (i + 1)) := fun x => by
          simp [insV] at hl
          omega
        have hwj : ∀ z : Int, wdL (insV c' n' z j) = j + 1 := fun z => insV_wdL c' n' z j hj
        have ord2 : ∀ (z : Int) (x : OpV), orderedP (insV c' n' z j) x = false := fun z x => by unfold orderedP; simp [insV]
        by_cases h1 : p + (i + 1) ≤ q
        · have hb1 : GoodO t (insV c' n' ((q - (i + 1) : Nat) : Int) j) := GoodO.mk' ⟨⟨rfl, rfl⟩, hb'.size, .inl ⟨_, j, by omega, hj, rfl⟩⟩ hib hb3
          refine ⟨insV c' n' ((q - (i + 1) : Nat) : Int) j, insV c n p i, trans_of (by rw [excl_ii hi hu2, if_pos h1]) (ord1 _) ?_, hb1, ?_, hu2, fun R hR => ?_, trans_of ?_ (ord2 _ _) ?_⟩
          · rw [incl_ii true hi hj (by omega) hu, if_neg (by omega)]
          · rw [hwj]
            exact GoodO.mk' ⟨⟨rfl, rfl⟩, ha'.size, .inl ⟨p, i, by omega, hi, rfl⟩⟩ hia ha3
          · rw [foldV2, foldV2, does_insV' _ _ _ _ _ hi, does_insV' _ _ _ _ _ hj, does_insV' _ _ _ _ _ hj, does_insV' _ _ _ _ _ hi]
            have := ins_ins R (p := p) (q := q - (i + 1)) (newL c n (i + 1)) (newL c' n' (j + 1)) (by omega) (by omega)
            rw [newL_length, Nat.sub_add_cancel (by omega)] at this
            exact this
          · rw [excl_ii hj hu, if_neg (by omega), if_neg (by omega)]
          · rw [incl_ii true hj hi (by omega) hu2, if_pos (show p < q - (i + 1) ∨ (p = q - (i + 1) ∧ true = true) from (Nat.lt_or_eq_of_le (by omega)).imp id (fun h => ⟨h, rfl⟩)), Nat.sub_add_cancel (by omega)]
        · have hqp : q ≤ p := by omega
          have hb1 : GoodO t (insV c' n' q j) := GoodO.mk' ⟨⟨rfl, rfl⟩, hb'.size, .inl ⟨q, j, by omega, hj, rfl⟩⟩ hib hb3
          refine ⟨insV c' n' q j, insV c n ((p + (j + 1) : Nat) : Int) i, trans_of ?_ (ord1 _) ?_, hb1, ?_, hu2, fun R hR => ?_, trans_of ?_ (ord2 _ _) ?_⟩
          · rw [excl_ii hi hu2, if_neg (by omega), if_neg (by omega)]
          · rw [incl_ii true hi hj (by omega) hu, if_pos (show q < p ∨ (q = p ∧ true = true) from (Nat.lt_or_eq_of_le hqp).imp id (fun h => ⟨h, rfl⟩))]
          · rw [hwj]
            exact GoodO.mk' ⟨⟨rfl, rfl⟩, ha'.size, .inl ⟨_, i, by omega, hi, rfl⟩⟩ hia ha3
          · rw [foldV2, foldV2, does_insV' _ _ _ _ _ hi, does_insV' _ _ _ _ _ hj, does_insV' _ _ _ _ _ hj, does_insV' _ _ _ _ _ hi]
            have := ins_ins R (p := q) (q := p) (newL c' n' (j + 1)) (newL c n (i + 1)) hqp (by omega)
            rw [newL_length] at this
            exact this.symm
          · rw [excl_ii hj hu, if_pos (by omega), Nat.add_sub_cancel]
          · rw [incl_ii true hj hi (by omega) hu2, if_neg (by omega)]
      · have hb1 : GoodO t (⟨c', n', 4, 0, ⟨#[]⟩, [], 3, ((1 + k' : Nat) : Int), on'⟩ : OpV) := GoodO.mk' ⟨⟨rfl, rfl⟩, hb'.size, .inr (.inl ⟨k', on', hk', rfl⟩)⟩ hib hb3
        refine ⟨_, _, trans_of (excl_same h.symm (.inr rfl) (no_tgt gb ga)) (ord1 _) (incl_same true h (.inl (by simp))), hb1, ?_, h.symm, fun R _ => ?_, trans_of (excl_same h (.inl (by simp)) (no_tgt ga gb)) ?_ (incl_same true h.symm (.inr rfl))⟩
        · rw [w0 _ (by simp), Nat.add_zero]; exact ga
        · rw [foldV2, foldV2, doesV_st _ (o := ⟨c', n', 4, 0, ⟨#[]⟩, [], 3, ((1 + k' : Nat) : Int), on'⟩) rfl, doesV_st _ (o := ⟨c', n', 4, 0, ⟨#[]⟩, [], 3, ((1 + k' : Nat) : Int), on'⟩) rfl]
        · rw [ord_eq gb ga, clashS_symm]; exact ncs _
      · have hin : Sp.backInL l' (p : Int) ((i + 1 : Nat) : Int) = [] := by
          rw [if_neg (by simp only; omega), if_neg (by simp only; omega)] at hl
          simp only [insV] at hl
          simpa using hl
        obtain ⟨e1, e2, e3, e4, e5⟩ := thr_back (t := t) (w := i + 1) (by omega) hp (by omega) hne' hN' hT' hL' hin
        have ht0 : 0 < t := by
          have := List.length_pos_iff.2 e2
          omega
        have hb1 : GoodO t (⟨c', n', k', 0, ⟨#[]⟩, Sp.backOldL l' (p : Int) ((i + 1 : Nat) : Int), 0, 0, false⟩ : OpV) := GoodO.mk' ⟨⟨rfl, rfl⟩, hb'.size, .inr (.inr ⟨k', _, hk', ht0, rfl, e2, e3, e4, e5⟩)⟩ hib hb3
        refine ⟨_, _, trans_of (by rw [excl_hi hk' hi hu2, if_neg (fun x => x hin)]) (ord1 _) (incl_same true h (.inl (by simp only; omega))), hb1, ?_, hu2, fun R hR => ?_, trans_of (excl_same hu (.inl (by simp only; omega)) (no_tgt ga hb1)) ?_ ?_⟩
        · rw [w0 _ (by simp only; omega), Nat.add_zero]; exact ga
        · have A2 : ∀ (R : List CellW) (z : List (Int × Int)), doesV R ⟨c', n', k', 0, ⟨#[]⟩, z, 0, 0, false⟩ = upAll R z (byP k') := fun R z => doesV_up R hk'
          rw [foldV2, foldV2, does_insV' _ _ _ _ _ hi, does_insV' _ _ _ _ _ hi, A2, A2]
          have := up_ins R (p := p) (newL c n (i + 1)) (byP k') (made_lst (by omega) e3 e4 e5) (by omega) (by omega) (by rw [newL_length]; omega)
          rw [newL_length, e1] at this
          exact this
        · rw [ord_eq hb1 ga, clashS_symm]; exact ncs _
        · rw [incl_hi true hk' hi (by omega) hp e2 e3 e4 e5 hu2, e1]
  · have hwa := w0 (⟨c, n, 4, 0, ⟨#[]⟩, [], 3, ((1 + k : Nat) : Int), on⟩ : OpV) (by simp)
    have nl : leanP (⟨c, n, 4, 0, ⟨#[]⟩, [], 3, ((1 + k : Nat) : Int), on⟩ : OpV) b = false := by unfold leanP; simp
    refine ⟨fun x => by rw [nl] at x; exact absurd x (by decide), fun _ hcs => ?_, fun _ hcs => ?_⟩
    · unfold transP
      rw [excl_same h.symm (.inl (by simp)) (no_tgt gb ga), if_neg (by simp), if_pos (by rw [ord_eq ga gb]; exact hcs)]
    · have S1 : ∀ R : List CellW, doesV R (⟨c, n, 4, 0, ⟨#[]⟩, [], 3, ((1 + k : Nat) : Int), on⟩ : OpV) = R := fun R => doesV_st R rfl
      rw [hwa, Nat.add_zero] at hb
      refine ⟨b, _, trans_of (excl_same h.symm (.inl (by simp)) (no_tgt gb ga)) (by rw [ord_eq ga gb]; exact hcs) (incl_same true h (.inr rfl)), hb, GoodO.mk' ⟨⟨rfl, rfl⟩, ha'.size, .inr (.inl ⟨k, on, hk, rfl⟩)⟩ hia ha3, h.symm, fun R _ => ?_, trans_of (excl_same h (.inr rfl) (no_tgt ga gb)) (by rw [ord_eq gb ga, clashS_symm]; exact hcs) (incl_same true h.symm (.inl (by simp)))⟩
      rw [foldV2, foldV2, S1, S1]
  · have hwa := w0 (⟨c, n, k, 0, ⟨#[]⟩, l, 0, 0, false⟩ : OpV) (by simp only; omega)
    have nl : leanP (⟨c, n, k, 0, ⟨#[]⟩, l, 0, 0, false⟩ : OpV) b = false := by
      unfold leanP
      rw [decide_eq_false (by simp only; omega)]
      rfl
    have ncs : ∀ x : OpV, clashS (⟨c, n, k, 0, ⟨#[]⟩, l, 0, 0, false⟩ : OpV) x = false := fun x => by
      unfold clashS
      rw [decide_eq_false (by simp only; omega)]
      rfl
    have A1 : ∀ (R : List CellW) (z : List (Int × Int)), doesV R ⟨c, n, k, 0, ⟨#[]⟩, z, 0, 0, false⟩ = upAll R z (byP k) := fun R z => doesV_up R hk
    refine ⟨fun x => by rw [nl] at x; exact absurd x (by decide), fun _ h2 => by rw [ncs] at h2; exact absurd h2 (by decide), fun _ _ => ?_⟩
    have hb0 := hb
    rw [hwa, Nat.add_zero] at hb hb'
    rcases hb'.kind with ⟨q, j, hq, hj, rfl⟩ | ⟨k', on', hk', rfl⟩ | ⟨k', l', hk', h0', rfl, hne', hN', hT', hL'⟩
    · obtain ⟨t1, t2, t3, t4⟩ := thr_made (w := j + 1) (by omega) hq (by omega) hne hN hT hL
      have hwj : wdL (insV c' n' q j) = j + 1 := insV_wdL c' n' q j hj
      have ga1 : GoodO (t + (j + 1)) (⟨c, n, k, 0, ⟨#[]⟩, Sp.throughL l (q : Int) ((j + 1 : Nat) : Int), 0, 0, false⟩ : OpV) := GoodO.mk' ⟨⟨rfl, rfl⟩, ha'.size, .inr (.inr ⟨k, _, hk, by omega, rfl, t1, t2, t3, t4⟩)⟩ hia ha3
      refine ⟨insV c' n' q j, _, trans_of (excl_same h.symm (.inl (by simp only; omega)) (no_tgt gb ga)) (by rw [ord_eq ga gb]; exact ncs _) (incl_hi true hk hj (by omega) hq hne hN hT hL hu), hb, by rw [hwj]; exact ga1, hu2, fun R hR => ?_, trans_of ?_ ?_ (incl_same true hu2 (.inl (by simp only; omega)))⟩
      · rw [foldV2, foldV2, does_insV' _ _ _ _ _ hj, does_insV' _ _ _ _ _ hj, A1, A1]
        have := up_ins R (p := q) (newL c' n' (j + 1)) (byP k) (made_lst (by omega) hN hT hL) (by omega) (by omega) (by rw [newL_length]; omega)
        rw [newL_length] at this
        exact this.symm
      · obtain ⟨e1, e2⟩ := back_thr (w := j + 1) (by omega) hq (by omega) hne hN hT hL
        rw [excl_hi hk hj hu, e1, e2]
        rfl
      · unfold orderedP; simp [insV]
    · have S1 : ∀ R : List CellW, doesV R (⟨c', n', 4, 0, ⟨#[]⟩, [], 3, ((1 + k' : Nat) : Int), on'⟩ : OpV) = R := fun R => doesV_st R rfl
      exact ⟨_, _, tr_same ga hb0 h (ncs _) hwa (w0 _ (by simp)) (.inr rfl) (.inl (by simp)) (fun R _ => by rw [foldV2, foldV2, S1, S1])⟩
    · have A2 : ∀ (R : List CellW) (z : List (Int × Int)), doesV R ⟨c', n', k', 0, ⟨#[]⟩, z, 0, 0, false⟩ = upAll R z (byP k') := fun R z => doesV_up R hk'
      exact ⟨_, _, tr_same ga hb0 h (ncs _) hwa (w0 _ (by simp only; omega)) (.inl (by simp only; omega)) (.inl (by simp only; omega)) (fun R _ => by rw [foldV2, foldV2, A1, A2, A2, A1]; exact up_up R _ _ hN hN')⟩
end Go.Proofs.YtlebbffpbbjakaaDoor

namespace Go.Proofs.YtlebbffpbbjakaaDoor
open Go.RowKit Go.Lib
set_option maxRecDepth 100000

theorem cell_al {W : World} {p : Addr} {v : Value} (h : W.cell? p = some v) (o : Obj) : (W.alloc o).cell? p = some v := (World.cell?_alloc_lt _ _ _ (World.block_lt_of_cell? W p h)).trans h

theorem own_but {w W9 : World} {B g : Nat} {v : Value} {l : List (Int × Int)} {cs : Array Value} (h : OwnF rangeV 2 85 w B v l) (hz : w.heap[g]? = some (.cells cs 42)) (hK : But g w W9) : OwnF rangeV 2 85 W9 B v l := by
  refine ⟨h.1, ?_⟩
  rcases h.2 with h0 | ⟨gx, cx, cur, e, h1, hh, rest⟩
  · exact .inl h0
  · refine .inr ⟨gx, cx, cur, e, h1, (hK.2 gx (fun e3 => ?_)).trans hh, rest⟩
    subst e3
    rw [hh] at hz
    simp at hz
set_option maxHeartbeats 16000000 in
/-- What is included and then excluded is what it was. -/
theorem back_any {a b : OpV} {ear : Bool} {aa : Option Addr} {am ac : Nat} {ba : Option Addr} {bm bc : Nat} {w : World} (ra : Rdy w (a, (aa, am, ac))) (rb : Rdy w (b, (ba, bm, bc))) (hw : Bar w) {t : Nat} (ht : t ≤ 700) (ga : GoodO t a) (gb : GoodO t b) (hu : Unlike a b) :
    Calls Tryd.prog 21 #[opVal a (.slice aa am ac), opVal b (.slice ba bm bc), .bool ear] w fun e w' => e = .returned (.bool true) ∧ Below w.heap.size w w' := by
  obtain ⟨z, gx, _⟩ := good_incl (by omega) ga gb hu ear
  have hbk := back_ok ht ga gb hu ear
  have hwb := gb.wd
  have HI : Hid (∀ (W : World) (xa : Option Addr) (xc : Nat) (ya : Option Addr) (yc : Nat), Below w.heap.size w W → Sp.Rng W xa am xc a.l → Sp.Rng W ya bm yc b.l → Calls Tryd.prog 20 #[opVal a (.slice xa am xc), opVal b (.slice ya bm yc), .bool ear] W fun e w' => ∃ va vm vc, e = .returned (.tuple #[opVal (inclP a b ear).1 (.slice va vm vc), .int .i64 0]) ∧ OwnF rangeV 2 85 w' W.heap.size (.slice va vm vc) (inclP a b ear).1.l ∧ Below W.heap.size W w') := fun W xa xc ya yc hb h1 h2 => by
    refine (Include_any h1 h2 ra.size rb.size (hw.below hb)).mono ?_
    rintro e w1 ⟨va, vm, vc, rfl, ho, hb1⟩
    have hx : xInclude a b ear = ((inclP a b ear).1, 0) := by unfold xInclude; rw [if_neg (by simp [firstErr2 (ga.own (by omega)) (gb.own (by omega))]), ← z]
    rw [hx] at ho ⊢
    exact ⟨va, vm, vc, rfl, ho, hb1⟩
  have HX : Hid (∀ (W : World) (xa : Option Addr) (xm xc : Nat) (ya : Option Addr) (yc : Nat), Below w.heap.size w W → Sp.Rng W xa xm xc (inclP a b ear).1.l → Sp.Rng W ya bm yc b.l → Calls Tryd.prog 37 #[opVal (inclP a b ear).1 (.slice xa xm xc), opVal b (.slice ya bm yc)] W fun e w' => ∃ va vm vc, e = .returned (.tuple #[opVal a (.slice va vm vc), .int .i64 0]) ∧ OwnF rangeV 2 85 w' W.heap.size (.slice va vm vc) a.l ∧ Below W.heap.size W w') := fun W xa xm xc ya yc hb h1 h2 => by
    refine (Exclude_any h1 h2 (by have := made_few gx; omega) rb.size (hw.below hb)).mono ?_
    rintro e w1 ⟨va, vm, vc, rfl, ho, hb1⟩
    have hx : xExclude (inclP a b ear).1 b = (a, 0) := by unfold xExclude; rw [if_neg (by simp [firstErr2 (gx.own (by omega)) (gb.own (by omega))])]; exact hbk
    rw [hx] at ho ⊢
    exact ⟨va, vm, vc, rfl, ho, hb1⟩
  have HCa : Hid (∀ W, Below w.heap.size w W → Calls Tryd.prog 18 #[opVal a (.slice aa am ac)] W fun e w' => ∃ (xa : Option Addr) (xc : Nat), e = .returned (opVal a (.slice xa am xc)) ∧ OwnF rangeV 2 85 w' W.heap.size (.slice xa am xc) a.l ∧ Below W.heap.size W w') := fun W hb => (copy_any (ra.rng.below hb) (by have h1 := ra.rng.len; have h2 := ra.few; simp only at h1 h2 ⊢; omega)).mono fun e2 w5 ⟨a', cap', he, ho5, hb5⟩ => ⟨a', cap', he, ho5.mono (by first | exact Nat.le_refl _ | omega), hb5⟩
  have HCb : Hid (∀ W, Below w.heap.size w W → Calls Tryd.prog 18 #[opVal b (.slice ba bm bc)] W fun e w' => ∃ (xa : Option Addr) (xc : Nat), e = .returned (opVal b (.slice xa bm xc)) ∧ OwnF rangeV 2 85 w' W.heap.size (.slice xa bm xc) b.l ∧ Below W.heap.size W w') := fun W hb => (copy_any (rb.rng.below hb) (by have h1 := rb.rng.len; have h2 := rb.few; simp only at h1 h2 ⊢; omega)).mono fun e2 w5 ⟨a', cap', he, ho5, hb5⟩ => ⟨a', cap', he, ho5.mono (by first | exact Nat.le_refl _ | omega), hb5⟩
  have HS : Hid (∀ (W : World) (xa : Option Addr) (xm xc : Nat), Below w.heap.size w W → Sp.Rng W xa xm xc a.l → Calls Tryd.prog 19 #[opVal a (.slice xa xm xc), opVal a (.slice aa am ac)] W fun e w' => e = .returned (.bool true) ∧ Below W.heap.size W w') := fun W xa xm xc hb h1 => sameOp_true h1 (ra.rng.below hb)
  have HN : Hid (∀ W, Calls Tryd.prog 11 #[.int .i64 0] W fun r w' => r = .returned (.int .i64 0) ∧ W = w') := fun W => (num_any 0 W).mono fun e w' h => ⟨h.1, h.2.symm⟩
  generalize (inclP a b ear).1 = x at *
  clear ra rb hw ga gb hu z gx hbk hwb
  simp only [opVal] at *
  obtain ⟨W0, hW0⟩ : ∃ W0, (w.alloc (Obj.cells #[.int .i64 a.c, .int .i64 a.n, .int .i64 a.k, .int .i64 a.p, .string a.s, .slice aa am ac, .int .i64 a.tc, .int .i64 a.tn, .bool a.on] 42)).alloc (Obj.cells #[.int .i64 b.c, .int .i64 b.n, .int .i64 b.k, .int .i64 b.p, .string b.s, .slice ba bm bc, .int .i64 b.tc, .int .i64 b.tn, .bool b.on] 42) = W0 := ⟨_, rfl⟩
  have aX : W0.heap[w.heap.size]? = some (Obj.cells #[.int .i64 a.c, .int .i64 a.n, .int .i64 a.k, .int .i64 a.p, .string a.s, .slice aa am ac, .int .i64 a.tc, .int .i64 a.tn, .bool a.on] 42) := by rw [← hW0]; exact (Below.heap_alloc _ _ _ (by simp)).trans (alloc_last _ _ _ rfl)
  have bX : W0.heap[w.heap.size + 1]? = some (Obj.cells #[.int .i64 b.c, .int .i64 b.n, .int .i64 b.k, .int .i64 b.p, .string b.s, .slice ba bm bc, .int .i64 b.tc, .int .i64 b.tn, .bool b.on] 42) := by rw [← hW0]; exact alloc_last _ _ _ (by simp)
  have hB0 : Below w.heap.size w W0 := by rw [← hW0]; exact ((Below.refl w.heap.size w).alloc (Nat.le_refl _) _).alloc (by simp) _
  have alt : w.heap.size < W0.heap.size := (Array.getElem?_eq_some_iff.1 aX).1
  have blt : w.heap.size + 1 < W0.heap.size := (Array.getElem?_eq_some_iff.1 bX).1
  obtain ⟨ak0, ak1, ak2, ak3, ak4, ak5, ak6, ak7, ak8⟩ := box9 aX
  obtain ⟨bk0, bk1, bk2, bk3, bk4, bk5, bk6, bk7, bk8⟩ := box9 bX
  go_enter Tryd.func21, Tryd.ntmps21
  go_wp2_with fail
  go_cut [7, 8] (fun v7 v8 wx => ∃ (g : Nat) (va : Option Addr) (vm vc : Nat), v7 = .pointer (some ⟨g, 0, none⟩) ∧ v8 = .int .i64 0 ∧ wx.heap[g]? = some (Obj.cells #[.int .i64 x.c, .int .i64 x.n, .int .i64 x.k, .int .i64 x.p, .string x.s, .slice va vm vc, .int .i64 x.tc, .int .i64 x.tn, .bool x.on] 42) ∧ Sp.Rng wx va vm vc x.l ∧ Below W0.heap.size W0 wx)
  case first =>
    have hcur : Below W0.heap.size W0 W0 := Below.refl _ _
    go_region_held3 (fun W => W.cell? ⟨w.heap.size, 0, none⟩ = some (.int .i64 a.c) ∧ W.cell? ⟨w.heap.size, 1, none⟩ = some (.int .i64 a.n) ∧ W.cell? ⟨w.heap.size, 2, none⟩ = some (.int .i64 a.k) ∧ W.cell? ⟨w.heap.size, 3, none⟩ = some (.int .i64 a.p) ∧ W.cell? ⟨w.heap.size, 4, none⟩ = some (.string a.s) ∧ W.cell? ⟨w.heap.size, 5, none⟩ = some (.slice aa am ac) ∧ W.cell? ⟨w.heap.size, 6, none⟩ = some (.int .i64 a.tc) ∧ W.cell? ⟨w.heap.size, 7, none⟩ = some (.int .i64 a.tn) ∧ W.cell? ⟨w.heap.size, 8, none⟩ = some (.bool a.on) ∧ W.cell? ⟨w.heap.size + 1, 0, none⟩ = some (.int .i64 b.c) ∧ W.cell? ⟨w.heap.size + 1, 1, none⟩ = some (.int .i64 b.n) ∧ W.cell? ⟨w.heap.size + 1, 2, none⟩ = some (.int .i64 b.k) ∧ W.cell? ⟨w.heap.size + 1, 3, none⟩ = some (.int .i64 b.p) ∧ W.cell? ⟨w.heap.size + 1, 4, none⟩ = some (.string b.s) ∧ W.cell? ⟨w.heap.size + 1, 5, none⟩ = some (.slice ba bm bc) ∧ W.cell? ⟨w.heap.size + 1, 6, none⟩ = some (.int .i64 b.tc) ∧ W.cell? ⟨w.heap.size + 1, 7, none⟩ = some (.int .i64 b.tn) ∧ W.cell? ⟨w.heap.size + 1, 8, none⟩ = some (.bool b.on)) (first | exact ⟨ax0, ax1, ax2, ax3, ax4, ax5, ax6, ax7, ax8, bx0, bx1, bx2, bx3, bx4, bx5, bx6, bx7, bx8⟩ | exact ⟨ak0, ak1, ak2, ak3, ak4, ak5, ak6, ak7, ak8, bk0, bk1, bk2, bk3, bk4, bk5, bk6, bk7, bk8⟩ | exact ⟨ae0, ae1, ae2, ae3, ae4, ae5, ae6, ae7, ae8, be0, be1, be2, be3, be4, be5, be6, be7, be8⟩ | exact ⟨cell_al ak0 _, cell_al ak1 _, cell_al ak2 _, cell_al ak3 _, cell_al ak4 _, cell_al ak5 _, cell_al ak6 _, cell_al ak7 _, cell_al ak8 _, cell_al bk0 _, cell_al bk1 _, cell_al bk2 _, cell_al bk3 _, cell_al bk4 _, cell_al bk5 _, cell_al bk6 _, cell_al bk7 _, cell_al bk8 _⟩ | exact ⟨cell_al ae0 _, cell_al ae1 _, cell_al ae2 _, cell_al ae3 _, cell_al ae4 _, cell_al ae5 _, cell_al ae6 _, cell_al ae7 _, cell_al ae8 _, cell_al be0 _, cell_al be1 _, cell_al be2 _, cell_al be3 _, cell_al be4 _, cell_al be5 _, cell_al be6 _, cell_al be7 _, cell_al be8 _⟩)
      (first
        | (go_at_call 18; refine (HCa.out _ ?_).mono ?_; (first | exact hB0.trans (hcur.mono hB0.size) | exact hB0.trans (hcur.drew.mono hB0.size) | exact hB0.trans ((hcur.alloc hcur.size _).mono hB0.size) | exact hB0.trans ((hcur.drew.alloc hcur.drew.size _).mono hB0.size)); rintro e2 w1 ⟨xa, xc, rfl, hx1, hb1⟩; (try have hz9 := (hb1.block _ (Array.getElem?_eq_some_iff.1 hz9).1).trans hz9); (first | (have hz9 : w1.heap[W0.heap.size]? = some (Obj.cells #[.int .i64 0, .int .i64 0, .int .i64 0, .int .i64 0, .string ⟨#[]⟩, .slice none 0 0, .int .i64 0, .int .i64 0, .bool false] 42) := (hb1.block _ (by simp)).trans (alloc_last _ (Obj.cells #[.int .i64 0, .int .i64 0, .int .i64 0, .int .i64 0, .string ⟨#[]⟩, .slice none 0 0, .int .i64 0, .int .i64 0, .bool false] 42) _ rfl); have hz7 := Nat.le_refl W0.heap.size) | (have hz9 := (hb1.block _ (by simp)).trans (alloc_last _ (Obj.cells #[.int .i64 0, .int .i64 0, .int .i64 0, .int .i64 0, .string ⟨#[]⟩, .slice none 0 0, .int .i64 0, .int .i64 0, .bool false] 42) _ rfl); have hz7 := hcur.size) | skip); have hcur : Below W0.heap.size W0 w1 := (by first | exact hcur.trans (hb1.mono hcur.size) | exact hcur.drew.trans (hb1.mono hcur.drew.size) | exact (hcur.alloc hcur.size _).trans (hb1.mono (hcur.alloc hcur.size _).size) | exact (hcur.drew.alloc hcur.drew.size _).trans (hb1.mono (hcur.drew.alloc hcur.drew.size _).size)); have rx1 := rng_of_rw (hx1.rw_ layG); have ae0 := (hcur.cell (p := ⟨w.heap.size, 0, none⟩) alt).trans ak0; have ae1 := (hcur.cell (p := ⟨w.heap.size, 1, none⟩) alt).trans ak1; have ae2 := (hcur.cell (p := ⟨w.heap.size, 2, none⟩) alt).trans ak2; have ae3 := (hcur.cell (p := ⟨w.heap.size, 3, none⟩) alt).trans ak3; have ae4 := (hcur.cell (p := ⟨w.heap.size, 4, none⟩) alt).trans ak4; have ae5 := (hcur.cell (p := ⟨w.heap.size, 5, none⟩) alt).trans ak5; have ae6 := (hcur.cell (p := ⟨w.heap.size, 6, none⟩) alt).trans ak6; have ae7 := (hcur.cell (p := ⟨w.heap.size, 7, none⟩) alt).trans ak7; have ae8 := (hcur.cell (p := ⟨w.heap.size, 8, none⟩) alt).trans ak8; have be0 := (hcur.cell (p := ⟨w.heap.size + 1, 0, none⟩) blt).trans bk0; have be1 := (hcur.cell (p := ⟨w.heap.size + 1, 1, none⟩) blt).trans bk1; have be2 := (hcur.cell (p := ⟨w.heap.size + 1, 2, none⟩) blt).trans bk2; have be3 := (hcur.cell (p := ⟨w.heap.size + 1, 3, none⟩) blt).trans bk3; have be4 := (hcur.cell (p := ⟨w.heap.size + 1, 4, none⟩) blt).trans bk4; have be5 := (hcur.cell (p := ⟨w.heap.size + 1, 5, none⟩) blt).trans bk5; have be6 := (hcur.cell (p := ⟨w.heap.size + 1, 6, none⟩) blt).trans bk6; have be7 := (hcur.cell (p := ⟨w.heap.size + 1, 7, none⟩) blt).trans bk7; have be8 := (hcur.cell (p := ⟨w.heap.size + 1, 8, none⟩) blt).trans bk8)
        | (go_at_call 18; refine (HCb.out _ ?_).mono ?_; (first | exact hB0.trans (hcur.mono hB0.size) | exact hB0.trans (hcur.drew.mono hB0.size) | exact hB0.trans ((hcur.alloc hcur.size _).mono hB0.size) | exact hB0.trans ((hcur.drew.alloc hcur.drew.size _).mono hB0.size)); rintro e2 w1 ⟨ya, yc, rfl, hy1, hb1⟩; (try have hz9 := (hb1.block _ (Array.getElem?_eq_some_iff.1 hz9).1).trans hz9); (first | (have hz9 : w1.heap[W0.heap.size]? = some (Obj.cells #[.int .i64 0, .int .i64 0, .int .i64 0, .int .i64 0, .string ⟨#[]⟩, .slice none 0 0, .int .i64 0, .int .i64 0, .bool false] 42) := (hb1.block _ (by simp)).trans (alloc_last _ (Obj.cells #[.int .i64 0, .int .i64 0, .int .i64 0, .int .i64 0, .string ⟨#[]⟩, .slice none 0 0, .int .i64 0, .int .i64 0, .bool false] 42) _ rfl); have hz7 := Nat.le_refl W0.heap.size) | (have hz9 := (hb1.block _ (by simp)).trans (alloc_last _ (Obj.cells #[.int .i64 0, .int .i64 0, .int .i64 0, .int .i64 0, .string ⟨#[]⟩, .slice none 0 0, .int .i64 0, .int .i64 0, .bool false] 42) _ rfl); have hz7 := hcur.size) | skip); have hcur : Below W0.heap.size W0 w1 := (by first | exact hcur.trans (hb1.mono hcur.size) | exact hcur.drew.trans (hb1.mono hcur.drew.size) | exact (hcur.alloc hcur.size _).trans (hb1.mono (hcur.alloc hcur.size _).size) | exact (hcur.drew.alloc hcur.drew.size _).trans (hb1.mono (hcur.drew.alloc hcur.drew.size _).size)); (have rx2 : Sp.Rng w1 xa am xc a.l := (by first | exact rx1.below hb1 | exact rx1.below ((Below.refl _ _).drew.trans hb1) | exact rx1.below (((Below.refl _ _).alloc (Nat.le_refl _) _).trans (hb1.mono (by simp))) | exact rx1.below ((((Below.refl _ _).alloc (Nat.le_refl _) _).drew).trans (hb1.mono (by simp))))); clear rx1; have rx1 := rx2; clear rx2; have ry1 := rng_of_rw (hy1.rw_ layG); have ae0 := (hcur.cell (p := ⟨w.heap.size, 0, none⟩) alt).trans ak0; have ae1 := (hcur.cell (p := ⟨w.heap.size, 1, none⟩) alt).trans ak1; have ae2 := (hcur.cell (p := ⟨w.heap.size, 2, none⟩) alt).trans ak2; have ae3 := (hcur.cell (p := ⟨w.heap.size, 3, none⟩) alt).trans ak3; have ae4 := (hcur.cell (p := ⟨w.heap.size, 4, none⟩) alt).trans ak4; have ae5 := (hcur.cell (p := ⟨w.heap.size, 5, none⟩) alt).trans ak5; have ae6 := (hcur.cell (p := ⟨w.heap.size, 6, none⟩) alt).trans ak6; have ae7 := (hcur.cell (p := ⟨w.heap.size, 7, none⟩) alt).trans ak7; have ae8 := (hcur.cell (p := ⟨w.heap.size, 8, none⟩) alt).trans ak8; have be0 := (hcur.cell (p := ⟨w.heap.size + 1, 0, none⟩) blt).trans bk0; have be1 := (hcur.cell (p := ⟨w.heap.size + 1, 1, none⟩) blt).trans bk1; have be2 := (hcur.cell (p := ⟨w.heap.size + 1, 2, none⟩) blt).trans bk2; have be3 := (hcur.cell (p := ⟨w.heap.size + 1, 3, none⟩) blt).trans bk3; have be4 := (hcur.cell (p := ⟨w.heap.size + 1, 4, none⟩) blt).trans bk4; have be5 := (hcur.cell (p := ⟨w.heap.size + 1, 5, none⟩) blt).trans bk5; have be6 := (hcur.cell (p := ⟨w.heap.size + 1, 6, none⟩) blt).trans bk6; have be7 := (hcur.cell (p := ⟨w.heap.size + 1, 7, none⟩) blt).trans bk7; have be8 := (hcur.cell (p := ⟨w.heap.size + 1, 8, none⟩) blt).trans bk8)
        | (go_at_call 20; refine (HI.out _ xa xc ya yc ?_ ?_ ?_).mono ?_; (first | exact hB0.trans (hcur.mono hB0.size) | exact hB0.trans (hcur.drew.mono hB0.size) | exact hB0.trans ((hcur.alloc hcur.size _).mono hB0.size) | exact hB0.trans ((hcur.drew.alloc hcur.drew.size _).mono hB0.size)); (first | exact rx1 | exact rx1.below (Below.refl _ _).drew | exact rx1.below ((Below.refl _ _).alloc (Nat.le_refl _) _) | exact rx1.below (((Below.refl _ _).drew).alloc (Nat.le_refl _) _) | exact rx1.below (((Below.refl _ _).alloc (Nat.le_refl _) _).drew)); (first | exact ry1 | exact ry1.below (Below.refl _ _).drew | exact ry1.below ((Below.refl _ _).alloc (Nat.le_refl _) _) | exact ry1.below (((Below.refl _ _).drew).alloc (Nat.le_refl _) _) | exact ry1.below (((Below.refl _ _).alloc (Nat.le_refl _) _).drew)); rintro e2 w1 ⟨va, vm, vc, rfl, hv3, hb1⟩; (try have hz9 := (hb1.block _ (Array.getElem?_eq_some_iff.1 hz9).1).trans hz9); (first | (have hz9 : w1.heap[W0.heap.size]? = some (Obj.cells #[.int .i64 0, .int .i64 0, .int .i64 0, .int .i64 0, .string ⟨#[]⟩, .slice none 0 0, .int .i64 0, .int .i64 0, .bool false] 42) := (hb1.block _ (by simp)).trans (alloc_last _ (Obj.cells #[.int .i64 0, .int .i64 0, .int .i64 0, .int .i64 0, .string ⟨#[]⟩, .slice none 0 0, .int .i64 0, .int .i64 0, .bool false] 42) _ rfl); have hz7 := Nat.le_refl W0.heap.size) | (have hz9 := (hb1.block _ (by simp)).trans (alloc_last _ (Obj.cells #[.int .i64 0, .int .i64 0, .int .i64 0, .int .i64 0, .string ⟨#[]⟩, .slice none 0 0, .int .i64 0, .int .i64 0, .bool false] 42) _ rfl); have hz7 := hcur.size) | skip); have hcur : Below W0.heap.size W0 w1 := (by first | exact hcur.trans (hb1.mono hcur.size) | exact hcur.drew.trans (hb1.mono hcur.drew.size) | exact (hcur.alloc hcur.size _).trans (hb1.mono (hcur.alloc hcur.size _).size) | exact (hcur.drew.alloc hcur.drew.size _).trans (hb1.mono (hcur.drew.alloc hcur.drew.size _).size)); have ae0 := (hcur.cell (p := ⟨w.heap.size, 0, none⟩) alt).trans ak0; have ae1 := (hcur.cell (p := ⟨w.heap.size, 1, none⟩) alt).trans ak1; have ae2 := (hcur.cell (p := ⟨w.heap.size, 2, none⟩) alt).trans ak2; have ae3 := (hcur.cell (p := ⟨w.heap.size, 3, none⟩) alt).trans ak3; have ae4 := (hcur.cell (p := ⟨w.heap.size, 4, none⟩) alt).trans ak4; have ae5 := (hcur.cell (p := ⟨w.heap.size, 5, none⟩) alt).trans ak5; have ae6 := (hcur.cell (p := ⟨w.heap.size, 6, none⟩) alt).trans ak6; have ae7 := (hcur.cell (p := ⟨w.heap.size, 7, none⟩) alt).trans ak7; have ae8 := (hcur.cell (p := ⟨w.heap.size, 8, none⟩) alt).trans ak8; have be0 := (hcur.cell (p := ⟨w.heap.size + 1, 0, none⟩) blt).trans bk0; have be1 := (hcur.cell (p := ⟨w.heap.size + 1, 1, none⟩) blt).trans bk1; have be2 := (hcur.cell (p := ⟨w.heap.size + 1, 2, none⟩) blt).trans bk2; have be3 := (hcur.cell (p := ⟨w.heap.size + 1, 3, none⟩) blt).trans bk3; have be4 := (hcur.cell (p := ⟨w.heap.size + 1, 4, none⟩) blt).trans bk4; have be5 := (hcur.cell (p := ⟨w.heap.size + 1, 5, none⟩) blt).trans bk5; have be6 := (hcur.cell (p := ⟨w.heap.size + 1, 6, none⟩) blt).trans bk6; have be7 := (hcur.cell (p := ⟨w.heap.size + 1, 7, none⟩) blt).trans bk7; have be8 := (hcur.cell (p := ⟨w.heap.size + 1, 8, none⟩) blt).trans bk8; have aX1 := (hcur.block _ alt).trans aX; have bX1 := (hcur.block _ blt).trans bX; (try (have hs9 := store9 hz9 hcur hz7 (.int .i64 x.c) (.int .i64 x.n) (.int .i64 x.k) (.int .i64 x.p) (.string x.s) (.slice va vm vc) (.int .i64 x.tc) (.int .i64 x.tn) (.bool x.on); obtain ⟨W9, e9', hx9, hB9, hK9⟩ := hs9; have e9 := e9'; clear e9'; obtain ⟨d0, d1, d2, d3, d4, d5, d6, d7, d8⟩ := box9 hz9; obtain ⟨dz0, dz1, dz2, dz3, dz4, dz5, dz6, dz7, dz8⟩ := wr9 hz9; obtain ⟨ax0, ax1, ax2, ax3, ax4, ax5, ax6, ax7, ax8⟩ := box9 (hK9.block aX1 (Nat.ne_of_lt (Nat.lt_of_lt_of_le alt hz7))); obtain ⟨bx0, bx1, bx2, bx3, bx4, bx5, bx6, bx7, bx8⟩ := box9 (hK9.block bX1 (Nat.ne_of_lt (Nat.lt_of_lt_of_le blt hz7)))))))
    all_goals
      try rw [e9]
      go_wp2_with fail
      go_meet
      case rel => first | exact ⟨_, va, vm, vc, rfl, rfl, hx9, rng_of_rw ((own_but hv3 hz9 hK9).rw_ layG), hB9⟩ | exact ⟨_, va, vm, vc, rfl, rfl, alloc_last _ _ _ rfl, rng_of_rw ((hv3.below ((Below.refl _ _).alloc (Nat.le_refl _) _)).rw_ layG), hcur.alloc hcur.size _⟩
  case rest =>
    obtain ⟨W1, rfl⟩ : ∃ x, x = wc := ⟨_, rfl⟩
    obtain ⟨g, va, vm, vc, rfl, rfl, gX, hrx, hb1⟩ := hcut
    have aX1 := (hb1.block _ alt).trans aX
    have bX1 := (hb1.block _ blt).trans bX
    have hB1 := hB0.trans (hb1.mono hB0.size)
    clear ak0 ak1 ak2 ak3 ak4 ak5 ak6 ak7 ak8 bk0 bk1 bk2 bk3 bk4 bk5 bk6 bk7 bk8 aX bX hb1 hB0 alt blt HI HCa hW0
    have alt : w.heap.size < W1.heap.size := (Array.getElem?_eq_some_iff.1 aX1).1
    have blt : w.heap.size + 1 < W1.heap.size := (Array.getElem?_eq_some_iff.1 bX1).1
    have glt : g < W1.heap.size := (Array.getElem?_eq_some_iff.1 gX).1
    obtain ⟨gk0, gk1, gk2, gk3, gk4, gk5, gk6, gk7, gk8⟩ := box9 gX
    obtain ⟨bk0, bk1, bk2, bk3, bk4, bk5, bk6, bk7, bk8⟩ := box9 bX1
    have bX := bX1
    go_wp2_with fail
    go_cut [9, 10] (fun v9 v10 wx => ∃ (h : Nat) (va : Option Addr) (vm vc : Nat), v9 = .pointer (some ⟨h, 0, none⟩) ∧ v10 = .int .i64 0 ∧ wx.heap[h]? = some (Obj.cells #[.int .i64 a.c, .int .i64 a.n, .int .i64 a.k, .int .i64 a.p, .string a.s, .slice va vm vc, .int .i64 a.tc, .int .i64 a.tn, .bool a.on] 42) ∧ Sp.Rng wx va vm vc a.l ∧ Below W1.heap.size W1 wx)
    case first =>
      have hcur : Below W1.heap.size W1 W1 := Below.refl _ _
      go_region_held3 (fun W => W.cell? ⟨g, 0, none⟩ = some (.int .i64 x.c) ∧ W.cell? ⟨g, 1, none⟩ = some (.int .i64 x.n) ∧ W.cell? ⟨g, 2, none⟩ = some (.int .i64 x.k) ∧ W.cell? ⟨g, 3, none⟩ = some (.int .i64 x.p) ∧ W.cell? ⟨g, 4, none⟩ = some (.string x.s) ∧ W.cell? ⟨g, 5, none⟩ = some (.slice va vm vc) ∧ W.cell? ⟨g, 6, none⟩ = some (.int .i64 x.tc) ∧ W.cell? ⟨g, 7, none⟩ = some (.int .i64 x.tn) ∧ W.cell? ⟨g, 8, none⟩ = some (.bool x.on) ∧ W.cell? ⟨w.heap.size + 1, 0, none⟩ = some (.int .i64 b.c) ∧ W.cell? ⟨w.heap.size + 1, 1, none⟩ = some (.int .i64 b.n) ∧ W.cell? ⟨w.heap.size + 1, 2, none⟩ = some (.int .i64 b.k) ∧ W.cell? ⟨w.heap.size + 1, 3, none⟩ = some (.int .i64 b.p) ∧ W.cell? ⟨w.heap.size + 1, 4, none⟩ = some (.string b.s) ∧ W.cell? ⟨w.heap.size + 1, 5, none⟩ = some (.slice ba bm bc) ∧ W.cell? ⟨w.heap.size + 1, 6, none⟩ = some (.int .i64 b.tc) ∧ W.cell? ⟨w.heap.size + 1, 7, none⟩ = some (.int .i64 b.tn) ∧ W.cell? ⟨w.heap.size + 1, 8, none⟩ = some (.bool b.on)) (first | exact ⟨gx0, gx1, gx2, gx3, gx4, gx5, gx6, gx7, gx8, bx0, bx1, bx2, bx3, bx4, bx5, bx6, bx7, bx8⟩ | exact ⟨gk0, gk1, gk2, gk3, gk4, gk5, gk6, gk7, gk8, bk0, bk1, bk2, bk3, bk4, bk5, bk6, bk7, bk8⟩ | exact ⟨ge0, ge1, ge2, ge3, ge4, ge5, ge6, ge7, ge8, be0, be1, be2, be3, be4, be5, be6, be7, be8⟩ | exact ⟨cell_al gk0 _, cell_al gk1 _, cell_al gk2 _, cell_al gk3 _, cell_al gk4 _, cell_al gk5 _, cell_al gk6 _, cell_al gk7 _, cell_al gk8 _, cell_al bk0 _, cell_al bk1 _, cell_al bk2 _, cell_al bk3 _, cell_al bk4 _, cell_al bk5 _, cell_al bk6 _, cell_al bk7 _, cell_al bk8 _⟩ | exact ⟨cell_al ge0 _, cell_al ge1 _, cell_al ge2 _, cell_al ge3 _, cell_al ge4 _, cell_al ge5 _, cell_al ge6 _, cell_al ge7 _, cell_al ge8 _, cell_al be0 _, cell_al be1 _, cell_al be2 _, cell_al be3 _, cell_al be4 _, cell_al be5 _, cell_al be6 _, cell_al be7 _, cell_al be8 _⟩)
        (first
          | (go_at_call 18; refine (HCb.out _ ?_).mono ?_; (first | exact hB1.trans (hcur.mono hB1.size) | exact hB1.trans (hcur.drew.mono hB1.size) | exact hB1.trans ((hcur.alloc hcur.size _).mono hB1.size) | exact hB1.trans ((hcur.drew.alloc hcur.drew.size _).mono hB1.size)); rintro e2 w1 ⟨ya, yc, rfl, hy1, hb1⟩; (try have hz9 := (hb1.block _ (Array.getElem?_eq_some_iff.1 hz9).1).trans hz9); (first | (have hz9 : w1.heap[W1.heap.size]? = some (Obj.cells #[.int .i64 0, .int .i64 0, .int .i64 0, .int .i64 0, .string ⟨#[]⟩, .slice none 0 0, .int .i64 0, .int .i64 0, .bool false] 42) := (hb1.block _ (by simp)).trans (alloc_last _ (Obj.cells #[.int .i64 0, .int .i64 0, .int .i64 0, .int .i64 0, .string ⟨#[]⟩, .slice none 0 0, .int .i64 0, .int .i64 0, .bool false] 42) _ rfl); have hz7 := Nat.le_refl W1.heap.size) | (have hz9 := (hb1.block _ (by simp)).trans (alloc_last _ (Obj.cells #[.int .i64 0, .int .i64 0, .int .i64 0, .int .i64 0, .string ⟨#[]⟩, .slice none 0 0, .int .i64 0, .int .i64 0, .bool false] 42) _ rfl); have hz7 := hcur.size) | skip); have hcur : Below W1.heap.size W1 w1 := (by first | exact hcur.trans (hb1.mono hcur.size) | exact hcur.drew.trans (hb1.mono hcur.drew.size) | exact (hcur.alloc hcur.size _).trans (hb1.mono (hcur.alloc hcur.size _).size) | exact (hcur.drew.alloc hcur.drew.size _).trans (hb1.mono (hcur.drew.alloc hcur.drew.size _).size)); (have rx1 : Sp.Rng w1 va vm vc x.l := (by first | exact hrx.below hcur)); have ry1 := rng_of_rw (hy1.rw_ layG); have ge0 := (hcur.cell (p := ⟨g, 0, none⟩) glt).trans gk0; have ge1 := (hcur.cell (p := ⟨g, 1, none⟩) glt).trans gk1; have ge2 := (hcur.cell (p := ⟨g, 2, none⟩) glt).trans gk2; have ge3 := (hcur.cell (p := ⟨g, 3, none⟩) glt).trans gk3; have ge4 := (hcur.cell (p := ⟨g, 4, none⟩) glt).trans gk4; have ge5 := (hcur.cell (p := ⟨g, 5, none⟩) glt).trans gk5; have ge6 := (hcur.cell (p := ⟨g, 6, none⟩) glt).trans gk6; have ge7 := (hcur.cell (p := ⟨g, 7, none⟩) glt).trans gk7; have ge8 := (hcur.cell (p := ⟨g, 8, none⟩) glt).trans gk8; have be0 := (hcur.cell (p := ⟨w.heap.size + 1, 0, none⟩) blt).trans bk0; have be1 := (hcur.cell (p := ⟨w.heap.size + 1, 1, none⟩) blt).trans bk1; have be2 := (hcur.cell (p := ⟨w.heap.size + 1, 2, none⟩) blt).trans bk2; have be3 := (hcur.cell (p := ⟨w.heap.size + 1, 3, none⟩) blt).trans bk3; have be4 := (hcur.cell (p := ⟨w.heap.size + 1, 4, none⟩) blt).trans bk4; have be5 := (hcur.cell (p := ⟨w.heap.size + 1, 5, none⟩) blt).trans bk5; have be6 := (hcur.cell (p := ⟨w.heap.size + 1, 6, none⟩) blt).trans bk6; have be7 := (hcur.cell (p := ⟨w.heap.size + 1, 7, none⟩) blt).trans bk7; have be8 := (hcur.cell (p := ⟨w.heap.size + 1, 8, none⟩) blt).trans bk8)
          | (go_at_call 37; refine (HX.out _ va vm vc ya yc ?_ ?_ ?_).mono ?_; (first | exact hB1.trans (hcur.mono hB1.size) | exact hB1.trans (hcur.drew.mono hB1.size) | exact hB1.trans ((hcur.alloc hcur.size _).mono hB1.size) | exact hB1.trans ((hcur.drew.alloc hcur.drew.size _).mono hB1.size)); (first | exact rx1 | exact rx1.below (Below.refl _ _).drew | exact rx1.below ((Below.refl _ _).alloc (Nat.le_refl _) _) | exact rx1.below (((Below.refl _ _).drew).alloc (Nat.le_refl _) _) | exact rx1.below (((Below.refl _ _).alloc (Nat.le_refl _) _).drew)); (first | exact ry1 | exact ry1.below (Below.refl _ _).drew | exact ry1.below ((Below.refl _ _).alloc (Nat.le_refl _) _) | exact ry1.below (((Below.refl _ _).drew).alloc (Nat.le_refl _) _) | exact ry1.below (((Below.refl _ _).alloc (Nat.le_refl _) _).drew)); rintro e2 w1 ⟨ua, um, uc, rfl, hv3, hb1⟩; (try have hz9 := (hb1.block _ (Array.getElem?_eq_some_iff.1 hz9).1).trans hz9); (first | (have hz9 : w1.heap[W1.heap.size]? = some (Obj.cells #[.int .i64 0, .int .i64 0, .int .i64 0, .int .i64 0, .string ⟨#[]⟩, .slice none 0 0, .int .i64 0, .int .i64 0, .bool false] 42) := (hb1.block _ (by simp)).trans (alloc_last _ (Obj.cells #[.int .i64 0, .int .i64 0, .int .i64 0, .int .i64 0, .string ⟨#[]⟩, .slice none 0 0, .int .i64 0, .int .i64 0, .bool false] 42) _ rfl); have hz7 := Nat.le_refl W1.heap.size) | (have hz9 := (hb1.block _ (by simp)).trans (alloc_last _ (Obj.cells #[.int .i64 0, .int .i64 0, .int .i64 0, .int .i64 0, .string ⟨#[]⟩, .slice none 0 0, .int .i64 0, .int .i64 0, .bool false] 42) _ rfl); have hz7 := hcur.size) | skip); have hcur : Below W1.heap.size W1 w1 := (by first | exact hcur.trans (hb1.mono hcur.size) | exact hcur.drew.trans (hb1.mono hcur.drew.size) | exact (hcur.alloc hcur.size _).trans (hb1.mono (hcur.alloc hcur.size _).size) | exact (hcur.drew.alloc hcur.drew.size _).trans (hb1.mono (hcur.drew.alloc hcur.drew.size _).size)); have ge0 := (hcur.cell (p := ⟨g, 0, none⟩) glt).trans gk0; have ge1 := (hcur.cell (p := ⟨g, 1, none⟩) glt).trans gk1; have ge2 := (hcur.cell (p := ⟨g, 2, none⟩) glt).trans gk2; have ge3 := (hcur.cell (p := ⟨g, 3, none⟩) glt).trans gk3; have ge4 := (hcur.cell (p := ⟨g, 4, none⟩) glt).trans gk4; have ge5 := (hcur.cell (p := ⟨g, 5, none⟩) glt).trans gk5; have ge6 := (hcur.cell (p := ⟨g, 6, none⟩) glt).trans gk6; have ge7 := (hcur.cell (p := ⟨g, 7, none⟩) glt).trans gk7; have ge8 := (hcur.cell (p := ⟨g, 8, none⟩) glt).trans gk8; have be0 := (hcur.cell (p := ⟨w.heap.size + 1, 0, none⟩) blt).trans bk0; have be1 := (hcur.cell (p := ⟨w.heap.size + 1, 1, none⟩) blt).trans bk1; have be2 := (hcur.cell (p := ⟨w.heap.size + 1, 2, none⟩) blt).trans bk2; have be3 := (hcur.cell (p := ⟨w.heap.size + 1, 3, none⟩) blt).trans bk3; have be4 := (hcur.cell (p := ⟨w.heap.size + 1, 4, none⟩) blt).trans bk4; have be5 := (hcur.cell (p := ⟨w.heap.size + 1, 5, none⟩) blt).trans bk5; have be6 := (hcur.cell (p := ⟨w.heap.size + 1, 6, none⟩) blt).trans bk6; have be7 := (hcur.cell (p := ⟨w.heap.size + 1, 7, none⟩) blt).trans bk7; have be8 := (hcur.cell (p := ⟨w.heap.size + 1, 8, none⟩) blt).trans bk8; have gX1 := (hcur.block _ glt).trans gX; have bX1 := (hcur.block _ blt).trans bX; (try (have hs9 := store9 hz9 hcur hz7 (.int .i64 a.c) (.int .i64 a.n) (.int .i64 a.k) (.int .i64 a.p) (.string a.s) (.slice ua um uc) (.int .i64 a.tc) (.int .i64 a.tn) (.bool a.on); obtain ⟨W9, e9', hx9, hB9, hK9⟩ := hs9; have e9 := e9'; clear e9'; obtain ⟨d0, d1, d2, d3, d4, d5, d6, d7, d8⟩ := box9 hz9; obtain ⟨dz0, dz1, dz2, dz3, dz4, dz5, dz6, dz7, dz8⟩ := wr9 hz9; obtain ⟨gx0, gx1, gx2, gx3, gx4, gx5, gx6, gx7, gx8⟩ := box9 (hK9.block gX1 (Nat.ne_of_lt (Nat.lt_of_lt_of_le glt hz7))); obtain ⟨bx0, bx1, bx2, bx3, bx4, bx5, bx6, bx7, bx8⟩ := box9 (hK9.block bX1 (Nat.ne_of_lt (Nat.lt_of_lt_of_le blt hz7)))))))
      all_goals
        try rw [e9]
        go_wp2_with fail
        go_meet
        case rel => first | exact ⟨_, ua, um, uc, rfl, rfl, hx9, rng_of_rw ((own_but hv3 hz9 hK9).rw_ layG), hB9⟩ | exact ⟨_, ua, um, uc, rfl, rfl, alloc_last _ _ _ rfl, rng_of_rw ((hv3.below ((Below.refl _ _).alloc (Nat.le_refl _) _)).rw_ layG), hcur.alloc hcur.size _⟩
    case rest =>
      obtain ⟨W2, rfl⟩ : ∃ x, x = wc := ⟨_, rfl⟩
      obtain ⟨h, ua, um, uc, rfl, rfl, hX, hru, hb2⟩ := hcut
      have aX2 := (hb2.block _ alt).trans aX1
      have hB2 := hB1.trans (hb2.mono hB1.size)
      clear gk0 gk1 gk2 gk3 gk4 gk5 gk6 gk7 gk8 bk0 bk1 bk2 bk3 bk4 bk5 bk6 bk7 bk8 aX1 bX1 bX gX hrx hb2 alt blt glt HX HCb hB1
      obtain ⟨ak0, ak1, ak2, ak3, ak4, ak5, ak6, ak7, ak8⟩ := box9 aX2
      obtain ⟨hk0, hk1, hk2, hk3, hk4, hk5, hk6, hk7, hk8⟩ := box9 hX
      have HS2 := HS.out W2 ua um uc hB2 hru
      go_wp2_with fail
      refine (HN.out _).mono ?_
      rintro e2 w5 ⟨rfl, rfl⟩
      go_wp2_with fail
      refine (HN.out _).mono ?_
      rintro e2 w5 ⟨rfl, rfl⟩
      go_wp2_with fail
      refine HS2.mono ?_
      rintro e2 w5 ⟨rfl, hb5⟩
      go_wp2_with fail
      go_ret
      exact ⟨rfl, hB2.trans (hb5.mono hB2.size)⟩
end Go.Proofs.YtlebbffpbbjakaaDoor

namespace Go.Proofs.YtlebbffpbbjakaaDoor
open Go.RowKit Go.Lib
set_option maxRecDepth 100000

set_option maxHeartbeats 4000000 in
theorem leans_no {a b : OpV} {aa : Option Addr} {am ac : Nat} {ba : Option Addr} {bm bc : Nat} {la : Option Addr} {lm lc : Nat} {w : World} (hk : a.k ≠ 1) :
    Calls Tryd.prog 47 #[.slice la lm lc, opVal a (.slice aa am ac), opVal b (.slice ba bm bc)] w fun e w' => e = .returned (.bool false) ∧ Below w.heap.size w w' := by
  simp only [opVal] at *
  obtain ⟨W0, hW0⟩ : ∃ W0, (w.alloc (Obj.cells #[.int .i64 a.c, .int .i64 a.n, .int .i64 a.k, .int .i64 a.p, .string a.s, .slice aa am ac, .int .i64 a.tc, .int .i64 a.tn, .bool a.on] 42)).alloc (Obj.cells #[.int .i64 b.c, .int .i64 b.n, .int .i64 b.k, .int .i64 b.p, .string b.s, .slice ba bm bc, .int .i64 b.tc, .int .i64 b.tn, .bool b.on] 42) = W0 := ⟨_, rfl⟩
  have aX : W0.heap[w.heap.size]? = some (Obj.cells #[.int .i64 a.c, .int .i64 a.n, .int .i64 a.k, .int .i64 a.p, .string a.s, .slice aa am ac, .int .i64 a.tc, .int .i64 a.tn, .bool a.on] 42) := by rw [← hW0]; exact (Below.heap_alloc _ _ _ (by simp)).trans (alloc_last _ _ _ rfl)
  have bX : W0.heap[w.heap.size + 1]? = some (Obj.cells #[.int .i64 b.c, .int .i64 b.n, .int .i64 b.k, .int .i64 b.p, .string b.s, .slice ba bm bc, .int .i64 b.tc, .int .i64 b.tn, .bool b.on] 42) := by rw [← hW0]; exact alloc_last _ _ _ (by simp)
  have hB0 : Below w.heap.size w W0 := by rw [← hW0]; exact ((Below.refl w.heap.size w).alloc (Nat.le_refl _) _).alloc (by simp) _
  have alt : w.heap.size < W0.heap.size := (Array.getElem?_eq_some_iff.1 aX).1
  have blt : w.heap.size + 1 < W0.heap.size := (Array.getElem?_eq_some_iff.1 bX).1
  obtain ⟨ak0, ak1, ak2, ak3, ak4, ak5, ak6, ak7, ak8⟩ := box9 aX
  obtain ⟨bk0, bk1, bk2, bk3, bk4, bk5, bk6, bk7, bk8⟩ := box9 bX
  have t1 : (a.k == 1) = false := beq_eq_false_iff_ne.2 hk
  go_enter Tryd.func47, Tryd.ntmps47
  go_wp2_with fail
  go_ret
  exact ⟨rfl, hB0⟩

set_option maxHeartbeats 8000000 in
theorem leans_ins {a b : OpV} {aa : Option Addr} {am ac : Nat} {ba : Option Addr} {bm bc : Nat} {la : Option Addr} {lm lc : Nat} {R : List CellW} {w : World} (hR : Rw cellW 4 w la lm lc R) (ka : a.k = 1) (kb : b.k = 1) {q : Nat} (hq : b.p = (q : Int))
    {r : Bool} (hr : r = true ↔ 0 < q ∧ q < R.length ∧ ∃ c d, R[q - 1]? = some c ∧ R[q]? = some d ∧ c.1 = (a.c, a.n) ∧ d.1 = (a.c, a.n)) :
    Calls Tryd.prog 47 #[.slice la lm lc, opVal a (.slice aa am ac), opVal b (.slice ba bm bc)] w fun e w' => e = .returned (.bool r) ∧ Below w.heap.size w w' := by
  have HG : Tryd.prog.eqGuardType Tryd.prog.depth 36 = false := by kernel_rfl
  have hlm := hR.len
  have hro := hR.room
  simp only [maxLen] at hro
  simp only [opVal, ka, kb, hq]
  clear ka kb hq
  obtain ⟨W0, hW0⟩ : ∃ W0, (w.alloc (Obj.cells #[.int .i64 a.c, .int .i64 a.n, .int .i64 1, .int .i64 a.p, .string a.s, .slice aa am ac, .int .i64 a.tc, .int .i64 a.tn, .bool a.on] 42)).alloc (Obj.cells #[.int .i64 b.c, .int .i64 b.n, .int .i64 1, .int .i64 (q : Int), .string b.s, .slice ba bm bc, .int .i64 b.tc, .int .i64 b.tn, .bool b.on] 42) = W0 := ⟨_, rfl⟩
  have aX : W0.heap[w.heap.size]? = some (Obj.cells #[.int .i64 a.c, .int .i64 a.n, .int .i64 1, .int .i64 a.p, .string a.s, .slice aa am ac, .int .i64 a.tc, .int .i64 a.tn, .bool a.on] 42) := by rw [← hW0]; exact (Below.heap_alloc _ _ _ (by simp)).trans (alloc_last _ _ _ rfl)
  have bX : W0.heap[w.heap.size + 1]? = some (Obj.cells #[.int .i64 b.c, .int .i64 b.n, .int .i64 1, .int .i64 (q : Int), .string b.s, .slice ba bm bc, .int .i64 b.tc, .int .i64 b.tn, .bool b.on] 42) := by rw [← hW0]; exact alloc_last _ _ _ (by simp)
  have hB0 : Below w.heap.size w W0 := by rw [← hW0]; exact ((Below.refl w.heap.size w).alloc (Nat.le_refl _) _).alloc (by simp) _
  have alt : w.heap.size < W0.heap.size := (Array.getElem?_eq_some_iff.1 aX).1
  have blt : w.heap.size + 1 < W0.heap.size := (Array.getElem?_eq_some_iff.1 bX).1
  obtain ⟨ak0, ak1, ak2, ak3, ak4, ak5, ak6, ak7, ak8⟩ := box9 aX
  obtain ⟨bk0, bk1, bk2, bk3, bk4, bk5, bk6, bk7, bk8⟩ := box9 bX
  by_cases h0 : 0 < q ∧ q < lm
  · obtain ⟨g, off, c, rfl, hg, hc, hcl⟩ := (hR.below hB0).at (q - 1) (by omega)
    obtain ⟨g2, off2, d, e2, hg2, hd, hdl⟩ := (hR.below hB0).at q (by omega)
    cases e2
    have c0 := hcl 0 _ rfl
    have c1 := hcl 1 _ rfl
    have d0 := hdl 0 _ rfl
    have d1 := hdl 1 _ rfl
    simp only [Nat.add_zero] at c0 d0
    have w1 : IntKind.i64.wrap ((q : Int) - 1) = ((q - 1 : Nat) : Int) := by rw [IntWalk.i64_in _ (by omega)]; omega
    have hrr : r = ((c.1.1 == a.c && c.1.2 == a.n) && (d.1.1 == a.c && d.1.2 == a.n)) := by
      rw [Bool.eq_iff_iff, hr]
      simp only [Bool.and_eq_true, beq_iff_eq]
      constructor
      · rintro ⟨_, _, c', d', h1, h2, h3, h4⟩
        rw [hc] at h1
        rw [hd] at h2
        cases h1
        cases h2
        rw [h3, h4]
        simp
      · rintro ⟨h3, h4⟩
        exact ⟨h0.1, by omega, c, d, hc, hd, Prod.ext h3.1 h3.2, Prod.ext h4.1 h4.2⟩
    obtain ⟨q1, hq1⟩ : ∃ k : Nat, q - 1 = k := ⟨_, rfl⟩
    rw [hq1] at c0 c1 w1
    have eq1 : ∀ W, (Op.equalIn 10000 36 (.agg #[.int .i64 c.1.1, .int .i64 c.1.2]) (.agg #[.int .i64 a.c, .int .i64 a.n])).run Tryd.prog W = .ok (c.1.1 == a.c && c.1.2 == a.n) W := fun W => run_eqID W _ _ _ _
    have eq2 : ∀ W, (Op.equalIn 10000 36 (.agg #[.int .i64 d.1.1, .int .i64 d.1.2]) (.agg #[.int .i64 a.c, .int .i64 a.n])).run Tryd.prog W = .ok (d.1.1 == a.c && d.1.2 == a.n) W := fun W => run_eqID W _ _ _ _
    subst hrr
    generalize (c.1.1 == a.c && c.1.2 == a.n) = r1 at *
    generalize (d.1.1 == a.c && d.1.2 == a.n) = r2 at *
    have b0 : (0 : Int) < (q : Int) := by omega
    have b1 : (q : Int) < (lm : Int) := by omega
    have b2 : (0 : Int) ≤ (q1 : Int) := by omega
    have b3 : (q1 : Int) < (lm : Int) := by omega
    have b4 : (0 : Int) ≤ (q : Int) := by omega
    clear hcl hdl hc hd hr hR
    cases r1
    · go_enter Tryd.func47, Tryd.ntmps47
      go_wp2_with fail
      go_quiet (fail)
      go_wp2_with fail
      go_ret
      exact ⟨rfl, by first | exact below_drewN hB0 _ | exact hB0 | exact hB0.drew⟩
    · go_enter Tryd.func47, Tryd.ntmps47
      go_wp2_with fail
      go_quiet (fail)
      go_wp2_with fail
      go_ret
      exact ⟨by simp, by first | exact below_drewN hB0 _ | exact hB0 | exact hB0.drew⟩
  · have hrr : r = false := by
      cases r with
      | false => rfl
      | true => exact absurd (hr.1 rfl) (fun h => h0 ⟨h.1, by omega⟩)
    subst hrr
    clear hr hR
    by_cases h1 : 0 < q
    · have b0 : (0 : Int) < (q : Int) := by omega
      have b1 : decide ((q : Int) < (lm : Int)) = false := decide_eq_false (by omega)
      have b1' : decide (q < lm) = false := decide_eq_false (by omega)
      go_enter Tryd.func47, Tryd.ntmps47
      go_wp2_with fail
      go_quiet (fail)
      go_wp2_with fail
      go_ret
      exact ⟨rfl, by first | exact below_drewN hB0 _ | exact hB0 | exact hB0.drew⟩
    · have b0 : decide ((0 : Int) < (q : Int)) = false := decide_eq_false (by omega)
      have b0' : decide (0 < q) = false := decide_eq_false (by omega)
      go_enter Tryd.func47, Tryd.ntmps47
      go_wp2_with fail
      go_quiet (fail)
      go_wp2_with fail
      go_ret
      exact ⟨rfl, by first | exact below_drewN hB0 _ | exact hB0 | exact hB0.drew⟩

/-- None of the cells that a list names up to its i-th range is of that id. -/
def Clear (R : List CellW) (id : Int × Int) (l : List (Int × Int)) (i : Nat) : Prop := ∀ k, k < i → ∀ (q : Nat) (c : CellW), (l.getD k (0, 0)).1 ≤ (q : Int) → (q : Int) < (l.getD k (0, 0)).2 → R[q]? = some c → c.1 ≠ id
theorem clear_zero (R : List CellW) (id : Int × Int) (l : List (Int × Int)) : Clear R id l 0 := fun _ hk => absurd hk (Nat.not_lt_zero _)
set_option maxHeartbeats 8000000 in
theorem leans_rng {a b : OpV} {aa : Option Addr} {am ac : Nat} {ba : Option Addr} {bm bc : Nat} {la : Option Addr} {lm lc : Nat} {R : List CellW} {w : World} (hR : Rw cellW 4 w la lm lc R) (rb : Sp.Rng w ba bm bc b.l) (ka : a.k = 1) (kb : b.k ≠ 1) (hin : ∀ r ∈ b.l, 0 ≤ r.1 ∧ r.1 < r.2 ∧ r.2 ≤ (lm : Int))
    {r : Bool} (hr : r = true ↔ ∃ (q : Nat) (c : CellW), Sp.Lies b.l (q : Int) ∧ R[q]? = some c ∧ c.1 = (a.c, a.n)) :
    Calls Tryd.prog 47 #[.slice la lm lc, opVal a (.slice aa am ac), opVal b (.slice ba bm bc)] w fun e w' => e = .returned (.bool r) ∧ Below w.heap.size w w' := by
  have HG : Tryd.prog.eqGuardType Tryd.prog.depth 36 = false := by kernel_rfl
  have hlm := hR.len
  have hbl := rb.len
  have hro := hR.room
  have hrb := rb.room
  simp only [maxLen] at hro hrb
  have HR : Hid (Rw cellW 4 w la lm lc R) := hR
  have HB : Hid (Sp.Rng w ba bm bc b.l) := rb
  have HIN : Hid (∀ r ∈ b.l, 0 ≤ r.1 ∧ r.1 < r.2 ∧ r.2 ≤ (lm : Int)) := hin
  have HRR : Hid (r = true ↔ ∃ (q : Nat) (c : CellW), Sp.Lies b.l (q : Int) ∧ R[q]? = some c ∧ c.1 = (a.c, a.n)) := hr
  have t1 : (b.k == 1) = false := beq_eq_false_iff_ne.2 kb
  clear hR rb hin hr kb
  simp only [opVal, ka]
  clear ka
  obtain ⟨W0, hW0⟩ : ∃ W0, (w.alloc (Obj.cells #[.int .i64 a.c, .int .i64 a.n, .int .i64 1, .int .i64 a.p, .string a.s, .slice aa am ac, .int .i64 a.tc, .int .i64 a.tn, .bool a.on] 42)).alloc (Obj.cells #[.int .i64 b.c, .int .i64 b.n, .int .i64 b.k, .int .i64 b.p, .string b.s, .slice ba bm bc, .int .i64 b.tc, .int .i64 b.tn, .bool b.on] 42) = W0 := ⟨_, rfl⟩
  have aX : W0.heap[w.heap.size]? = some (Obj.cells #[.int .i64 a.c, .int .i64 a.n, .int .i64 1, .int .i64 a.p, .string a.s, .slice aa am ac, .int .i64 a.tc, .int .i64 a.tn, .bool a.on] 42) := by rw [← hW0]; exact (Below.heap_alloc _ _ _ (by simp)).trans (alloc_last _ _ _ rfl)
  have bX : W0.heap[w.heap.size + 1]? = some (Obj.cells #[.int .i64 b.c, .int .i64 b.n, .int .i64 b.k, .int .i64 b.p, .string b.s, .slice ba bm bc, .int .i64 b.tc, .int .i64 b.tn, .bool b.on] 42) := by rw [← hW0]; exact alloc_last _ _ _ (by simp)
  have hB0 : Below w.heap.size w W0 := by rw [← hW0]; exact ((Below.refl w.heap.size w).alloc (Nat.le_refl _) _).alloc (by simp) _
  have alt : w.heap.size < W0.heap.size := (Array.getElem?_eq_some_iff.1 aX).1
  have blt : w.heap.size + 1 < W0.heap.size := (Array.getElem?_eq_some_iff.1 bX).1
  obtain ⟨ak0, ak1, ak2, ak3, ak4, ak5, ak6, ak7, ak8⟩ := box9 aX
  obtain ⟨bk0, bk1, bk2, bk3, bk4, bk5, bk6, bk7, bk8⟩ := box9 bX
  go_enter Tryd.func47, Tryd.ntmps47
  go_wp2_with fail
  go_loopw [7, 8] (fun vi vq W => ∃ i : Nat, vi = .int .i64 (i : Int) ∧ i ≤ bm ∧ Hid (Clear R (a.c, a.n) b.l i) ∧ Below W0.heap.size W0 W) (fun vi _ _ => bm - (RowKit.intOf vi).toNat)
  case atStart => exact ⟨0, rfl, Nat.zero_le _, clear_zero _ _ _, Below.refl _ _⟩
  case round =>
    obtain ⟨i, rfl, hib, HC, hb⟩ := hrel
    have hbw := hB0.trans (hb.mono hB0.size)
    have aX1 := (hb.block _ alt).trans aX
    have bX1 := (hb.block _ blt).trans bX
    clear ak0 ak1 ak2 ak3 ak4 ak5 ak6 ak7 ak8 bk0 bk1 bk2 bk3 bk4 bk5 bk6 bk7 bk8
    obtain ⟨ak0, ak1, ak2, ak3, ak4, ak5, ak6, ak7, ak8⟩ := box9 aX1
    obtain ⟨bk0, bk1, bk2, bk3, bk4, bk5, bk6, bk7, bk8⟩ := box9 bX1
    by_cases hi : i < bm
    · obtain ⟨g, off, rfl, hg, p0, p1⟩ := (HB.out.below hbw).cells i hi
      have hm : b.l.getD i (0, 0) ∈ b.l := by rw [List.getD_eq_getElem?_getD, List.getElem?_eq_getElem (by omega)]; exact List.getElem_mem _
      obtain ⟨v1, v2, v3⟩ := HIN.out _ hm
      have HLI : Hid (∀ q : Nat, (b.l.getD i (0, 0)).1 ≤ (q : Int) → (q : Int) < (b.l.getD i (0, 0)).2 → Sp.Lies b.l (q : Int)) := fun q h1 h2 => ⟨_, hm, h1, h2⟩
      have HCS : Hid ((∀ q : Nat, (b.l.getD i (0, 0)).1 ≤ (q : Int) → (q : Int) < (b.l.getD i (0, 0)).2 → ∀ c, R[q]? = some c → c.1 ≠ (a.c, a.n)) → Clear R (a.c, a.n) b.l (i + 1)) := fun h k hk q c h1 h2 hc => by
        by_cases hki : k = i
        · subst hki; exact h q h1 h2 c hc
        · exact HC.out k (by omega) q c h1 h2 hc
      obtain ⟨lo, hlo⟩ : ∃ k : Nat, (b.l.getD i (0, 0)).1 = (k : Int) := ⟨(b.l.getD i (0, 0)).1.toNat, by omega⟩
      obtain ⟨hi', hhi⟩ : ∃ k : Nat, (b.l.getD i (0, 0)).2 = (k : Int) := ⟨(b.l.getD i (0, 0)).2.toNat, by omega⟩
      rw [hlo, hhi] at HLI HCS v2
      rw [hlo] at v1 p0
      rw [hhi] at v3 p1
      have HP : Hid (∀ W, Below W0.heap.size W0 W → W.cell? ⟨g, off + i * 2 + 1, none⟩ = some (.int .i64 (hi' : Int))) := fun W hW => by
        obtain ⟨g', off', e', hg', _, q1⟩ := (HB.out.below (hB0.trans (hW.mono hB0.size))).cells i hi
        cases e'
        rw [hhi] at q1
        exact q1
      have b1 : (i : Int) < (bm : Int) := by omega
      have b0 : (0 : Int) ≤ (i : Int) := by omega
      clear hm
      go_wp2_with fail
      go_loopw [8] (fun vq W => ∃ q : Nat, vq = .int .i64 (q : Int) ∧ lo ≤ q ∧ q ≤ hi' ∧ Hid (∀ k : Nat, lo ≤ k → k < q → ∀ c, R[k]? = some c → c.1 ≠ (a.c, a.n)) ∧ Below W0.heap.size W0 W) (fun vq _ => hi' - (RowKit.intOf vq).toNat)
      case atStart => exact ⟨lo, rfl, Nat.le_refl _, by omega, (fun k h1 h2 => absurd h2 (by omega)), hb⟩
      case round =>
        obtain ⟨q, rfl, hq1, hq2, HQ, hbq⟩ := hrel
        have hbw2 := hB0.trans (hbq.mono hB0.size)
        have aX2 := (hbq.block _ alt).trans aX
        have bX2 := (hbq.block _ blt).trans bX
        clear ak0 ak1 ak2 ak3 ak4 ak5 ak6 ak7 ak8 bk0 bk1 bk2 bk3 bk4 bk5 bk6 bk7 bk8 p0 p1
        obtain ⟨ak0, ak1, ak2, ak3, ak4, ak5, ak6, ak7, ak8⟩ := box9 aX2
        obtain ⟨bk0, bk1, bk2, bk3, bk4, bk5, bk6, bk7, bk8⟩ := box9 bX2
        have p1 := HP.out _ hbq
        by_cases hq : q < hi'
        · obtain ⟨g2, off2, c, rfl, hg2, hc, hcl⟩ := (HR.out.below hbw2).at q (by omega)
          have c0 := hcl 0 _ rfl
          have c1 := hcl 1 _ rfl
          simp only [Nat.add_zero] at c0
          have e1 : (q : Int) < (hi' : Int) := by omega
          have e2 : (q : Int) < (lm : Int) := by omega
          have e0 : (0 : Int) ≤ (q : Int) := by omega
          have eq1 : ∀ W, (Op.equalIn 10000 36 (.agg #[.int .i64 c.1.1, .int .i64 c.1.2]) (.agg #[.int .i64 a.c, .int .i64 a.n])).run Tryd.prog W = .ok (c.1.1 == a.c && c.1.2 == a.n) W := fun W => run_eqID W _ _ _ _
          obtain ⟨z, hz⟩ : ∃ z, (c.1.1 == a.c && c.1.2 == a.n) = z := ⟨_, rfl⟩
          simp only [hz] at eq1
          cases z with
          | true =>
            have hrt : r = true := HRR.out.2 ⟨q, c, HLI.out q (by omega) (by omega), hc, by simp at hz; exact Prod.ext hz.1 hz.2⟩
            subst hrt
            clear hz hcl hc
            go_wp2_with fail
            go_quiet (fail)
            go_wp2_with fail
            go_ret
            exact ⟨rfl, below_drewN hbw2 _⟩
          | false =>
            have HQ2 : Hid (∀ k : Nat, lo ≤ k → k < q + 1 → ∀ c, R[k]? = some c → c.1 ≠ (a.c, a.n)) := fun k h1 h2 c' hc' => by
              by_cases hk : k = q
              · subst hk
                rw [hc] at hc'
                cases hc'
                intro h
                rw [h] at hz
                simp at hz
              · exact HQ.out k h1 (by omega) c' hc'
            clear hz hcl hc
            go_wp2_with fail
            go_quiet (fail)
            go_wp2_with fail
            go_roundw
            case rel => exact ⟨q + 1, by go_num, by omega, by omega, HQ2, below_drewN hbq _⟩
            case measure => simp [RowKit.intOf]; omega
        · have hqe : hi' = q := by omega
          subst hqe
          have HC2 : Hid (Clear R (a.c, a.n) b.l (i + 1)) := HCS.out (fun q h1 h2 => HQ.out q (by omega) (by omega))
          have e1 : decide ((hi' : Int) < (hi' : Int)) = false := decide_eq_false (by omega)
          go_wp2_with fail
          go_roundw
          case rel => exact ⟨i + 1, by go_num, by omega, HC2, hbq⟩
          case measure => simp [RowKit.intOf]; omega
    · have hie : bm = i := by omega
      subst hie
      have hrf : r = false := by
        cases r with
        | false => rfl
        | true =>
          obtain ⟨q, c, ⟨x, hx, h1, h2⟩, hc, hid⟩ := HRR.out.1 rfl
          obtain ⟨k, hk⟩ := List.getElem?_of_mem hx
          have hkl := (List.getElem?_eq_some_iff.1 hk).1
          have hg : b.l.getD k (0, 0) = x := by rw [List.getD_eq_getElem?_getD, hk]; rfl
          exact absurd hid (HC.out k (by omega) q c (by rw [hg]; exact h1) (by rw [hg]; exact h2) hc)
      subst hrf
      have e1 : decide ((bm : Int) < (bm : Int)) = false := decide_eq_false (by omega)
      go_wp2_with fail
      go_ret
      exact ⟨rfl, hbw⟩
end Go.Proofs.YtlebbffpbbjakaaDoor

namespace Go.Proofs.YtlebbffpbbjakaaDoor
open Go.RowKit Go.Lib
set_option maxRecDepth 100000

/-! Whose cells are whose behind an insert. -/
theorem ids_ins {R : List CellW} (h0 : ∀ x ∈ R, x.1 = (0, 0)) {c n : Int} {p w : Nat} (hp : p ≤ R.length) (hc : 1 ≤ c) (j : Nat) (x : CellW) (hx : (insL R p (newL c n w))[j]? = some x) : x.1 = (c, n) ↔ p ≤ j ∧ j < p + w := by
  rw [insL_pt _ _ _ hp, newL_length] at hx
  have no : ∀ y : CellW, y ∈ R → y.1 ≠ (c, n) := fun y hy e => by
    rw [h0 y hy] at e
    have := congrArg Prod.fst e
    simp only at this
    omega
  by_cases h1 : j < p
  · rw [if_pos h1] at hx
    exact ⟨fun e => absurd e (no x (List.mem_of_getElem? hx)), fun e => by omega⟩
  · rw [if_neg h1] at hx
    by_cases h2 : j < p + w
    · rw [if_pos h2] at hx
      unfold newL at hx
      rw [List.getElem?_map, List.getElem?_range (by omega)] at hx
      simp only [Option.map_some, Option.some.injEq] at hx
      subst hx
      exact ⟨fun _ => ⟨by omega, h2⟩, fun _ => rfl⟩
    · rw [if_neg h2] at hx
      exact ⟨fun e => absurd e (no x (List.mem_of_getElem? hx)), fun e => by omega⟩
theorem leans_all {a b : OpV} {aa : Option Addr} {am ac : Nat} {ba : Option Addr} {bm bc : Nat} {la : Option Addr} {lm lc : Nat} {R : List CellW} {w : World} {t : Nat} (hRt : R.length = t) (h0 : ∀ x ∈ R, x.1 = (0, 0)) (hR : Rw cellW 4 w la lm lc (doesV R a)) (rb : Sp.Rng w ba bm bc b.l) (ht : t ≤ 700) (ga : GoodO t a) (gb : GoodO (t + wdL a) b) :
    Calls Tryd.prog 47 #[.slice la lm lc, opVal a (.slice aa am ac), opVal b (.slice ba bm bc)] w fun e w' => e = .returned (.bool (leanP a b)) ∧ Below w.heap.size w w' := by
  by_cases hk : a.k = 1
  · have hc1 := ga.pos
    rcases ga.made.kind with ⟨p, i, hp, hi, ea⟩ | ⟨k, on, _, ea⟩ | ⟨k, l, hk2, _, ea, _⟩
    · have hdo : doesV R a = insL R p (newL a.c a.n (i + 1)) := by rw [ea]; exact does_insV' R _ _ p i hi
      have hwa : wdL a = i + 1 := by rw [ea]; exact insV_wdL _ _ _ _ hi
      have hpa : a.p = (p : Int) := by rw [ea]; rfl
      have hwp : widthP a = ((i + 1 : Nat) : Int) := by rw [ea]; exact insV_width _ _ _ _ hi
      have hlen : (doesV R a).length = t + (i + 1) := by rw [hdo, insL_length _ _ _ (by omega), newL_length, hRt]
      have hid : ∀ j x, (doesV R a)[j]? = some x → (x.1 = (a.c, a.n) ↔ p ≤ j ∧ j < p + (i + 1)) := fun j x hx => by
        rw [hdo] at hx
        exact ids_ins h0 (by omega) hc1 j x hx
      rw [hwa] at gb
      have hll := hR.len
      by_cases hkb : b.k = 1
      · rcases gb.made.kind with ⟨q, j, hq, hj, eb⟩ | ⟨k, on, _, eb⟩ | ⟨k, l, hk2, _, eb, _⟩
        · have hqb : b.p = (q : Int) := by rw [eb]; rfl
          refine leans_ins hR hk hkb hqb ?_
          unfold leanP
          rw [hk, hkb, hpa, hqb, hwp]
          simp only [decide_true, if_true, Bool.true_and, decide_eq_true_iff]
          constructor
          · intro h
            have hq1 : q < (doesV R a).length := by omega
            refine ⟨by omega, hq1, (doesV R a)[q - 1], (doesV R a)[q], List.getElem?_eq_getElem (by omega), List.getElem?_eq_getElem hq1, ?_, ?_⟩
            · exact (hid (q - 1) _ (List.getElem?_eq_getElem (by omega))).2 ⟨by omega, by omega⟩
            · exact (hid q _ (List.getElem?_eq_getElem hq1)).2 ⟨by omega, by omega⟩
          · rintro ⟨h1, h2, c, d, hc, hd, e1, e2⟩
            have := (hid _ _ hc).1 e1
            have := (hid _ _ hd).1 e2
            omega
        · rw [eb] at hkb; simp at hkb
        · rw [eb] at hkb; simp only at hkb; omega
      · have hlst : ∀ r ∈ b.l, 0 ≤ r.1 ∧ r.1 < r.2 ∧ r.2 ≤ (lm : Int) := by
          rcases gb.made.kind with ⟨q, j, hq, hj, eb⟩ | ⟨k, on, _, eb⟩ | ⟨k, l, hk2, _, eb, hne, hN, hT, hL⟩
          · rw [eb] at hkb; exact absurd rfl hkb
          · rw [eb]; intro r hr; cases hr
          · rw [eb]
            intro r hr
            have := Sp.norm_lt hN r hr
            have := hT r hr
            simp only at *
            omega
        refine leans_rng hR rb hk hkb hlst ?_
        unfold leanP
        rw [hk, if_neg hkb, hpa, hwp]
        simp only [decide_true, Bool.true_and]
        rcases gb.made.kind with ⟨q, j, hq, hj, eb⟩ | ⟨k, on, _, eb⟩ | ⟨k, l, hk2, _, eb, hne, hN, hT, hL⟩
        · rw [eb] at hkb; exact absurd rfl hkb
        · rw [if_pos (by rw [eb])]
          constructor
          · intro h; exact absurd h (by decide)
          · rintro ⟨q, c, hl, _⟩
            rw [eb] at hl
            exact absurd hl (Sp.lies_nil _)
        · have hbl : b.l = l := by rw [eb]
          rw [if_neg (by rw [eb]; simp only; omega), hbl]
          have hl := made_lst (by omega) hN hT hL
          obtain ⟨n1, q1⟩ := Sp.backInL_all hl (at_ := (p : Int)) (n := ((i + 1 : Nat) : Int))
          constructor
          · intro h
            have hne2 : Sp.backInL l (p : Int) ((i + 1 : Nat) : Int) ≠ [] := fun e => by rw [e] at h; simp at h
            obtain ⟨r, hr⟩ := List.exists_mem_of_ne_nil _ hne2
            have h1 := Sp.norm_lt n1 r hr
            obtain ⟨h2, h3, h4⟩ := (q1 r.1).1 ⟨r, hr, Int.le_refl _, h1.2⟩
            have h5 : (r.1.toNat + p : Nat) < (doesV R a).length := by omega
            refine ⟨r.1.toNat + p, (doesV R a)[r.1.toNat + p], ?_, List.getElem?_eq_getElem h5, ?_⟩
            · rw [show ((r.1.toNat + p : Nat) : Int) = r.1 + (p : Int) by omega]; exact h2
            · exact (hid _ _ (List.getElem?_eq_getElem h5)).2 ⟨by omega, by omega⟩
          · rintro ⟨q, c, hq, hc, e1⟩
            have h1 := (hid _ _ hc).1 e1
            have h2 := (q1 ((q : Int) - p)).2 ⟨by rw [show (q : Int) - (p : Int) + (p : Int) = q by omega]; exact hq, by omega, by omega⟩
            cases e : Sp.backInL l (p : Int) ((i + 1 : Nat) : Int) with
            | nil => rw [e] at h2; exact absurd h2 (Sp.lies_nil _)
            | cons x y => rfl
    · rw [ea] at hk; simp at hk
    · rw [ea] at hk; simp only at hk; omega
  · have e : leanP a b = false := by unfold leanP; rw [decide_eq_false hk]; rfl
    rw [e]
    exact leans_no hk
end Go.Proofs.YtlebbffpbbjakaaDoor

namespace Go.Proofs.YtlebbffpbbjakaaDoor
open Go.RowKit Go.Lib
set_option maxRecDepth 100000

theorem trans_sum {t : Nat} {a b : OpV} (ht : t ≤ 700) (ha : GoodO t a) (hb : GoodO (t + wdL a) b) (h : Unlike a b) : ((transP a b).1.1.l.length ≤ 1000 ∧ (transP a b).1.2.l.length ≤ 1000) ∧ ((transP a b).1.1.s.size ≤ 8 ∧ (transP a b).1.2.s.size ≤ 8) := by
  obtain ⟨h1, h2, h3⟩ := trans_all ht ha hb h
  have e0 : op0.s.size = 0 := rfl
  have e1 : op0.l = [] := rfl
  cases hl : leanP a b with
  | true => rw [h1 hl]; simp only [e0, e1, List.length_nil]; omega
  | false =>
    cases hc : clashS a b with
    | true => rw [h2 hl hc]; simp only [e0, e1, List.length_nil]; omega
    | false =>
      obtain ⟨b1, a1, tr⟩ := h3 hl hc
      rw [tr.eq]
      have := made_few tr.gb
      have := made_few tr.ga
      have := tr.gb.wd
      simp only
      omega
theorem pair_ops {W : World} {g : Nat} {x y : OpM} (h : W.heap[g]? = some (.cells (opF x ++ opF y).toArray 42)) (hx : Rdy W x) (hy : Rdy W y) : Rw opF 9 W (some ⟨g, 0, none⟩) 2 2 [x, y] ∧ ∀ z ∈ [x, y], Rdy W z := ⟨two_ops h, fun z hz => by
  rcases List.mem_cons.1 hz with rfl | hz
  · exact hx
  · rw [List.mem_singleton] at hz; subst hz; exact hy⟩
/-- The region of turned that asks Transpose: what it leaves. -/
def TurnR1 (W0 wx : World) (b1 a1 : OpV) (g7 g8 : Nat) (va : Option Addr) (vm vc : Nat) (za : Option Addr) (zm zc : Nat) : Prop :=
  wx.heap[g7]? = some (Obj.cells #[.int .i64 b1.c, .int .i64 b1.n, .int .i64 b1.k, .int .i64 b1.p, .string b1.s, .slice va vm vc, .int .i64 b1.tc, .int .i64 b1.tn, .bool b1.on] 42) ∧ wx.heap[g8]? = some (Obj.cells #[.int .i64 a1.c, .int .i64 a1.n, .int .i64 a1.k, .int .i64 a1.p, .string a1.s, .slice za zm zc, .int .i64 a1.tc, .int .i64 a1.tn, .bool a1.on] 42) ∧ Sp.Rng wx va vm vc b1.l ∧ Sp.Rng wx za zm zc a1.l ∧ Below W0.heap.size W0 wx
set_option maxHeartbeats 16000000 in
theorem turned_any {a b : OpV} {aa : Option Addr} {am ac : Nat} {ba : Option Addr} {bm bc : Nat} {la : Option Addr} {lm lc : Nat} {R : List CellW} {w : World} {t : Nat} (hRt : R.length = t) (h0 : ∀ x ∈ R, x.1 = (0, 0)) (hS : Small 0 R) (hR : Rw cellW 4 w la lm lc R) (ra : Rdy w (a, (aa, am, ac))) (rb : Rdy w (b, (ba, bm, bc))) (hw : Bar w) (ht : t ≤ 100) (ga : GoodO t a) (gb : GoodO (t + wdL a) b) (hu : Unlike a b) :
    Calls Tryd.prog 23 #[.slice la lm lc, opVal a (.slice aa am ac), opVal b (.slice ba bm bc)] w fun e w' => e = .returned (.bool true) ∧ Below w.heap.size w w' := by
  have HG : Tryd.prog.eqGuardType Tryd.prog.depth 36 = false := by kernel_rfl
  have hll := hR.len
  have hwa := ga.wd
  have hsum := trans_sum (by omega) ga gb hu
  obtain ⟨tr1, tr2, tr3⟩ := trans_all (by omega) ga gb hu
  have HCa : Hid (∀ W, Below w.heap.size w W → Calls Tryd.prog 18 #[opVal a (.slice aa am ac)] W fun e w' => ∃ (xa : Option Addr) (xc : Nat), e = .returned (opVal a (.slice xa am xc)) ∧ OwnF rangeV 2 85 w' W.heap.size (.slice xa am xc) a.l ∧ Below W.heap.size W w') := fun W hb => (copy_any (ra.rng.below hb) (by have h1 := ra.rng.len; have h2 := ra.few; simp only at h1 h2 ⊢; omega)).mono fun e2 w5 ⟨a', cap', he, ho5, hb5⟩ => ⟨a', cap', he, ho5.mono (by first | exact Nat.le_refl _ | omega), hb5⟩
  have HCb : Hid (∀ W, Below w.heap.size w W → Calls Tryd.prog 18 #[opVal b (.slice ba bm bc)] W fun e w' => ∃ (xa : Option Addr) (xc : Nat), e = .returned (opVal b (.slice xa bm xc)) ∧ OwnF rangeV 2 85 w' W.heap.size (.slice xa bm xc) b.l ∧ Below W.heap.size W w') := fun W hb => (copy_any (rb.rng.below hb) (by have h1 := rb.rng.len; have h2 := rb.few; simp only at h1 h2 ⊢; omega)).mono fun e2 w5 ⟨a', cap', he, ho5, hb5⟩ => ⟨a', cap', he, ho5.mono (by first | exact Nat.le_refl _ | omega), hb5⟩
  have HT : Hid (∀ (W : World) (xa : Option Addr) (xc : Nat) (ya : Option Addr) (yc : Nat), Below w.heap.size w W → Sp.Rng W xa am xc a.l → Sp.Rng W ya bm yc b.l → Calls Tryd.prog 38 #[opVal a (.slice xa am xc), opVal b (.slice ya bm yc)] W fun e w' => ∃ va vm vc za zm zc, e = .returned (.tuple #[opVal (transP a b).1.1 (.slice va vm vc), opVal (transP a b).1.2 (.slice za zm zc), .int .i64 (transP a b).2]) ∧ OwnF rangeV 2 85 w' W.heap.size (.slice va vm vc) (transP a b).1.1.l ∧ OwnF rangeV 2 85 w' W.heap.size (.slice za zm zc) (transP a b).1.2.l ∧ Below W.heap.size W w') := fun W xa xc ya yc hb h1 h2 => by
    have := Transpose_any h1 h2 ra.size rb.size (hw.below hb)
    rw [show xTranspose a b = transP a b by unfold xTranspose; rw [if_neg (by simp [firstErr2 (ga.own (by omega)) (gb.own (by omega))])]] at this
    exact this
  have HD : Hid (∀ W, Below w.heap.size w W → Calls Tryd.prog 46 #[.slice la lm lc, opVal a (.slice aa am ac)] W fun e w' => ∃ xa xm xc, e = .returned (.tuple #[.slice xa xm xc, .bool true]) ∧ Rw cellW 4 w' xa xm xc (doesV R a) ∧ Below W.heap.size W w') := fun W hb => by
    refine (does_any (hR.below hb) (by omega) (ra.rng.below hb) (does_ok (by omega) (hS.le (by omega)) (by rw [hRt]; exact ga.made))).mono ?_
    rintro e w1 ⟨v, rfl, ho, hb1⟩
    obtain ⟨xa, xc, rfl⟩ := ho.shape
    exact ⟨_, _, _, rfl, ho.rw_ layW, hb1⟩
  have HL : Hid (∀ (W : World) (xa : Option Addr) (xm xc : Nat), Below w.heap.size w W → Rw cellW 4 W xa xm xc (doesV R a) → Calls Tryd.prog 47 #[.slice xa xm xc, opVal a (.slice aa am ac), opVal b (.slice ba bm bc)] W fun e w' => e = .returned (.bool (leanP a b)) ∧ Below W.heap.size W w') := fun W xa xm xc hb h1 => leans_all hRt h0 h1 (rb.rng.below hb) (by omega) ga gb
  have HN : Hid (∀ (x : Int) W, Calls Tryd.prog 11 #[.int .i64 x] W fun r w' => r = .returned (.int .i64 x) ∧ W = w') := fun x W => (num_any x W).mono fun e w' h => ⟨h.1, h.2.symm⟩
  have HT2 : Hid (leanP a b = false → clashS a b = false → (transP a b).2 = 0 ∧ ∀ (W : World) (xa : Option Addr) (xm xc : Nat) (ya : Option Addr) (ym yc : Nat), Below w.heap.size w W → Sp.Rng W xa xm xc (transP a b).1.1.l → Sp.Rng W ya ym yc (transP a b).1.2.l → Calls Tryd.prog 38 #[opVal (transP a b).1.1 (.slice xa xm xc), opVal (transP a b).1.2 (.slice ya ym yc)] W fun e w' => ∃ va vm vc za zm zc, e = .returned (.tuple #[opVal a (.slice va vm vc), opVal b (.slice za zm zc), .int .i64 0]) ∧ OwnF rangeV 2 85 w' W.heap.size (.slice va vm vc) a.l ∧ OwnF rangeV 2 85 w' W.heap.size (.slice za zm zc) b.l ∧ Below W.heap.size W w') := fun hl hc => by
    obtain ⟨b1, a1, tr⟩ := tr3 hl hc
    rw [tr.eq]
    refine ⟨rfl, fun W xa xm xc ya ym yc hb h1 h2 => ?_⟩
    have hw1 := tr.gb.wd
    have := Transpose_any (o := b1) (o2 := a1) h1 h2 (by have := made_few tr.gb; omega) (by have := made_few tr.ga; omega) (hw.below hb)
    rw [show xTranspose b1 a1 = ((a, b), 0) by unfold xTranspose; rw [if_neg (by simp [firstErr2 (tr.gb.own (by omega)) (tr.ga.own (by omega))])]; exact tr.back] at this
    exact this
  have HSR : Hid (leanP a b = false → clashS a b = false → ∀ (W : World) (g h : Nat) (xa : Option Addr) (xm xc : Nat) (ya : Option Addr) (ym yc : Nat), Below w.heap.size w W → Sp.Rng W xa xm xc (transP a b).1.1.l → Sp.Rng W ya ym yc (transP a b).1.2.l → W.heap[g]? = some (Obj.cells #[.int .i64 a.c, .int .i64 a.n, .int .i64 a.k, .int .i64 a.p, .string a.s, .slice aa am ac, .int .i64 a.tc, .int .i64 a.tn, .bool a.on, .int .i64 b.c, .int .i64 b.n, .int .i64 b.k, .int .i64 b.p, .string b.s, .slice ba bm bc, .int .i64 b.tc, .int .i64 b.tn, .bool b.on] 42) → W.heap[h]? = some (.cells (opF ((transP a b).1.1, (xa, xm, xc)) ++ opF ((transP a b).1.2, (ya, ym, yc))).toArray 42) → Calls Tryd.prog 13 #[.slice la lm lc, .slice (some ⟨g, 0, none⟩) 2 2, .slice (some ⟨h, 0, none⟩) 2 2] W fun e w' => e = .returned (.bool true) ∧ Below W.heap.size W w') := fun hl hc W g h xa xm xc ya ym yc hb h1 h2 hg hh => by
    obtain ⟨b1, a1, tr⟩ := tr3 hl hc
    rw [tr.eq] at h1 h2 hh
    simp only at h1 h2 hh
    have hw1 := tr.gb.wd
    obtain ⟨p1, p2⟩ := pair_ops (x := (a, (aa, am, ac))) (y := (b, (ba, bm, bc))) hg (ra.below hb) (rb.below hb)
    obtain ⟨q1, q2⟩ := pair_ops hh (⟨h1, by have := made_few tr.gb; simp only; omega, by have := made_few tr.gb; simp only; omega⟩) (⟨h2, by have := made_few tr.ga; simp only; omega, by have := made_few tr.ga; simp only; omega⟩)
    have hRl : RunG R.length [a, b] := by rw [hRt]; exact And.intro ga (And.intro gb trivial)
    have hRr : RunG R.length [b1, a1] := by rw [hRt]; exact And.intro tr.gb (And.intro tr.ga trivial)
    exact sameRows_any (hR.below hb) p1 p2 q1 q2 (fold_okG [a, b] R 0 hRl (by omega) hS (by simp; omega) (by simp)) (fold_okG [b1, a1] R 0 hRr (by omega) hS (by simp; omega) (by simp)) (tr.fold R hRt)
  have HS1 : Hid (∀ (W : World) (xa : Option Addr) (xm xc : Nat), Below w.heap.size w W → Sp.Rng W xa xm xc a.l → Calls Tryd.prog 19 #[opVal a (.slice xa xm xc), opVal a (.slice aa am ac)] W fun e w' => e = .returned (.bool true) ∧ Below W.heap.size W w') := fun W xa xm xc hb h1 => sameOp_true h1 (ra.rng.below hb)
  have HS2 : Hid (∀ (W : World) (xa : Option Addr) (xm xc : Nat), Below w.heap.size w W → Sp.Rng W xa xm xc b.l → Calls Tryd.prog 19 #[opVal b (.slice xa xm xc), opVal b (.slice ba bm bc)] W fun e w' => e = .returned (.bool true) ∧ Below W.heap.size W w') := fun W xa xm xc hb h1 => sameOp_true h1 (rb.rng.below hb)
  have HZ1 : Hid (leanP a b = true → (transP a b).2 = 23) := fun h => by rw [tr1 h]
  have HZ2 : Hid (leanP a b = false → clashS a b = true → (transP a b).2 = 50) := fun h h' => by rw [tr2 h h']
  generalize transP a b = tq at *
  obtain ⟨⟨b1, a1⟩, z⟩ := tq
  simp only at HT HT2 HSR HZ1 HZ2
  clear tr1 tr2 tr3 hRt h0 hS hR ra rb hw ga gb hu hsum
  simp only [opVal, opF, List.cons_append, List.nil_append] at *
  obtain ⟨W0, hW0⟩ : ∃ W0, (w.alloc (Obj.cells #[.int .i64 a.c, .int .i64 a.n, .int .i64 a.k, .int .i64 a.p, .string a.s, .slice aa am ac, .int .i64 a.tc, .int .i64 a.tn, .bool a.on] 42)).alloc (Obj.cells #[.int .i64 b.c, .int .i64 b.n, .int .i64 b.k, .int .i64 b.p, .string b.s, .slice ba bm bc, .int .i64 b.tc, .int .i64 b.tn, .bool b.on] 42) = W0 := ⟨_, rfl⟩
  have aX : W0.heap[w.heap.size]? = some (Obj.cells #[.int .i64 a.c, .int .i64 a.n, .int .i64 a.k, .int .i64 a.p, .string a.s, .slice aa am ac, .int .i64 a.tc, .int .i64 a.tn, .bool a.on] 42) := by rw [← hW0]; exact (Below.heap_alloc _ _ _ (by simp)).trans (alloc_last _ _ _ rfl)
  have bX : W0.heap[w.heap.size + 1]? = some (Obj.cells #[.int .i64 b.c, .int .i64 b.n, .int .i64 b.k, .int .i64 b.p, .string b.s, .slice ba bm bc, .int .i64 b.tc, .int .i64 b.tn, .bool b.on] 42) := by rw [← hW0]; exact alloc_last _ _ _ (by simp)
  have hB0 : Below w.heap.size w W0 := by rw [← hW0]; exact ((Below.refl w.heap.size w).alloc (Nat.le_refl _) _).alloc (by simp) _
  have alt : w.heap.size < W0.heap.size := (Array.getElem?_eq_some_iff.1 aX).1
  have blt : w.heap.size + 1 < W0.heap.size := (Array.getElem?_eq_some_iff.1 bX).1
  obtain ⟨ak0, ak1, ak2, ak3, ak4, ak5, ak6, ak7, ak8⟩ := box9 aX
  obtain ⟨bk0, bk1, bk2, bk3, bk4, bk5, bk6, bk7, bk8⟩ := box9 bX
  go_enter Tryd.func23, Tryd.ntmps23
  go_wp2_with fail
  go_cut [7, 8, 9] (fun v7 v8 v9 wx => ∃ (g7 g8 : Nat) (va : Option Addr) (vm vc : Nat) (za : Option Addr) (zm zc : Nat), v7 = .pointer (some ⟨g7, 0, none⟩) ∧ v8 = .pointer (some ⟨g8, 0, none⟩) ∧ v9 = .int .i64 z ∧ TurnR1 W0 wx b1 a1 g7 g8 va vm vc za zm zc)
  case first =>
    clear HD HL HN HT2 HSR HS1 HS2 HZ1 HZ2 hll hwa ht hW0 HG ak0 ak1 ak2 ak3 ak4 ak5 ak6 ak7 ak8 bk0 bk1 bk2 bk3 bk4 bk5 bk6 bk7 bk8
    obtain ⟨ak0, ak1, ak2, ak3, ak4, ak5, ak6, ak7, ak8⟩ := box9 aX
    obtain ⟨bk0, bk1, bk2, bk3, bk4, bk5, bk6, bk7, bk8⟩ := box9 bX
    clear aX bX
    have hcur : Below W0.heap.size W0 W0 := Below.refl _ _
    go_region_held3 (fun W => ∀ p : Addr, p.block < W0.heap.size → W.cell? p = W0.cell? p) ((intro p hp; refine Below.cell (B := W0.heap.size) ?_ hp; (repeat (first | with_reducible exact hcur | with_reducible exact hcA | with_reducible exact B17 | with_reducible exact B18 | with_reducible exact B27 | with_reducible exact B28 | with_reducible exact Bzy | with_reducible exact Byz | with_reducible exact Bz7 | with_reducible exact By7 | (with_reducible refine Below.drew ?_) | (with_reducible refine Below.alloc ?_ ?_ _) | (with_reducible refine Below.setCell ?_ ?_ _) | exact hzl | exact hyl | exact hcur.size | (have hq := hcur.size; simp; done) | (have hq := hcur.size; simp; omega)))))
      (first
        | ((fail_if_success have hguard := hs01); go_at_call 18; refine (HCa.out _ ?_).mono ?_; (first | exact hB0 | exact hB0.drew | exact (hB0.alloc hB0.size _) | exact (hB0.alloc hB0.size _).drew | exact ((hB0.alloc hB0.size _).alloc (by have := hB0.size; simp; omega) _) | exact ((hB0.alloc hB0.size _).alloc (by have := hB0.size; simp; omega) _).drew); rintro e2 w1 ⟨xa, xc, rfl, hx1, hb1⟩; (have hs01 : Below W0.heap.size W0 w1 := (by first | exact hb1 | exact (Below.refl W0.heap.size W0).drew.trans hb1 | exact ((Below.refl W0.heap.size W0).alloc (Nat.le_refl _) _).trans (hb1.mono ((Below.refl W0.heap.size W0).alloc (Nat.le_refl _) _).size) | exact ((Below.refl W0.heap.size W0).alloc (Nat.le_refl _) _).drew.trans (hb1.mono ((Below.refl W0.heap.size W0).alloc (Nat.le_refl _) _).size) | exact (((Below.refl W0.heap.size W0).alloc (Nat.le_refl _) _).alloc (by simp) _).trans (hb1.mono (((Below.refl W0.heap.size W0).alloc (Nat.le_refl _) _).alloc (by simp) _).size) | exact (((Below.refl W0.heap.size W0).alloc (Nat.le_refl _) _).alloc (by simp) _).drew.trans (hb1.mono (((Below.refl W0.heap.size W0).alloc (Nat.le_refl _) _).alloc (by simp) _).size))); (first | ((have hz : w1.heap[W0.heap.size]? = some (Obj.cells #[.int .i64 0, .int .i64 0, .int .i64 0, .int .i64 0, .string ⟨#[]⟩, .slice none 0 0, .int .i64 0, .int .i64 0, .bool false] 42) := (hb1.block _ (by simp; omega)).trans ((Below.heap_alloc _ _ _ (by simp)).trans (alloc_last _ _ _ rfl))); (have hy : w1.heap[W0.heap.size + 1]? = some (Obj.cells #[.int .i64 0, .int .i64 0, .int .i64 0, .int .i64 0, .string ⟨#[]⟩, .slice none 0 0, .int .i64 0, .int .i64 0, .bool false] 42) := (hb1.block _ (by simp)).trans (alloc_last _ _ _ (by simp))); (have hne : W0.heap.size ≠ W0.heap.size + 1 := Nat.ne_of_lt (Nat.lt_succ_self _)); (have hzl : W0.heap.size ≤ W0.heap.size := Nat.le_refl _); (have hyl : W0.heap.size ≤ W0.heap.size + 1 := Nat.le_succ_of_le hzl)) | (have hguard := hz; clear hguard; (have hy : w1.heap[W0.heap.size]? = some (Obj.cells #[.int .i64 0, .int .i64 0, .int .i64 0, .int .i64 0, .string ⟨#[]⟩, .slice none 0 0, .int .i64 0, .int .i64 0, .bool false] 42) := (hb1.block _ (by simp)).trans (alloc_last _ _ _ rfl)); (have hyl : W0.heap.size ≤ W0.heap.size := Nat.le_refl _); (have hne := Nat.ne_of_lt ltz)) | ((fail_if_success have hguard := hz); (have hz : w1.heap[W0.heap.size]? = some (Obj.cells #[.int .i64 0, .int .i64 0, .int .i64 0, .int .i64 0, .string ⟨#[]⟩, .slice none 0 0, .int .i64 0, .int .i64 0, .bool false] 42) := (hb1.block _ (by simp)).trans (alloc_last _ _ _ rfl)); (have hzl : W0.heap.size ≤ W0.heap.size := Nat.le_refl _)) | skip); (try clear ltz); (have rx := rng_of_rw (hx1.rw_ layG)); (have hcur : Below W0.heap.size W0 w1 := hs01); (have hBc : Below w.heap.size w w1 := hB0.trans (hcur.mono hB0.size)); clear hb1 hx1)
        | (have hguard := hs01; clear hguard; (fail_if_success have hguard := hs12); go_at_call 18; refine (HCb.out _ ?_).mono ?_; (first | exact hBc | exact hBc.drew | exact (hBc.alloc hBc.size _) | exact (hBc.alloc hBc.size _).drew | exact ((hBc.alloc hBc.size _).alloc (by have := hBc.size; simp; omega) _) | exact ((hBc.alloc hBc.size _).alloc (by have := hBc.size; simp; omega) _).drew); rintro e2 w2 ⟨ya, yc, rfl, hy2, hb2⟩; (have hs12 : Below w1.heap.size w1 w2 := (by first | exact hb2 | exact (Below.refl w1.heap.size w1).drew.trans hb2 | exact ((Below.refl w1.heap.size w1).alloc (Nat.le_refl _) _).trans (hb2.mono ((Below.refl w1.heap.size w1).alloc (Nat.le_refl _) _).size) | exact ((Below.refl w1.heap.size w1).alloc (Nat.le_refl _) _).drew.trans (hb2.mono ((Below.refl w1.heap.size w1).alloc (Nat.le_refl _) _).size) | exact (((Below.refl w1.heap.size w1).alloc (Nat.le_refl _) _).alloc (by simp) _).trans (hb2.mono (((Below.refl w1.heap.size w1).alloc (Nat.le_refl _) _).alloc (by simp) _).size) | exact (((Below.refl w1.heap.size w1).alloc (Nat.le_refl _) _).alloc (by simp) _).drew.trans (hb2.mono (((Below.refl w1.heap.size w1).alloc (Nat.le_refl _) _).alloc (by simp) _).size))); (try have ltz := (Array.getElem?_eq_some_iff.1 hz).1); (try (have hzq := (hs12.block _ (Array.getElem?_eq_some_iff.1 hz).1).trans hz; clear hz; have hz := hzq; clear hzq)); (try (have hyq := (hs12.block _ (Array.getElem?_eq_some_iff.1 hy).1).trans hy; clear hy; have hy := hyq; clear hyq)); (first | ((have hz : w2.heap[w1.heap.size]? = some (Obj.cells #[.int .i64 0, .int .i64 0, .int .i64 0, .int .i64 0, .string ⟨#[]⟩, .slice none 0 0, .int .i64 0, .int .i64 0, .bool false] 42) := (hb2.block _ (by simp; omega)).trans ((Below.heap_alloc _ _ _ (by simp)).trans (alloc_last _ _ _ rfl))); (have hy : w2.heap[w1.heap.size + 1]? = some (Obj.cells #[.int .i64 0, .int .i64 0, .int .i64 0, .int .i64 0, .string ⟨#[]⟩, .slice none 0 0, .int .i64 0, .int .i64 0, .bool false] 42) := (hb2.block _ (by simp)).trans (alloc_last _ _ _ (by simp))); (have hne : w1.heap.size ≠ w1.heap.size + 1 := Nat.ne_of_lt (Nat.lt_succ_self _)); (have hzl : W0.heap.size ≤ w1.heap.size := hs01.size); (have hyl : W0.heap.size ≤ w1.heap.size + 1 := Nat.le_succ_of_le hzl)) | (have hguard := hz; clear hguard; (have hy : w2.heap[w1.heap.size]? = some (Obj.cells #[.int .i64 0, .int .i64 0, .int .i64 0, .int .i64 0, .string ⟨#[]⟩, .slice none 0 0, .int .i64 0, .int .i64 0, .bool false] 42) := (hb2.block _ (by simp)).trans (alloc_last _ _ _ rfl)); (have hyl : W0.heap.size ≤ w1.heap.size := hs01.size); (have hne := Nat.ne_of_lt ltz)) | ((fail_if_success have hguard := hz); (have hz : w2.heap[w1.heap.size]? = some (Obj.cells #[.int .i64 0, .int .i64 0, .int .i64 0, .int .i64 0, .string ⟨#[]⟩, .slice none 0 0, .int .i64 0, .int .i64 0, .bool false] 42) := (hb2.block _ (by simp)).trans (alloc_last _ _ _ rfl)); (have hzl : W0.heap.size ≤ w1.heap.size := hs01.size)) | skip); (try clear ltz); (have rx2 := rx.below hs12); (have ry := rng_of_rw (hy2.rw_ layG)); (have hcur : Below W0.heap.size W0 w2 := hs01.trans (hs12.mono hs01.size)); (have hBd : Below w.heap.size w w2 := hB0.trans (hcur.mono hB0.size)); clear hb2 hy2)
        | (go_at_call 38; refine (HT.out _ xa xc ya yc ?_ ?_ ?_).mono ?_; (first | exact hBd | exact hBd.drew | exact (hBd.alloc hBd.size _) | exact (hBd.alloc hBd.size _).drew | exact ((hBd.alloc hBd.size _).alloc (by have := hBd.size; simp; omega) _) | exact ((hBd.alloc hBd.size _).alloc (by have := hBd.size; simp; omega) _).drew); (first | exact rx2 | exact rx2.below (Below.refl w2.heap.size w2).drew | exact rx2.below ((Below.refl w2.heap.size w2).alloc (Nat.le_refl _) _) | exact rx2.below ((Below.refl w2.heap.size w2).alloc (Nat.le_refl _) _).drew | exact rx2.below (((Below.refl w2.heap.size w2).alloc (Nat.le_refl _) _).alloc (by simp) _) | exact rx2.below (((Below.refl w2.heap.size w2).alloc (Nat.le_refl _) _).alloc (by simp) _).drew); (first | exact ry | exact ry.below (Below.refl w2.heap.size w2).drew | exact ry.below ((Below.refl w2.heap.size w2).alloc (Nat.le_refl _) _) | exact ry.below ((Below.refl w2.heap.size w2).alloc (Nat.le_refl _) _).drew | exact ry.below (((Below.refl w2.heap.size w2).alloc (Nat.le_refl _) _).alloc (by simp) _) | exact ry.below (((Below.refl w2.heap.size w2).alloc (Nat.le_refl _) _).alloc (by simp) _).drew); rintro e3 w3 ⟨va, vm, vc, za, zm, zc, rfl, hv3, hz3, hb3⟩; (have hs23 : Below w2.heap.size w2 w3 := (by first | exact hb3 | exact (Below.refl w2.heap.size w2).drew.trans hb3 | exact ((Below.refl w2.heap.size w2).alloc (Nat.le_refl _) _).trans (hb3.mono ((Below.refl w2.heap.size w2).alloc (Nat.le_refl _) _).size) | exact ((Below.refl w2.heap.size w2).alloc (Nat.le_refl _) _).drew.trans (hb3.mono ((Below.refl w2.heap.size w2).alloc (Nat.le_refl _) _).size) | exact (((Below.refl w2.heap.size w2).alloc (Nat.le_refl _) _).alloc (by simp) _).trans (hb3.mono (((Below.refl w2.heap.size w2).alloc (Nat.le_refl _) _).alloc (by simp) _).size) | exact (((Below.refl w2.heap.size w2).alloc (Nat.le_refl _) _).alloc (by simp) _).drew.trans (hb3.mono (((Below.refl w2.heap.size w2).alloc (Nat.le_refl _) _).alloc (by simp) _).size))); (try have ltz := (Array.getElem?_eq_some_iff.1 hz).1); (try (have hzq := (hs23.block _ (Array.getElem?_eq_some_iff.1 hz).1).trans hz; clear hz; have hz := hzq; clear hzq)); (try (have hyq := (hs23.block _ (Array.getElem?_eq_some_iff.1 hy).1).trans hy; clear hy; have hy := hyq; clear hyq)); (first | ((have hz : w3.heap[w2.heap.size]? = some (Obj.cells #[.int .i64 0, .int .i64 0, .int .i64 0, .int .i64 0, .string ⟨#[]⟩, .slice none 0 0, .int .i64 0, .int .i64 0, .bool false] 42) := (hb3.block _ (by simp; omega)).trans ((Below.heap_alloc _ _ _ (by simp)).trans (alloc_last _ _ _ rfl))); (have hy : w3.heap[w2.heap.size + 1]? = some (Obj.cells #[.int .i64 0, .int .i64 0, .int .i64 0, .int .i64 0, .string ⟨#[]⟩, .slice none 0 0, .int .i64 0, .int .i64 0, .bool false] 42) := (hb3.block _ (by simp)).trans (alloc_last _ _ _ (by simp))); (have hne : w2.heap.size ≠ w2.heap.size + 1 := Nat.ne_of_lt (Nat.lt_succ_self _)); (have hzl : W0.heap.size ≤ w2.heap.size := (hs01.trans (hs12.mono hs01.size)).size); (have hyl : W0.heap.size ≤ w2.heap.size + 1 := Nat.le_succ_of_le hzl)) | (have hguard := hz; clear hguard; (have hy : w3.heap[w2.heap.size]? = some (Obj.cells #[.int .i64 0, .int .i64 0, .int .i64 0, .int .i64 0, .string ⟨#[]⟩, .slice none 0 0, .int .i64 0, .int .i64 0, .bool false] 42) := (hb3.block _ (by simp)).trans (alloc_last _ _ _ rfl)); (have hyl : W0.heap.size ≤ w2.heap.size := (hs01.trans (hs12.mono hs01.size)).size); (have hne := Nat.ne_of_lt ltz)) | ((fail_if_success have hguard := hz); (have hz : w3.heap[w2.heap.size]? = some (Obj.cells #[.int .i64 0, .int .i64 0, .int .i64 0, .int .i64 0, .string ⟨#[]⟩, .slice none 0 0, .int .i64 0, .int .i64 0, .bool false] 42) := (hb3.block _ (by simp)).trans (alloc_last _ _ _ rfl)); (have hzl : W0.heap.size ≤ w2.heap.size := (hs01.trans (hs12.mono hs01.size)).size)) | skip); (try clear ltz); (have h02 : Below W0.heap.size W0 w2 := hs01.trans (hs12.mono hs01.size)); (have hcur : Below W0.heap.size W0 w3 := h02.trans (hs23.mono h02.size)); (have s01 := hs01.size); (have s12 := hs12.size); (have s23 := hs23.size); clear hb3; (first | ((fail_if_success have hguard := hy); (have ltz := (Array.getElem?_eq_some_iff.1 hz).1); obtain ⟨WA, hWA⟩ : ∃ WA, w3.alloc (Obj.cells #[.int .i64 0, .int .i64 0, .int .i64 0, .int .i64 0, .string ⟨#[]⟩, .slice none 0 0, .int .i64 0, .int .i64 0, .bool false] 42) = WA := ⟨_, rfl⟩; (have hA0 : Below w3.heap.size w3 WA := (by rw [← hWA]; exact (Below.refl _ _).alloc (Nat.le_refl _) _)); (have hnA : WA.heap[w3.heap.size]? = some (Obj.cells #[.int .i64 0, .int .i64 0, .int .i64 0, .int .i64 0, .string ⟨#[]⟩, .slice none 0 0, .int .i64 0, .int .i64 0, .bool false] 42) := (by rw [← hWA]; exact alloc_last _ _ _ rfl)); (have hzA := (hA0.block _ ltz).trans hz); (have hcA := hcur.trans (hA0.mono hcur.size)); (have hne := Nat.ne_of_lt ltz); obtain ⟨W17, e17, x17, B17, K17⟩ := store9 hzA hcA hzl (.int .i64 b1.c) (.int .i64 b1.n) (.int .i64 b1.k) (.int .i64 b1.p) (.string b1.s) (.slice va vm vc) (.int .i64 b1.tc) (.int .i64 b1.tn) (.bool b1.on); obtain ⟨W27, e27, x27, B27, K27⟩ := store9 hnA hcA hcur.size (.int .i64 b1.c) (.int .i64 b1.n) (.int .i64 b1.k) (.int .i64 b1.p) (.string b1.s) (.slice va vm vc) (.int .i64 b1.tc) (.int .i64 b1.tn) (.bool b1.on); (have hn17 := K17.block hnA hne.symm); (have hz27 := K27.block hzA hne); obtain ⟨W18, e18, x18, B18, K18⟩ := store9 hn17 B17 hcur.size (.int .i64 a1.c) (.int .i64 a1.n) (.int .i64 a1.k) (.int .i64 a1.p) (.string a1.s) (.slice za zm zc) (.int .i64 a1.tc) (.int .i64 a1.tn) (.bool a1.on); obtain ⟨W28, e28, x28, B28, K28⟩ := store9 hz27 B27 hzl (.int .i64 a1.c) (.int .i64 a1.n) (.int .i64 a1.k) (.int .i64 a1.p) (.string a1.s) (.slice za zm zc) (.int .i64 a1.tc) (.int .i64 a1.tn) (.bool a1.on); obtain ⟨dA0, dA1, dA2, dA3, dA4, dA5, dA6, dA7, dA8⟩ := box9 hzA; obtain ⟨qA0, qA1, qA2, qA3, qA4, qA5, qA6, qA7, qA8⟩ := wr9 hzA; obtain ⟨dn0, dn1, dn2, dn3, dn4, dn5, dn6, dn7, dn8⟩ := box9 hnA; obtain ⟨qn0, qn1, qn2, qn3, qn4, qn5, qn6, qn7, qn8⟩ := wr9 hnA; obtain ⟨dm0, dm1, dm2, dm3, dm4, dm5, dm6, dm7, dm8⟩ := box9 hn17; obtain ⟨qm0, qm1, qm2, qm3, qm4, qm5, qm6, qm7, qm8⟩ := wr9 hn17; obtain ⟨do0, do1, do2, do3, do4, do5, do6, do7, do8⟩ := box9 hz27; obtain ⟨qo0, qo1, qo2, qo3, qo4, qo5, qo6, qo7, qo8⟩ := wr9 hz27) | (obtain ⟨Wz7, ez7, xz7, Bz7, Kz7⟩ := store9 hz hcur hzl (.int .i64 b1.c) (.int .i64 b1.n) (.int .i64 b1.k) (.int .i64 b1.p) (.string b1.s) (.slice va vm vc) (.int .i64 b1.tc) (.int .i64 b1.tn) (.bool b1.on); obtain ⟨Wy7, ey7, xy7, By7, Ky7⟩ := store9 hy hcur hyl (.int .i64 b1.c) (.int .i64 b1.n) (.int .i64 b1.k) (.int .i64 b1.p) (.string b1.s) (.slice va vm vc) (.int .i64 b1.tc) (.int .i64 b1.tn) (.bool b1.on); obtain ⟨dz0, dz1, dz2, dz3, dz4, dz5, dz6, dz7, dz8⟩ := box9 hz; obtain ⟨qz0, qz1, qz2, qz3, qz4, qz5, qz6, qz7, qz8⟩ := wr9 hz; obtain ⟨dy0, dy1, dy2, dy3, dy4, dy5, dy6, dy7, dy8⟩ := box9 hy; obtain ⟨qy0, qy1, qy2, qy3, qy4, qy5, qy6, qy7, qy8⟩ := wr9 hy; have hyz := Kz7.block hy hne.symm; have hzy := Ky7.block hz hne; obtain ⟨Wzy, ezy, xzy, Bzy, Kzy⟩ := store9 hyz Bz7 hyl (.int .i64 a1.c) (.int .i64 a1.n) (.int .i64 a1.k) (.int .i64 a1.p) (.string a1.s) (.slice za zm zc) (.int .i64 a1.tc) (.int .i64 a1.tn) (.bool a1.on); obtain ⟨Wyz, eyz, xyz, Byz, Kyz⟩ := store9 hzy By7 hzl (.int .i64 a1.c) (.int .i64 a1.n) (.int .i64 a1.k) (.int .i64 a1.p) (.string a1.s) (.slice za zm zc) (.int .i64 a1.tc) (.int .i64 a1.tn) (.bool a1.on); obtain ⟨dzy0, dzy1, dzy2, dzy3, dzy4, dzy5, dzy6, dzy7, dzy8⟩ := box9 hyz; obtain ⟨qzy0, qzy1, qzy2, qzy3, qzy4, qzy5, qzy6, qzy7, qzy8⟩ := wr9 hyz; obtain ⟨dyz0, dyz1, dyz2, dyz3, dyz4, dyz5, dyz6, dyz7, dyz8⟩ := box9 hzy; obtain ⟨qyz0, qyz1, qyz2, qyz3, qyz4, qyz5, qyz6, qyz7, qyz8⟩ := wr9 hzy) | skip)))
    all_goals
      go_wp2_with fail
      (try rw [ez7]); (try rw [ezy]); (try rw [ey7]); (try rw [eyz]); (try rw [e17]); (try rw [e18]); (try rw [e27]); (try rw [e28])
      go_meet
      case rel => first
        | exact ⟨_, _, va, vm, vc, za, zm, zc, rfl, rfl, rfl, Kzy.block xz7 hne, xzy, rng_of_rw ((own_but (own_but hv3 hz Kz7) hyz Kzy).rw_ layG), rng_of_rw ((own_but (own_but hz3 hz Kz7) hyz Kzy).rw_ layG), Bzy⟩
        | exact ⟨_, _, va, vm, vc, za, zm, zc, rfl, rfl, rfl, Kyz.block xy7 hne.symm, xyz, rng_of_rw ((own_but (own_but hv3 hy Ky7) hzy Kyz).rw_ layG), rng_of_rw ((own_but (own_but hz3 hy Ky7) hzy Kyz).rw_ layG), Byz⟩
        | exact ⟨_, _, va, vm, vc, za, zm, zc, rfl, rfl, rfl, K18.block x17 hne, x18, rng_of_rw ((own_but (own_but (hv3.below hA0) hzA K17) hn17 K18).rw_ layG), rng_of_rw ((own_but (own_but (hz3.below hA0) hzA K17) hn17 K18).rw_ layG), B18⟩
        | exact ⟨_, _, va, vm, vc, za, zm, zc, rfl, rfl, rfl, K28.block x27 hne.symm, x28, rng_of_rw ((own_but (own_but (hv3.below hA0) hnA K27) hz27 K28).rw_ layG), rng_of_rw ((own_but (own_but (hz3.below hA0) hnA K27) hz27 K28).rw_ layG), B28⟩
        | exact ⟨_, _, va, vm, vc, za, zm, zc, rfl, rfl, rfl, (Below.heap_alloc _ _ _ (by simp)).trans (alloc_last _ _ _ rfl), alloc_last _ _ _ (by simp), rng_of_rw (((hv3.below ((Below.refl _ _).alloc (Nat.le_refl _) _)).below ((Below.refl _ _).alloc (Nat.le_refl _) _)).rw_ layG), rng_of_rw (((hz3.below ((Below.refl _ _).alloc (Nat.le_refl _) _)).below ((Below.refl _ _).alloc (Nat.le_refl _) _)).rw_ layG), (hcur.alloc hcur.size _).alloc (by have := hcur.size; simp; omega) _⟩
        | exact ⟨_, _, va, vm, vc, za, zm, zc, rfl, rfl, rfl, alloc_last _ _ _ (by simp), (Below.heap_alloc _ _ _ (by simp)).trans (alloc_last _ _ _ rfl), rng_of_rw (((hv3.below ((Below.refl _ _).alloc (Nat.le_refl _) _)).below ((Below.refl _ _).alloc (Nat.le_refl _) _)).rw_ layG), rng_of_rw (((hz3.below ((Below.refl _ _).alloc (Nat.le_refl _) _)).below ((Below.refl _ _).alloc (Nat.le_refl _) _)).rw_ layG), (hcur.alloc hcur.size _).alloc (by have := hcur.size; simp; omega) _⟩
  case rest =>
    obtain ⟨W1, rfl⟩ : ∃ x, x = wc := ⟨_, rfl⟩
    obtain ⟨g7, g8, va, vm, vc, za, zm, zc, rfl, rfl, rfl, g7X, g8X, rv, rz, hb1⟩ := hcut
    have aX1 := (hb1.block _ alt).trans aX
    have bX1 := (hb1.block _ blt).trans bX
    have hB1 := hB0.trans (hb1.mono hB0.size)
    clear ak0 ak1 ak2 ak3 ak4 ak5 ak6 ak7 ak8 bk0 bk1 bk2 bk3 bk4 bk5 bk6 bk7 bk8 aX bX hb1 hB0 alt blt HT HCa HCb hW0
    obtain ⟨ak0, ak1, ak2, ak3, ak4, ak5, ak6, ak7, ak8⟩ := box9 aX1
    go_wp2_with fail
    refine (HD.out _ hB1).mono ?_
    rintro e2 w2 ⟨xa, xm, xc, rfl, hrw, hb2⟩
    have hB2 := hB1.trans (hb2.mono hB1.size)
    have aX2 := (hb2.block _ (Array.getElem?_eq_some_iff.1 aX1).1).trans aX1
    have bX2 := (hb2.block _ (Array.getElem?_eq_some_iff.1 bX1).1).trans bX1
    have g7X2 := (hb2.block _ (Array.getElem?_eq_some_iff.1 g7X).1).trans g7X
    have g8X2 := (hb2.block _ (Array.getElem?_eq_some_iff.1 g8X).1).trans g8X
    have rv2 := rv.below hb2
    have rz2 := rz.below hb2
    clear ak0 ak1 ak2 ak3 ak4 ak5 ak6 ak7 ak8 aX1 bX1 g7X g8X rv rz hb2 hB1 HD
    obtain ⟨ak0, ak1, ak2, ak3, ak4, ak5, ak6, ak7, ak8⟩ := box9 aX2
    obtain ⟨bk0, bk1, bk2, bk3, bk4, bk5, bk6, bk7, bk8⟩ := box9 bX2
    have HL2 := HL.out w2 xa xm xc hB2 hrw
    clear HL hrw
    go_wp2_with fail
    refine HL2.mono ?_
    rintro e2 w3 ⟨rfl, hb3⟩
    have hB3 := hB2.trans (hb3.mono hB2.size)
    have aX3 := (hb3.block _ (Array.getElem?_eq_some_iff.1 aX2).1).trans aX2
    have bX3 := (hb3.block _ (Array.getElem?_eq_some_iff.1 bX2).1).trans bX2
    have g7X3 := (hb3.block _ (Array.getElem?_eq_some_iff.1 g7X2).1).trans g7X2
    have g8X3 := (hb3.block _ (Array.getElem?_eq_some_iff.1 g8X2).1).trans g8X2
    have rv3 := rv2.below hb3
    have rz3 := rz2.below hb3
    clear ak0 ak1 ak2 ak3 ak4 ak5 ak6 ak7 ak8 bk0 bk1 bk2 bk3 bk4 bk5 bk6 bk7 bk8 aX2 bX2 g7X2 g8X2 rv2 rz2 hb3 hB2 HL2
    cases hl : leanP a b with
    | true =>
      have hz := HZ1.out hl
      subst hz
      clear HT2 HSR HS1 HS2 HZ1 HZ2 hl
      go_wp2_with fail
      refine (HN.out _ _).mono ?_
      rintro e2 w4 ⟨rfl, rfl⟩
      go_wp2_with fail
      go_ret
      exact ⟨rfl, hB3⟩
    | false =>
      obtain ⟨ak0, ak1, ak2, ak3, ak4, ak5, ak6, ak7, ak8⟩ := box9 aX3
      obtain ⟨bk0, bk1, bk2, bk3, bk4, bk5, bk6, bk7, bk8⟩ := box9 bX3
      have eqt : ∀ W, (Op.equalIn 10000 36 (.agg #[.int .i64 a.tc, .int .i64 a.tn]) (.agg #[.int .i64 b.tc, .int .i64 b.tn])).run Tryd.prog W = .ok (a.tc == b.tc && a.tn == b.tn) W := fun W => run_eqID W _ _ _ _
      go_upto_region 5 with fail
      obtain ⟨cv, hcv⟩ : ∃ cv, clashS a b = cv := ⟨_, rfl⟩
      have HCV : Hid (clashS a b = cv) := hcv
      go_cut [61] (fun v61 wx => v61 = .bool cv ∧ w3 = wx)
      case first =>
        unfold clashS at hcv
        clear HCV
        generalize (a.tc == b.tc && a.tn == b.tn) = rt at *
        by_cases k1 : a.k = 4
        · by_cases k2 : b.k = 4
          · have t1 : (a.k == 4) = true := by simp [k1]
            have t2 : (b.k == 4) = true := by simp [k2]
            rw [decide_eq_true k1, decide_eq_true k2] at hcv
            clear k1 k2
            generalize a.on = o1 at *
            generalize b.on = o2 at *
            cases rt <;> cases o1 <;> cases o2
            all_goals
              subst hcv
              go_wp2_with fail
              go_meet
              case rel => exact ⟨rfl, rfl⟩
          · have t1 : (a.k == 4) = true := by simp [k1]
            have t2 : (b.k == 4) = false := beq_eq_false_iff_ne.2 k2
            rw [decide_eq_true k1, decide_eq_false k2] at hcv
            clear k1 k2
            subst hcv
            go_wp2_with fail
            go_meet
            case rel => exact ⟨rfl, rfl⟩
        · have t1 : (a.k == 4) = false := beq_eq_false_iff_ne.2 k1
          rw [decide_eq_false k1] at hcv
          clear k1
          subst hcv
          go_wp2_with fail
          go_meet
          case rel => exact ⟨rfl, rfl⟩
      case rest =>
        obtain ⟨rfl, rfl⟩ := hcut
        clear hcv
        cases cv with
        | true =>
          have hz := HZ2.out hl HCV.out
          subst hz
          clear HT2 HSR HS1 HS2 HZ1 HZ2 hl HCV eqt
          go_wp2_with fail
          refine (HN.out _ _).mono ?_
          rintro e2 w4 ⟨rfl, rfl⟩
          go_wp2_with fail
          go_ret
          exact ⟨rfl, hB3⟩
        | false =>
          have hc := HCV.out
          obtain ⟨hz, HT3⟩ := HT2.out hl hc
          subst hz
          have HSR2 := HSR.out hl hc
          have HT4 : Hid _ := HT3
          have HSR3 : Hid _ := HSR2
          clear HT2 HSR HZ1 HZ2 hl hc HCV eqt HT3 HSR2
          obtain ⟨uk0, uk1, uk2, uk3, uk4, uk5, uk6, uk7, uk8⟩ := box9 g7X3
          obtain ⟨vk0, vk1, vk2, vk3, vk4, vk5, vk6, vk7, vk8⟩ := box9 g8X3
          obtain ⟨W3, hW3⟩ : ∃ W3, w3.alloc (Obj.cells #[.int .i64 a.c, .int .i64 a.n, .int .i64 a.k, .int .i64 a.p, .string a.s, .slice aa am ac, .int .i64 a.tc, .int .i64 a.tn, .bool a.on, .int .i64 b.c, .int .i64 b.n, .int .i64 b.k, .int .i64 b.p, .string b.s, .slice ba bm bc, .int .i64 b.tc, .int .i64 b.tn, .bool b.on] 42) = W3 := ⟨_, rfl⟩
          have l0 : W3.heap[w3.heap.size]? = some (Obj.cells #[.int .i64 a.c, .int .i64 a.n, .int .i64 a.k, .int .i64 a.p, .string a.s, .slice aa am ac, .int .i64 a.tc, .int .i64 a.tn, .bool a.on, .int .i64 b.c, .int .i64 b.n, .int .i64 b.k, .int .i64 b.p, .string b.s, .slice ba bm bc, .int .i64 b.tc, .int .i64 b.tn, .bool b.on] 42) := by rw [← hW3]; exact alloc_last _ _ _ rfl
          have h33 : Below w3.heap.size w3 W3 := by rw [← hW3]; exact (Below.refl _ _).alloc (Nat.le_refl _) _
          have s33 : W3.heap.size = w3.heap.size + 1 := by rw [← hW3]; simp
          have g7Xa := (h33.block _ (Array.getElem?_eq_some_iff.1 g7X3).1).trans g7X3
          have g8Xa := (h33.block _ (Array.getElem?_eq_some_iff.1 g8X3).1).trans g8X3
          obtain ⟨ul0, ul1, ul2, ul3, ul4, ul5, ul6, ul7, ul8⟩ := box9 g7Xa
          obtain ⟨vl0, vl1, vl2, vl3, vl4, vl5, vl6, vl7, vl8⟩ := box9 g8Xa
          obtain ⟨W4, hW4⟩ : ∃ W4, W3.alloc (Obj.cells #[.int .i64 b1.c, .int .i64 b1.n, .int .i64 b1.k, .int .i64 b1.p, .string b1.s, .slice va vm vc, .int .i64 b1.tc, .int .i64 b1.tn, .bool b1.on, .int .i64 a1.c, .int .i64 a1.n, .int .i64 a1.k, .int .i64 a1.p, .string a1.s, .slice za zm zc, .int .i64 a1.tc, .int .i64 a1.tn, .bool a1.on] 42) = W4 := ⟨_, rfl⟩
          have l1 : W4.heap[w3.heap.size]? = some (Obj.cells #[.int .i64 a.c, .int .i64 a.n, .int .i64 a.k, .int .i64 a.p, .string a.s, .slice aa am ac, .int .i64 a.tc, .int .i64 a.tn, .bool a.on, .int .i64 b.c, .int .i64 b.n, .int .i64 b.k, .int .i64 b.p, .string b.s, .slice ba bm bc, .int .i64 b.tc, .int .i64 b.tn, .bool b.on] 42) := by rw [← hW4]; exact (Below.heap_alloc _ _ _ (by omega)).trans l0
          have l2 : W4.heap[w3.heap.size + 1]? = some (Obj.cells #[.int .i64 b1.c, .int .i64 b1.n, .int .i64 b1.k, .int .i64 b1.p, .string b1.s, .slice va vm vc, .int .i64 b1.tc, .int .i64 b1.tn, .bool b1.on, .int .i64 a1.c, .int .i64 a1.n, .int .i64 a1.k, .int .i64 a1.p, .string a1.s, .slice za zm zc, .int .i64 a1.tc, .int .i64 a1.tn, .bool a1.on] 42) := by rw [← hW4]; exact alloc_last _ _ _ s33.symm
          have h34 : Below w3.heap.size w3 W4 := by rw [← hW4]; exact h33.alloc (by omega) _
          have hB4 := hB3.trans (h34.mono hB3.size)
          have HSR4 := HSR3.out W4 _ _ va vm vc za zm zc hB4 (rv3.below h34) (rz3.below h34) l1 l2
          go_wp2_with fail
          refine (HN.out _ _).mono ?_
          rintro e2 w4 ⟨rfl, rfl⟩
          go_wp2_with fail
          try rw [hW4]
          refine HSR4.mono ?_
          rintro e2 w5 ⟨rfl, hb5⟩
          have h35 := h34.trans (hb5.mono h34.size)
          have hB5 := hB3.trans (h35.mono hB3.size)
          have aX5 := (h35.block _ (Array.getElem?_eq_some_iff.1 aX3).1).trans aX3
          have bX5 := (h35.block _ (Array.getElem?_eq_some_iff.1 bX3).1).trans bX3
          have g7X5 := (h35.block _ (Array.getElem?_eq_some_iff.1 g7X3).1).trans g7X3
          have g8X5 := (h35.block _ (Array.getElem?_eq_some_iff.1 g8X3).1).trans g8X3
          have HT5 := HT4.out w5 va vm vc za zm zc hB5 (rv3.below h35) (rz3.below h35)
          clear ak0 ak1 ak2 ak3 ak4 ak5 ak6 ak7 ak8 bk0 bk1 bk2 bk3 bk4 bk5 bk6 bk7 bk8 uk0 uk1 uk2 uk3 uk4 uk5 uk6 uk7 uk8 vk0 vk1 vk2 vk3 vk4 vk5 vk6 vk7 vk8 aX3 bX3 g7X3 g8X3 rv3 rz3 h34 h35 hb5 hB4 hB3 l0 l1 l2 hW4 HSR3 HSR4 HT4 hW3 h33 s33 g7Xa g8Xa ul0 ul1 ul2 ul3 ul4 ul5 ul6 ul7 ul8 vl0 vl1 vl2 vl3 vl4 vl5 vl6 vl7 vl8
          obtain ⟨uk0, uk1, uk2, uk3, uk4, uk5, uk6, uk7, uk8⟩ := box9 g7X5
          obtain ⟨vk0, vk1, vk2, vk3, vk4, vk5, vk6, vk7, vk8⟩ := box9 g8X5
          go_wp2_with fail
          refine HT5.mono ?_
          rintro e2 w6 ⟨ua, um, uc, qa, qm, qc, rfl, hu6, hq6, hb6⟩
          have hB6 := hB5.trans (hb6.mono hB5.size)
          have aX6 := (hb6.block _ (Array.getElem?_eq_some_iff.1 aX5).1).trans aX5
          have bX6 := (hb6.block _ (Array.getElem?_eq_some_iff.1 bX5).1).trans bX5
          clear uk0 uk1 uk2 uk3 uk4 uk5 uk6 uk7 uk8 vk0 vk1 vk2 vk3 vk4 vk5 vk6 vk7 vk8 g7X5 g8X5 aX5 bX5 HT5 hb6 hB5
          go_upto_region 11 with fail
          obtain ⟨W7, hW7⟩ : ∃ W7, (w6.alloc (Obj.cells #[.int .i64 a.c, .int .i64 a.n, .int .i64 a.k, .int .i64 a.p, .string a.s, .slice ua um uc, .int .i64 a.tc, .int .i64 a.tn, .bool a.on] 42)).alloc (Obj.cells #[.int .i64 b.c, .int .i64 b.n, .int .i64 b.k, .int .i64 b.p, .string b.s, .slice qa qm qc, .int .i64 b.tc, .int .i64 b.tn, .bool b.on] 42) = W7 := ⟨_, rfl⟩
          have uX : W7.heap[w6.heap.size]? = some (Obj.cells #[.int .i64 a.c, .int .i64 a.n, .int .i64 a.k, .int .i64 a.p, .string a.s, .slice ua um uc, .int .i64 a.tc, .int .i64 a.tn, .bool a.on] 42) := by rw [← hW7]; exact (Below.heap_alloc _ _ _ (by simp)).trans (alloc_last _ _ _ rfl)
          have vX : W7.heap[w6.heap.size + 1]? = some (Obj.cells #[.int .i64 b.c, .int .i64 b.n, .int .i64 b.k, .int .i64 b.p, .string b.s, .slice qa qm qc, .int .i64 b.tc, .int .i64 b.tn, .bool b.on] 42) := by rw [← hW7]; exact alloc_last _ _ _ (by simp)
          have h67 : Below w6.heap.size w6 W7 := by rw [← hW7]; exact ((Below.refl _ _).alloc (Nat.le_refl _) _).alloc (by simp) _
          rw [hW7]
          clear hW7
          have hB7 := hB6.trans (h67.mono hB6.size)
          have aX7 := (h67.block _ (Array.getElem?_eq_some_iff.1 aX6).1).trans aX6
          have bX7 := (h67.block _ (Array.getElem?_eq_some_iff.1 bX6).1).trans bX6
          have HS1' := HS1.out W7 ua um uc hB7 (rng_of_rw ((hu6.below h67).rw_ layG))
          have rq7 := rng_of_rw ((hq6.below h67).rw_ layG)
          clear hu6 hq6 aX6 bX6 hB6 h67 HS1
          obtain ⟨ak0, ak1, ak2, ak3, ak4, ak5, ak6, ak7, ak8⟩ := box9 aX7
          obtain ⟨uk0, uk1, uk2, uk3, uk4, uk5, uk6, uk7, uk8⟩ := box9 uX
          go_wp2_with fail
          refine (HN.out _ _).mono ?_
          rintro e2 w8 ⟨rfl, rfl⟩
          go_wp2_with fail
          refine HS1'.mono ?_
          rintro e2 w8 ⟨rfl, hb8⟩
          have hB8 := hB7.trans (hb8.mono hB7.size)
          have bX8 := (hb8.block _ (Array.getElem?_eq_some_iff.1 bX7).1).trans bX7
          have vX8 := (hb8.block _ (Array.getElem?_eq_some_iff.1 vX).1).trans vX
          have HS2' := HS2.out w8 qa qm qc hB8 (rq7.below hb8)
          clear ak0 ak1 ak2 ak3 ak4 ak5 ak6 ak7 ak8 uk0 uk1 uk2 uk3 uk4 uk5 uk6 uk7 uk8 aX7 bX7 uX vX rq7 hb8 hB7 HS1' HS2
          obtain ⟨bk0, bk1, bk2, bk3, bk4, bk5, bk6, bk7, bk8⟩ := box9 bX8
          obtain ⟨vk0, vk1, vk2, vk3, vk4, vk5, vk6, vk7, vk8⟩ := box9 vX8
          go_wp2_with fail
          refine HS2'.mono ?_
          rintro e2 w9 ⟨rfl, hb9⟩
          go_wp2_with fail
          go_ret
          exact ⟨rfl, hB8.trans (hb9.mono hB8.size)⟩
end Go.Proofs.YtlebbffpbbjakaaDoor
