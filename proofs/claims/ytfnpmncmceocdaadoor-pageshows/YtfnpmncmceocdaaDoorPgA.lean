import Derived.Laws.BitsLemmas
namespace Go.Proofs.YtfnpmncmceocdaaDoor

/-- A rune that fills no column. -/
def noneR (r : Int) : Bool := decide (r = 10 ∨ (768 ≤ r ∧ r ≤ 879) ∨ (8203 ≤ r ∧ r ≤ 8205) ∨ (65024 ≤ r ∧ r ≤ 65039))
/-- One that fills two. -/
def twoR (r : Int) : Bool := decide ((4352 ≤ r ∧ r ≤ 4447) ∨ (11904 ≤ r ∧ r ≤ 12350) ∨ (12353 ≤ r ∧ r ≤ 42191) ∨ (44032 ≤ r ∧ r ≤ 55203) ∨ (63744 ≤ r ∧ r ≤ 64255) ∨ (65072 ≤ r ∧ r ≤ 65135) ∨ (65280 ≤ r ∧ r ≤ 65376) ∨ (65504 ≤ r ∧ r ≤ 65510) ∨ (127744 ≤ r ∧ r ≤ 129791) ∨ (131072 ≤ r ∧ r ≤ 262141))
/-- How many columns a rune fills at a column. -/
def colN (r : Int) (c : Nat) : Nat := if r = 9 then 4 - c % 4 else if noneR r = true then 0 else if twoR r = true then 2 else 1
def blankR (r : Int) : Bool := decide (r = 32 ∨ r = 9)
theorem colN_le (r : Int) (c : Nat) : colN r c ≤ 4 := by
  unfold colN
  repeat' split
  all_goals omega
theorem colN_any {r : Int} (h : r ≠ 9) (c d : Nat) : colN r c = colN r d := by
  unfold colN
  rw [if_neg h, if_neg h]
/-- Where runes end that begin at column n. -/
def wideN : Nat → List Int → Nat
  | n, [] => n
  | n, r :: l => wideN (n + colN r n) l
theorem wideN_append : ∀ (l m : List Int) (n : Nat), wideN n (l ++ m) = wideN (wideN n l) m
  | [], _, _ => rfl
  | _ :: l, m, _ => wideN_append l m _
theorem wideN_ge : ∀ (l : List Int) (n : Nat), n ≤ wideN n l
  | [], _ => Nat.le_refl _
  | _ :: l, _ => Nat.le_trans (Nat.le_add_right _ _) (wideN_ge l _)
theorem wideN_le : ∀ (l : List Int) (n : Nat), wideN n l ≤ n + 4 * l.length
  | [], _ => Nat.le_refl _
  | r :: l, n => by
    have h := wideN_le l (n + colN r n)
    have := colN_le r n
    simp only [wideN, List.length_cons]
    omega
theorem wideN_add : ∀ (l : List Int) (n m : Nat), (∀ r ∈ l, r ≠ 9) → wideN (n + m) l = n + wideN m l
  | [], _, _, _ => rfl
  | r :: l, n, m, h => by
    have h0 := h r (List.mem_cons_self ..)
    simp only [wideN]
    rw [colN_any h0 (n + m) m, Nat.add_assoc, wideN_add l n _ (fun x hx => h x (List.mem_cons_of_mem _ hx))]
/-- How many columns the runes a to b - 1 fill, from column 0 on. -/
def wd (rs : List Int) (a b : Nat) : Nat := wideN 0 ((rs.take b).drop a)
theorem wd_self (rs : List Int) (a : Nat) : wd rs a a = 0 := by
  unfold wd
  rw [List.drop_eq_nil_of_le (by rw [List.length_take]; omega)]
  rfl
theorem wd_split' (rs : List Int) {a m b : Nat} (h1 : a ≤ m) (h2 : m ≤ b) : (rs.take b).drop a = (rs.take m).drop a ++ (rs.take b).drop m := by
  have e : rs.take m = (rs.take b).take m := by rw [List.take_take, Nat.min_eq_left h2]
  rw [e]
  generalize rs.take b = L
  have h3 : L.drop m = (L.drop a).drop (m - a) := by rw [List.drop_drop]; congr 1; omega
  have h4 : (L.take m).drop a = (L.drop a).take (m - a) := by rw [List.drop_take]
  rw [h3, h4, List.take_append_drop]
theorem wd_succ (rs : List Int) {a b : Nat} (h1 : a ≤ b) (h2 : b < rs.length) : wd rs a (b + 1) = wd rs a b + colN rs[b] (wd rs a b) := by
  unfold wd
  rw [wd_split' rs h1 (Nat.le_succ b), wideN_append]
  have e : (rs.take (b + 1)).drop b = [rs[b]] := by
    rw [List.take_succ_eq_append_getElem h2, List.drop_append_of_le_length (by rw [List.length_take]; omega), List.drop_eq_nil_of_le (by rw [List.length_take]; omega)]
    rfl
  rw [e]
  rfl
theorem wd_mono (rs : List Int) {a b c : Nat} (h1 : a ≤ b) (h2 : b ≤ c) : wd rs a b ≤ wd rs a c := by
  unfold wd
  rw [wd_split' rs h1 h2, wideN_append]
  exact wideN_ge _ _
theorem wd_le (rs : List Int) (a b : Nat) : wd rs a b ≤ 4 * (b - a) := by
  have h := wideN_le ((rs.take b).drop a) 0
  have h2 : ((rs.take b).drop a).length ≤ b - a := by rw [List.length_drop, List.length_take]; omega
  unfold wd
  omega
theorem wd_add (rs : List Int) {a m b : Nat} (h1 : a ≤ m) (h2 : m ≤ b) (hb : ∀ q, m ≤ q → q < b → ∀ r, rs[q]? = some r → r ≠ 9) : wd rs a b = wd rs a m + wd rs m b := by
  unfold wd
  rw [wd_split' rs h1 h2, wideN_append]
  conv => lhs; rw [← Nat.add_zero (wideN 0 ((rs.take m).drop a))]
  refine wideN_add _ _ _ fun r hr => ?_
  obtain ⟨k, hk⟩ := List.getElem?_of_mem hr
  rw [List.getElem?_drop, List.getElem?_take] at hk
  split at hk
  · exact hb _ (Nat.le_add_right _ _) (by assumption) r hk
  · cases hk

/-- A row: its places, and is it hard? -/
structure Rv where
  lo : Nat
  hi : Nat
  hard : Bool
/-- What a filler holds ahead of rune i: the full rows, where the row begins that is being filled (it ends at i), the row as it was behind its last blank. -/
structure St where
  full : List Rv
  lo : Nat
  wlo : Nat
  whi : Nat
def St.ended (st : St) (i : Nat) : Nat := if st.lo < st.whi then st.whi else i
def St.endRow (st : St) (i : Nat) : St := { st with full := st.full ++ [⟨st.lo, st.ended i, false⟩], lo := st.ended i }
def St.fits (st : St) (rs : List Int) (width i : Nat) : Bool := decide (st.lo = i ∨ wd rs st.lo (i + 1) ≤ width)
def St.room (st : St) (rs : List Int) (width i : Nat) : St :=
  if st.fits rs width i = true then st else if (st.endRow i).fits rs width i = true then st.endRow i else (st.endRow i).endRow i
def St.took (st : St) (r : Int) (i : Nat) : St := if blankR r = true then { st with wlo := st.lo, whi := i + 1 } else st
def St.endLine (st : St) (i : Nat) : St := { st with full := st.full ++ [⟨st.lo, i, true⟩], lo := i + 1 }
def St.step (st : St) (rs : List Int) (width : Nat) (i : Nat) (r : Int) : St := if r = 10 then st.endLine i else (st.room rs width i).took r i
def stAt (rs : List Int) (width : Nat) : Nat → St
  | 0 => ⟨[], 0, 0, 0⟩
  | i + 1 => (stAt rs width i).step rs width i (rs.getD i 0)
/-- The rows of a text. -/
def rowsP (rs : List Int) (width : Nat) : List Rv := ((stAt rs width rs.length).endLine rs.length).full

/-- What is known of a soft row that ends at b: what follows up to rune i has no room in it. -/
def Soft (rs : List Int) (width a b : Nat) : Prop :=
  a < b ∧ ((∀ q, a ≤ q → q < b → ∀ r, rs[q]? = some r → blankR r = false) ∨ ∃ r, rs[b - 1]? = some r ∧ blankR r = true) ∧
  ∃ i r, b ≤ i ∧ rs[i]? = some r ∧ r ≠ 10 ∧ (∀ q, b ≤ q → q < i → ∀ r, rs[q]? = some r → blankR r = false ∧ r ≠ 10) ∧ width < wd rs a (i + 1)
structure RowOk (rs : List Int) (width : Nat) (x : Rv) : Prop where
  le : x.lo ≤ x.hi
  len : x.hi ≤ rs.length
  line : ∀ q, x.lo ≤ q → q < x.hi → ∀ r, rs[q]? = some r → r ≠ 10
  wide : wd rs x.lo x.hi ≤ width ∨ x.hi = x.lo + 1
  hard : x.hard = true → x.hi = rs.length ∨ rs[x.hi]? = some 10
  soft : x.hard = false → Soft rs width x.lo x.hi
/-- Rows one behind the other, from place a up to b. -/
def Ch : Nat → List Rv → Nat → Prop
  | a, [], b => a = b
  | a, x :: l, b => x.lo = a ∧ Ch (if x.hard then x.hi + 1 else x.hi) l b
theorem Ch.snoc : ∀ {l : List Rv} {a b : Nat} {x : Rv}, Ch a l b → x.lo = b → Ch a (l ++ [x]) (if x.hard then x.hi + 1 else x.hi)
  | [], _, _, _, h, hx => ⟨hx.trans h.symm, rfl⟩
  | _ :: _, _, _, _, ⟨h1, h2⟩, hx => ⟨h1, Ch.snoc h2 hx⟩
structure Inv (rs : List Int) (width i : Nat) (st : St) : Prop where
  le : st.lo ≤ i
  line : ∀ q, st.lo ≤ q → q < i → ∀ r, rs[q]? = some r → r ≠ 10
  word : st.lo < st.whi → st.wlo = st.lo ∧ st.whi ≤ i ∧ ∃ r, rs[st.whi - 1]? = some r ∧ blankR r = true
  none : ∀ q, st.lo ≤ q → st.whi ≤ q → q < i → ∀ r, rs[q]? = some r → blankR r = false
  wide : wd rs st.lo i ≤ width ∨ i = st.lo + 1
  rows : ∀ x ∈ st.full, RowOk rs width x
  chain : Ch 0 st.full st.lo
theorem Inv.ended {rs : List Int} {width i : Nat} {st : St} (h : Inv rs width i st) : st.lo ≤ st.ended i ∧ st.ended i ≤ i := by
  unfold St.ended
  split
  · rename_i h1
    have := (h.word h1).2.1
    omega
  · exact ⟨h.le, Nat.le_refl _⟩
/-- Behind the row's end no tab stands. -/
theorem Inv.tabs {rs : List Int} {width i : Nat} {st : St} (h : Inv rs width i st) : ∀ q, st.ended i ≤ q → q < i → ∀ r, rs[q]? = some r → blankR r = false := by
  intro q h1 h2 r hr
  unfold St.ended at h1
  split at h1
  · exact h.none q (by omega) (by omega) h2 r hr
  · omega
theorem blank_tab {r : Int} (h : blankR r = false) : r ≠ 9 := by
  intro e
  rw [e] at h
  cases h
theorem Inv.sub {rs : List Int} {width i : Nat} {st : St} (h : Inv rs width i st) : wd rs st.lo i = wd rs st.lo (st.ended i) + wd rs (st.ended i) i :=
  wd_add rs h.ended.1 h.ended.2 fun q h1 h2 r hr => blank_tab (h.tabs q h1 h2 r hr)
theorem Inv.endRow {rs : List Int} {width i : Nat} {st : St} (h : Inv rs width i st) {r : Int} (hr : rs[i]? = some r) (h10 : r ≠ 10) (hf : st.fits rs width i = false) : Inv rs width i (st.endRow i) := by
  unfold St.fits at hf
  rw [decide_eq_false_iff_not] at hf
  have he := h.ended
  have hin : i < rs.length := (List.getElem?_eq_some_iff.1 hr).1
  have hlt : st.lo < st.ended i := by
    unfold St.ended
    split
    · assumption
    · have := h.le; omega
  have hok : RowOk rs width ⟨st.lo, st.ended i, false⟩ := by
    refine ⟨he.1, by show st.ended i ≤ _; omega, fun q h1 h2 => h.line q h1 (by have h2 : q < st.ended i := h2; omega), ?_, fun e => (by cases e), fun _ => ⟨hlt, ?_, i, r, he.2, hr, h10, fun q h1 h2 r hr => ⟨h.tabs q h1 h2 r hr, h.line q (Nat.le_trans he.1 h1) h2 r hr⟩, Nat.lt_of_not_le fun e => hf (.inr e)⟩⟩
    · show wd rs st.lo (st.ended i) ≤ width ∨ st.ended i = st.lo + 1
      rcases h.wide with hw | hw
      · exact .inl (Nat.le_trans (wd_mono rs he.1 he.2) hw)
      · right; omega
    · unfold St.ended
      split
      · rename_i h1
        exact .inr (h.word h1).2.2
      · rename_i h0
        exact .inl fun q h1 h2 => h.none q h1 (Nat.le_trans (Nat.le_of_not_lt h0) h1) h2
  refine ⟨he.2, fun q h1 h2 => h.line q (by have h1 : st.ended i ≤ q := h1; omega) h2, fun hw => ?_, fun q h1 h2 h3 => h.tabs q h1 h3, ?_, ?_, ?_⟩
  · exfalso
    have hw : st.ended i < st.whi := hw
    unfold St.ended at hw
    split at hw
    · omega
    · omega
  · show wd rs (st.ended i) i ≤ width ∨ i = st.ended i + 1
    have := h.sub
    rcases h.wide with hw | hw
    · left; omega
    · left
      have e : st.ended i = i := by omega
      rw [e, wd_self]
      exact Nat.zero_le _
  · intro x hx
    rcases List.mem_append.1 hx with hx | hx
    · exact h.rows x hx
    · simp at hx
      rw [hx]
      exact hok
  · exact h.chain.snoc (x := ⟨st.lo, st.ended i, false⟩) rfl
theorem endRow_lo {rs : List Int} {width i : Nat} {st : St} (h : Inv rs width i st) : ((st.endRow i).endRow i).lo = i := by
  show (st.endRow i).ended i = i
  unfold St.ended
  rw [if_neg]
  show ¬ st.ended i < st.whi
  have := h.le
  unfold St.ended
  split <;> omega
theorem Inv.room {rs : List Int} {width i : Nat} {st : St} (h : Inv rs width i st) {r : Int} (hr : rs[i]? = some r) (h10 : r ≠ 10) : Inv rs width i (st.room rs width i) ∧ (st.room rs width i).fits rs width i = true := by
  unfold St.room
  split
  · exact ⟨h, by assumption⟩
  · rename_i h1
    have h2 := h.endRow hr h10 (by simpa using h1)
    split
    · exact ⟨h2, by assumption⟩
    · rename_i h3
      refine ⟨h2.endRow hr h10 (by simpa using h3), ?_⟩
      unfold St.fits
      rw [endRow_lo h]
      simp
theorem Inv.took {rs : List Int} {width i : Nat} {st : St} (h : Inv rs width i st) {r : Int} (hr : rs[i]? = some r) (h10 : r ≠ 10) (hf : st.fits rs width i = true) : Inv rs width (i + 1) (st.took r i) := by
  unfold St.fits at hf
  rw [decide_eq_true_eq] at hf
  have hline : ∀ q, st.lo ≤ q → q < i + 1 → ∀ r, rs[q]? = some r → r ≠ 10 := fun q h1 h2 r' hr' => by
    by_cases e : q = i
    · subst e
      rw [hr] at hr'
      cases hr'
      exact h10
    · exact h.line q h1 (by omega) r' hr'
  have hwide : wd rs st.lo (i + 1) ≤ width ∨ i + 1 = st.lo + 1 := by
    rcases hf with e | e
    · right; omega
    · exact .inl e
  have hle := h.le
  unfold St.took
  split
  · rename_i hb
    exact ⟨by show st.lo ≤ i + 1; omega, hline, fun _ => ⟨rfl, Nat.le_refl _, r, hr, hb⟩, fun q h1 h2 h3 => (by have h2 : i + 1 ≤ q := h2; omega), hwide, h.rows, h.chain⟩
  · rename_i hb
    refine ⟨by omega, hline, fun h1 => ?_, fun q h1 h2 h3 r' hr' => ?_, hwide, h.rows, h.chain⟩
    · obtain ⟨a, b, c⟩ := h.word h1
      exact ⟨a, by omega, c⟩
    · by_cases e : q = i
      · subst e
        rw [hr] at hr'
        cases hr'
        simpa using hb
      · exact h.none q h1 h2 (by omega) r' hr'
theorem Inv.endLine {rs : List Int} {width i : Nat} {st : St} (h : Inv rs width i st) (he : i = rs.length ∨ rs[i]? = some 10) : (∀ x ∈ (st.endLine i).full, RowOk rs width x) ∧ Ch 0 (st.endLine i).full (i + 1) := by
  have hle := h.le
  have hil : i ≤ rs.length := by
    rcases he with e | e
    · omega
    · exact Nat.le_of_lt (List.getElem?_eq_some_iff.1 e).1
  refine ⟨fun x hx => ?_, h.chain.snoc (x := ⟨st.lo, i, true⟩) rfl⟩
  rcases List.mem_append.1 hx with hx | hx
  · exact h.rows x hx
  · simp at hx
    subst hx
    exact ⟨h.le, hil, h.line, h.wide, fun _ => he, fun e => (by cases e)⟩
theorem Inv.step {rs : List Int} {width i : Nat} {st : St} (h : Inv rs width i st) {r : Int} (hr : rs[i]? = some r) : Inv rs width (i + 1) (st.step rs width i r) := by
  unfold St.step
  split
  · rename_i e
    obtain ⟨h1, h2⟩ := h.endLine (.inr (by rw [hr, e]))
    refine ⟨Nat.le_refl _, fun q a b => (by have a : i + 1 ≤ q := a; omega), fun hw => ?_, fun q a b c => (by have a : i + 1 ≤ q := a; omega), .inl ?_, h1, h2⟩
    · exfalso
      have hw : i + 1 < st.whi := hw
      by_cases e : st.lo < st.whi
      · have := (h.word e).2.1; omega
      · have := h.le; omega
    · show wd rs (i + 1) (i + 1) ≤ width
      rw [wd_self]
      exact Nat.zero_le _
  · rename_i e
    obtain ⟨h1, h2⟩ := h.room hr e
    exact h1.took hr e h2
theorem inv_at (rs : List Int) (width : Nat) : ∀ i, i ≤ rs.length → Inv rs width i (stAt rs width i)
  | 0, _ => ⟨Nat.le_refl _, fun q _ h => (by omega), fun h => (by cases h), fun q _ _ h => (by omega), .inl (by rw [show (stAt rs width 0).lo = 0 from rfl, wd_self]; exact Nat.zero_le _), fun x hx => (by cases hx), rfl⟩
  | i + 1, h => by
    have hi : rs[i]? = some (rs.getD i 0) := by
      rw [List.getD_eq_getElem?_getD, List.getElem?_eq_getElem (by omega)]
      rfl
    exact (inv_at rs width i (by omega)).step hi
theorem rowsP_ok (rs : List Int) (width : Nat) : (∀ x ∈ rowsP rs width, RowOk rs width x) ∧ Ch 0 (rowsP rs width) (rs.length + 1) :=
  (inv_at rs width rs.length (Nat.le_refl _)).endLine (.inl rfl)
theorem rowsP_ne (rs : List Int) (width : Nat) : rowsP rs width ≠ [] := by
  unfold rowsP St.endLine
  simp
end Go.Proofs.YtfnpmncmceocdaaDoor
