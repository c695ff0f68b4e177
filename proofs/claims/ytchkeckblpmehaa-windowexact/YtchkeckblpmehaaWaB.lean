import Derived.Test.YtchkeckblpmehaaWaA
/-! A window as plain data, and in memory. -/
namespace Go.Proofs.Ytchkeckblpmehaa
open Go.RowKit Go.Lib
set_option maxRecDepth 100000

/-- A window: the number whose turn it is, its width, what is held in the order in which it came. -/
structure Wn (α : Type) where
  nx : Int
  sz : Int
  L : List (Int × α)
section
variable {α : Type}
def hasN (L : List (Int × α)) (n : Int) : Bool := L.any (fun p => p.1 == n)
def getN (L : List (Int × α)) (n : Int) : Option α := (L.find? (fun p => p.1 == n)).map (·.2)
def delN (L : List (Int × α)) (n : Int) : List (Int × α) := L.filter (fun p => p.1 != n)
def putE (S : Wn α) (n : Int) : Int := if n < S.nx then 130 else if S.sz ≤ n - S.nx then 132 else if hasN S.L n = true then 131 else 0
def putS (S : Wn α) (n : Int) (v : α) : Wn α := if putE S n = 0 then ⟨S.nx, S.sz, S.L ++ [(n, v)]⟩ else S
def dropE (S : Wn α) (n : Int) : Int := if hasN S.L n = true then 0 else 15
def dropS (S : Wn α) (n : Int) : Wn α := ⟨S.nx, S.sz, delN S.L n⟩
def passS (S : Wn α) : Wn α := if hasN S.L S.nx = true then ⟨S.nx + 1, S.sz, delN S.L S.nx⟩ else S
def prs (xs : List (Ent α)) : List (Int × α) := xs.map fun x => (x.n, x.v)
theorem prs_fst (xs : List (Ent α)) : (prs xs).map (·.1) = xs.map (·.n) := by simp [prs]
theorem hasN_false {L : List (Int × α)} {n : Int} : hasN L n = false ↔ ∀ p ∈ L, p.1 ≠ n := by simp [hasN]
theorem hasN_true {L : List (Int × α)} {n : Int} : hasN L n = true ↔ ∃ v, (n, v) ∈ L := by
  simp only [hasN, List.any_eq_true, beq_iff_eq]
  constructor
  · rintro ⟨p, hp, rfl⟩; exact ⟨p.2, hp⟩
  · rintro ⟨v, hv⟩; exact ⟨_, hv, rfl⟩
theorem getN_none {L : List (Int × α)} {n : Int} (h : hasN L n = false) : getN L n = none := by
  have := hasN_false.1 h
  simp only [getN, Option.map_eq_none_iff, List.find?_eq_none, beq_iff_eq]
  exact this
theorem getN_isSome (L : List (Int × α)) (n : Int) : (getN L n).isSome = hasN L n := by
  rw [Bool.eq_iff_iff]
  simp only [getN, hasN, Option.isSome_map, List.find?_isSome, List.any_eq_true]
theorem getN_of {L : List (Int × α)} {n : Int} (h : hasN L n = true) : ∃ v, getN L n = some v := by
  rw [← getN_isSome] at h
  exact Option.isSome_iff_exists.1 h
theorem getN_mem {L : List (Int × α)} {n : Int} {v : α} (h : getN L n = some v) : (n, v) ∈ L := by
  simp only [getN, Option.map_eq_some_iff] at h
  obtain ⟨p, hp, rfl⟩ := h
  have h1 := List.find?_some hp
  have h2 := List.mem_of_find?_eq_some hp
  simp only [beq_iff_eq] at h1
  subst h1
  exact h2
theorem delN_none {L : List (Int × α)} {n : Int} (h : hasN L n = false) : delN L n = L := by
  have := hasN_false.1 h
  simp only [delN, List.filter_eq_self, bne_iff_ne]
  exact this
theorem hasN_delN (L : List (Int × α)) (n : Int) : hasN (delN L n) n = false := by
  rw [hasN_false]
  intro p hp
  simp only [delN, List.mem_filter, bne_iff_ne] at hp
  exact hp.2
theorem hasN_delN_ne (L : List (Int × α)) {n m : Int} (h : m ≠ n) : hasN (delN L n) m = hasN L m := by
  rw [Bool.eq_iff_iff, hasN_true, hasN_true]
  simp only [delN, List.mem_filter, bne_iff_ne]
  exact ⟨fun ⟨v, hv, _⟩ => ⟨v, hv⟩, fun ⟨v, hv⟩ => ⟨v, hv, h⟩⟩
theorem getN_delN_ne (L : List (Int × α)) {n m : Int} (h : m ≠ n) : getN (delN L n) m = getN L m := by
  induction L with
  | nil => rfl
  | cons p L ih =>
    simp only [getN, delN] at ih ⊢
    by_cases hp : p.1 = n
    · have h2 : (p.1 == m) = false := beq_eq_false_iff_ne.2 (by rw [hp]; exact fun e => h e.symm)
      have h3 : (p.1 != n) = false := by rw [hp]; simp
      simp only [List.filter_cons, h3, Bool.false_eq_true, if_false, List.find?_cons, h2]
      exact ih
    · have h3 : (p.1 != n) = true := bne_iff_ne.2 hp
      simp only [List.filter_cons, h3, if_true, List.find?_cons]
      cases (p.1 == m) with
      | true => rfl
      | false => exact ih
theorem hasN_app (L : List (Int × α)) (n m : Int) (v : α) : hasN (L ++ [(n, v)]) m = (hasN L m || n == m) := by simp [hasN]
theorem getN_app_ne (L : List (Int × α)) {n m : Int} (v : α) (h : m ≠ n) : getN (L ++ [(n, v)]) m = getN L m := by
  simp only [getN, List.find?_append]
  have : ([(n, v)] : List (Int × α)).find? (fun p => p.1 == m) = none := by simp; exact fun e => h e.symm
  rw [this, Option.or_none]
theorem getN_app_new {L : List (Int × α)} {n : Int} (v : α) (h : hasN L n = false) : getN (L ++ [(n, v)]) n = some v := by
  have h1 := getN_none h
  simp only [getN, Option.map_eq_none_iff] at h1
  simp [getN, List.find?_append, h1]
theorem delN_app_new {L : List (Int × α)} {n : Int} (v : α) (h : hasN L n = false) : delN (L ++ [(n, v)]) n = L := by
  have h1 := delN_none h
  simp only [delN] at h1
  simp [delN, List.filter_append, h1]

/-- What a look-up finds. -/
theorem ent_cases (xs : List (Ent α)) (hd : (xs.map (·.n)).Nodup) (n : Int) :
    ((∀ x ∈ xs, x.n ≠ n) ∧ hasN (prs xs) n = false) ∨ ∃ l x r, xs = l ++ x :: r ∧ x.n = n ∧ (∀ y ∈ l, y.n ≠ n) ∧ hasN (prs xs) n = true ∧ getN (prs xs) n = some x.v ∧ delN (prs xs) n = prs (l ++ r) := by
  rcases num_cases n xs hd with h | ⟨l, x, r, rfl, hx, h1, h2⟩
  · refine .inl ⟨h, hasN_false.2 fun p hp => ?_⟩
    obtain ⟨x, hx, rfl⟩ := List.mem_map.1 hp
    exact h x hx
  · refine .inr ⟨l, x, r, rfl, hx, h1, hasN_true.2 ⟨x.v, List.mem_map.2 ⟨x, by simp, by rw [hx]⟩⟩, ?_, ?_⟩
    · have hl : hasN (prs l) n = false := hasN_false.2 fun p hp => by obtain ⟨y, hy, rfl⟩ := List.mem_map.1 hp; exact h1 y hy
      have h3 := getN_none hl
      simp only [getN, prs, Option.map_eq_none_iff] at h3
      simp [getN, prs, List.map_append, List.find?_append, h3, hx]
    · have hl : delN (prs l) n = prs l := delN_none (hasN_false.2 fun p hp => by obtain ⟨y, hy, rfl⟩ := List.mem_map.1 hp; exact h1 y hy)
      have hr : delN (prs r) n = prs r := delN_none (hasN_false.2 fun p hp => by obtain ⟨y, hy, rfl⟩ := List.mem_map.1 hp; exact h2 y hy)
      simp only [delN, prs] at hl hr
      simp [delN, prs, List.map_append, List.filter_append, hl, hr, hx]
/-- The blocks of a window. -/
def Wb (q b : Nat) : Nat → Prop := fun g => g = q ∨ g = b
structure WinAt (f : α → Value) (T : TypeId) (W : World) (q b : Nat) (S : Wn α) : Prop where
  box : W.heap[q]? = some (.cells #[.int .i64 S.nx, .int .i64 S.sz, .map (some b)] T)
  map : ∃ xs ck, MapAt f W b xs ck ∧ prs xs = S.L
  nx0 : 0 ≤ S.nx
  sz1 : 1 ≤ S.sz
  szm : S.sz ≤ 1048576
  rng : ∀ p ∈ S.L, S.nx ≤ p.1 ∧ p.1 < S.nx + S.sz
variable {f : α → Value} {T : TypeId}
theorem WinAt.chg {W W' : World} {q b : Nat} {S : Wn α} {D : Nat → Prop} (h : WinAt f T W q b S) (hC : Chg D W W') (h1 : ¬ D q) (h2 : ¬ D b) : WinAt f T W' q b S := by
  obtain ⟨xs, ck, hm, hp⟩ := h.map
  exact ⟨hC.block h.box h1, ⟨xs, ck, hm.chg hC h2, hp⟩, h.nx0, h.sz1, h.szm, h.rng⟩
theorem WinAt.lt {W : World} {q b : Nat} {S : Wn α} (h : WinAt f T W q b S) : q < W.heap.size ∧ b < W.heap.size := by
  obtain ⟨xs, ck, hm, hp⟩ := h.map
  exact ⟨(Array.getElem?_eq_some_iff.1 h.box).1, (Array.getElem?_eq_some_iff.1 hm.heap).1⟩
theorem WinAt.ne {W : World} {q b : Nat} {S : Wn α} (h : WinAt f T W q b S) : q ≠ b := by
  obtain ⟨xs, ck, hm, hp⟩ := h.map
  intro e
  subst e
  have := h.box.symm.trans hm.heap
  simp at this
theorem WinAt.below {W W' : World} {q b : Nat} {S : Wn α} (h : WinAt f T W q b S) (hb : Below W.heap.size W W') : WinAt f T W' q b S :=
  h.chg (Chg.of_below (D := fun _ => False) hb) id id
theorem WinAt.drew {W : World} {q b : Nat} {S : Wn α} (h : WinAt f T W q b S) : WinAt f T W.drew q b S := h.chg (D := fun _ => False) (Chg.refl _ W).drew id id
theorem WinAt.drewN {W : World} {q b : Nat} {S : Wn α} (h : WinAt f T W q b S) (k : Nat) : WinAt f T (W.drewN k) q b S := h.chg (D := fun _ => False) (Chg.refl _ W).drewN id id
theorem WinAt.nodup {W : World} {q b : Nat} {S : Wn α} (h : WinAt f T W q b S) : (S.L.map (·.1)).Nodup := by
  obtain ⟨xs, ck, hm, hp⟩ := h.map
  rw [← hp, prs_fst]
  exact hm.nm
/-- The map takes another list of things. -/
theorem WinAt.newMap {W W' : World} {q b : Nat} {S : Wn α} (h : WinAt f T W q b S) (hC : Chg (fun g => g = b) W W') {xs : List (Ent α)} {ck : Nat} (hm : MapAt f W' b xs ck) (hr : ∀ p ∈ prs xs, S.nx ≤ p.1 ∧ p.1 < S.nx + S.sz) : WinAt f T W' q b ⟨S.nx, S.sz, prs xs⟩ :=
  ⟨hC.block h.box h.ne, ⟨xs, ck, hm, rfl⟩, h.nx0, h.sz1, h.szm, hr⟩
theorem delN_mem {L : List (Int × α)} {n : Int} {p : Int × α} (h : p ∈ delN L n) : p ∈ L ∧ p.1 ≠ n := by
  simpa [delN] using h
theorem delN_length {α : Type} {L : List (Int × α)} {n : Int} (hd : (L.map (·.1)).Nodup) (h : hasN L n = true) : (delN L n).length + 1 = L.length := by
  induction L with
  | nil => simp [hasN] at h
  | cons p L ih =>
    rw [List.map_cons, List.nodup_cons] at hd
    by_cases hp : p.1 = n
    · have hn : hasN L n = false := hasN_false.2 (fun x hx e => hd.1 (by rw [hp, ← e]; exact List.mem_map.2 ⟨x, hx, rfl⟩))
      have h1 := delN_none hn
      have h2 : delN (p :: L) n = delN L n := by simp [delN, hp]
      rw [h2, h1]
      rfl
    · have h2 : delN (p :: L) n = p :: delN L n := by simp [delN, hp]
      have h3 : hasN L n = true := by simpa [hasN, hp] using h
      rw [h2, List.length_cons, ih hd.2 h3, List.length_cons]
theorem putE_cases (S : Wn α) (n : Int) : (n < S.nx ∧ putE S n = 130) ∨ (S.nx ≤ n ∧ S.sz ≤ n - S.nx ∧ putE S n = 132) ∨ (S.nx ≤ n ∧ n - S.nx < S.sz ∧ hasN S.L n = true ∧ putE S n = 131) ∨ (S.nx ≤ n ∧ n - S.nx < S.sz ∧ hasN S.L n = false ∧ putE S n = 0) := by
  unfold putE
  by_cases h1 : n < S.nx
  · exact .inl ⟨h1, by simp [h1]⟩
  · by_cases h2 : S.sz ≤ n - S.nx
    · exact .inr (.inl ⟨by omega, h2, by simp [h1, h2]⟩)
    · cases h3 : hasN S.L n with
      | true => exact .inr (.inr (.inl ⟨by omega, by omega, rfl, by simp [h1, h2]⟩))
      | false => exact .inr (.inr (.inr ⟨by omega, by omega, rfl, by simp [h1, h2]⟩))
end
end Go.Proofs.Ytchkeckblpmehaa
