import Derived.Test.YtjnglghhcbdpmaaSpNc
import Derived.Deep.RegionHeld3
namespace Go.Proofs.Ytjnglghhcbdpmaa
open Go.RowKit Go.Lib Go.Shelf
set_option maxRecDepth 100000

theorem rng_prefix {w : World} {a : Option Addr} {n m cap : Nat} {l k : List (Int × Int)} (h : Rng w a m cap (l ++ k)) (hn : l.length = n) (hm : n ≤ m) : Rng w a n cap l := by
  refine ⟨hn, ⟨by have := h.room; omega, h.room.2⟩, fun j hj => ?_⟩
  obtain ⟨g, off, e, hg, hc, hd⟩ := h.cells j (by omega)
  have ed : (l ++ k).getD j (0, 0) = l.getD j (0, 0) := by
    rw [List.getD_eq_getElem?_getD, List.getD_eq_getElem?_getD, List.getElem?_append_left (by omega)]
  rw [ed] at hc hd
  exact ⟨g, off, e, hg, hc, hd⟩
/-- All but one block of what was there is as it was. -/
structure KB (r : Option Nat) (w w' : World) : Prop where
  os : w'.os = w.os
  tape : w'.tape = w.tape
  output : w'.output = w.output
  size : w.heap.size ≤ w'.heap.size
  block : ∀ q, q < w.heap.size → some q ≠ r → w'.heap[q]? = w.heap[q]?
theorem KB.refl (r : Option Nat) (w : World) : KB r w w := ⟨rfl, rfl, rfl, Nat.le_refl _, fun _ _ _ => rfl⟩
theorem KB.trans {r : Option Nat} {a b c : World} (h : KB r a b) (k : KB r b c) : KB r a c := ⟨k.os.trans h.os, k.tape.trans h.tape, k.output.trans h.output, Nat.le_trans h.size k.size, fun q hq hne => (k.block q (by have := h.size; omega) hne).trans (h.block q hq hne)⟩
theorem KB.ofBelow {r : Option Nat} {a b : World} (h : Below a.heap.size a b) : KB r a b := ⟨h.os, h.tape, h.output, h.size, fun q hq _ => h.block q hq⟩
theorem KB.set {a : World} {p : Addr} (u : Value) : KB (some p.block) a (a.setCell p u) := ⟨rfl, rfl, rfl, by simp [World.setCell], fun q _ hne => Below.heap_setCell _ _ _ _ (fun e => hne (by rw [e]))⟩
theorem KB.ofKeeps {B : Nat} {a b : World} {v : Value} (h : Below B a b) (hk : Keeps a b v) : KB v.ownBlock a b := ⟨h.os, h.tape, h.output, h.size, fun q hq hne => hk q hq (fun e => hne e.symm)⟩
theorem KB.own {r : Option Nat} {w w' : World} {B : Nat} {u : Value} {l : List (Int × Int)} (hk : KB r w w') (h : Own w B u l) (hne : ∀ g, u.ownBlock = some g → r ≠ some g) : Own w' B u l := by
  refine ⟨h.1, ?_⟩
  rcases h.2 with h0 | ⟨g, cap, cur, e, h1, hh, rest⟩
  · exact .inl h0
  · exact .inr ⟨g, cap, cur, e, h1, (hk.block g (Array.getElem?_eq_some_iff.1 hh).1 (fun e2 => hne g (by rw [e]; rfl) e2.symm)).trans hh, rest⟩
theorem KB.ownS {r : Option Nat} {w w' : World} {B : Nat} {u : Value} {l : List Value} (hk : KB r w w') (h : OwnS w B u l) (hne : ∀ g, u.ownBlock = some g → r ≠ some g) : OwnS w' B u l := by
  refine ⟨h.1, ?_⟩
  rcases h.2 with h0 | ⟨g, cap, cur, e, h1, hh, rest⟩
  · exact .inl h0
  · exact .inr ⟨g, cap, cur, e, h1, (hk.block g (Array.getElem?_eq_some_iff.1 hh).1 (fun e2 => hne g (by rw [e]; rfl) e2.symm)).trans hh, rest⟩
/-- A slice value that reads as l. -/
def Rd (w : World) (v : Value) (l : List (Int × Int)) : Prop := ∃ g cap, v = .slice g l.length cap ∧ Rng w g l.length cap l
theorem KB.rd {r : Option Nat} {w w' : World} {u : Value} {l : List (Int × Int)} (hk : KB r w w') (h : Rd w u l) (hne : ∀ g, u.ownBlock = some g → r ≠ some g) : Rd w' u l := by
  obtain ⟨a, cap, rfl, hr⟩ := h
  refine ⟨a, cap, rfl, hr.len, hr.room, fun j hj => ?_⟩
  obtain ⟨g, off, e, hg, hc, hd⟩ := hr.cells j hj
  have hb := hk.block g hg (fun e2 => hne g (by rw [e]; rfl) e2.symm)
  have e1 : ∀ o, w'.cell? ⟨g, o, none⟩ = w.cell? ⟨g, o, none⟩ := fun o => by simp [World.cell?, hb]
  exact ⟨g, off, e, by have := hk.size; omega, (e1 _).trans hc, (e1 _).trans hd⟩
theorem Rd.below {w w' : World} {u : Value} {l : List (Int × Int)} (h : Rd w u l) (hb : Below w.heap.size w w') : Rd w' u l := (KB.ofBelow (r := none) hb).rd h (fun _ _ e => by cases e)
def markL (k n : Nat) : List (Int × Int) := (List.range n).map (markR k)
theorem markL_length (k n : Nat) : (markL k n).length = n := by simp [markL]
theorem markL_succ (k n : Nat) : markL k (n + 1) = markL k n ++ [markR k n] := by simp [markL, List.range_succ]
theorem markL_get (k n j : Nat) (h : j < n) : (markL k n).getD j (0, 0) = markR k j := by simp [markL, List.getD_eq_getElem?_getD, h]
def mixL (k i : Nat) (l : List (Int × Int)) : List (Int × Int) := markL k i ++ l.drop i
theorem mixL_length (k i : Nat) (l : List (Int × Int)) (h : i ≤ l.length) : (mixL k i l).length = l.length := by simp [mixL, markL_length]; omega
theorem mixL_set (k i : Nat) (l : List (Int × Int)) (h : i < l.length) : (mixL k i l).set i (markR k i) = mixL k (i + 1) l := by
  unfold mixL
  rw [List.set_append, markL_length, if_neg (by omega), Nat.sub_self, List.drop_eq_getElem_cons h, List.set_cons_zero, markL_succ]
  simp
theorem mixL_all (k : Nat) (l : List (Int × Int)) : mixL k l.length l = markL k l.length := by simp [mixL]
theorem flat_setAt (l : List (Int × Int)) (i : Nat) (x y : Int) : ((flat l).set (i * 2) (.int .i64 x)).set (i * 2 + 1) (.int .i64 y) = flat (l.set i (x, y)) := by
  induction l generalizing i with
  | nil => simp [flat]
  | cons r t ih =>
    cases i with
    | zero => simp [flat]
    | succ i =>
      have := ih i
      simp only [flat, List.flatMap_cons, List.set_cons_succ, List.cons_append, List.nil_append, show (i + 1) * 2 = i * 2 + 1 + 1 by omega] at this ⊢
      rw [← this]
theorem own_setAt {w : World} {B g n cap : Nat} {l : List (Int × Int)} (h : Own w B (.slice (some ⟨g, 0, none⟩) n cap) l) (i : Nat) (x y : Int) :
    Own ((w.setCell ⟨g, i * 2, none⟩ (.int .i64 x)).setCell ⟨g, i * 2 + 1, none⟩ (.int .i64 y)) B (.slice (some ⟨g, 0, none⟩) n cap) (l.set i (x, y)) := by
  have hlen := h.rng.len
  have h' : w.ownsRow B 39 2 (.slice (some ⟨g, 0, none⟩) n cap) n (flat l) := by
    unfold Own at h
    rw [hlen] at h
    exact h
  have h1 := (World.ownsRow.stored h' (i * 2) (.int .i64 x)).1
  have h2 := (World.ownsRow.stored h1 (i * 2 + 1) (.int .i64 y)).1
  rw [flat_setAt] at h2
  unfold Own
  rw [List.length_set, hlen]
  exact h2
theorem norm_len {b T : Int} {l : List (Int × Int)} (h : Norm b l) (ht : ∀ r ∈ l, r.2 ≤ T) : (l.length : Int) * 2 ≤ max 0 (T - b) := by
  induction l generalizing b with
  | nil => simp; omega
  | cons r t ih =>
    have h1 := ih h.2.2 (fun x hx => ht x (List.mem_cons_of_mem _ hx))
    have h2 := ht r List.mem_cons_self
    have h3 := h.1
    have h4 := h.2.1
    simp only [List.length_cons]
    omega
theorem backCode_zero {l : List (Int × Int)} {at_ n : Int} (hl : Lst l) (h : backCode l at_ n = 0) : (0 ≤ at_ ∧ at_ ≤ 1048576) ∧ (0 ≤ n ∧ n ≤ 1048576) ∧ at_ + n ≤ 1048576 := by
  unfold backCode at h
  rw [hl.check, if_pos rfl] at h
  split at h
  · assumption
  · simp at h
theorem apart_types {w : World} {B B' : Nat} {u v : Value} {l : List (Int × Int)} {xs : List Value} (h : Own w B u l) (h' : OwnS w B' v xs) : ∀ g, u.ownBlock = some g → v.ownBlock ≠ some g := fun g hu hv => by
  rcases h.2 with ⟨rfl, _⟩ | ⟨g1, c1, cur1, rfl, _, hh1, _⟩
  · simp [Value.ownBlock] at hu
  · rcases h'.2 with ⟨rfl, _⟩ | ⟨g2, c2, cur2, rfl, _, hh2, _⟩
    · simp [Value.ownBlock] at hv
    · have e1 : g1 = g := by simpa [Value.ownBlock] using hu
      have e2 : g2 = g := by simpa [Value.ownBlock] using hv
      subst e1
      subst e2
      rw [hh1] at hh2
      simp at hh2
theorem ansLen {A B : List (Int × Int)} {at_ n : Int} {U : Nat → List (Int × Int)} (h : AnsSpec A B at_ n U) (hA : Lst A) (k : Nat) (hk : k < 7) : (U k).length ≤ 1000000 := by
  have few : ∀ {c0 c : Int} {S : Int → Prop} {V : List (Int × Int)}, SpecS c0 S c V → V.length ≤ 1000000 := fun hs => by
    rcases hs with ⟨_, _, rfl⟩ | ⟨_, W, _, _, ⟨h1, _, rfl⟩ | ⟨_, _, rfl⟩⟩
    · simp
    · omega
    · simp
  match k, hk with
  | 0, _ => obtain ⟨_, h⟩ := h.s0; exact few h
  | 1, _ => obtain ⟨_, h⟩ := h.s1; exact few h
  | 2, _ => obtain ⟨_, h⟩ := h.s2; exact few h
  | 3, _ => obtain ⟨_, h⟩ := h.s3; exact few h
  | 4, _ => obtain ⟨_, h⟩ := h.s4; exact few h
  | 5, _ =>
    obtain ⟨c, h⟩ := h.s5
    rcases h with ⟨_, _, e, _⟩ | ⟨h0, _, n1, l1, n2, l2⟩
    · rw [e]; simp
    · have hp := backCode_zero hA h0
      have := norm_len n1 (T := 1048577) (fun r hr => by
        have h3 := norm_lt n1 r hr
        have h4 := (l1 (r.2 - 1)).1 ⟨r, hr, by omega, by omega⟩
        rcases h4 with ⟨h5, _⟩ | ⟨h5, _⟩
        · have := lies_top hA h5; omega
        · have := lies_top hA h5; omega)
      omega
  | 6, _ =>
    obtain ⟨c, h⟩ := h.s5
    rcases h with ⟨_, _, _, e⟩ | ⟨h0, _, n1, l1, n2, l2⟩
    · rw [e]; simp
    · have hp := backCode_zero hA h0
      have := norm_len n2 (T := 1048577) (fun r hr => by
        have h3 := norm_lt n2 r hr
        have h4 := (l2 (r.2 - 1)).1 ⟨r, hr, by omega, by omega⟩
        have := lies_top hA h4.1
        omega)
      omega

/-- The lists below k hold marks, and are longer by one. -/
structure Mk (B0 : Nat) (vs : Nat → Value) (U : Nat → List (Int × Int)) (y0 w : World) (k : Nat) (ls : List Value) : Prop where
  os : w.os = y0.os
  tape : w.tape = y0.tape
  output : w.output = y0.output
  size : y0.heap.size ≤ w.heap.size
  block : ∀ q, q < y0.heap.size → (∀ j, j < 7 → (vs j).ownBlock ≠ some q) → w.heap[q]? = y0.heap[q]?
  rest : ∀ j, k ≤ j → j < 7 → Own w B0 (vs j) (U j)
  rdv : ∀ j, j < k → Rd w (vs j) (markL j (U j).length)
  own : ∀ j, j < k → Own w B0 (ls.getD j undef) (markL j ((U j).length + 1))
  lie : ∀ j, j < k → ∀ x, (ls.getD j undef).ownBlock = some x → (vs j).ownBlock = some x ∨ y0.heap.size ≤ x
theorem Mk.step {B0 : Nat} {vs : Nat → Value} {U : Nat → List (Int × Int)} {y0 w x2 x3 : World} {k : Nat} {ls : List Value} {vl lnew : Value} (h : Mk B0 vs U y0 w k ls) (hk : k < 7) (hl : ls.length = k)
    (hap : ∀ j i, j < 7 → i < 7 → j ≠ i → Apart (vs j) (vs i)) (hV : ∀ j, j < 7 → ∀ x, (vs j).ownBlock = some x → x < y0.heap.size)
    (h2 : KB (vs k).ownBlock w x2) (rk : Rd x2 (vs k) (markL k (U k).length)) (ok : Own x2 B0 lnew (markL k ((U k).length + 1))) (hlie : ∀ x, lnew.ownBlock = some x → (vs k).ownBlock = some x ∨ y0.heap.size ≤ x)
    (hS : OwnS x2 y0.heap.size vl ls) (h3 : KB vl.ownBlock x2 x3) : Mk B0 vs U y0 x3 (k + 1) (ls ++ [lnew]) := by
  have hvl : ∀ x, vl.ownBlock = some x → y0.heap.size ≤ x := fun x hx => (World.ownsRow.lt hS x hx).1
  have nv : ∀ j, j < 7 → ∀ g, (vs j).ownBlock = some g → vl.ownBlock ≠ some g := fun j hj g hg e => by
    have h1 := hV j hj g hg
    have h2 := hvl g e
    omega
  have get1 : ∀ j, j < k → (ls ++ [lnew]).getD j undef = ls.getD j undef := fun j hj => by
    rw [List.getD_eq_getElem?_getD, List.getD_eq_getElem?_getD, List.getElem?_append_left (by omega)]
  have get2 : (ls ++ [lnew]).getD k undef = lnew := by rw [← hl]; exact getD_snoc _ _ _
  refine ⟨h3.os.trans (h2.os.trans h.os), h3.tape.trans (h2.tape.trans h.tape), h3.output.trans (h2.output.trans h.output), by have := h.size; have := h2.size; have := h3.size; omega, fun q hq hne => ?_, fun j hj hj7 => ?_, fun j hj => ?_, fun j hj => ?_, fun j hj x hx => ?_⟩
  · have s1 := h.size
    have s2 := h2.size
    have a1 := h2.block q (by omega) (fun e => hne k hk e.symm)
    have a2 := h3.block q (by omega) (fun e => by have := hvl q e.symm; omega)
    exact a2.trans (a1.trans (h.block q hq hne))
  · have a1 := h2.own (h.rest j (by omega) hj7) (fun g hg e => hap j k hj7 hk (by omega) g hg e)
    exact h3.own a1 (fun g hg => nv j hj7 g hg)
  · by_cases e : j = k
    · subst e
      exact h3.rd rk (fun g hg => nv j hk g hg)
    · have a1 := h2.rd (h.rdv j (by omega)) (fun g hg e => hap j k (by omega) hk (by omega) g hg e)
      exact h3.rd a1 (fun g hg => nv j (by omega) g hg)
  · by_cases e : j = k
    · subst e
      rw [get2]
      exact h3.own ok (apart_types ok hS)
    · rw [get1 j (by omega)]
      have a1 := h2.own (h.own j (by omega)) (fun g hg e => by
        rcases h.lie j (by omega) g hg with q | q
        · exact hap j k (by omega) hk (by omega) g q e
        · have := hV k hk g e
          omega)
      exact h3.own a1 (apart_types a1 hS)
  · by_cases e : j = k
    · subst e
      rw [get2] at hx
      exact hlie x hx
    · rw [get1 j (by omega)] at hx
      exact h.lie j (by omega) x hx
end Go.Proofs.Ytjnglghhcbdpmaa
