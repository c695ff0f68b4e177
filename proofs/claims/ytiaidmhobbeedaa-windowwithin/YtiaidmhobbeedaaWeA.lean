import Derived.Test.YtiaidmhobbeedaaWcA
import Derived.Laws.Cover4
/-! The sentences' own pick and come. -/
namespace Go.Proofs.Ytiaidmhobbeedaa
open Go.RowKit Go.Lib
set_option maxRecDepth 100000

theorem pk_fact (x n : Int) (h : 1 ≤ n) : (if x.tmod n < 0 then x.tmod n + n else x.tmod n) = x % n := by
  have h1 := Int.tmod_eq_emod (a := x) (b := n)
  have h2 := Int.emod_nonneg x (show n ≠ 0 by omega)
  have h3 := Int.emod_lt_of_pos x (show 0 < n by omega)
  have h4 : (n.natAbs : Int) = n := by omega
  split at h1 <;> rename_i hc
  · split <;> omega
  · have h5 : x % n ≠ 0 := fun e => hc (.inr (Int.dvd_of_emod_eq_zero e))
    rw [h4] at h1
    split <;> omega
set_option maxHeartbeats 1000000 in
theorem pk_any (x n : Int) (hn : 1 ≤ n) (hn2 : n ≤ 4611686018427387904) (w : World) : Calls Try.prog 10 #[.int .i64 x, .int .i64 n] w fun e w' => e = .returned (.int .i64 (x % n)) ∧ w' = w := by
  have hw := pk_fact x n hn
  have q0 := Int.emod_nonneg x (show n ≠ 0 by omega)
  have q1 := Int.emod_lt_of_pos x (show 0 < n by omega)
  obtain ⟨r, hr⟩ : ∃ r, x.tmod n = r := ⟨_, rfl⟩
  rw [hr] at hw
  obtain ⟨q, hq⟩ : ∃ q, x % n = q := ⟨_, rfl⟩
  rw [hq] at hw q0 q1 ⊢
  have b1 : -n ≤ r := by split at hw <;> omega
  have b2 : r < n := by split at hw <;> omega
  have e0 : IntKind.i64.wrap r = r := IntWalk.i64_in _ (by omega)
  have t2 : (n == 0) = false := beq_eq_false_iff_ne.2 (by omega)
  clear hq
  by_cases h0 : r < 0
  · rw [if_pos h0] at hw
    have e1 : IntKind.i64.wrap (r + n) = r + n := IntWalk.i64_in _ (by omega)
    go_enter Try.func10, Try.ntmps10
    go_wp2_with fail
    go_ret
    exact ⟨by rw [← hw]; rfl, rfl⟩
  · rw [if_neg h0] at hw
    have t3 : decide (r < 0) = false := decide_eq_false h0
    go_enter Try.func10, Try.ntmps10
    go_wp2_with fail
    go_ret
    exact ⟨by rw [← hw]; rfl, rfl⟩
/-- pick as a natural number. -/
theorem pk_nat (x : Int) (n : Nat) (hn : 1 ≤ n) (hn2 : n ≤ 1073741824) : ∃ z : Nat, z < n ∧ x % (n : Int) = (z : Int) ∧ ∀ w, Calls Try.prog 10 #[.int .i64 x, .int .i64 (n : Int)] w fun e w' => e = .returned (.int .i64 (z : Int)) ∧ w' = w := by
  have q0 := Int.emod_nonneg x (show (n : Int) ≠ 0 by omega)
  have q1 := Int.emod_lt_of_pos x (show (0 : Int) < n by omega)
  refine ⟨(x % (n : Int)).toNat, by omega, by omega, fun w => ?_⟩
  have := pk_any x n (by omega) (by omega) w
  rw [show (((x % (n : Int)).toNat : Nat) : Int) = x % (n : Int) by omega]
  exact this

def bool1 (b : Bool) : List Value := [.bool b]
theorem layB1 : Lay bool1 1 := ⟨fun _ => rfl, by decide, fun x u hu => by simp [bool1] at hu; subst hu; rfl⟩
theorem flat_bool (l : List Bool) : flatF bool1 l = l.map Value.bool := by
  induction l with
  | nil => rfl
  | cons b t ih => simp only [flatF, List.flatMap_cons, List.map_cons] at ih ⊢; rw [ih]; rfl
theorem ownB_set {w : World} {B g n cap : Nat} {l : List Bool} (h : OwnF bool1 1 4 w B (.slice (some ⟨g, 0, none⟩) n cap) l) (j : Nat) (z : Bool) :
    OwnF bool1 1 4 (w.setCell ⟨g, j, none⟩ (.bool z)) B (.slice (some ⟨g, 0, none⟩) n cap) (l.set j z) := by
  have hlen := (h.rw_ layB1).len
  have h' : w.ownsRow B 4 1 (.slice (some ⟨g, 0, none⟩) n cap) n (l.map Value.bool) := by
    unfold OwnF at h
    rw [hlen, flat_bool] at h
    exact h
  have := (World.ownsRow.stored h' j (.bool z)).1
  unfold OwnF
  rw [List.length_set, hlen, flat_bool, List.map_set]
  exact this
theorem boolInfo : (Try.prog.info? 4).map (fun i => (i.zero, i.size, i.bytes)) = some (some (.bool false), 1, 1) := by kernel_rfl
theorem makeB (w : World) (n : Nat) (hn : n ≤ 4194304) : ∃ w', (Instr.makeSlice 70 (.int .i64 (n : Int)) (.int .i64 (n : Int))).run Try.prog w = .ok (.slice (some ⟨w.heap.size, 0, none⟩) n n) w' ∧ OwnF bool1 1 4 w' w.heap.size (.slice (some ⟨w.heap.size, 0, none⟩) n n) (List.replicate n false) ∧ Below w.heap.size w w' ∧ w.heap.size < w'.heap.size := by
  obtain ⟨i, hi, hz, hsz, hby⟩ := info_parts boolInfo
  have hr := run_make (P := Try.prog) w 70 4 i _ Try.underlying70 hi hz .i64 .i64 (n : Int) (n : Int) (by omega) (by omega) (by rw [hby]; omega) (by omega)
  simp only [hsz, Int.toNat_natCast, Nat.mul_one] at hr
  refine ⟨_, hr, ?_, (Below.refl _ _).alloc (Nat.le_refl _) _, by simp⟩
  unfold OwnF
  rw [flat_bool]
  refine ⟨by simp, .inr ⟨w.heap.size, n, _, by rw [List.length_replicate], Nat.le_refl _, heap_alloc_new w _, by simp, by simp only [maxLen]; omega, by simp [madeCells], ?_⟩⟩
  apply List.ext_getElem?
  intro k
  by_cases hk : k < n
  · simp [madeCells, hk, Value.cells, Nat.mod_one]
  · simp [madeCells, hk]
theorem kindI1 : Kind Try.prog 29 3 1 8 := kind_of Try.underlying29 (z := .int .i64 0) (by kernel_rfl) rfl

/-! ## come -/
/-- Which numbers have come: each once, none of them is free. -/
structure Cm (m : Nat) (l : List Int) (B : List Bool) : Prop where
  nodup : l.Nodup
  rng : ∀ x ∈ l, 0 ≤ x ∧ x < (m : Int)
  len : B.length = m
  at_ : ∀ n : Nat, B[n]? = some true ↔ (n : Int) ∈ l
  cnt : B.count false + l.length = m
theorem Cm.start (m : Nat) : Cm m [] (List.replicate m false) := ⟨List.nodup_nil, by simp, by simp, fun n => by simp [List.getElem?_replicate], by simp⟩
theorem count_set : ∀ (B : List Bool) (n : Nat), B[n]? = some false → (B.set n true).count false + 1 = B.count false
  | [], n, h => by simp at h
  | b :: B, 0, h => by simp at h; subst h; simp
  | b :: B, n + 1, h => by
    simp at h
    have := count_set B n h
    simp only [List.set_cons_succ, List.count_cons]
    omega
theorem Cm.step {m : Nat} {l : List Int} {B : List Bool} (h : Cm m l B) {n : Nat} (hn : B[n]? = some false) : Cm m (l ++ [(n : Int)]) (B.set n true) := by
  have hnl : n < B.length := (List.getElem?_eq_some_iff.1 hn).1
  have hni : (n : Int) ∉ l := fun e => by have := (h.at_ n).2 e; rw [hn] at this; cases this
  refine ⟨?_, ?_, by rw [List.length_set]; exact h.len, ?_, ?_⟩
  · rw [List.nodup_append]
    exact ⟨h.nodup, by simp, fun a ha b hb e => by simp at hb; subst hb; subst e; exact hni ha⟩
  · intro x hx
    rcases List.mem_append.1 hx with hx | hx
    · exact h.rng x hx
    · simp at hx; subst hx; have := h.len; omega
  · intro k
    rw [List.getElem?_set]
    by_cases hk : n = k
    · subst hk
      simp [hnl]
    · rw [if_neg hk, h.at_ k]
      simp
      omega
  · have := count_set B n hn
    have := h.cnt
    rw [List.length_append]
    simp
    omega
theorem take_count (B : List Bool) {n : Nat} {b : Bool} (hn : B[n]? = some b) : (B.take (n + 1)).count false = (B.take n).count false + (if b = false then 1 else 0) := by
  rw [List.take_add_one, hn, List.count_append]
  cases b <;> simp
/-- All numbers of a full list. -/
theorem full_mem {m : Nat} {l : List Int} (hd : l.Nodup) (hr : ∀ x ∈ l, 0 ≤ x ∧ x < (m : Int)) (hl : l.length = m) (x : Int) (h0 : 0 ≤ x) (h1 : x < (m : Int)) : x ∈ l := by
  by_cases hx : x ∈ l
  · exact hx
  · exfalso
    have h2 : (x :: l).Nodup := List.nodup_cons.2 ⟨hx, hd⟩
    have := few 0 m (x :: l) h2 (fun y hy => by
      rcases List.mem_cons.1 hy with rfl | hy
      · omega
      · have := hr y hy; omega)
    simp at this
    omega
end Go.Proofs.Ytiaidmhobbeedaa
