import Derived.Test.YtlebbffpbbjakaaDoorXbK
namespace Go.Proofs.YtlebbffpbbjakaaDoor
open Go.RowKit Go.Lib
set_option maxRecDepth 100000

/-! The sentences' own small calls. -/
theorem within_fact (x n : Int) (h : 1 ≤ n) : (if x.tmod n < 0 then x.tmod n + n else x.tmod n) = x % n := by
  have h1 := Int.tmod_eq_emod (a := x) (b := n)
  have h2 := Int.emod_nonneg x (show n ≠ 0 by omega)
  have h3 := Int.emod_lt_of_pos x (show 0 < n by omega)
  have h4 : (n.natAbs : Int) = n := by omega
  split at h1 <;> rename_i hc
  · split <;> omega
  · have h5 : x % n ≠ 0 := fun e => hc (.inr (Int.dvd_of_emod_eq_zero e))
    rw [h4] at h1
    split <;> omega
set_option maxHeartbeats 1000000 in
theorem within_any (x n : Int) (hn : 1 ≤ n) (hn2 : n ≤ 4611686018427387904) (w : World) : Calls Tryd.prog 7 #[.int .i64 x, .int .i64 n] w fun e w' => e = .returned (.int .i64 (x % n)) ∧ w' = w := by
  have hw := within_fact x n hn
  have q0 := Int.emod_nonneg x (show n ≠ 0 by omega)
  have q1 := Int.emod_lt_of_pos x (show 0 < n by omega)
  obtain ⟨r, hr⟩ : ∃ r, x.tmod n = r := ⟨_, rfl⟩
  rw [hr] at hw
  obtain ⟨q, hq⟩ : ∃ q, x % n = q := ⟨_, rfl⟩
  rw [hq] at hw q0 q1 ⊢
  have b1 : -n ≤ r := by split at hw <;> omega
  have b2 : r < n := by split at hw <;> omega
  have e0 : IntKind.i64.wrap r = r := IntWalk.i64_in _ (by omega)
  have t1 : decide (n < 1) = false := decide_eq_false (by omega)
  have t2 : (n == 0) = false := beq_eq_false_iff_ne.2 (by omega)
  clear hq
  by_cases h0 : r < 0
  · rw [if_pos h0] at hw
    have e1 : IntKind.i64.wrap (r + n) = r + n := IntWalk.i64_in _ (by omega)
    go_enter Tryd.func7, Tryd.ntmps7
    go_wp2_with fail
    go_ret
    exact ⟨by rw [← hw]; rfl, rfl⟩
  · rw [if_neg h0] at hw
    have t3 : decide (r < 0) = false := decide_eq_false h0
    go_enter Tryd.func7, Tryd.ntmps7
    go_wp2_with fail
    go_ret
    exact ⟨by rw [← hw]; rfl, rfl⟩
theorem num_any (e : Int) (w : World) : Calls Tryd.prog 11 #[.int .i64 e] w fun r w' => r = .returned (.int .i64 e) ∧ w' = w := by
  go_enter Tryd.func11, Tryd.ntmps11
  go_wp2_with fail
  go_ret
  exact ⟨rfl, rfl⟩

def txt : Nat → ByteArray
  | 0 => ⟨#[97]⟩
  | 1 => ⟨#[97, 195, 169]⟩
  | 2 => ⟨#[226, 130, 172, 97, 195, 169]⟩
  | 3 => ⟨#[122, 195, 169, 240, 159, 152, 128, 97]⟩
  | _ => ⟨#[97, 98, 99, 100, 101]⟩
theorem txt_check : ∀ i, i < 5 → check (txt i) = (((i + 1 : Nat) : Int), 0, 0)
  | 0, _ => by decide +kernel
  | 1, _ => by decide +kernel
  | 2, _ => by decide +kernel
  | 3, _ => by decide +kernel
  | 4, _ => by decide +kernel
  | i + 5, h => by omega
theorem txt_size (i : Nat) : (txt i).size ≤ 8 := by
  unfold txt
  split <;> decide
/-- The table of texts. -/
structure Txs (w : World) : Prop where
  lies : ∃ t fr, w.heap[0]? = some (.cells #[.string (txt 0), .string (txt 1), .string (txt 2), .string (txt 3), .string (txt 4)] t fr)
theorem Txs.below {w w' : World} (h : Txs w) (hb : Below w.heap.size w w') : Txs w' := by
  obtain ⟨t, fr, hg⟩ := h.lies
  exact ⟨t, fr, (hb.block _ (Array.getElem?_eq_some_iff.1 hg).1).trans hg⟩
theorem Txs.at {w : World} (h : Txs w) (i : Nat) (hi : i < 5) : w.cell? ⟨0, i, none⟩ = some (.string (txt i)) := by
  obtain ⟨t, fr, hg⟩ := h.lies
  rw [Lib.cell_of_heap hg]
  match i, hi with
  | 0, _ => rfl
  | 1, _ => rfl
  | 2, _ => rfl
  | 3, _ => rfl
  | 4, _ => rfl
/-- How many runes, by the bytes that begin one. -/
def begins (b : UInt8) : Bool := decide (b < 128) || decide (192 ≤ b)
def lawW (s : ByteArray) (j : Nat) : Nat := ((s.data.toList.take j).filter begins).length
theorem lawW_le (s : ByteArray) (j : Nat) : lawW s j ≤ j := Nat.le_trans (List.length_filter_le _ _) (List.length_take_le _ _)
theorem lawW_next (s : ByteArray) (j : Nat) (h : j < s.size) : lawW s (j + 1) = lawW s j + if begins s[j] = true then 1 else 0 := by
  unfold lawW
  have hl : j < s.data.toList.length := h
  rw [List.take_succ_eq_append_getElem hl, List.filter_append, List.length_append]
  have e : s.data.toList[j] = s[j] := rfl
  rw [e]
  cases hb : begins s[j] <;> simp [List.filter, hb]
theorem lawW_yes (s : ByteArray) (j : Nat) (h : j < s.size) (hb : s[j].toNat < 128 ∨ 192 ≤ s[j].toNat) : lawW s (j + 1) = lawW s j + 1 := by
  rw [lawW_next s j h, if_pos]
  unfold begins
  rcases hb with hb | hb
  · have : s[j] < 128 := UInt8.lt_iff_toNat_lt.2 hb
    simp [this]
  · have : (192 : UInt8) ≤ s[j] := UInt8.le_iff_toNat_le.2 hb
    simp [this]
theorem lawW_no (s : ByteArray) (j : Nat) (h : j < s.size) (h1 : 128 ≤ s[j].toNat) (h2 : s[j].toNat < 192) : lawW s (j + 1) = lawW s j := by
  rw [lawW_next s j h]
  have a1 : ¬ s[j] < 128 := fun e => by have := UInt8.lt_iff_toNat_lt.1 e; simp at this; omega
  have a2 : ¬ (192 : UInt8) ≤ s[j] := fun e => by have := UInt8.le_iff_toNat_le.1 e; simp at this; omega
  have a3 : begins s[j] = false := by unfold begins; simp [a1, a2]
  simp [a3]
theorem txt_lawW : ∀ i, i < 5 → lawW (txt i) (txt i).size = i + 1
  | 0, _ => by decide +kernel
  | 1, _ => by decide +kernel
  | 2, _ => by decide +kernel
  | 3, _ => by decide +kernel
  | 4, _ => by decide +kernel
  | i + 5, h => by omega
end Go.Proofs.YtlebbffpbbjakaaDoor
