import Derived.Test.YtkdhcokefnffaaaDoorMaF
/-! Bytes that read as a list as far as they go: numbers read out of them. -/
namespace Go.Proofs.YtkdhcokefnffaaaDoor
open Go.RowKit Go.Lib Sp
set_option maxRecDepth 100000

def Agr (bs E : List Nat) : Prop := ∀ j y, E[j]? = some y → j < bs.length → bs[j]? = some y
theorem Agr.fst {bs E F : List Nat} (h : Agr bs (E ++ F)) : Agr bs E := fun j y hj hb => h j y (by rw [List.getElem?_append_left (List.getElem?_eq_some_iff.1 hj).1]; exact hj) hb
theorem Agr.snd {bs E F : List Nat} (h : Agr bs (E ++ F)) : Agr (bs.drop E.length) F := fun j y hj hb => by
  rw [List.length_drop] at hb
  rw [List.getElem?_drop]
  exact h _ y (by rw [List.getElem?_append_right (by omega)]; simpa using hj) (by omega)
theorem Agr.next {bs E F : List Nat} {i : Nat} (h : Agr (bs.drop i) (E ++ F)) : Agr (bs.drop (i + E.length)) F := by
  have := h.snd
  rwa [List.drop_drop] at this
theorem Agr.tail {b c : Nat} {bs E : List Nat} (h : Agr (b :: bs) (c :: E)) : b = c ∧ Agr bs E := ⟨by
  have := h 0 c rfl (by simp)
  simpa using this, fun j y hj hb => by
  have := h (j + 1) y (by simpa using hj) (by simpa using hb)
  simpa using this⟩
theorem agr_take (E : List Nat) (k : Nat) : Agr (E.take k) E := fun j y hj hb => by
  rw [List.length_take] at hb
  rw [List.getElem?_take, if_pos (by omega)]
  exact hj
theorem agr_more (E : List Nat) (F : List Nat) : Agr (E ++ F) E := fun j y hj _ => by
  rw [List.getElem?_append_left (List.getElem?_eq_some_iff.1 hj).1]; exact hj

theorem encF_pos (f n : Nat) : 1 ≤ (encF (f + 1) n).length := by
  rw [encF]
  split <;> simp
theorem numF_agr : ∀ (f j acc x : Nat) (l : List Nat), x < 128 ^ (f + 1) → (0 < j → 0 < x) → Agr l (encF (f + 1) x) →
    numF (f + 1) j acc l = if (encF (f + 1) x).length ≤ l.length then .ok (acc + x * 128 ^ j) (j + (encF (f + 1) x).length) else .cut
  | f, j, acc, x, [], _, _, _ => by
    have := encF_pos f x
    rw [if_neg (by simp only [List.length_nil]; omega)]
    rfl
  | f, j, acc, x, b :: r, hx, hj, hA => by
    by_cases hs : x < 128
    · rw [encF, if_pos hs] at hA ⊢
      obtain ⟨rfl, _⟩ := hA.tail
      rw [numF, if_pos hs, if_neg (fun h => by have := hj h.2; omega), if_pos (by simp)]
      rfl
    · cases f with
      | zero => simp at hx; omega
      | succ f =>
        rw [encF, if_neg hs] at hA ⊢
        obtain ⟨rfl, hA2⟩ := hA.tail
        have hx2 : x / 128 < 128 ^ (f + 1) := by
          rw [Nat.pow_succ 128 (f + 1)] at hx
          exact Nat.div_lt_of_lt_mul (by rw [Nat.mul_comm]; exact hx)
        have ih := numF_agr f (j + 1) (acc + (128 + x % 128 - 128) * 128 ^ j) (x / 128) r hx2 (fun _ => by omega) hA2
        rw [numF, if_neg (by omega), ih]
        simp only [List.length_cons]
        have e : acc + (128 + x % 128 - 128) * 128 ^ j + x / 128 * 128 ^ (j + 1) = acc + x * 128 ^ j := by
          rw [Nat.add_assoc]
          congr 1
          rw [Nat.add_sub_cancel_left, Nat.pow_succ, ← Nat.mul_assoc, Nat.mul_right_comm, ← Nat.add_mul, Nat.mod_add_div' x 128]
        rw [e]
        by_cases hl : (encF (f + 1) (x / 128)).length ≤ r.length
        · rw [if_pos hl, if_pos (by omega)]
          congr 1
          omega
        · rw [if_neg hl, if_neg (by omega)]
theorem numP_agr {x : Nat} {l : List Nat} (hx : x < 268435456) (h : Agr l (encP x)) : numP l = if (encP x).length ≤ l.length then .ok x (encP x).length else .cut := by
  have := numF_agr 3 0 0 x l (by simpa using hx) (by omega) h
  simp only [Nat.zero_add, Nat.pow_zero, Nat.mul_one] at this
  unfold numP encP
  rw [this]
theorem btw_agr {n i x : Nat} {lo hi why : Int} {bs : List Nat} (hn : bs.length = n) (hi2 : i ≤ n) (hx : x < 268435456) (h : Agr (bs.drop i) (encP x)) (h1 : lo ≤ (x : Int)) (h2 : (x : Int) ≤ hi) :
    btwP n i lo hi why (bs.drop i) = if i + (encP x).length ≤ n then .ok x (encP x).length else .bad n 102 := by
  unfold btwP
  rw [numP_agr hx h, List.length_drop, hn]
  by_cases hl : i + (encP x).length ≤ n
  · rw [if_pos (by omega), if_pos hl]
    simp only
    rw [if_pos ⟨h1, h2⟩]
  · rw [if_neg (by omega), if_neg hl]

theorem between_yes {w : World} {p n cap i x : Nat} {a : Option Addr} {bs : List Nat} (h : Rdr w p a n cap bs i) (hA : Agr (bs.drop i) (encP x)) (lo hi why : Int) (h1 : lo ≤ (x : Int)) (h2 : (x : Int) ≤ hi) (hx : x < 268435456) (hq : i + (encP x).length ≤ n) :
    Calls Tryd.prog 33 #[.pointer (some ⟨p, 0, none⟩), .int .i64 lo, .int .i64 hi, .int .i64 why] w fun e w' => e = .returned (.int .i64 x) ∧ Rdr w' p a n cap bs (i + (encP x).length) ∧ Chg (fun g => g = p) w w' := by
  have := between_any h lo hi why
  rw [btw_agr h.row.len h.le hx hA h1 h2, if_pos hq] at this
  exact this
theorem between_cut {w : World} {p n cap i x : Nat} {a : Option Addr} {bs : List Nat} (h : Rdr w p a n cap bs i) (hA : Agr (bs.drop i) (encP x)) (lo hi why : Int) (h1 : lo ≤ (x : Int)) (h2 : (x : Int) ≤ hi) (hx : x < 268435456) (hq : n < i + (encP x).length) :
    Calls Tryd.prog 33 #[.pointer (some ⟨p, 0, none⟩), .int .i64 lo, .int .i64 hi, .int .i64 why] w fun e w' => e = thrown n 102 ∧ Chg (fun g => g = p) w w' := by
  have := between_any h lo hi why
  rw [btw_agr h.row.len h.le hx hA h1 h2, if_neg (by omega)] at this
  exact this
end Go.Proofs.YtkdhcokefnffaaaDoor
