import Derived.Test.YtfnpmncmceocdaaDoorTxt
namespace Go.Proofs.YtfnpmncmceocdaaDoor

/-! UTF-8 over lists of bytes. -/
def at0 (l : List UInt8) (k : Nat) : Nat := (l.getD k 0).toNat
/-- the rune and the width, of a run of n bytes whose first four are these -/
def decN (n b0 b1 b2 b3 : Nat) : Nat × Nat :=
  if b0 < 0x80 then (b0, 1)
  else if b0 / 32 = 6 ∧ 1 < n ∧ b1 / 64 = 2 then
    if b0 % 32 * 64 + b1 % 64 ≥ 0x80 then (b0 % 32 * 64 + b1 % 64, 2) else (65533, 1)
  else if b0 / 16 = 14 ∧ (1 < n ∧ b1 / 64 = 2) ∧ 2 < n ∧ b2 / 64 = 2 then
    if b0 % 16 * 4096 + b1 % 64 * 64 + b2 % 64 ≥ 0x800 ∧ Utf8.valid ((b0 % 16 * 4096 + b1 % 64 * 64 + b2 % 64 : Nat) : Int) = true then (b0 % 16 * 4096 + b1 % 64 * 64 + b2 % 64, 3) else (65533, 1)
  else if b0 / 8 = 30 ∧ (1 < n ∧ b1 / 64 = 2) ∧ (2 < n ∧ b2 / 64 = 2) ∧ 3 < n ∧ b3 / 64 = 2 then
    if b0 % 8 * 262144 + b1 % 64 * 4096 + b2 % 64 * 64 + b3 % 64 ≥ 0x10000 ∧ Utf8.valid ((b0 % 8 * 262144 + b1 % 64 * 4096 + b2 % 64 * 64 + b3 % 64 : Nat) : Int) = true then (b0 % 8 * 262144 + b1 % 64 * 4096 + b2 % 64 * 64 + b3 % 64, 4) else (65533, 1)
  else (65533, 1)
def dec (l : List UInt8) : Nat × Nat := decN l.length (at0 l 0) (at0 l 1) (at0 l 2) (at0 l 3)

theorem at0_lt (l : List UInt8) (k : Nat) : at0 l k < 256 := UInt8.toNat_lt _

theorem get_drop (s : ByteArray) (pos k : Nat) : (s.get! (pos + k)).toNat = at0 (s.data.toList.drop pos) k := by
  unfold at0
  congr 1
  show s.data[pos + k]! = _
  rw [List.getD_eq_getElem?_getD, List.getElem?_drop, Array.getElem?_toList, getElem!_def]
  cases s.data[pos + k]? <;> rfl
theorem size_data (s : ByteArray) : s.size = s.data.toList.length := by rw [Array.length_toList]; rfl

theorem decode_dec (s : ByteArray) (pos : Nat) : Utf8.decode s pos = dec (s.data.toList.drop pos) := by
  have hc : ∀ k, (pos + k < s.size) = (k < s.size - pos) := fun k => by apply propext; omega
  have hl : (s.data.toList.drop pos).length = s.size - pos := by rw [List.length_drop, size_data]
  unfold Utf8.decode dec decN
  simp only [get_drop, hc, hl, Utf8.runeError, Bool.and_eq_true, decide_eq_true_eq, beq_iff_eq, and_assoc]

/-- the bytes of a rune -/
def encB (r : Int) : List UInt8 := (Utf8.encode r).data.toList
def encs (rs : List Int) : List UInt8 := rs.flatMap encB
theorem valid_le {r : Int} (h : Utf8.valid r = true) : 0 ≤ r ∧ r ≤ 1114111 ∧ ¬ (55296 ≤ r ∧ r ≤ 57343) := by
  simp [Utf8.valid] at h
  omega
theorem valid_of {r : Int} (h0 : 0 ≤ r) (h1 : r ≤ 1114111) (h : ¬ (55296 ≤ r ∧ r ≤ 57343)) : Utf8.valid r = true := by
  simp [Utf8.valid]
  omega

theorem ofNat_toNat (x : Nat) (h : x < 256) : (UInt8.ofNat x).toNat = x := by simp; omega
theorem at0_cons0 (b : UInt8) (l : List UInt8) : at0 (b :: l) 0 = b.toNat := rfl
theorem at0_succ (b : UInt8) (l : List UInt8) (k : Nat) : at0 (b :: l) (k + 1) = at0 l k := by simp [at0]
theorem dec1 (b : UInt8) (l : List UInt8) : dec (b :: l) = decN (l.length + 1) b.toNat (at0 l 0) (at0 l 1) (at0 l 2) := rfl

/-- the bytes, by the rune's size -/
def enc2 (c : Nat) : ByteArray :=
  let b (n : Nat) : UInt8 := UInt8.ofNat n
  if c < 0x80 then ⟨#[b c]⟩
  else if c < 0x800 then ⟨#[b (0xC0 + c / 64), b (0x80 + c % 64)]⟩
  else if c < 0x10000 then ⟨#[b (0xE0 + c / 4096), b (0x80 + c / 64 % 64), b (0x80 + c % 64)]⟩
  else ⟨#[b (0xF0 + c / 262144), b (0x80 + c / 4096 % 64), b (0x80 + c / 64 % 64), b (0x80 + c % 64)]⟩
theorem encode_if (r : Int) : Utf8.encode r = enc2 (if Utf8.valid r = true then r.toNat else Utf8.runeError) := rfl
theorem encode_at (c : Nat) (hv : Utf8.valid (c : Int) = true) : (if Utf8.valid (c : Int) = true then (c : Int).toNat else Utf8.runeError) = c := by
  rw [if_pos hv]; exact Int.toNat_natCast c
theorem encode_enc2 (c : Nat) (hv : Utf8.valid (c : Int) = true) : Utf8.encode (c : Int) = enc2 c := by rw [encode_if, encode_at c hv]
theorem encB_is (r : Int) : encB r = (Utf8.encode r).data.toList := rfl
theorem encB_enc2 (c : Nat) (hv : Utf8.valid (c : Int) = true) : encB c = (enc2 c).data.toList := by rw [encB_is, encode_enc2 c hv]
theorem encB1 (c : Nat) (h : c < 0x80) : encB c = [UInt8.ofNat c] := by
  rw [encB_enc2 c (valid_of (by omega) (by omega) (by omega))]
  unfold enc2
  simp only [if_pos h]
theorem encB2 (c : Nat) (h : c < 0x800) (h2 : 0x80 ≤ c) : encB c = [UInt8.ofNat (0xC0 + c / 64), UInt8.ofNat (0x80 + c % 64)] := by
  rw [encB_enc2 c (valid_of (by omega) (by omega) (by omega))]
  unfold enc2
  simp only [if_pos h, if_neg (show ¬ c < 0x80 by omega)]
theorem encB3 (c : Nat) (h : c < 0x10000) (h2 : 0x800 ≤ c) (hv : Utf8.valid (c : Int) = true) : encB c = [UInt8.ofNat (0xE0 + c / 4096), UInt8.ofNat (0x80 + c / 64 % 64), UInt8.ofNat (0x80 + c % 64)] := by
  rw [encB_enc2 c hv]
  unfold enc2
  simp only [if_pos h, if_neg (show ¬ c < 0x80 by omega), if_neg (show ¬ c < 0x800 by omega)]
theorem encB4 (c : Nat) (h2 : 0x10000 ≤ c) (hv : Utf8.valid (c : Int) = true) : encB c = [UInt8.ofNat (0xF0 + c / 262144), UInt8.ofNat (0x80 + c / 4096 % 64), UInt8.ofNat (0x80 + c / 64 % 64), UInt8.ofNat (0x80 + c % 64)] := by
  rw [encB_enc2 c hv]
  unfold enc2
  simp only [if_neg (show ¬ c < 0x80 by omega), if_neg (show ¬ c < 0x800 by omega), if_neg (show ¬ c < 0x10000 by omega)]

theorem dec_enc (r : Int) (hv : Utf8.valid r = true) (rest : List UInt8) : dec (encB r ++ rest) = (r.toNat, (encB r).length) := by
  obtain ⟨h0, h1, h2⟩ := valid_le hv
  obtain ⟨c, rfl⟩ := Int.eq_ofNat_of_zero_le h0
  rw [Int.toNat_natCast]
  by_cases a : c < 0x80
  · rw [encB1 c a]
    show decN (rest.length + 1) (UInt8.ofNat c).toNat _ _ _ = (c, 1)
    rw [ofNat_toNat c (by omega)]
    unfold decN
    rw [if_pos a]
  by_cases b : c < 0x800
  · rw [encB2 c b (by omega)]
    show decN (rest.length + 2) (UInt8.ofNat (0xC0 + c / 64)).toNat (UInt8.ofNat (0x80 + c % 64)).toNat _ _ = (c, 2)
    rw [ofNat_toNat _ (by omega), ofNat_toNat _ (by omega)]
    have q4 : (0xC0 + c / 64) % 32 * 64 + (0x80 + c % 64) % 64 = c := by omega
    unfold decN
    rw [if_neg (by omega), if_pos (by omega), q4, if_pos (by omega)]
  by_cases d : c < 0x10000
  · rw [encB3 c d (by omega) hv]
    show decN (rest.length + 3) (UInt8.ofNat (0xE0 + c / 4096)).toNat (UInt8.ofNat (0x80 + c / 64 % 64)).toNat (UInt8.ofNat (0x80 + c % 64)).toNat _ = (c, 3)
    rw [ofNat_toNat _ (by omega), ofNat_toNat _ (by omega), ofNat_toNat _ (by omega)]
    have q4 : (0xE0 + c / 4096) % 16 * 4096 + (0x80 + c / 64 % 64) % 64 * 64 + (0x80 + c % 64) % 64 = c := by omega
    unfold decN
    rw [if_neg (by omega), if_neg (by omega), if_pos (by omega), q4, if_pos ⟨by omega, hv⟩]
  · rw [encB4 c (by omega) hv]
    show decN (rest.length + 4) (UInt8.ofNat (0xF0 + c / 262144)).toNat (UInt8.ofNat (0x80 + c / 4096 % 64)).toNat (UInt8.ofNat (0x80 + c / 64 % 64)).toNat (UInt8.ofNat (0x80 + c % 64)).toNat = (c, 4)
    rw [ofNat_toNat _ (by omega), ofNat_toNat _ (by omega), ofNat_toNat _ (by omega), ofNat_toNat _ (by omega)]
    have q4 : (0xF0 + c / 262144) % 8 * 262144 + (0x80 + c / 4096 % 64) % 64 * 4096 + (0x80 + c / 64 % 64) % 64 * 64 + (0x80 + c % 64) % 64 = c := by omega
    unfold decN
    rw [if_neg (by omega), if_neg (by omega), if_neg (by omega), if_pos (by omega), q4, if_pos ⟨by omega, hv⟩]

theorem ofNat_of_toNat (b : UInt8) (n : Nat) (h : n = b.toNat) : UInt8.ofNat n = b := by subst h; simp

/-- 'broken', of what is left -/
def brkL (l : List UInt8) : Bool := if (dec l).1 = 65533 then !(l.take 3 == [239, 191, 189]) else false

theorem take_of_cons3 {l : List UInt8} {a b c : UInt8} (h : l.take 3 = [a, b, c]) : ∃ rest, l = a :: b :: c :: rest := by
  match l, h with
  | x :: y :: z :: rest, h =>
    simp at h
    obtain ⟨rfl, rfl, rfl⟩ := h
    exact ⟨rest, rfl⟩

/-- What is not broken begins with the bytes of its rune. -/
theorem enc_dec (l : List UInt8) (h0 : l ≠ []) (hb : brkL l = false) :
    Utf8.valid ((dec l).1 : Int) = true ∧ (dec l).2 = (encB (dec l).1).length ∧ ∃ rest, l = encB (dec l).1 ++ rest := by
  match l, h0 with
  | b0 :: t, _ =>
    have k0 := b0.toNat_lt
    rw [dec1] at *
    unfold brkL at hb
    rw [dec1] at hb
    have fin : decN (t.length + 1) b0.toNat (at0 t 0) (at0 t 1) (at0 t 2) = (65533, 1) → False := fun e => by
      rw [e] at hb
      simp only [if_true, Bool.not_eq_false', beq_iff_eq] at hb
      obtain ⟨rest, hl⟩ := take_of_cons3 hb
      have e2 := dec_enc 65533 (by decide) rest
      rw [show encB 65533 = [239, 191, 189] by decide] at e2
      have e3 : dec (b0 :: t) = (65533, 3) := by rw [hl]; exact e2
      rw [dec1, e] at e3
      cases e3
    clear hb
    by_cases a : b0.toNat < 0x80
    · have e : decN (t.length + 1) b0.toNat (at0 t 0) (at0 t 1) (at0 t 2) = (b0.toNat, 1) := by unfold decN; rw [if_pos a]
      rw [e, encB1 _ a]
      exact ⟨valid_of (by omega) (by omega) (by omega), rfl, t, by simp⟩
    by_cases b : b0.toNat / 32 = 6 ∧ 1 < t.length + 1 ∧ at0 t 0 / 64 = 2
    · match t, b with
      | b1 :: u, b =>
        have k1 := b1.toNat_lt
        rw [at0_cons0] at *
        have e : decN ((b1 :: u).length + 1) b0.toNat b1.toNat (at0 (b1 :: u) 1) (at0 (b1 :: u) 2) = if b0.toNat % 32 * 64 + b1.toNat % 64 ≥ 0x80 then (b0.toNat % 32 * 64 + b1.toNat % 64, 2) else (65533, 1) := by
          unfold decN; rw [if_neg a, if_pos b]
        by_cases g : b0.toNat % 32 * 64 + b1.toNat % 64 ≥ 0x80
        · rw [if_pos g] at e
          rw [e]
          show Utf8.valid ((b0.toNat % 32 * 64 + b1.toNat % 64 : Nat) : Int) = true ∧ 2 = (encB ((b0.toNat % 32 * 64 + b1.toNat % 64 : Nat) : Int)).length ∧ ∃ rest, b0 :: b1 :: u = encB ((b0.toNat % 32 * 64 + b1.toNat % 64 : Nat) : Int) ++ rest
          rw [encB2 _ (by omega) g]
          refine ⟨valid_of (by omega) (by omega) (by omega), rfl, u, ?_⟩
          rw [ofNat_of_toNat b0 _ (by omega), ofNat_of_toNat b1 _ (by omega)]
          rfl
        · rw [if_neg g] at e
          exact (fin e).elim
    by_cases c : b0.toNat / 16 = 14 ∧ (1 < t.length + 1 ∧ at0 t 0 / 64 = 2) ∧ 2 < t.length + 1 ∧ at0 t 1 / 64 = 2
    · match t, b, c with
      | b1 :: b2 :: u, b, c =>
        have k1 := b1.toNat_lt
        have k2 := b2.toNat_lt
        rw [at0_cons0, show at0 (b1 :: b2 :: u) 1 = b2.toNat from rfl] at *
        have e : decN ((b1 :: b2 :: u).length + 1) b0.toNat b1.toNat b2.toNat (at0 (b1 :: b2 :: u) 2) = if b0.toNat % 16 * 4096 + b1.toNat % 64 * 64 + b2.toNat % 64 ≥ 0x800 ∧ Utf8.valid ((b0.toNat % 16 * 4096 + b1.toNat % 64 * 64 + b2.toNat % 64 : Nat) : Int) = true then (b0.toNat % 16 * 4096 + b1.toNat % 64 * 64 + b2.toNat % 64, 3) else (65533, 1) := by
          unfold decN; rw [if_neg a, if_neg b, if_pos c]
        by_cases g : b0.toNat % 16 * 4096 + b1.toNat % 64 * 64 + b2.toNat % 64 ≥ 0x800 ∧ Utf8.valid ((b0.toNat % 16 * 4096 + b1.toNat % 64 * 64 + b2.toNat % 64 : Nat) : Int) = true
        · rw [if_pos g] at e
          rw [e]
          show Utf8.valid ((b0.toNat % 16 * 4096 + b1.toNat % 64 * 64 + b2.toNat % 64 : Nat) : Int) = true ∧ 3 = (encB ((b0.toNat % 16 * 4096 + b1.toNat % 64 * 64 + b2.toNat % 64 : Nat) : Int)).length ∧ ∃ rest, b0 :: b1 :: b2 :: u = encB ((b0.toNat % 16 * 4096 + b1.toNat % 64 * 64 + b2.toNat % 64 : Nat) : Int) ++ rest
          obtain ⟨g1, g2⟩ := g
          rw [encB3 _ (by omega) g1 g2]
          refine ⟨g2, rfl, u, ?_⟩
          rw [ofNat_of_toNat b0 _ (by omega), ofNat_of_toNat b1 _ (by omega), ofNat_of_toNat b2 _ (by omega)]
          rfl
        · rw [if_neg g] at e
          exact (fin e).elim
    by_cases d : b0.toNat / 8 = 30 ∧ (1 < t.length + 1 ∧ at0 t 0 / 64 = 2) ∧ (2 < t.length + 1 ∧ at0 t 1 / 64 = 2) ∧ 3 < t.length + 1 ∧ at0 t 2 / 64 = 2
    · match t, b, c, d with
      | b1 :: b2 :: b3 :: u, b, c, d =>
        have k1 := b1.toNat_lt
        have k2 := b2.toNat_lt
        have k3 := b3.toNat_lt
        rw [at0_cons0, show at0 (b1 :: b2 :: b3 :: u) 1 = b2.toNat from rfl, show at0 (b1 :: b2 :: b3 :: u) 2 = b3.toNat from rfl] at *
        have e : decN ((b1 :: b2 :: b3 :: u).length + 1) b0.toNat b1.toNat b2.toNat b3.toNat = if b0.toNat % 8 * 262144 + b1.toNat % 64 * 4096 + b2.toNat % 64 * 64 + b3.toNat % 64 ≥ 0x10000 ∧ Utf8.valid ((b0.toNat % 8 * 262144 + b1.toNat % 64 * 4096 + b2.toNat % 64 * 64 + b3.toNat % 64 : Nat) : Int) = true then (b0.toNat % 8 * 262144 + b1.toNat % 64 * 4096 + b2.toNat % 64 * 64 + b3.toNat % 64, 4) else (65533, 1) := by
          unfold decN; rw [if_neg a, if_neg b, if_neg c, if_pos d]
        by_cases g : b0.toNat % 8 * 262144 + b1.toNat % 64 * 4096 + b2.toNat % 64 * 64 + b3.toNat % 64 ≥ 0x10000 ∧ Utf8.valid ((b0.toNat % 8 * 262144 + b1.toNat % 64 * 4096 + b2.toNat % 64 * 64 + b3.toNat % 64 : Nat) : Int) = true
        · rw [if_pos g] at e
          rw [e]
          show Utf8.valid ((b0.toNat % 8 * 262144 + b1.toNat % 64 * 4096 + b2.toNat % 64 * 64 + b3.toNat % 64 : Nat) : Int) = true ∧ 4 = (encB ((b0.toNat % 8 * 262144 + b1.toNat % 64 * 4096 + b2.toNat % 64 * 64 + b3.toNat % 64 : Nat) : Int)).length ∧ ∃ rest, b0 :: b1 :: b2 :: b3 :: u = encB ((b0.toNat % 8 * 262144 + b1.toNat % 64 * 4096 + b2.toNat % 64 * 64 + b3.toNat % 64 : Nat) : Int) ++ rest
          obtain ⟨g1, g2⟩ := g
          rw [encB4 _ g1 g2]
          refine ⟨g2, rfl, u, ?_⟩
          rw [ofNat_of_toNat b0 _ (by omega), ofNat_of_toNat b1 _ (by omega), ofNat_of_toNat b2 _ (by omega), ofNat_of_toNat b3 _ (by omega)]
          rfl
        · rw [if_neg g] at e
          exact (fin e).elim
    · exact (fin (by unfold decN; rw [if_neg a, if_neg b, if_neg c, if_neg d])).elim

/-- A rune that Check lets in. -/
def okR (r : Int) : Prop := Utf8.valid r = true ∧ okRune r = true
/-- What can't stand in a text: no sequence, or a rune that is not let in. -/
def bad (l : List UInt8) : Prop := l ≠ [] ∧ (brkL l = true ∨ okRune (dec l).1 = false)
def faultOf (l : List UInt8) : Int := if brkL l = true then 10 else 11

theorem encB_pos (r : Int) : 1 ≤ (encB r).length := by
  unfold encB
  rw [encode_if]
  unfold enc2
  simp only
  repeat' split
  all_goals simp
theorem encs_cons (r : Int) (rs : List Int) : encs (r :: rs) = encB r ++ encs rs := rfl
theorem encs_append (a b : List Int) : encs (a ++ b) = encs a ++ encs b := by simp [encs]

/-- EVERY STRING IS A TEXT AND THEN NOTHING, OR WHAT CAN'T STAND IN A TEXT. -/
theorem split_text : ∀ (n : Nat) (l : List UInt8), l.length ≤ n → ∃ rs rest, l = encs rs ++ rest ∧ (∀ r ∈ rs, okR r) ∧ (rest = [] ∨ bad rest)
  | 0, l, h => ⟨[], l, rfl, fun _ h => (by cases h), .inl (List.length_eq_zero_iff.1 (by omega))⟩
  | n + 1, l, h => by
    by_cases h0 : l = []
    · exact ⟨[], l, rfl, fun _ h => (by cases h), .inl h0⟩
    by_cases hb : bad l
    · exact ⟨[], l, rfl, fun _ h => (by cases h), .inr hb⟩
    have h1 : brkL l = false := by
      cases e : brkL l with
      | false => rfl
      | true => exact (hb ⟨h0, .inl e⟩).elim
    have h2 : okRune (dec l).1 = true := by
      cases e : okRune (dec l).1 with
      | true => rfl
      | false => exact (hb ⟨h0, .inr e⟩).elim
    obtain ⟨hv, _, t, ht⟩ := enc_dec l h0 h1
    have hp := encB_pos (dec l).1
    have hl : t.length ≤ n := by
      have := congrArg List.length ht
      rw [List.length_append] at this
      omega
    obtain ⟨rs, rest, e, ha, hr⟩ := split_text n t hl
    refine ⟨((dec l).1 : Int) :: rs, rest, ?_, ?_, hr⟩
    · rw [encs_cons, List.append_assoc, ← e]; exact ht
    · intro r hr'
      cases List.mem_cons.1 hr' with
      | inl e' => subst e'; exact ⟨hv, h2⟩
      | inr e' => exact ha r e'
end Go.Proofs.YtfnpmncmceocdaaDoor
