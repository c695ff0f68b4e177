import Derived.Laws.RangeAny
import Derived.Laws.BitsLemmas
import Derived.Laws.Strings
import Derived.Test.YtmdnmhdimfglaaaGreatDoorGaS
import Derived.Test.YtmdnmhdimfglaaaGreatDoorProg
import Derived.WalkKit
import Derived.WalkSpells
import Derived.WalkLawsBesides
import Derived.Lib.OthersKept
namespace Go.Proofs.YtmdnmhdimfglaaaGreatDoor
def clears (r : Int) : Nat → Prop
  | 0 => True
  | 1 => ¬ (0 ≤ r ∧ r ≤ 8)
  | 2 => ¬ (0 ≤ r ∧ r ≤ 8) ∧ ¬ (11 ≤ r ∧ r ≤ 31)
  | 3 => ¬ (0 ≤ r ∧ r ≤ 8) ∧ ¬ (11 ≤ r ∧ r ≤ 31) ∧ ¬ (127 ≤ r ∧ r ≤ 159)
  | 4 => ¬ (0 ≤ r ∧ r ≤ 8) ∧ ¬ (11 ≤ r ∧ r ≤ 31) ∧ ¬ (127 ≤ r ∧ r ≤ 159) ∧ ¬ (64976 ≤ r ∧ r ≤ 65007)
  | _ => ¬ (0 ≤ r ∧ r ≤ 8) ∧ ¬ (11 ≤ r ∧ r ≤ 31) ∧ ¬ (127 ≤ r ∧ r ≤ 159) ∧ ¬ (64976 ≤ r ∧ r ≤ 65007) ∧ ¬ (65279 ≤ r ∧ r ≤ 65279)
def okRune (r : Int) : Bool := decide (¬ (0 ≤ r ∧ r ≤ 8) ∧ ¬ (11 ≤ r ∧ r ≤ 31) ∧ ¬ (127 ≤ r ∧ r ≤ 159) ∧ ¬ (64976 ≤ r ∧ r ≤ 65007) ∧ ¬ (65279 ≤ r ∧ r ≤ 65279) ∧ r % 65536 < 65534)
theorem okRune_yes {r : Int} (h : ¬ (0 ≤ r ∧ r ≤ 8) ∧ ¬ (11 ≤ r ∧ r ≤ 31) ∧ ¬ (127 ≤ r ∧ r ≤ 159) ∧ ¬ (64976 ≤ r ∧ r ≤ 65007) ∧ ¬ (65279 ≤ r ∧ r ≤ 65279)) : decide (r % 65536 < 65534) = okRune r := by
  unfold okRune
  rw [Bool.eq_iff_iff]
  simp only [decide_eq_true_eq]
  omega
theorem okRune_no {r : Int} (h : (0 ≤ r ∧ r ≤ 8) ∨ (11 ≤ r ∧ r ≤ 31) ∨ (127 ≤ r ∧ r ≤ 159) ∨ (64976 ≤ r ∧ r ≤ 65007) ∨ (65279 ≤ r ∧ r ≤ 65279)) : false = okRune r := by
  unfold okRune
  rw [eq_comm, decide_eq_false_iff_not]
  omega
theorem low16 (r : Int) (h0 : 0 ≤ r) (h1 : r ≤ 1114111) : bits .and .i32 r 65535 = r % 65536 := bits_mask .i32 31 (by decide) wraps_i32 16 (by decide) r h0 (by omega)
def ef : ByteArray := ⟨#[239, 191, 189]⟩
def pre (s p : ByteArray) : Bool := if p.size ≤ s.size then (s.extract 0 p.size).toList == p.toList else false
def brk (s : ByteArray) (at' : Nat) (r : Int) : Bool := if r = 65533 then !pre (s.extract at' s.size) ef else false
def chk (s : ByteArray) : Nat → Nat → Nat → Int × Int × Int
  | 0, _, n => (n, 0, 0)
  | b + 1, pos, n =>
    if pos < s.size then
      if brk s pos ((Utf8.decode s pos).1 : Int) = true then (0, pos, 10)
      else if okRune ((Utf8.decode s pos).1 : Int) = true then chk s b (pos + (Utf8.decode s pos).2) (n + 1)
      else (0, pos, 11)
    else (n, 0, 0)
def check (s : ByteArray) : Int × Int × Int := chk s s.size 0 0
theorem chk_end (s : ByteArray) (b pos n : Nat) (h : ¬ pos < s.size) : chk s b pos n = ((n : Int), 0, 0) := by
  cases b with
  | zero => rfl
  | succ b => simp [chk, h]
theorem decode_le' (s : ByteArray) (pos : Nat) : (Utf8.decode s pos).1 ≤ 1114111 := by
  have hb : ∀ k, (s.get! (pos + k)).toNat < 256 := fun k => (s.get! (pos + k)).toNat_lt
  have h0 := hb 0; have h1 := hb 1; have h2 := hb 2; have h3 := hb 3
  simp only [Utf8.decode]
  repeat' split
  all_goals simp_all [Utf8.runeError, Utf8.valid]
  all_goals omega
theorem width_pos (s : ByteArray) (pos : Nat) : 1 ≤ (Utf8.decode s pos).2 := by
  simp only [Utf8.decode]
  repeat' split
  all_goals simp_all
theorem width_fits (s : ByteArray) (pos : Nat) (h : pos < s.size) : pos + (Utf8.decode s pos).2 ≤ s.size := by
  simp only [Utf8.decode]
  repeat' split
  all_goals simp_all
  all_goals omega
end Go.Proofs.YtmdnmhdimfglaaaGreatDoor

namespace Go.Proofs.YtmdnmhdimfglaaaGreatDoor
set_option maxRecDepth 100000
structure OpV where
  c : Int
  n : Int
  k : Int
  p : Int
  s : ByteArray
  l : List (Int × Int)
  tc : Int
  tn : Int
  on : Bool
def isIdP (c n : Int) : Bool := decide (1 ≤ c ∧ c ≤ 8 ∧ 1 ≤ n ∧ n ≤ 1024)
def ext0 (o : OpV) : Bool := !o.l.isEmpty
def extP (o : OpV) : Bool := !decide (o.p = 0) || !decide (o.s.size = 0)
def extT (o : OpV) : Bool := !(decide (o.tc = 0) && decide (o.tn = 0)) || o.on
def extra (o : OpV) : Bool := if o.k = 1 then ext0 o || extT o else if o.k = 4 then extP o || ext0 o else extP o || extT o
def insP (o : OpV) (total : Int) : Int :=
  if (check o.s).2.2 ≠ 0 then (check o.s).2.2 else if (check o.s).1 = 0 then 15 else if 256 < (check o.s).1 then 14
  else if o.p < 0 ∨ total < o.p then 12 else if 1048576 < total + (check o.s).1 then 24 else 0
def lastHi (l : List (Int × Int)) : Int := (l.getD (l.length - 1) (0, 0)).2
def rngP (o : OpV) (total : Int) : Int :=
  if o.l = [] then 43 else if (Sp.checkL o.l).2 ≠ 0 then (Sp.checkL o.l).2 else if total < lastHi o.l then 12 else 0
def tgtP (o : OpV) : Int := if isIdP o.tc o.tn = false ∨ (o.tc = o.c ∧ o.tn = o.n) then 63 else 0
def opCheck (o : OpV) (total : Int) : Int :=
  if total < 0 ∨ 1048576 < total then 12 else if o.k < 1 ∨ 4 < o.k then 40
  else if ¬ (o.c = 0 ∧ o.n = 0) ∧ isIdP o.c o.n = false then 41 else if extra o = true then 42
  else if o.k = 1 then insP o total else if o.k = 4 then tgtP o else rngP o total
def ownP (o : OpV) : Int := if o.k = 1 ∧ 0 ≤ o.p ∧ o.p ≤ 1048576 then opCheck o o.p else opCheck o 1048576
def widthP (o : OpV) : Int := if o.k = 1 then (check o.s).1 else 0
end Go.Proofs.YtmdnmhdimfglaaaGreatDoor

namespace Go.Proofs.YtmdnmhdimfglaaaGreatDoor
def at0 (l : List UInt8) (k : Nat) : Nat := (l.getD k 0).toNat
def decN (n b0 b1 b2 b3 : Nat) : Nat × Nat :=
  if b0 < 0x80 then (b0, 1)
  else if b0 / 32 = 6 ∧ 1 < n ∧ b1 / 64 = 2 then
    if b0 % 32 * 64 + b1 % 64 ≥ 0x80 then (b0 % 32 * 64 + b1 % 64, 2) else (65533, 1)
  else if b0 / 16 = 14 ∧ (1 < n ∧ b1 / 64 = 2) ∧ 2 < n ∧ b2 / 64 = 2 then
    if b0 % 16 * 4096 + b1 % 64 * 64 + b2 % 64 ≥ 0x800 ∧ Utf8.valid ((b0 % 16 * 4096 + b1 % 64 * 64 + b2 % 64 : Nat) : Int) = true then (b0 % 16 * 4096 + b1 % 64 * 64 + b2 % 64, 3) else (65533, 1)
  else if b0 / 8 = 30 ∧ (1 < n ∧ b1 / 64 = 2) ∧ (2 < n ∧ b2 / 64 = 2) ∧ 3 < n ∧ b3 / 64 = 2 then
    if b0 % 8 * 262144 + b1 % 64 * 4096 + b2 % 64 * 64 + b3 % 64 ≥ 0x10000 ∧ Utf8.valid ((b0 % 8 * 262144 + b1 % 64 * 4096 + b2 % 64 * 64 + b3 % 64 : Nat) : Int) = true then (b0 % 8 * 262144 + b1 % 64 * 4096 + b2 % 64 * 64 + b3 % 64, 4) else (65533, 1)
  else (65533, 1)
def dec (l : List UInt8) : Nat × Nat := decN l.length (at0 l 0) (at0 l 1) (at0 l 2) (at0 l 3)
theorem at0_lt (l : List UInt8) (k : Nat) : at0 l k < 256 := UInt8.toNat_lt _
theorem get_drop (s : ByteArray) (pos k : Nat) : (s.get! (pos + k)).toNat = at0 (s.data.toList.drop pos) k := by
  unfold at0
  congr 1
  show s.data[pos + k]! = _
  rw [List.getD_eq_getElem?_getD, List.getElem?_drop, Array.getElem?_toList, getElem!_def]
  cases s.data[pos + k]? <;> rfl
theorem size_data (s : ByteArray) : s.size = s.data.toList.length := by rw [Array.length_toList]; rfl
theorem decode_dec (s : ByteArray) (pos : Nat) : Utf8.decode s pos = dec (s.data.toList.drop pos) := by
  have hc : ∀ k, (pos + k < s.size) = (k < s.size - pos) := fun k => by apply propext; omega
  have hl : (s.data.toList.drop pos).length = s.size - pos := by rw [List.length_drop, size_data]
  unfold Utf8.decode dec decN
  simp only [get_drop, hc, hl, Utf8.runeError, Bool.and_eq_true, decide_eq_true_eq, beq_iff_eq, and_assoc]
def encB (r : Int) : List UInt8 := (Utf8.encode r).data.toList
def encs (rs : List Int) : List UInt8 := rs.flatMap encB
theorem valid_le {r : Int} (h : Utf8.valid r = true) : 0 ≤ r ∧ r ≤ 1114111 ∧ ¬ (55296 ≤ r ∧ r ≤ 57343) := by
  simp [Utf8.valid] at h
  omega
theorem valid_of {r : Int} (h0 : 0 ≤ r) (h1 : r ≤ 1114111) (h : ¬ (55296 ≤ r ∧ r ≤ 57343)) : Utf8.valid r = true := by
  simp [Utf8.valid]
  omega
theorem ofNat_toNat (x : Nat) (h : x < 256) : (UInt8.ofNat x).toNat = x := by simp; omega
theorem at0_cons0 (b : UInt8) (l : List UInt8) : at0 (b :: l) 0 = b.toNat := rfl
theorem dec1 (b : UInt8) (l : List UInt8) : dec (b :: l) = decN (l.length + 1) b.toNat (at0 l 0) (at0 l 1) (at0 l 2) := rfl
def enc2 (c : Nat) : ByteArray :=
  let b (n : Nat) : UInt8 := UInt8.ofNat n
  if c < 0x80 then ⟨#[b c]⟩
  else if c < 0x800 then ⟨#[b (0xC0 + c / 64), b (0x80 + c % 64)]⟩
  else if c < 0x10000 then ⟨#[b (0xE0 + c / 4096), b (0x80 + c / 64 % 64), b (0x80 + c % 64)]⟩
  else ⟨#[b (0xF0 + c / 262144), b (0x80 + c / 4096 % 64), b (0x80 + c / 64 % 64), b (0x80 + c % 64)]⟩
theorem encode_if (r : Int) : Utf8.encode r = enc2 (if Utf8.valid r = true then r.toNat else Utf8.runeError) := rfl
theorem encode_at (c : Nat) (hv : Utf8.valid (c : Int) = true) : (if Utf8.valid (c : Int) = true then (c : Int).toNat else Utf8.runeError) = c := by
  rw [if_pos hv]; exact Int.toNat_natCast c
theorem encode_enc2 (c : Nat) (hv : Utf8.valid (c : Int) = true) : Utf8.encode (c : Int) = enc2 c := by rw [encode_if, encode_at c hv]
theorem encB_is (r : Int) : encB r = (Utf8.encode r).data.toList := rfl
theorem encB_enc2 (c : Nat) (hv : Utf8.valid (c : Int) = true) : encB c = (enc2 c).data.toList := by rw [encB_is, encode_enc2 c hv]
theorem encB1 (c : Nat) (h : c < 0x80) : encB c = [UInt8.ofNat c] := by
  rw [encB_enc2 c (valid_of (by omega) (by omega) (by omega))]
  unfold enc2
  simp only [if_pos h]
theorem encB2 (c : Nat) (h : c < 0x800) (h2 : 0x80 ≤ c) : encB c = [UInt8.ofNat (0xC0 + c / 64), UInt8.ofNat (0x80 + c % 64)] := by
  rw [encB_enc2 c (valid_of (by omega) (by omega) (by omega))]
  unfold enc2
  simp only [if_pos h, if_neg (show ¬ c < 0x80 by omega)]
theorem encB3 (c : Nat) (h : c < 0x10000) (h2 : 0x800 ≤ c) (hv : Utf8.valid (c : Int) = true) : encB c = [UInt8.ofNat (0xE0 + c / 4096), UInt8.ofNat (0x80 + c / 64 % 64), UInt8.ofNat (0x80 + c % 64)] := by
  rw [encB_enc2 c hv]
  unfold enc2
  simp only [if_pos h, if_neg (show ¬ c < 0x80 by omega), if_neg (show ¬ c < 0x800 by omega)]
theorem encB4 (c : Nat) (h2 : 0x10000 ≤ c) (hv : Utf8.valid (c : Int) = true) : encB c = [UInt8.ofNat (0xF0 + c / 262144), UInt8.ofNat (0x80 + c / 4096 % 64), UInt8.ofNat (0x80 + c / 64 % 64), UInt8.ofNat (0x80 + c % 64)] := by
  rw [encB_enc2 c hv]
  unfold enc2
  simp only [if_neg (show ¬ c < 0x80 by omega), if_neg (show ¬ c < 0x800 by omega), if_neg (show ¬ c < 0x10000 by omega)]
theorem dec_enc (r : Int) (hv : Utf8.valid r = true) (rest : List UInt8) : dec (encB r ++ rest) = (r.toNat, (encB r).length) := by
  obtain ⟨h0, h1, h2⟩ := valid_le hv
  obtain ⟨c, rfl⟩ := Int.eq_ofNat_of_zero_le h0
  rw [Int.toNat_natCast]
  by_cases a : c < 0x80
  · rw [encB1 c a]
    show decN (rest.length + 1) (UInt8.ofNat c).toNat _ _ _ = (c, 1)
    rw [ofNat_toNat c (by omega)]
    unfold decN
    rw [if_pos a]
  by_cases b : c < 0x800
  · rw [encB2 c b (by omega)]
    show decN (rest.length + 2) (UInt8.ofNat (0xC0 + c / 64)).toNat (UInt8.ofNat (0x80 + c % 64)).toNat _ _ = (c, 2)
    rw [ofNat_toNat _ (by omega), ofNat_toNat _ (by omega)]
    have q4 : (0xC0 + c / 64) % 32 * 64 + (0x80 + c % 64) % 64 = c := by omega
    unfold decN
    rw [if_neg (by omega), if_pos (by omega), q4, if_pos (by omega)]
  by_cases d : c < 0x10000
  · rw [encB3 c d (by omega) hv]
    show decN (rest.length + 3) (UInt8.ofNat (0xE0 + c / 4096)).toNat (UInt8.ofNat (0x80 + c / 64 % 64)).toNat (UInt8.ofNat (0x80 + c % 64)).toNat _ = (c, 3)
    rw [ofNat_toNat _ (by omega), ofNat_toNat _ (by omega), ofNat_toNat _ (by omega)]
    have q4 : (0xE0 + c / 4096) % 16 * 4096 + (0x80 + c / 64 % 64) % 64 * 64 + (0x80 + c % 64) % 64 = c := by omega
    unfold decN
    rw [if_neg (by omega), if_neg (by omega), if_pos (by omega), q4, if_pos ⟨by omega, hv⟩]
  · rw [encB4 c (by omega) hv]
    show decN (rest.length + 4) (UInt8.ofNat (0xF0 + c / 262144)).toNat (UInt8.ofNat (0x80 + c / 4096 % 64)).toNat (UInt8.ofNat (0x80 + c / 64 % 64)).toNat (UInt8.ofNat (0x80 + c % 64)).toNat = (c, 4)
    rw [ofNat_toNat _ (by omega), ofNat_toNat _ (by omega), ofNat_toNat _ (by omega), ofNat_toNat _ (by omega)]
    have q4 : (0xF0 + c / 262144) % 8 * 262144 + (0x80 + c / 4096 % 64) % 64 * 4096 + (0x80 + c / 64 % 64) % 64 * 64 + (0x80 + c % 64) % 64 = c := by omega
    unfold decN
    rw [if_neg (by omega), if_neg (by omega), if_neg (by omega), if_pos (by omega), q4, if_pos ⟨by omega, hv⟩]
theorem ofNat_of_toNat (b : UInt8) (n : Nat) (h : n = b.toNat) : UInt8.ofNat n = b := by subst h; simp
def brkL (l : List UInt8) : Bool := if (dec l).1 = 65533 then !(l.take 3 == [239, 191, 189]) else false
theorem take_of_cons3 {l : List UInt8} {a b c : UInt8} (h : l.take 3 = [a, b, c]) : ∃ rest, l = a :: b :: c :: rest := by
  match l, h with
  | x :: y :: z :: rest, h =>
    simp at h
    obtain ⟨rfl, rfl, rfl⟩ := h
    exact ⟨rest, rfl⟩
theorem enc_dec (l : List UInt8) (h0 : l ≠ []) (hb : brkL l = false) :
    Utf8.valid ((dec l).1 : Int) = true ∧ (dec l).2 = (encB (dec l).1).length ∧ ∃ rest, l = encB (dec l).1 ++ rest := by
  match l, h0 with
  | b0 :: t, _ =>
    have k0 := b0.toNat_lt
    rw [dec1] at *
    unfold brkL at hb
    rw [dec1] at hb
    have fin : decN (t.length + 1) b0.toNat (at0 t 0) (at0 t 1) (at0 t 2) = (65533, 1) → False := fun e => by
      rw [e] at hb
      simp only [if_true, Bool.not_eq_false', beq_iff_eq] at hb
      obtain ⟨rest, hl⟩ := take_of_cons3 hb
      have e2 := dec_enc 65533 (by decide) rest
      rw [show encB 65533 = [239, 191, 189] by decide] at e2
      have e3 : dec (b0 :: t) = (65533, 3) := by rw [hl]; exact e2
      rw [dec1, e] at e3
      cases e3
    clear hb
    by_cases a : b0.toNat < 0x80
    · have e : decN (t.length + 1) b0.toNat (at0 t 0) (at0 t 1) (at0 t 2) = (b0.toNat, 1) := by unfold decN; rw [if_pos a]
      rw [e, encB1 _ a]
      exact ⟨valid_of (by omega) (by omega) (by omega), rfl, t, by simp⟩
    by_cases b : b0.toNat / 32 = 6 ∧ 1 < t.length + 1 ∧ at0 t 0 / 64 = 2
    · match t, b with
      | b1 :: u, b =>
        have k1 := b1.toNat_lt
        rw [at0_cons0] at *
        have e : decN ((b1 :: u).length + 1) b0.toNat b1.toNat (at0 (b1 :: u) 1) (at0 (b1 :: u) 2) = if b0.toNat % 32 * 64 + b1.toNat % 64 ≥ 0x80 then (b0.toNat % 32 * 64 + b1.toNat % 64, 2) else (65533, 1) := by
          unfold decN; rw [if_neg a, if_pos b]
        by_cases g : b0.toNat % 32 * 64 + b1.toNat % 64 ≥ 0x80
        · rw [if_pos g] at e
          rw [e]
          show Utf8.valid ((b0.toNat % 32 * 64 + b1.toNat % 64 : Nat) : Int) = true ∧ 2 = (encB ((b0.toNat % 32 * 64 + b1.toNat % 64 : Nat) : Int)).length ∧ ∃ rest, b0 :: b1 :: u = encB ((b0.toNat % 32 * 64 + b1.toNat % 64 : Nat) : Int) ++ rest
          rw [encB2 _ (by omega) g]
          refine ⟨valid_of (by omega) (by omega) (by omega), rfl, u, ?_⟩
          rw [ofNat_of_toNat b0 _ (by omega), ofNat_of_toNat b1 _ (by omega)]
          rfl
        · rw [if_neg g] at e
          exact (fin e).elim
    by_cases c : b0.toNat / 16 = 14 ∧ (1 < t.length + 1 ∧ at0 t 0 / 64 = 2) ∧ 2 < t.length + 1 ∧ at0 t 1 / 64 = 2
    · match t, b, c with
      | b1 :: b2 :: u, b, c =>
        have k1 := b1.toNat_lt
        have k2 := b2.toNat_lt
        rw [at0_cons0, show at0 (b1 :: b2 :: u) 1 = b2.toNat from rfl] at *
        have e : decN ((b1 :: b2 :: u).length + 1) b0.toNat b1.toNat b2.toNat (at0 (b1 :: b2 :: u) 2) = if b0.toNat % 16 * 4096 + b1.toNat % 64 * 64 + b2.toNat % 64 ≥ 0x800 ∧ Utf8.valid ((b0.toNat % 16 * 4096 + b1.toNat % 64 * 64 + b2.toNat % 64 : Nat) : Int) = true then (b0.toNat % 16 * 4096 + b1.toNat % 64 * 64 + b2.toNat % 64, 3) else (65533, 1) := by
          unfold decN; rw [if_neg a, if_neg b, if_pos c]
        by_cases g : b0.toNat % 16 * 4096 + b1.toNat % 64 * 64 + b2.toNat % 64 ≥ 0x800 ∧ Utf8.valid ((b0.toNat % 16 * 4096 + b1.toNat % 64 * 64 + b2.toNat % 64 : Nat) : Int) = true
        · rw [if_pos g] at e
          rw [e]
          show Utf8.valid ((b0.toNat % 16 * 4096 + b1.toNat % 64 * 64 + b2.toNat % 64 : Nat) : Int) = true ∧ 3 = (encB ((b0.toNat % 16 * 4096 + b1.toNat % 64 * 64 + b2.toNat % 64 : Nat) : Int)).length ∧ ∃ rest, b0 :: b1 :: b2 :: u = encB ((b0.toNat % 16 * 4096 + b1.toNat % 64 * 64 + b2.toNat % 64 : Nat) : Int) ++ rest
          obtain ⟨g1, g2⟩ := g
          rw [encB3 _ (by omega) g1 g2]
          refine ⟨g2, rfl, u, ?_⟩
          rw [ofNat_of_toNat b0 _ (by omega), ofNat_of_toNat b1 _ (by omega), ofNat_of_toNat b2 _ (by omega)]
          rfl
        · rw [if_neg g] at e
          exact (fin e).elim
    by_cases d : b0.toNat / 8 = 30 ∧ (1 < t.length + 1 ∧ at0 t 0 / 64 = 2) ∧ (2 < t.length + 1 ∧ at0 t 1 / 64 = 2) ∧ 3 < t.length + 1 ∧ at0 t 2 / 64 = 2
    · match t, b, c, d with
      | b1 :: b2 :: b3 :: u, b, c, d =>
        have k1 := b1.toNat_lt
        have k2 := b2.toNat_lt
        have k3 := b3.toNat_lt
        rw [at0_cons0, show at0 (b1 :: b2 :: b3 :: u) 1 = b2.toNat from rfl, show at0 (b1 :: b2 :: b3 :: u) 2 = b3.toNat from rfl] at *
        have e : decN ((b1 :: b2 :: b3 :: u).length + 1) b0.toNat b1.toNat b2.toNat b3.toNat = if b0.toNat % 8 * 262144 + b1.toNat % 64 * 4096 + b2.toNat % 64 * 64 + b3.toNat % 64 ≥ 0x10000 ∧ Utf8.valid ((b0.toNat % 8 * 262144 + b1.toNat % 64 * 4096 + b2.toNat % 64 * 64 + b3.toNat % 64 : Nat) : Int) = true then (b0.toNat % 8 * 262144 + b1.toNat % 64 * 4096 + b2.toNat % 64 * 64 + b3.toNat % 64, 4) else (65533, 1) := by
          unfold decN; rw [if_neg a, if_neg b, if_neg c, if_pos d]
        by_cases g : b0.toNat % 8 * 262144 + b1.toNat % 64 * 4096 + b2.toNat % 64 * 64 + b3.toNat % 64 ≥ 0x10000 ∧ Utf8.valid ((b0.toNat % 8 * 262144 + b1.toNat % 64 * 4096 + b2.toNat % 64 * 64 + b3.toNat % 64 : Nat) : Int) = true
        · rw [if_pos g] at e
          rw [e]
          show Utf8.valid ((b0.toNat % 8 * 262144 + b1.toNat % 64 * 4096 + b2.toNat % 64 * 64 + b3.toNat % 64 : Nat) : Int) = true ∧ 4 = (encB ((b0.toNat % 8 * 262144 + b1.toNat % 64 * 4096 + b2.toNat % 64 * 64 + b3.toNat % 64 : Nat) : Int)).length ∧ ∃ rest, b0 :: b1 :: b2 :: b3 :: u = encB ((b0.toNat % 8 * 262144 + b1.toNat % 64 * 4096 + b2.toNat % 64 * 64 + b3.toNat % 64 : Nat) : Int) ++ rest
          obtain ⟨g1, g2⟩ := g
          rw [encB4 _ g1 g2]
          refine ⟨g2, rfl, u, ?_⟩
          rw [ofNat_of_toNat b0 _ (by omega), ofNat_of_toNat b1 _ (by omega), ofNat_of_toNat b2 _ (by omega), ofNat_of_toNat b3 _ (by omega)]
          rfl
        · rw [if_neg g] at e
          exact (fin e).elim
    · exact (fin (by unfold decN; rw [if_neg a, if_neg b, if_neg c, if_neg d])).elim
def okR (r : Int) : Prop := Utf8.valid r = true ∧ okRune r = true
def bad (l : List UInt8) : Prop := l ≠ [] ∧ (brkL l = true ∨ okRune (dec l).1 = false)
def faultOf (l : List UInt8) : Int := if brkL l = true then 10 else 11
theorem encB_pos (r : Int) : 1 ≤ (encB r).length := by
  unfold encB
  rw [encode_if]
  unfold enc2
  simp only
  repeat' split
  all_goals simp
theorem encs_cons (r : Int) (rs : List Int) : encs (r :: rs) = encB r ++ encs rs := rfl
theorem encs_append (a b : List Int) : encs (a ++ b) = encs a ++ encs b := by simp [encs]
theorem split_text : ∀ (n : Nat) (l : List UInt8), l.length ≤ n → ∃ rs rest, l = encs rs ++ rest ∧ (∀ r ∈ rs, okR r) ∧ (rest = [] ∨ bad rest)
  | 0, l, h => ⟨[], l, rfl, fun _ h => (by cases h), .inl (List.length_eq_zero_iff.1 (by omega))⟩
  | n + 1, l, h => by
    by_cases h0 : l = []
    · exact ⟨[], l, rfl, fun _ h => (by cases h), .inl h0⟩
    by_cases hb : bad l
    · exact ⟨[], l, rfl, fun _ h => (by cases h), .inr hb⟩
    have h1 : brkL l = false := by
      cases e : brkL l with
      | false => rfl
      | true => exact (hb ⟨h0, .inl e⟩).elim
    have h2 : okRune (dec l).1 = true := by
      cases e : okRune (dec l).1 with
      | true => rfl
      | false => exact (hb ⟨h0, .inr e⟩).elim
    obtain ⟨hv, _, t, ht⟩ := enc_dec l h0 h1
    have hp := encB_pos (dec l).1
    have hl : t.length ≤ n := by
      have := congrArg List.length ht
      rw [List.length_append] at this
      omega
    obtain ⟨rs, rest, e, ha, hr⟩ := split_text n t hl
    refine ⟨((dec l).1 : Int) :: rs, rest, ?_, ?_, hr⟩
    · rw [encs_cons, List.append_assoc, ← e]; exact ht
    · intro r hr'
      cases List.mem_cons.1 hr' with
      | inl e' => subst e'; exact ⟨hv, h2⟩
      | inr e' => exact ha r e'
end Go.Proofs.YtmdnmhdimfglaaaGreatDoor

namespace Go.Proofs.YtmdnmhdimfglaaaGreatDoor
theorem extract_list (s : ByteArray) (i j : Nat) : (s.extract i j).data.toList = (s.data.toList.take j).drop i := by
  rw [ByteArray.data_extract, Array.toList_extract, List.extract_eq_take_drop, List.drop_take]
theorem extract_rest (s : ByteArray) (i : Nat) : (s.extract i s.size).data.toList = s.data.toList.drop i := by
  rw [extract_list, size_data, List.take_length]
theorem pre_take (s : ByteArray) (pos : Nat) : pre (s.extract pos s.size) ef = ((s.data.toList.drop pos).take 3 == [239, 191, 189]) := by
  have e3 : ef.size = 3 := rfl
  have e6 : ef.toList = [239, 191, 189] := by rw [Go.ByteArray.toList_eq]; rfl
  have e7 : ((s.extract pos s.size).extract 0 3).toList = (s.data.toList.drop pos).take 3 := by
    rw [Go.ByteArray.toList_eq, extract_list, extract_rest]; rfl
  have e8 : (s.extract pos s.size).size = (s.data.toList.drop pos).length := by rw [size_data, extract_rest]
  unfold pre
  rw [e3, e6, e7, e8]
  split
  · rfl
  · rw [eq_comm, beq_eq_false_iff_ne]
    intro e
    have := congrArg List.length e
    simp at this
    simp at *
    omega
theorem brk_brkL (s : ByteArray) (pos : Nat) : brk s pos ((Utf8.decode s pos).1 : Int) = brkL (s.data.toList.drop pos) := by
  unfold brk brkL
  rw [decode_dec, pre_take]
  by_cases h : (dec (s.data.toList.drop pos)).1 = 65533
  · rw [if_pos h, if_pos (by rw [h]; rfl)]
  · rw [if_neg h, if_neg (fun e => h (by omega))]
theorem bad_no {l : List UInt8} (h : bad l) : brkL l = true ∨ (brkL l = false ∧ okRune (dec l).1 = false) := by
  obtain ⟨_, h | h⟩ := h
  · exact .inl h
  · cases e : brkL l with
    | true => exact .inl rfl
    | false => exact .inr ⟨rfl, h⟩
theorem brkL_enc (r : Int) (hv : Utf8.valid r = true) (t : List UInt8) : brkL (encB r ++ t) = false := by
  unfold brkL
  rw [dec_enc r hv t]
  obtain ⟨h0, _, _⟩ := valid_le hv
  by_cases h : r.toNat = 65533
  · have : r = 65533 := by omega
    subst this
    rw [show encB 65533 = [239, 191, 189] by decide]
    rfl
  · rw [if_neg h]
theorem chk_run (s : ByteArray) (rest : List UInt8) (hr : rest = [] ∨ bad rest) : ∀ (rs : List Int) (b pos n : Nat), s.data.toList.drop pos = encs rs ++ rest → (∀ r ∈ rs, okR r) → pos ≤ s.size → s.size ≤ pos + b →
    chk s b pos n = if rest = [] then (((n + rs.length : Nat) : Int), 0, 0) else (0, ((pos + (encs rs).length : Nat) : Int), faultOf rest)
  | [], b, pos, n, hd, _, hp, hb => by
    have hd' : s.data.toList.drop pos = rest := hd
    by_cases h0 : rest = []
    · have hl : ¬ pos < s.size := by
        have := congrArg List.length hd'
        rw [h0, List.length_drop, ← size_data] at this
        simp at this
        omega
      rw [chk_end s b pos n hl, if_pos h0]
      rfl
    · have hb0 := hr.resolve_left h0
      have hl : pos < s.size := by
        have := congrArg List.length hd'
        rw [List.length_drop, ← size_data] at this
        have := List.length_pos_iff.2 h0
        omega
      obtain ⟨b, rfl⟩ : ∃ b', b = b' + 1 := ⟨b - 1, by omega⟩
      rw [if_neg h0]
      simp only [chk, if_pos hl, brk_brkL]
      simp only [decode_dec, hd']
      rcases bad_no hb0 with h | ⟨h, h'⟩
      · rw [if_pos h]
        simp [faultOf, h, encs]
      · rw [h, if_neg (by simp), h', if_neg (by simp)]
        simp [faultOf, h, encs]
  | r :: rs, b, pos, n, hd, ha, hp, hb => by
    obtain ⟨hv, hok⟩ := ha r (List.mem_cons_self ..)
    have hv0 := valid_le hv
    rw [encs_cons, List.append_assoc] at hd
    have hlen := encB_pos r
    have hl : pos + (encB r).length ≤ s.size := by
      have := congrArg List.length hd
      rw [List.length_drop, ← size_data, List.length_append] at this
      omega
    obtain ⟨b, rfl⟩ : ∃ b', b = b' + 1 := ⟨b - 1, by omega⟩
    simp only [chk, if_pos (show pos < s.size by omega), brk_brkL]
    simp only [decode_dec, hd, brkL_enc r hv, dec_enc r hv]
    have e : ((r.toNat : Nat) : Int) = r := by omega
    rw [if_neg (by simp), e, hok, if_pos rfl]
    have hd2 : s.data.toList.drop (pos + (encB r).length) = encs rs ++ rest := by
      rw [← List.drop_drop, hd, List.drop_left]
    rw [chk_run s rest hr rs b (pos + (encB r).length) (n + 1) hd2 (fun x hx => ha x (List.mem_cons_of_mem _ hx)) hl (by omega)]
    simp only [encs_cons, List.length_cons, List.length_append]
    split
    · congr 2; omega
    · congr 3; omega
theorem check_text (s : ByteArray) (rs : List Int) (h : s.data.toList = encs rs) (ha : ∀ r ∈ rs, okR r) : check s = ((rs.length : Int), 0, 0) := by
  have := chk_run s [] (.inl rfl) rs s.size 0 0 (by rw [List.drop_zero, h, List.append_nil]) ha (by omega) (by omega)
  unfold check
  rw [this, if_pos rfl, Nat.zero_add]
theorem check_fault (s : ByteArray) (rs : List Int) (rest : List UInt8) (h : s.data.toList = encs rs ++ rest) (ha : ∀ r ∈ rs, okR r) (hr : bad rest) : check s = (0, ((encs rs).length : Int), faultOf rest) := by
  have := chk_run s rest (.inr hr) rs s.size 0 0 (by rw [List.drop_zero, h]) ha (by omega) (by omega)
  unfold check
  rw [this, if_neg hr.1, Nat.zero_add]
end Go.Proofs.YtmdnmhdimfglaaaGreatDoor

namespace Go.Proofs.YtmdnmhdimfglaaaGreatDoor
open Go.RowKit Go.Lib
set_option maxHeartbeats 400000 in
theorem hasPrefix_any (s p : ByteArray) (w : World) :
    Calls Tryz.prog 98 #[.string s, .string p] w fun e w' => e = .returned (.bool (pre s p)) ∧ w' = w := by
  by_cases h : p.size ≤ s.size
  · go_enter Tryz.func98, Tryz.ntmps98
    go_wp2
    go_ret
    exact ⟨congrArg (fun b => Ending.returned (.bool b)) (by simp [pre, h]), rfl⟩
  · go_enter Tryz.func98, Tryz.ntmps98
    go_wp2
    go_ret
    exact ⟨congrArg (fun b => Ending.returned (.bool b)) (by simp [pre, h]), rfl⟩
set_option maxHeartbeats 400000 in
theorem broken_any (s : ByteArray) (k : Nat) (r : Int) (w : World) (hk : k ≤ s.size) :
    Calls Tryz.prog 82 #[.string s, .int .i64 k, .int .i32 r] w fun e w' => e = .returned (.bool (brk s k r)) ∧ w' = w := by
  by_cases h : r = 65533
  · subst h
    go_enter Tryz.func82, Tryz.ntmps82
    go_wp2_with (go_at_call 98; refine (hasPrefix_any _ _ _).mono ?_; rintro e w' ⟨rfl, rfl⟩)
    go_ret
    exact ⟨congrArg (fun b => Ending.returned (.bool b)) (by simp [brk, ef]), rfl⟩
  · have h1 : (r == 65533) = false := by simp [h]
    go_enter Tryz.func82, Tryz.ntmps82
    go_wp2_with (go_at_call 98; refine (hasPrefix_any _ _ _).mono ?_; rintro e w' ⟨rfl, rfl⟩)
    go_ret
    exact ⟨congrArg (fun b => Ending.returned (.bool b)) (by simp [brk, h]), rfl⟩
def barCells : Array Value := #[.int .i32 0, .int .i32 8, .int .i32 11, .int .i32 31, .int .i32 127, .int .i32 159, .int .i32 64976, .int .i32 65007, .int .i32 65279, .int .i32 65279]
theorem idx0 (w : World) : (Instr.index 125 (.agg barCells) (.int .i64 0)).run Tryz.prog w = .ok (.agg #[.int .i32 0, .int .i32 8]) w := by kernel_rfl
theorem idx1 (w : World) : (Instr.index 125 (.agg barCells) (.int .i64 1)).run Tryz.prog w = .ok (.agg #[.int .i32 11, .int .i32 31]) w := by kernel_rfl
theorem idx2 (w : World) : (Instr.index 125 (.agg barCells) (.int .i64 2)).run Tryz.prog w = .ok (.agg #[.int .i32 127, .int .i32 159]) w := by kernel_rfl
theorem idx3 (w : World) : (Instr.index 125 (.agg barCells) (.int .i64 3)).run Tryz.prog w = .ok (.agg #[.int .i32 64976, .int .i32 65007]) w := by kernel_rfl
theorem idx4 (w : World) : (Instr.index 125 (.agg barCells) (.int .i64 4)).run Tryz.prog w = .ok (.agg #[.int .i32 65279, .int .i32 65279]) w := by kernel_rfl
set_option maxHeartbeats 1000000 in
theorem letIn_any (r : Int) (h0 : 0 ≤ r) (h1 : r ≤ 1114111) (w : World) (fr : Nat × Nat) (t : TypeId) (hg : w.heap[0]? = some (.cells barCells t fr)) :
    Calls Tryz.prog 83 #[.int .i32 r] w fun e w' => e = .returned (.bool (okRune r)) ∧ Below w.heap.size w w' := by
  have i0 := idx0; have i1 := idx1; have i2 := idx2; have i3 := idx3; have i4 := idx4
  have hl := low16 r h0 h1
  go_enter Tryz.func83, Tryz.ntmps83
  go_wp2_with (refine wpList_load_row rfl 125 _ rfl 0 rfl t _ fr _ hg Tryz.underlying125 rfl (by kernel_rfl) ?_)
  clear hg
  go_loopw [6] (fun i w' => ∃ k : Nat, k ≤ 5 ∧ i = .int .i64 k ∧ clears r k ∧ Below w.heap.size w w') (fun i _ => 5 - (intOf i).toNat)
  case atStart => exact ⟨0, by omega, rfl, trivial, Below.refl _ _⟩
  case round =>
    obtain ⟨k, hk, rfl, hcl, hb⟩ := hrel
    have hsz := hb.size
    have hk5 : k = 0 ∨ k = 1 ∨ k = 2 ∨ k = 3 ∨ k = 4 ∨ k = 5 := by omega
    rcases hk5 with rfl | rfl | rfl | rfl | rfl | rfl
    all_goals simp only [clears] at hcl
    · go_wp2
      · go_ret
        exact ⟨congrArg (fun b => Ending.returned (.bool b)) (okRune_no (by omega)), hb.alloc hsz _⟩
      all_goals exact ⟨⟨1, by omega, rfl, by simp only [clears]; omega, hb.alloc hsz _⟩, by simp [intOf]⟩
    · go_wp2
      · go_ret
        exact ⟨congrArg (fun b => Ending.returned (.bool b)) (okRune_no (by omega)), hb.alloc hsz _⟩
      all_goals exact ⟨⟨2, by omega, rfl, by simp only [clears]; omega, hb.alloc hsz _⟩, by simp [intOf]⟩
    · go_wp2
      · go_ret
        exact ⟨congrArg (fun b => Ending.returned (.bool b)) (okRune_no (by omega)), hb.alloc hsz _⟩
      all_goals exact ⟨⟨3, by omega, rfl, by simp only [clears]; omega, hb.alloc hsz _⟩, by simp [intOf]⟩
    · go_wp2
      · go_ret
        exact ⟨congrArg (fun b => Ending.returned (.bool b)) (okRune_no (by omega)), hb.alloc hsz _⟩
      all_goals exact ⟨⟨4, by omega, rfl, by simp only [clears]; omega, hb.alloc hsz _⟩, by simp [intOf]⟩
    · go_wp2
      · go_ret
        exact ⟨congrArg (fun b => Ending.returned (.bool b)) (okRune_no (by omega)), hb.alloc hsz _⟩
      all_goals exact ⟨⟨5, by omega, rfl, by simp only [clears]; omega, hb.alloc hsz _⟩, by simp [intOf]⟩
    · go_wp2
      go_ret
      exact ⟨congrArg (fun b => Ending.returned (.bool b)) (okRune_yes hcl), hb⟩
set_option maxHeartbeats 1000000 in
theorem check_any (s : ByteArray) (hs : s.size ≤ maxLen) (w : World) (fr : Nat × Nat) (t : TypeId) (hg : w.heap[0]? = some (.cells barCells t fr)) :
    Calls Tryz.prog 67 #[.string s] w fun e w' =>
      e = .returned (.tuple #[.int .i64 (check s).1, .int .i64 (check s).2.1, .int .i64 (check s).2.2]) ∧ Below w.heap.size w w' := by
  unfold maxLen at hs
  have hgl : 0 < w.heap.size := (Array.getElem?_eq_some_iff.1 hg).1
  go_enter Tryz.func67, Tryz.ntmps67
  go_wp2_with fail
  go_loopw [2] (fun n w' => ∃ pos b k : Nat, w'.heap[w.heap.size]? = some (.stringIter s pos) ∧ Below w.heap.size w w' ∧ n = .int .i64 k ∧ Hid (chk s b pos k = check s) ∧ k ≤ pos ∧ pos ≤ s.size ∧ s.size ≤ pos + b) (fun _ w' => s.size - w'.iterPos w.heap.size)
  case atStart => exact ⟨0, s.size, 0, World.iter_heap _ _ _, (Below.refl _ _).alloc (Nat.le_refl _) _, rfl, rfl, by omega, by omega, by omega⟩
  case round =>
    obtain ⟨pos, b, k, hit, hb, rfl, hc, hkp, hps, hbb⟩ := hrel
    have hsz := hb.size
    have hbar : wr.heap[0]? = some (.cells barCells t fr) := (hb.block _ hgl).trans hg
    by_cases hp : pos < s.size
    · have hnx : ∀ ty, (Instr.next (.pointer (some ⟨w.heap.size, 0, none⟩)) true ty).run Tryz.prog wr = _ := fun ty => run_next_any_at wr w.heap.size s pos ty hit hp
      have hr0 := decode_le' s pos
      have hw1 := width_pos s pos
      have hw2 := width_fits s pos hp
      have hb2 : Below w.heap.size w (wr.iterAt w.heap.size s (pos + (Utf8.decode s pos).2)) := below_iterAt hb (Nat.le_refl _) _ _
      have hit2 := iterAt_heap wr w.heap.size s pos (pos + (Utf8.decode s pos).2) hit
      generalize hW : wr.iterAt w.heap.size s (pos + (Utf8.decode s pos).2) = W2 at *
      clear hW
      obtain ⟨b, rfl⟩ : ∃ b', b = b' + 1 := ⟨b - 1, by omega⟩
      have hc1 : chk s (b + 1) pos k = check s := hc
      simp only [chk, hp, if_true] at hc1
      generalize hr : (Utf8.decode s pos).1 = r at *
      generalize hwd : (Utf8.decode s pos).2 = wd at *
      have hsz2 := hb2.size
      have hW2 : w.heap.size < W2.heap.size := (Array.getElem?_eq_some_iff.1 hit2).1
      have hbar2 : W2.heap[0]? = some (.cells barCells t fr) := (hb2.block _ hgl).trans hg
      have HP : Hid (wr.iterPos w.heap.size = pos) := by simp [Hid, World.iterPos, hit]
      clear hr hwd hit hb hbar hc hsz
      cases hbk : brk s pos (r : Int) with
      | true =>
        simp only [hbk, if_true] at hc1
        have HC : Hid (((0 : Int), (pos : Int), (10 : Int)) = check s) := hc1
        clear hc1
        go_wp2_with (go_at_call 82; refine (broken_any _ _ _ _ (by omega)).mono ?_; rintro e w' ⟨rfl, rfl⟩)
        go_ret3
        rw [← HC.out]
        exact ⟨rfl, hb2⟩
      | false =>
        simp only [hbk, Bool.false_eq_true, if_false] at hc1
        cases hok : okRune (r : Int) with
        | true =>
          simp only [hok, if_true] at hc1
          have HC : Hid (chk s b (pos + wd) (k + 1) = check s) := hc1
          clear hc1
          go_wp2_with (first | (go_at_call 82; refine (broken_any _ _ _ _ (by omega)).mono ?_; rintro e w' ⟨rfl, rfl⟩) | (go_at_call 83; refine (letIn_any _ (by omega) (by omega) _ fr t hbar2).mono ?_; rintro e w3 ⟨rfl, hb3⟩))
          have hit3 : w3.heap[w.heap.size]? = some (.stringIter s (pos + wd)) := (hb3.block _ hW2).trans hit2
          refine ⟨⟨pos + wd, b, k + 1, hit3, hb2.trans (hb3.mono (by omega)), by go_num, HC, by omega, by omega, by omega⟩, ?_⟩
          rw [HP.out]
          have e3 : w3.iterPos w.heap.size = pos + wd := by simp [World.iterPos, hit3]
          omega
        | false =>
          simp only [hok, Bool.false_eq_true, if_false] at hc1
          have HC : Hid (((0 : Int), (pos : Int), (11 : Int)) = check s) := hc1
          clear hc1
          go_wp2_with (first | (go_at_call 82; refine (broken_any _ _ _ _ (by omega)).mono ?_; rintro e w' ⟨rfl, rfl⟩) | (go_at_call 83; refine (letIn_any _ (by omega) (by omega) _ fr t hbar2).mono ?_; rintro e w3 ⟨rfl, hb3⟩))
          go_ret3
          rw [← HC.out]
          exact ⟨rfl, hb2.trans (hb3.mono (by omega))⟩
    · have hnx : ∀ ty, (Instr.next (.pointer (some ⟨w.heap.size, 0, none⟩)) true ty).run Tryz.prog wr = _ := fun ty => run_next_end_at wr w.heap.size s pos ty hit hp
      have hc1 : chk s b pos k = check s := hc
      rw [chk_end s b pos k hp] at hc1
      have HC : Hid (((k : Int), (0 : Int), (0 : Int)) = check s) := hc1
      clear hc1 hc
      go_wp2_with fail
      go_ret3
      rw [← HC.out]
      exact ⟨rfl, hb⟩
theorem check_eq {n p c : Int} (s : ByteArray) (hs : s.size ≤ maxLen) (h : check s = (n, p, c)) (w : World) (fr : Nat × Nat) (t : TypeId) (hg : w.heap[0]? = some (.cells barCells t fr)) :
    Calls Tryz.prog 67 #[.string s] w fun e w' => e = .returned (.tuple #[.int .i64 n, .int .i64 p, .int .i64 c]) ∧ Below w.heap.size w w' := by
  have := check_any s hs w fr t hg
  rw [h] at this
  exact this
theorem bar_below {W W' : World} {B : Nat} {cs : Array Value} {t : TypeId} {fr : Nat × Nat} (hb : Below B W W') (hB : 0 < B) (hg : W.heap[0]? = some (.cells cs t fr)) :
    W'.heap[0]? = some (.cells cs t fr) := (hb.block _ hB).trans hg
end Go.Proofs.YtmdnmhdimfglaaaGreatDoor

namespace Go.Proofs.YtmdnmhdimfglaaaGreatDoor
open Go.RowKit Go.Lib
theorem encs_len2 (rs : List Int) : rs.length ≤ (encs rs).length := by
  induction rs with
  | nil => simp
  | cons r rs ih => have := encB_pos r; rw [encs_cons, List.length_cons, List.length_append]; omega
def posOf (rs : List Int) (j : Nat) : Nat := (encs (rs.take j)).length
theorem posOf_zero (rs : List Int) : posOf rs 0 = 0 := by simp [posOf, encs]
theorem posOf_succ (rs : List Int) (j : Nat) (h : j < rs.length) : posOf rs (j + 1) = posOf rs j + (encB rs[j]).length := by
  unfold posOf
  rw [List.take_succ_eq_append_getElem h, encs_append, List.length_append]
  simp [encs]
theorem posOf_all (rs : List Int) : posOf rs rs.length = (encs rs).length := by simp [posOf]
theorem posOf_drop (rs : List Int) (j : Nat) : (encs rs).drop (posOf rs j) = encs (rs.drop j) := by
  unfold posOf
  have h := encs_append (rs.take j) (rs.drop j)
  rw [List.take_append_drop] at h
  rw [h, List.drop_left]
theorem posOf_mono (rs : List Int) {i j : Nat} (h : i ≤ j) : posOf rs i ≤ posOf rs j := by
  unfold posOf
  have h2 : rs.take j = rs.take i ++ (rs.take j).drop i := by
    have := List.take_append_drop i (rs.take j)
    rw [List.take_take, Nat.min_eq_left h] at this
    exact this.symm
  rw [h2, encs_append, List.length_append]
  omega
theorem posOf_le (rs : List Int) (j : Nat) : posOf rs j ≤ (encs rs).length := by
  rcases Nat.le_total j rs.length with h | h
  · rw [← posOf_all]; exact posOf_mono rs h
  · rw [posOf, List.take_of_length_le h]; exact Nat.le_refl _
theorem posOf_lt (rs : List Int) {i j : Nat} (h : i < j) (hj : j ≤ rs.length) : posOf rs i < posOf rs j := by
  have h1 := posOf_succ rs i (by omega)
  have h2 := encB_pos rs[i]
  have h3 := posOf_mono rs (show i + 1 ≤ j by omega)
  omega
theorem posOf_ge (rs : List Int) (j : Nat) (h : j ≤ rs.length) : j ≤ posOf rs j := by
  have := encs_len2 (rs.take j)
  rw [List.length_take, Nat.min_eq_left h] at this
  exact this
structure Bar (w : World) : Prop where
  lies : ∃ t fr, w.heap[0]? = some (.cells barCells t fr)
theorem Bar.below {w w' : World} (h : Bar w) (hb : Below w.heap.size w w') : Bar w' := by
  obtain ⟨t, fr, hg⟩ := h.lies
  exact ⟨t, fr, bar_below hb (Array.getElem?_eq_some_iff.1 hg).1 hg⟩
theorem check_bar {s : ByteArray} {n p c : Int} (hs : s.size ≤ 9223372036854775807) (h : check s = (n, p, c)) (w : World) (hw : Bar w) :
    Calls Tryz.prog 67 #[.string s] w fun e w' => e = .returned (.tuple #[.int .i64 n, .int .i64 p, .int .i64 c]) ∧ Below w.heap.size w w' := by
  obtain ⟨t, fr, hg⟩ := hw.lies
  exact check_eq s (by unfold maxLen; omega) h w fr t hg
end Go.Proofs.YtmdnmhdimfglaaaGreatDoor
