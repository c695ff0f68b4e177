import Derived.Laws.RangeAny
import Derived.Laws.BitsLemmas
import Derived.Laws.Strings
namespace Go.Proofs.YtfnpmncmceocdaaDoor

/-- the first k stretches of the table don't hold r -/
def clears (r : Int) : Nat → Prop
  | 0 => True
  | 1 => ¬ (0 ≤ r ∧ r ≤ 8)
  | 2 => ¬ (0 ≤ r ∧ r ≤ 8) ∧ ¬ (11 ≤ r ∧ r ≤ 31)
  | 3 => ¬ (0 ≤ r ∧ r ≤ 8) ∧ ¬ (11 ≤ r ∧ r ≤ 31) ∧ ¬ (127 ≤ r ∧ r ≤ 159)
  | 4 => ¬ (0 ≤ r ∧ r ≤ 8) ∧ ¬ (11 ≤ r ∧ r ≤ 31) ∧ ¬ (127 ≤ r ∧ r ≤ 159) ∧ ¬ (64976 ≤ r ∧ r ≤ 65007)
  | _ => ¬ (0 ≤ r ∧ r ≤ 8) ∧ ¬ (11 ≤ r ∧ r ≤ 31) ∧ ¬ (127 ≤ r ∧ r ≤ 159) ∧ ¬ (64976 ≤ r ∧ r ≤ 65007) ∧ ¬ (65279 ≤ r ∧ r ≤ 65279)

/-- a rune that a text may hold -/
def okRune (r : Int) : Bool := decide (¬ (0 ≤ r ∧ r ≤ 8) ∧ ¬ (11 ≤ r ∧ r ≤ 31) ∧ ¬ (127 ≤ r ∧ r ≤ 159) ∧ ¬ (64976 ≤ r ∧ r ≤ 65007) ∧ ¬ (65279 ≤ r ∧ r ≤ 65279) ∧ r % 65536 < 65534)
theorem okRune_yes {r : Int} (h : ¬ (0 ≤ r ∧ r ≤ 8) ∧ ¬ (11 ≤ r ∧ r ≤ 31) ∧ ¬ (127 ≤ r ∧ r ≤ 159) ∧ ¬ (64976 ≤ r ∧ r ≤ 65007) ∧ ¬ (65279 ≤ r ∧ r ≤ 65279)) : decide (r % 65536 < 65534) = okRune r := by
  unfold okRune
  rw [Bool.eq_iff_iff]
  simp only [decide_eq_true_eq]
  omega
theorem okRune_no {r : Int} (h : (0 ≤ r ∧ r ≤ 8) ∨ (11 ≤ r ∧ r ≤ 31) ∨ (127 ≤ r ∧ r ≤ 159) ∨ (64976 ≤ r ∧ r ≤ 65007) ∨ (65279 ≤ r ∧ r ≤ 65279)) : false = okRune r := by
  unfold okRune
  rw [eq_comm, decide_eq_false_iff_not]
  omega
theorem low16 (r : Int) (h0 : 0 ≤ r) (h1 : r ≤ 1114111) : bits .and .i32 r 65535 = r % 65536 := bits_mask .i32 31 (by decide) wraps_i32 16 (by decide) r h0 (by omega)

/-- the three bytes of the rune fffd -/
def ef : ByteArray := ⟨#[239, 191, 189]⟩
/-- does s begin with p? -/
def pre (s p : ByteArray) : Bool := if p.size ≤ s.size then (s.extract 0 p.size).toList == p.toList else false
/-- 'broken': the rune is fffd, and not written so. -/
def brk (s : ByteArray) (at' : Nat) (r : Int) : Bool := if r = 65533 then !pre (s.extract at' s.size) ef else false

/-- what Check answers: the runes, the byte, the error -/
def chk (s : ByteArray) : Nat → Nat → Nat → Int × Int × Int
  | 0, _, n => (n, 0, 0)
  | b + 1, pos, n =>
    if pos < s.size then
      if brk s pos ((Utf8.decode s pos).1 : Int) = true then (0, pos, 10)
      else if okRune ((Utf8.decode s pos).1 : Int) = true then chk s b (pos + (Utf8.decode s pos).2) (n + 1)
      else (0, pos, 11)
    else (n, 0, 0)
def check (s : ByteArray) : Int × Int × Int := chk s s.size 0 0

theorem chk_end (s : ByteArray) (b pos n : Nat) (h : ¬ pos < s.size) : chk s b pos n = ((n : Int), 0, 0) := by
  cases b with
  | zero => rfl
  | succ b => simp [chk, h]

theorem decode_le' (s : ByteArray) (pos : Nat) : (Utf8.decode s pos).1 ≤ 1114111 := by
  have hb : ∀ k, (s.get! (pos + k)).toNat < 256 := fun k => (s.get! (pos + k)).toNat_lt
  have h0 := hb 0; have h1 := hb 1; have h2 := hb 2; have h3 := hb 3
  simp only [Utf8.decode]
  repeat' split
  all_goals simp_all [Utf8.runeError, Utf8.valid]
  all_goals omega

theorem width_pos (s : ByteArray) (pos : Nat) : 1 ≤ (Utf8.decode s pos).2 := by
  simp only [Utf8.decode]
  repeat' split
  all_goals simp_all

theorem width_fits (s : ByteArray) (pos : Nat) (h : pos < s.size) : pos + (Utf8.decode s pos).2 ≤ s.size := by
  simp only [Utf8.decode]
  repeat' split
  all_goals simp_all
  all_goals omega

theorem check_bad (s : ByteArray) (h : 0 < s.size) (hd : (Utf8.decode s 0).1 = 65533) (hp : pre s ef = false) : check s = (0, 0, 10) := by
  unfold check
  obtain ⟨n, hn⟩ : ∃ n, s.size = n + 1 := ⟨s.size - 1, by omega⟩
  have he : s.extract 0 s.size = s := ByteArray.extract_zero_size
  simp only [hn, chk, hd]
  rw [hn] at he
  simp [brk, hn, he, hp]

theorem pre_short (s : ByteArray) (h : s.size < 3) : pre s ef = false := by
  have : ef.size = 3 := rfl
  simp [pre, this]; omega

theorem decode1 (a : UInt8) (h : 128 ≤ a.toNat) : (Utf8.decode ⟨#[a]⟩ 0).1 = 65533 := by
  have hs : (⟨#[a]⟩ : ByteArray).size = 1 := rfl
  have g0 : (⟨#[a]⟩ : ByteArray).get! 0 = a := rfl
  simp only [Utf8.decode, Nat.zero_add, hs, g0]
  simp [show ¬ a.toNat < 128 by omega, Utf8.runeError]

theorem decode2 (a b : UInt8) (h : 192 ≤ a.toNat) (h2 : a.toNat ≤ 193) : (Utf8.decode ⟨#[a, b]⟩ 0).1 = 65533 := by
  have hs : (⟨#[a, b]⟩ : ByteArray).size = 2 := rfl
  have g0 : (⟨#[a, b]⟩ : ByteArray).get! 0 = a := rfl
  have g1 : (⟨#[a, b]⟩ : ByteArray).get! 1 = b := rfl
  have hb := b.toNat_lt
  simp only [Utf8.decode, Nat.zero_add, hs, g0, g1]
  have e1 : ¬ a.toNat < 128 := by omega
  have e5 : ¬ 128 ≤ a.toNat % 32 * 64 + b.toNat % 64 := by omega
  simp [e1, e5, Utf8.runeError]

theorem decode3e0 (b c : UInt8) (h : 128 ≤ b.toNat) (h2 : b.toNat ≤ 159) : (Utf8.decode ⟨#[224, b, c]⟩ 0).1 = 65533 := by
  have hs : (⟨#[224, b, c]⟩ : ByteArray).size = 3 := rfl
  have g0 : (⟨#[224, b, c]⟩ : ByteArray).get! 0 = 224 := rfl
  have g1 : (⟨#[224, b, c]⟩ : ByteArray).get! 1 = b := rfl
  have g2 : (⟨#[224, b, c]⟩ : ByteArray).get! 2 = c := rfl
  have hb := c.toNat_lt
  simp only [Utf8.decode, Nat.zero_add, hs, g0, g1, g2]
  have e5 : ¬ 2048 ≤ b.toNat % 64 * 64 + c.toNat % 64 := by omega
  simp [e5, Utf8.runeError]

theorem decode3ed (b c : UInt8) (h : 160 ≤ b.toNat) (h2 : b.toNat ≤ 191) : (Utf8.decode ⟨#[237, b, c]⟩ 0).1 = 65533 := by
  have hs : (⟨#[237, b, c]⟩ : ByteArray).size = 3 := rfl
  have g0 : (⟨#[237, b, c]⟩ : ByteArray).get! 0 = 237 := rfl
  have g1 : (⟨#[237, b, c]⟩ : ByteArray).get! 1 = b := rfl
  have g2 : (⟨#[237, b, c]⟩ : ByteArray).get! 2 = c := rfl
  have hb := c.toNat_lt
  simp only [Utf8.decode, Nat.zero_add, hs, g0, g1, g2]
  have e5 : Utf8.valid (53248 + (b.toNat : Int) % 64 * 64 + (c.toNat : Int) % 64) = false := by
    simp only [Utf8.valid, Bool.or_eq_false_iff, Bool.and_eq_false_iff, decide_eq_false_iff_not]
    omega
  simp [e5, Utf8.runeError]

theorem pre3 (a b c : UInt8) (h : a.toNat ≠ 239) : pre ⟨#[a, b, c]⟩ ef = false := by
  have h2 : a ≠ 239 := fun e => h (by rw [e]; rfl)
  have he : (⟨#[a, b, c]⟩ : ByteArray).extract 0 3 = ⟨#[a, b, c]⟩ := ByteArray.extract_zero_size
  have e3 : ef.size = 3 := rfl
  have e4 : (⟨#[a, b, c]⟩ : ByteArray).size = 3 := rfl
  have e5 : (⟨#[a, b, c]⟩ : ByteArray).toList = [a, b, c] := by rw [Go.ByteArray.toList_eq]
  have e6 : ef.toList = [239, 191, 189] := by rw [Go.ByteArray.toList_eq]; rfl
  simp [pre, e3, e4, he, e5, e6, h2]

theorem check_hi (n : Int) (h : 128 ≤ n) (h2 : n ≤ 255) : check ⟨#[UInt8.ofNat n.toNat]⟩ = (0, 0, 10) := by
  refine check_bad _ (Nat.succ_pos _) (decode1 _ ?_) (pre_short _ (show 1 < 3 by decide))
  simp; omega
theorem check_c0 (n m : Int) (h : 192 ≤ n) (h2 : n ≤ 193) : check ⟨#[UInt8.ofNat n.toNat, UInt8.ofNat m.toNat]⟩ = (0, 0, 10) := by
  refine check_bad _ (Nat.succ_pos _) (decode2 _ _ ?_ ?_) (pre_short _ (show 2 < 3 by decide))
  all_goals simp
  all_goals omega
theorem check_e0 (n m : Int) (h : 128 ≤ n) (h2 : n ≤ 159) : check ⟨#[224, UInt8.ofNat n.toNat, UInt8.ofNat m.toNat]⟩ = (0, 0, 10) := by
  refine check_bad _ (Nat.succ_pos _) (decode3e0 _ _ ?_ ?_) (pre3 _ _ _ (by decide))
  all_goals simp
  all_goals omega
theorem check_ed (n m : Int) (h : 160 ≤ n) (h2 : n ≤ 191) : check ⟨#[237, UInt8.ofNat n.toNat, UInt8.ofNat m.toNat]⟩ = (0, 0, 10) := by
  refine check_bad _ (Nat.succ_pos _) (decode3ed _ _ ?_ ?_) (pre3 _ _ _ (by decide))
  all_goals simp
  all_goals omega
theorem check_lo (n : Int) (h : 0 ≤ n) (h2 : n < 128) : check ⟨#[UInt8.ofNat n.toNat]⟩ = if okRune n then (1, 0, 0) else (0, 0, 11) := by
  have hs : (⟨#[UInt8.ofNat n.toNat]⟩ : ByteArray).size = 1 := rfl
  have e : ((⟨#[UInt8.ofNat n.toNat]⟩ : ByteArray)[0]'(Nat.succ_pos _)).toNat = n.toNat := by
    show (UInt8.ofNat n.toNat).toNat = _
    simp; omega
  have hd := decode_ascii ⟨#[UInt8.ofNat n.toNat]⟩ 0 (Nat.succ_pos _) (by rw [e]; omega)
  rw [e] at hd
  have e2 : ((n.toNat : Nat) : Int) = n := by omega
  simp [check, hs, chk, hd, e2, brk, show n ≠ 65533 by omega]
end Go.Proofs.YtfnpmncmceocdaaDoor
