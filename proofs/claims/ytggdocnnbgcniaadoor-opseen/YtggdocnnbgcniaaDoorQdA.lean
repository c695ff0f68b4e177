import Derived.Test.YtggdocnnbgcniaaDoorQcA
import Derived.Test.YtggdocnnbgcniaaDoorRvAJ
/-! Apply as the document's row has it. -/
namespace Go.Proofs.YtggdocnnbgcniaaDoor
open Go.RowKit Go.Lib
set_option maxRecDepth 100000

section
variable {w2 : World} {q : Nat} {R : List (Int × Int)} {W : World}
theorem Holds.bounds (h : Holds w2 q R W) : ∀ c ∈ R, 0 ≤ c.2 ∧ c.2 ≤ 1048576 := by
  obtain ⟨t, h1, h2, rfl, h3⟩ := h
  exact fun c hc => ⟨h2.lo c hc, h2.hi c hc⟩
theorem Holds.len (h : Holds w2 q R W) : R.length ≤ 1048576 := by
  obtain ⟨t, h1, h2, rfl, h3⟩ := h
  exact h2.len
/-- A right insert. -/
theorem ck_ins {c n : Int} (hid : (c = 0 ∧ n = 0) ∨ isIdP c n = true) {m N : Nat} {s : ByteArray} {rs : List Int} (ht : IsText s rs) (hne : rs ≠ []) (hle : rs.length ≤ 256) (hm : m ≤ N) (hN : N + rs.length ≤ 1048576) : opCheck ⟨c, n, 1, (m : Int), s, [], 0, 0, false⟩ (N : Int) = 0 := by
  have hpos := List.length_pos_iff.2 hne
  unfold opCheck
  rw [if_neg (by omega), if_neg (by simp only; omega), if_neg (by simp only; rcases hid with h | h; exact fun e => e.1 h; exact fun e => by rw [h] at e; cases e.2), if_neg (by simp [extra, ext0, extT]), if_pos rfl]
  unfold insP
  simp only [ht.check]
  rw [if_neg (by simp), if_neg (by omega), if_neg (by omega), if_neg (by omega), if_neg (by omega)]
theorem lastHi_leq {l : List (Int × Int)} {N : Int} (hne : l ≠ []) (h : ∀ x ∈ l, x.2 ≤ N) : lastHi l ≤ N := by
  have hpos := List.length_pos_iff.2 hne
  unfold lastHi
  rw [List.getD_eq_getElem?_getD, List.getElem?_eq_getElem (by omega)]
  exact h _ (List.getElem_mem _)
/-- A right Hide or Show. -/
theorem ck_rng {c n k : Int} (hid : (c = 0 ∧ n = 0) ∨ isIdP c n = true) (hk : k = 2 ∨ k = 3) {N : Nat} {l : List (Int × Int)} (hne : l ≠ []) (hs : Srt l) (hb : ∀ x ∈ l, 0 ≤ x.1 ∧ x.2 ≤ (N : Int)) (hn : l.length ≤ 32768) (hN : N ≤ 1048576) : opCheck ⟨c, n, k, 0, ⟨#[]⟩, l, 0, 0, false⟩ (N : Int) = 0 := by
  unfold opCheck
  rw [if_neg (by omega), if_neg (by simp only; omega), if_neg (by simp only; rcases hid with h | h; exact fun e => e.1 h; exact fun e => by rw [h] at e; cases e.2), if_neg (by unfold extra; rw [if_neg (by simp only; omega), if_neg (by simp only; omega)]; simp [extP, extT, ByteArray.size]), if_neg (by simp only; omega), if_neg (by simp only; omega)]
  unfold rngP
  rw [if_neg hne]
  simp only [check_srt hs (fun x hx => by have := hb x hx; omega) hn]
  have := lastHi_leq hne fun x hx => (hb x hx).2
  rw [if_neg (by simp), if_neg (by omega)]
theorem own_rng {c n k : Int} (hid : (c = 0 ∧ n = 0) ∨ isIdP c n = true) (hk : k = 2 ∨ k = 3) {N : Nat} {l : List (Int × Int)} (hne : l ≠ []) (hs : Srt l) (hb : ∀ x ∈ l, 0 ≤ x.1 ∧ x.2 ≤ (N : Int)) (hn : l.length ≤ 32768) (hN : N ≤ 1048576) : ownP ⟨c, n, k, 0, ⟨#[]⟩, l, 0, 0, false⟩ = 0 := by
  unfold ownP
  rw [if_neg (by simp only; omega)]
  exact ck_rng hid hk (N := 1048576) hne hs (fun x hx => by have := hb x hx; omega) hn (Nat.le_refl _)
theorem apply_insH (h : Holds w2 q R W) (hq : w2.heap.size ≤ q) (hBar : Bar w2) {c n : Int} (hid : (c = 0 ∧ n = 0) ∨ isIdP c n = true) {m : Nat} {s : ByteArray} {rs : List Int} (ht : IsText s rs) (hne : rs ≠ []) (hle : rs.length ≤ 256) (hm : m ≤ R.length) (hN : R.length + rs.length ≤ 1048576) :
    Calls Tryd.prog 13 #[.pointer (some ⟨q, 0, none⟩), opVal ⟨c, n, 1, (m : Int), s, [], 0, 0, false⟩ (.slice none 0 0)] W fun e W' => e = .returned (.int .i64 0) ∧ Holds w2 q (putL R m rs 0) W' ∧ Upd q W W' := by
  have hsz := ht.small
  refine (apply_ins_to h (rng_of_rw (rw_nil W)) (by omega) hBar (ck_ins hid ht hne hle hm hN) (Q := fun x W' => x = 0 ∧ Holds w2 q (putL R m rs 0) W' ∧ Upd q W W') fun W1 hb => ?_).mono ?_
  · exact ((h.still hb).insertU hq m hm ht hne 0 (Int.le_refl _) (by decide) hN hBar).mono fun e W' ⟨he, h1, h2⟩ => ⟨0, he, rfl, h1, (Upd.ofBelow hb).trans h2⟩
  · rintro e W' ⟨x, rfl, rfl, h1, h2⟩
    exact ⟨rfl, h1, h2⟩
theorem rw_piece {a : Option Addr} {m cap : Nat} {l : List (Int × Int)} (h : Sp.Rng W a m cap l) : Rw pieceV 2 W a m cap l := rw_of_rng h
theorem apply_hideH (h : Holds w2 q R W) (hq : w2.heap.size ≤ q) (hBar : Bar w2) {c n : Int} (hid : (c = 0 ∧ n = 0) ∨ isIdP c n = true) {a : Option Addr} {cap : Nat} {l : List (Int × Int)} (hl : Rw pieceV 2 W a l.length cap l) (hne : l ≠ []) (hs : Srt l) (hb : ∀ x ∈ l, 0 ≤ x.1 ∧ x.2 ≤ (R.length : Int)) (hn : l.length ≤ 32768) (hok : ∀ c ∈ bmp l 1 0 R, 0 ≤ c.2 ∧ c.2 ≤ 1048576) :
    Calls Tryd.prog 13 #[.pointer (some ⟨q, 0, none⟩), opVal ⟨c, n, 2, 0, ⟨#[]⟩, l, 0, 0, false⟩ (.slice a l.length cap)] W fun e W' => e = .returned (.int .i64 0) ∧ Holds w2 q (bmp l 1 0 R) W' ∧ Upd q W W' := by
  refine (apply_hide_to h hl.rng (by simp [ByteArray.size]) hBar (ck_rng hid (.inl rfl) hne hs hb hn h.len) (Q := fun x W' => x = 0 ∧ Holds w2 q (bmp l 1 0 R) W' ∧ Upd q W W') fun W1 hb1 => ?_).mono ?_
  · exact ((h.still hb1).bumpU hq (hl.below hb1) hn hs hb 1 (.inl rfl) hok).mono fun e W' ⟨he, h1, h2⟩ => ⟨0, he, rfl, h1, (Upd.ofBelow hb1).trans h2⟩
  · rintro e W' ⟨x, rfl, rfl, h1, h2⟩
    exact ⟨rfl, h1, h2⟩
theorem apply_showH (h : Holds w2 q R W) (hq : w2.heap.size ≤ q) (hBar : Bar w2) {c n : Int} (hid : (c = 0 ∧ n = 0) ∨ isIdP c n = true) {a : Option Addr} {cap : Nat} {l : List (Int × Int)} (hl : Rw pieceV 2 W a l.length cap l) (hne : l ≠ []) (hs : Srt l) (hb : ∀ x ∈ l, 0 ≤ x.1 ∧ x.2 ≤ (R.length : Int)) (hn : l.length ≤ 32768) (hok : ∀ c ∈ bmp l (-1) 0 R, 0 ≤ c.2 ∧ c.2 ≤ 1048576) :
    Calls Tryd.prog 13 #[.pointer (some ⟨q, 0, none⟩), opVal ⟨c, n, 3, 0, ⟨#[]⟩, l, 0, 0, false⟩ (.slice a l.length cap)] W fun e W' => e = .returned (.int .i64 0) ∧ Holds w2 q (bmp l (-1) 0 R) W' ∧ Upd q W W' := by
  refine (apply_show_to h hl.rng (by simp [ByteArray.size]) hBar (ck_rng hid (.inr rfl) hne hs hb hn h.len) (Q := fun x W' => x = 0 ∧ Holds w2 q (bmp l (-1) 0 R) W' ∧ Upd q W W') fun W1 hb1 => ?_).mono ?_
  · exact ((h.still hb1).bumpU hq (hl.below hb1) hn hs hb (-1) (.inr rfl) hok).mono fun e W' ⟨he, h1, h2⟩ => ⟨0, he, rfl, h1, (Upd.ofBelow hb1).trans h2⟩
  · rintro e W' ⟨x, rfl, rfl, h1, h2⟩
    exact ⟨rfl, h1, h2⟩
end
end Go.Proofs.YtggdocnnbgcniaaDoor
