import Derived.Test.YtfakfmmngflbfacGreatDoorRunes
namespace Go.Proofs.YtfakfmmngflbfacGreatDoor
open Go.RowKit Go.Lib

/-- A slice of int in the world that reads as rs. -/
structure Row64 (w : World) (a : Option Addr) (n cap : Nat) (rs : List Int) : Prop where
  len : rs.length = n
  room : n ≤ cap ∧ cap ≤ maxLen
  cells : ∀ j, j < n → ∃ g off, a = some ⟨g, off, none⟩ ∧ g < w.heap.size ∧ w.cell? ⟨g, off + j, none⟩ = some (.int .i64 (rs.getD j 0))
theorem Row64.below {w w' : World} {a : Option Addr} {n cap : Nat} {rs : List Int} (h : Row64 w a n cap rs) (hb : Below w.heap.size w w') : Row64 w' a n cap rs :=
  ⟨h.len, h.room, fun j hj => by
    obtain ⟨g, off, ha, hg, hc⟩ := h.cells j hj
    exact ⟨g, off, ha, by have := hb.size; omega, (hb.cell (p := ⟨g, off + j, none⟩) hg).trans hc⟩⟩
theorem row64_of_own {w : World} {B n cap : Nat} {a : Option Addr} {rs : List Int} (h : w.ownsRow B 3 1 (.slice a n cap) n (intsV rs)) : Row64 w a n cap rs := by
  have hlen : rs.length = n := by simpa [intsV] using h.1
  rcases h.2 with ⟨e, h0⟩ | ⟨g, cap', cur, e, _, hh, hn, hm, hsz, htk⟩
  · simp only [Value.slice.injEq] at e
    obtain ⟨rfl, _, rfl⟩ := e
    exact ⟨hlen, by rw [h0]; exact ⟨Nat.le_refl _, Nat.zero_le _⟩, fun j hj => by omega⟩
  · simp only [Value.slice.injEq] at e
    obtain ⟨rfl, _, rfl⟩ := e
    refine ⟨hlen, ⟨hn, hm⟩, fun j hj => ⟨g, 0, rfl, (Array.getElem?_eq_some_iff.1 hh).1, ?_⟩⟩
    rw [Nat.zero_add]
    have e1 : cur.toList[j]? = (intsV rs)[j]? := by
      rw [← htk, List.getElem?_take, if_pos (by omega)]
    simp only [World.cell?, hh]
    simp only [Array.getElem?_toList] at e1
    rw [e1]
    simp [intsV, List.getElem?_eq_getElem (show j < rs.length by omega), List.getD_eq_getElem?_getD]
theorem split_of_text {s : ByteArray} {rs : List Int} (h : IsText s rs) : Split s rs [] := ⟨by rw [h.bytes, List.append_nil], h.ok, .inl rfl⟩
theorem text_of_split {s : ByteArray} {rs : List Int} (h : Split s rs []) : IsText s rs := ⟨by rw [h.bytes, List.append_nil], h.ok⟩
/-- A string is a text, or Check tells its fault. -/
theorem text_or (s : ByteArray) : (∃ rs, IsText s rs) ∨ ∃ p c, check s = (0, p, c) ∧ (c = 10 ∨ c = 11) := by
  obtain ⟨rs, rest, h⟩ := split_any s
  by_cases h0 : rest = []
  · subst h0
    exact .inl ⟨rs, text_of_split h⟩
  · have hc := h.check_eq
    rw [if_neg h0] at hc
    exact .inr ⟨_, _, hc, by unfold faultOf; split <;> simp⟩
theorem runes_text {s : ByteArray} {rs : List Int} (h : IsText s rs) (hs : s.size ≤ 2097152) (w : World) :
    Calls Tryz.prog 32 #[.string s] w fun e w' => ∃ (a : Option Addr) (cap : Nat), e = .returned (.tuple #[.slice a rs.length cap, .int .i64 0, .int .i64 0]) ∧ Below w.heap.size w w' ∧ Row64 w' a rs.length cap rs := by
  refine (runes_any (split_of_text h) hs w).mono ?_
  rintro e w' ⟨a, n, cap, p, c, rfl, hb, ⟨_, rfl, rfl, rfl, hown⟩ | ⟨h0, _⟩⟩
  · exact ⟨a, cap, rfl, hb, row64_of_own hown⟩
  · exact absurd rfl h0
theorem runes_bad {s : ByteArray} {p c : Int} (h : check s = (0, p, c)) (hc : c = 10 ∨ c = 11) (hs : s.size ≤ 2097152) (w : World) :
    Calls Tryz.prog 32 #[.string s] w fun e w' => ∃ (a : Option Addr) (cap : Nat), e = .returned (.tuple #[.slice a 0 cap, .int .i64 p, .int .i64 c]) ∧ Below w.heap.size w w' := by
  obtain ⟨rs, rest, hsp⟩ := split_any s
  have hq := hsp.check_eq
  rw [h] at hq
  refine (runes_any hsp hs w).mono ?_
  rintro e w' ⟨a, n, cap, p', c', rfl, hb, ⟨h0, rfl, rfl, rfl, hown⟩ | ⟨h0, rfl, rfl, rfl⟩⟩
  · rw [if_pos h0] at hq
    simp only [Prod.mk.injEq] at hq
    omega
  · rw [if_neg h0] at hq
    simp only [Prod.mk.injEq] at hq
    obtain ⟨_, rfl, rfl⟩ := hq
    exact ⟨a, cap, rfl, hb⟩
theorem text_len {s : ByteArray} {rs : List Int} (h : IsText s rs) : rs.length ≤ s.size := by
  rw [h.size]
  exact posOf_ge rs rs.length (Nat.le_refl _)
end Go.Proofs.YtfakfmmngflbfacGreatDoor
