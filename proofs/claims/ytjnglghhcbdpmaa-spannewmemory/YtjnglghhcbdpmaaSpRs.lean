import Derived.Test.YtjnglghhcbdpmaaSpMk
import Derived.Test.YtjnglghhcbdpmaaSpH
import Derived.Test.YtjnglghhcbdpmaaSpPo
namespace Go.Proofs.Ytjnglghhcbdpmaa
open Go.RowKit Go.Lib
set_option maxRecDepth 100000

/-- A list that a call answers, and its error. -/
def Res (w : World) (e : Ending) (w' : World) (c : Int) (U : List (Int × Int)) : Prop :=
  ∃ a n cap, e = .returned (.tuple #[.slice a n cap, .int .i64 c]) ∧ Own w' w.heap.size (.slice a n cap) U ∧ Below w.heap.size w w'
/-- What a call must answer: the error c0, or the one list of the set S, if it has not too many ranges. -/
def SpecS (c0 : Int) (S : Int → Prop) (c : Int) (U : List (Int × Int)) : Prop :=
  (c0 ≠ 0 ∧ c = c0 ∧ U = []) ∨ (c0 = 0 ∧ ∃ V, Norm (-1) V ∧ (∀ q, Lies V q ↔ S q) ∧ ((V.length ≤ 32768 ∧ c = 0 ∧ U = V) ∨ (32768 < V.length ∧ c = 21 ∧ U = [])))
theorem SpecS.unique {c0 c c' : Int} {S : Int → Prop} {U U' : List (Int × Int)} (h : SpecS c0 S c U) (h' : SpecS c0 S c' U') : c = c' ∧ U = U' := by
  rcases h with ⟨h0, rfl, rfl⟩ | ⟨h0, V, hn, hl, h⟩
  · rcases h' with ⟨_, rfl, rfl⟩ | ⟨h1, _⟩
    · exact ⟨rfl, rfl⟩
    · exact absurd h1 h0
  · rcases h' with ⟨h1, _⟩ | ⟨_, V', hn', hl', h'⟩
    · exact absurd h0 h1
    · obtain rfl : V = V' := norm_unique hn hn' (fun q => (hl q).trans (hl' q).symm)
      rcases h with ⟨a1, rfl, rfl⟩ | ⟨a1, rfl, rfl⟩ <;> rcases h' with ⟨b1, rfl, rfl⟩ | ⟨b1, rfl, rfl⟩
      · exact ⟨rfl, rfl⟩
      · omega
      · omega
      · exact ⟨rfl, rfl⟩
theorem Res.nil {w w' : World} {c : Int} (hb : Below w.heap.size w w') : Res w (.returned (.tuple #[.slice none 0 0, .int .i64 c])) w' c [] := ⟨none, 0, 0, rfl, own_nil _ _, hb⟩
theorem Answer.res {w w' : World} {e : Ending} {U : List (Int × Int)} {S : Int → Prop} (h : Answer w.heap.size e w' U) (hb : Below w.heap.size w w') (hn : Norm (-1) U) (hl : ∀ q, Lies U q ↔ S q) : ∃ c V, SpecS 0 S c V ∧ Res w e w' c V := by
  rcases h with ⟨h1, rfl⟩ | ⟨h1, a, cap, rfl, ho⟩
  · exact ⟨21, [], .inr ⟨rfl, U, hn, hl, .inr ⟨h1, rfl, rfl⟩⟩, Res.nil hb⟩
  · exact ⟨0, U, .inr ⟨rfl, U, hn, hl, .inl ⟨h1, rfl, rfl⟩⟩, _, _, _, rfl, ho, hb⟩
open Classical in
noncomputable def makeCode (l : List (Int × Int)) : Int := if 32768 < l.length then 21 else if Parts l then 0 else 20
def codeOf (l k : List (Int × Int)) : Int := if (checkL l).2 = 0 then (checkL k).2 else (checkL l).2
theorem codeOf_zero {l k : List (Int × Int)} (h : codeOf l k = 0) : Lst l ∧ Lst k := by
  unfold codeOf at h
  split at h
  · rename_i h1; exact ⟨checkL_ok h1, checkL_ok h⟩
  · rename_i h1; exact absurd h h1
theorem make_res {w : World} {a : Option Addr} {n cap : Nat} {l : List (Int × Int)} (h : Rng w a n cap l) :
    Calls Try.prog 4 #[.slice a n cap] w fun e w' => ∃ c U, SpecS (makeCode l) (fun q => Lies l q) c U ∧ Res w e w' c U := by
  have hln := h.len
  by_cases hn : 32768 < n
  · refine (make_many hn).mono ?_
    rintro e w' ⟨rfl, hb⟩
    have : makeCode l = 21 := by unfold makeCode; rw [if_pos (by omega)]
    exact ⟨21, [], .inl ⟨by rw [this]; decide, this.symm, rfl⟩, Res.nil hb⟩
  · refine (make_any h (by omega)).mono ?_
    rintro e w' ⟨hb, ⟨hp, rfl⟩ | ⟨hp, U, a', cap', hN, hL, hUn, rfl, ho⟩⟩
    · have : makeCode l = 20 := by unfold makeCode; rw [if_neg (by omega), if_neg hp]
      exact ⟨20, [], .inl ⟨by rw [this]; decide, this.symm, rfl⟩, Res.nil hb⟩
    · have : makeCode l = 0 := by unfold makeCode; rw [if_neg (by omega), if_pos hp]
      exact ⟨0, U, .inr ⟨this, U, hN, hL, .inl ⟨by omega, rfl, rfl⟩⟩, _, _, _, rfl, ho, hb⟩
theorem union_res {w : World} {a : Option Addr} {n cap : Nat} {l : List (Int × Int)} (h : Rng w a n cap l) {b : Option Addr} {m capb : Nat} {k : List (Int × Int)} (hk : Rng w b m capb k) :
    Calls Try.prog 21 #[.slice a n cap, .slice b m capb] w fun e w' => ∃ c U, SpecS (codeOf l k) (fun q => Lies l q ∨ Lies k q) c U ∧ Res w e w' c U := by
  by_cases h0 : codeOf l k = 0
  · obtain ⟨hl, hkl⟩ := codeOf_zero h0
    rw [h0]
    exact (union_ok h hk hl hkl).mono fun e w' ⟨U, hn, hL, ha, hb⟩ => ha.res hb hn hL
  · refine (union_bad h hk _ rfl h0).mono ?_
    rintro e w' ⟨rfl, hb⟩
    exact ⟨_, [], .inl ⟨h0, rfl, rfl⟩, Res.nil hb⟩
theorem meet_res {w : World} {a : Option Addr} {n cap : Nat} {l : List (Int × Int)} (h : Rng w a n cap l) {b : Option Addr} {m capb : Nat} {k : List (Int × Int)} (hk : Rng w b m capb k) :
    Calls Try.prog 27 #[.slice a n cap, .slice b m capb] w fun e w' => ∃ c U, SpecS (codeOf l k) (fun q => Lies l q ∧ Lies k q) c U ∧ Res w e w' c U := by
  by_cases h0 : codeOf l k = 0
  · obtain ⟨hl, hkl⟩ := codeOf_zero h0
    rw [h0]
    exact (meet_ok h hk hl hkl).mono fun e w' ⟨U, hn, hL, ha, hb⟩ => ha.res hb hn hL
  · refine (meet_bad h hk _ rfl h0).mono ?_
    rintro e w' ⟨rfl, hb⟩
    exact ⟨_, [], .inl ⟨h0, rfl, rfl⟩, Res.nil hb⟩
theorem minus_res {w : World} {a : Option Addr} {n cap : Nat} {l : List (Int × Int)} (h : Rng w a n cap l) {b : Option Addr} {m capb : Nat} {k : List (Int × Int)} (hk : Rng w b m capb k) :
    Calls Try.prog 28 #[.slice a n cap, .slice b m capb] w fun e w' => ∃ c U, SpecS (codeOf l k) (fun q => Lies l q ∧ ¬ Lies k q) c U ∧ Res w e w' c U := by
  by_cases h0 : codeOf l k = 0
  · obtain ⟨hl, hkl⟩ := codeOf_zero h0
    rw [h0]
    exact (minus_ok h hk hl hkl).mono fun e w' ⟨U, hn, hL, ha, hb⟩ => ha.res hb hn hL
  · refine (minus_bad h hk _ rfl h0).mono ?_
    rintro e w' ⟨rfl, hb⟩
    exact ⟨_, [], .inl ⟨h0, rfl, rfl⟩, Res.nil hb⟩
end Go.Proofs.Ytjnglghhcbdpmaa
