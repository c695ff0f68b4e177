import Derived.Test.YtjnglghhcbdpmaaSpIn
import Derived.Test.YtjnglghhcbdpmaaSpO
import Derived.Test.YtjnglghhcbdpmaaSpLn
namespace Go.Proofs.Ytjnglghhcbdpmaa
open Go.RowKit Go.Lib
set_option maxRecDepth 100000

/-- What Make makes of parts. -/
def MadeP (w : World) (p : List (Int × Int)) (e : Ending) (w' : World) : Prop := ∃ U a' cap', e = .returned (.tuple #[.slice a' U.length cap', .int .i64 0]) ∧ Own w' w.heap.size (.slice a' U.length cap') U ∧ Below w.heap.size w w' ∧ Lst U ∧ ∀ q, Lies U q ↔ Lies p q
theorem make_parts {w : World} {a : Option Addr} {n cap : Nat} {p : List (Int × Int)} (h : Rng w a n cap p) (hn : n ≤ 32768) (hp : Parts p) : Calls Try.prog 4 #[.slice a n cap] w fun e w' => MadeP w p e w' :=
  (make_any h hn).mono fun e w' ⟨hb, hh⟩ => by
    rcases hh with ⟨h1, _⟩ | ⟨_, U, a', cap', h1, h2, h3, he, ho⟩
    · exact absurd hp h1
    · refine ⟨U, a', cap', he, ho, hb, lst_of h1 (fun q hq => ?_) (by omega), h2⟩
      obtain ⟨r, hr, h4, h5⟩ := (h2 q).1 hq
      have := hp r hr
      omega
theorem Lst.parts {l : List (Int × Int)} (h : Lst l) : Parts l := fun r hr => by have := h.nonneg r hr; omega
/-- Make gives a list back. -/
theorem make_lst {w : World} {a : Option Addr} {n cap : Nat} {l : List (Int × Int)} (h : Rng w a n cap l) (hl : Lst l) : Calls Try.prog 4 #[.slice a n cap] w fun e w' => ∃ a' cap', e = .returned (.tuple #[.slice a' n cap', .int .i64 0]) ∧ Own w' w.heap.size (.slice a' n cap') l ∧ Below w.heap.size w w' :=
  (make_parts h (by have := hl.few; have := h.len; omega) hl.parts).mono fun e w' ⟨U, a', cap', he, ho, hb, hU, hM⟩ => by
    have : U = l := norm_unique hU.norm hl.norm hM
    subst this
    have := h.len
    subst this
    exact ⟨a', cap', he, ho, hb⟩
/-- An answer that is a list, told by its set. -/
def SetP (w : World) (S : Int → Prop) (e : Ending) (w' : World) : Prop := ∃ U, Norm (-1) U ∧ (∀ q, Lies U q ↔ S q) ∧ Answer w.heap.size e w' U ∧ Below w.heap.size w w'
theorem union_set {w : World} {a : Option Addr} {n cap : Nat} {l : List (Int × Int)} (h : Rng w a n cap l) {b : Option Addr} {m capb : Nat} {k : List (Int × Int)} (hk : Rng w b m capb k) (hl : Lst l) (hkl : Lst k) :
    Calls Try.prog 21 #[.slice a n cap, .slice b m capb] w fun e w' => SetP w (fun q => Lies l q ∨ Lies k q) e w' := union_ok h hk hl hkl
theorem meet_set {w : World} {a : Option Addr} {n cap : Nat} {l : List (Int × Int)} (h : Rng w a n cap l) {b : Option Addr} {m capb : Nat} {k : List (Int × Int)} (hk : Rng w b m capb k) (hl : Lst l) (hkl : Lst k) :
    Calls Try.prog 27 #[.slice a n cap, .slice b m capb] w fun e w' => SetP w (fun q => Lies l q ∧ Lies k q) e w' := meet_ok h hk hl hkl
theorem minus_set {w : World} {a : Option Addr} {n cap : Nat} {l : List (Int × Int)} (h : Rng w a n cap l) {b : Option Addr} {m capb : Nat} {k : List (Int × Int)} (hk : Rng w b m capb k) (hl : Lst l) (hkl : Lst k) :
    Calls Try.prog 28 #[.slice a n cap, .slice b m capb] w fun e w' => SetP w (fun q => Lies l q ∧ ¬ Lies k q) e w' := minus_ok h hk hl hkl
theorem copied_own {w : World} {B : Nat} {a : Option Addr} {n cap : Nat} {l : List (Int × Int)} (h : Own w B (.slice a n cap) l) (hl : l.length ≤ 32768) :
    Calls Try.prog 5 #[.slice a n cap] w fun e w' => ∃ a' cap', e = .returned (.slice a' n cap') ∧ Own w' w.heap.size (.slice a' n cap') l ∧ Below w.heap.size w w' :=
  lawCopied_any h.rng (by have := h.rng.len; omega)
theorem same_refl {w : World} {a : Option Addr} {n cap : Nat} {l : List (Int × Int)} (h : Rng w a n cap l) {b : Option Addr} {m capb : Nat} (hk : Rng w b m capb l) :
    Calls Try.prog 12 #[.slice a n cap, .slice b m capb] w fun e w' => e = .returned (.bool true) ∧ Below w.heap.size w w' :=
  (same_any h hk).mono fun e w' ⟨he, hb⟩ => ⟨by rw [he]; simp, hb⟩
end Go.Proofs.Ytjnglghhcbdpmaa
