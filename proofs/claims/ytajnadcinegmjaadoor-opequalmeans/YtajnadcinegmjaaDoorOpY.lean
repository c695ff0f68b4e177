import Derived.Test.YtajnadcinegmjaaDoorOpX
import Derived.Test.YtajnadcinegmjaaDoorRpM
namespace Go.Proofs.YtajnadcinegmjaaDoor
open Go.RowKit Go.Lib Sp
set_option maxRecDepth 100000

def rangeV (x : Int × Int) : List Value := [.int .i64 x.1, .int .i64 x.2]
theorem layG : Lay rangeV 2 := ⟨fun _ => rfl, by decide, fun x u hu => by simp [rangeV] at hu; rcases hu with rfl | rfl <;> rfl⟩
theorem kindG : Kind Tryd.prog 32 42 2 16 := kind_of Tryd.underlying32 (z := .agg #[.int .i64 0, .int .i64 0]) (by kernel_rfl) rfl
theorem rng_of_rw {w : World} {a : Option Addr} {n cap : Nat} {l : List (Int × Int)} (h : Rw rangeV 2 w a n cap l) : Rng w a n cap l :=
  ⟨h.len, h.room, fun j hj => by
    obtain ⟨g, off, x, ha, hg, hx, hc⟩ := h.at j hj
    have e : l.getD j (0, 0) = x := by rw [List.getD_eq_getElem?_getD, hx]; rfl
    rw [e]
    refine ⟨g, off, ha, hg, ?_, hc 1 _ rfl⟩
    have := hc 0 _ rfl
    simpa using this⟩

theorem ownF_at {w : World} {B : Nat} {a : Option Addr} {m cap : Nat} {l : List (Int × Int)} (h : OwnF rangeV 2 42 w B (.slice a m cap) l) : ∀ g off, a = some ⟨g, off, none⟩ → B ≤ g := fun g off ha => by
  subst ha
  rcases h.2 with ⟨e, _⟩ | ⟨g', cap', cur, e, h1, _⟩
  · cases e
  · simp only [Value.slice.injEq, Option.some.injEq, Addr.mk.injEq] at e
    omega
/-- One range of a line. -/
def oneP (l : List UInt8) : Int × Int := (numP (cut1 l 45).1, numP (cut1 l 45).2.1)
def rngsP : Nat → List UInt8 → List (Int × Int)
  | 0, _ => []
  | f + 1, l => oneP (cut1 l 44).1 :: (if (cut1 l 44).2.2 = true then rngsP f (cut1 l 44).2.1 else [])
def restP (more : Bool) (j : Nat) (l : List UInt8) : List (Int × Int) := if more = true then rngsP (32769 - j) l else []
theorem restP_step (j : Nat) (hj : j ≤ 32768) (l : List UInt8) : restP true j l = oneP (cut1 l 44).1 :: restP (cut1 l 44).2.2 (j + 1) (cut1 l 44).2.1 := by
  unfold restP
  rw [if_pos rfl, show 32769 - j = (32769 - (j + 1)) + 1 by omega, rngsP]
theorem restP_full (more : Bool) (j : Nat) (hj : 32768 < j) (l : List UInt8) : restP more j l = [] := by
  unfold restP
  split
  · rw [show 32769 - j = 0 by omega]; rfl
  · rfl
theorem rngsP_length : ∀ (f : Nat) (l : List UInt8), (rngsP f l).length ≤ f
  | 0, _ => by simp [rngsP]
  | f + 1, l => by
    rw [rngsP, List.length_cons]
    split
    · have := rngsP_length f (cut1 l 44).2.1; omega
    · simp

def lenV : Value → Nat
  | .slice _ n _ => n
  | _ => 0

end Go.Proofs.YtajnadcinegmjaaDoor
