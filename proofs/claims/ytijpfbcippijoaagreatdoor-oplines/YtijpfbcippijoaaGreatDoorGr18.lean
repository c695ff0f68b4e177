import Derived.Test.YtijpfbcippijoaaGreatDoorTxtF
import Derived.WalkKit
import Derived.WalkSpells
import Derived.WalkLawsBesides
import Derived.Lib.OthersKept
import Derived.Laws.OwnMore
import Derived.Maps.AppendAt
import Derived.Test.YtijpfbcippijoaaGreatDoorGr21
import Derived.Deep.QuietTactic
import Derived.BigQuiet
import Derived.BigRegion
import Derived.Deep.RegionWith
import Derived.Deep.RegionHeld3
import Derived.Test.YtijpfbcippijoaaGreatDoorRpPR
import Derived.Shelf.Abstract
namespace Go.Proofs.YtijpfbcippijoaaGreatDoor
open Go.RowKit Go.Lib
set_option maxRecDepth 100000
theorem encB_le (r : Int) (h : okR r) : (encB r).length ≤ 4 := by
  obtain ⟨h0, h1, h2⟩ := valid_le h.1
  obtain ⟨c, rfl⟩ : ∃ c : Nat, r = c := ⟨r.toNat, by omega⟩
  by_cases c1 : c < 0x80
  · rw [encB1 c c1]; simp
  · by_cases c2 : c < 0x800
    · rw [encB2 c c2 (by omega)]; simp
    · by_cases c3 : c < 0x10000
      · rw [encB3 c c3 (by omega) h.1]; simp
      · rw [encB4 c (by omega) h.1]; simp
theorem encs_le {rs : List Int} (h : ∀ r ∈ rs, okR r) : (encs rs).length ≤ rs.length * 4 := by
  induction rs with
  | nil => simp [encs]
  | cons r t ih =>
    have h1 := encB_le r (h r (by simp))
    have h2 := ih (fun x hx => h x (by simp [hx]))
    rw [encs_cons, List.length_append, List.length_cons]
    omega
theorem IsText.small {s : ByteArray} {rs : List Int} (h : IsText s rs) : s.size ≤ rs.length * 4 := by
  rw [size_data, h.bytes]
  exact encs_le h.ok
theorem IsText.big {s : ByteArray} {rs : List Int} (h : IsText s rs) : rs.length ≤ s.size := by
  rw [size_data, h.bytes]
  exact encs_len2 rs
end Go.Proofs.YtijpfbcippijoaaGreatDoor

namespace Go.Proofs.YtijpfbcippijoaaGreatDoor
open Go.RowKit Go.Lib
set_option maxRecDepth 100000
def cellV (x : Int × Int) : List Value := [.int .i32 x.1, .int .i64 x.2]
structure GRun where
  s : ByteArray
  rs : List Int
  h : Int
def runV (x : GRun) : List Value := [.string x.s, .int .i64 x.h]
theorem layC : Lay cellV 2 := ⟨fun _ => rfl, by decide, fun x u hu => by simp [cellV] at hu; rcases hu with rfl | rfl <;> rfl⟩
theorem layR : Lay runV 2 := ⟨fun _ => rfl, by decide, fun x u hu => by simp [runV] at hu; rcases hu with rfl | rfl <;> rfl⟩
theorem kindR : Kind Tryz.prog 35 65 2 24 := kind_of Tryz.underlying35 (z := .agg #[.string ⟨#[]⟩, .int .i64 0]) (by kernel_rfl) rfl
theorem kindC : Kind Tryz.prog 29 63 2 16 := kind_of Tryz.underlying29 (z := .agg #[.int .i32 0, .int .i64 0]) (by kernel_rfl) rfl
def cellsOf (L : List GRun) : List (Int × Int) := L.flatMap fun x => x.rs.map fun c => (c, x.h)
end Go.Proofs.YtijpfbcippijoaaGreatDoor

namespace Go.Proofs.YtijpfbcippijoaaGreatDoor
open Go.RowKit Go.Lib
set_option maxRecDepth 100000
section
variable {α : Type} {f : α → List Value} {k : Nat} {T : TypeId}
theorem OwnF.keep {w w' : World} {B : Nat} {v : Value} {l : List α} (h : OwnF f k T w B v l) (hk : ∀ g, v.ownBlock = some g → w'.heap[g]? = w.heap[g]?) : OwnF f k T w' B v l := by
  refine ⟨h.1, ?_⟩
  rcases h.2 with h0 | ⟨g, cap, cur, e, h1, hh, rest⟩
  · exact .inl h0
  · exact .inr ⟨g, cap, cur, e, h1, (hk g (by rw [e]; rfl)).trans hh, rest⟩
theorem OwnF.notIter {w : World} {B K p : Nat} {s : ByteArray} {v : Value} {l : List α} (h : OwnF f k T w B v l) (hi : w.heap[K]? = some (.stringIter s p)) : v.ownBlock ≠ some K := by
  intro e
  rcases h.2 with ⟨rfl, _⟩ | ⟨g, cap, cur, rfl, h1, hh, rest⟩
  · simp [Value.ownBlock] at e
  · simp only [Value.ownBlock, Option.some.injEq] at e
    subst e
    rw [hi] at hh
    cases hh
end
theorem cellsOf_take_succ (L : List GRun) (i : Nat) (x : GRun) (hx : L[i]? = some x) : cellsOf (L.take (i + 1)) = cellsOf (L.take i) ++ x.rs.map fun c => (c, x.h) := by
  obtain ⟨hi, rfl⟩ := List.getElem?_eq_some_iff.1 hx
  rw [List.take_succ_eq_append_getElem hi]
  unfold cellsOf
  rw [List.flatMap_append]
  simp
theorem cellsOf_le (L : List GRun) (i : Nat) (x : GRun) (hx : L[i]? = some x) : (cellsOf (L.take i)).length + x.rs.length ≤ (cellsOf L).length := by
  have h1 := cellsOf_take_succ L i x hx
  have h2 : cellsOf L = cellsOf (L.take (i + 1)) ++ cellsOf (L.drop (i + 1)) := by
    unfold cellsOf
    rw [← List.flatMap_append, List.take_append_drop]
  rw [h2, h1]
  simp
end Go.Proofs.YtijpfbcippijoaaGreatDoor
