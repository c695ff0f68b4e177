import Derived.Test.YtijpfbcippijoaaGreatDoorTxtF
import Derived.WalkKit
import Derived.WalkSpells
import Derived.WalkLawsBesides
import Derived.Lib.OthersKept
import Derived.Laws.OwnMore
import Derived.Maps.AppendAt
import Derived.Test.YtijpfbcippijoaaGreatDoorRpM
import Derived.Deep.QuietTactic
import Derived.BigQuiet
import Derived.BigRegion
import Derived.Deep.RegionWith
import Derived.Deep.RegionHeld3
import Derived.Test.YtijpfbcippijoaaGreatDoorRpPR
namespace Go.Proofs.YtijpfbcippijoaaGreatDoor
open Go.RowKit Go.Lib
set_option maxRecDepth 100000
theorem rest_eq2 (n m : Int) (hm : 0 < m) : (n.tmod m + m) % m = n % m := by
  have h1 : n.tmod m = n % m ∨ n.tmod m = n % m - m := by
    rw [Int.tmod_eq_emod]
    split
    · left; omega
    · right; rw [show (m.natAbs : Int) = m by omega]
  rcases h1 with h1 | h1
  · rw [h1]; simp
  · rw [h1]; rw [show n % m - m + m = n % m by omega]; simp
theorem tmod_bd (n m : Int) (hm : 0 < m) : -m < n.tmod m ∧ n.tmod m < m := by
  have h1 : n.tmod m = n % m ∨ n.tmod m = n % m - m := by
    rw [Int.tmod_eq_emod]
    split
    · left; omega
    · right; rw [show (m.natAbs : Int) = m by omega]
  have h2 := Int.emod_nonneg n (show m ≠ 0 by omega)
  have h3 := Int.emod_lt_of_pos n hm
  by_cases h : n % m = 0
  · rw [Int.tmod_eq_emod, if_pos (.inr (Int.dvd_of_emod_eq_zero h))]; omega
  · omega
theorem ret_i64 {a b : Int} (h : a = b) : Ending.returned (.int .i64 a) = .returned (.int .i64 b) := by rw [h]
structure IsSign (r : Int) : Prop where
  is : (97 ≤ r ∧ r ≤ 122) ∨ r = 233 ∨ r = 8364 ∨ r = 128512
theorem IsSign.ok {r : Int} (h : IsSign r) : okR r := by
  have := h.is
  refine ⟨valid_of (by omega) (by omega) (by omega), ?_⟩
  unfold okRune
  simp only [decide_eq_true_eq]
  omega
theorem isText_nil : IsText ⟨#[]⟩ [] := ⟨rfl, fun r hr => by cases hr⟩
theorem IsText.snoc {s : ByteArray} {rs : List Int} (h : IsText s rs) {r : Int} (hr : okR r) : IsText (s ++ Utf8.encode r) (rs ++ [r]) := by
  refine ⟨?_, fun x hx => ?_⟩
  · rw [ByteArray.data_append, Array.toList_append, h.bytes, encs_append, encs_cons]
    simp [encs, encB]
  · rcases List.mem_append.1 hx with hx | hx
    · exact h.ok x hx
    · simp at hx; subst hx; exact hr
theorem encB_le (r : Int) (h : okR r) : (encB r).length ≤ 4 := by
  obtain ⟨h0, h1, h2⟩ := valid_le h.1
  obtain ⟨c, rfl⟩ : ∃ c : Nat, r = c := ⟨r.toNat, by omega⟩
  by_cases c1 : c < 0x80
  · rw [encB1 c c1]; simp
  · by_cases c2 : c < 0x800
    · rw [encB2 c c2 (by omega)]; simp
    · by_cases c3 : c < 0x10000
      · rw [encB3 c c3 (by omega) h.1]; simp
      · rw [encB4 c (by omega) h.1]; simp
theorem encs_le {rs : List Int} (h : ∀ r ∈ rs, okR r) : (encs rs).length ≤ rs.length * 4 := by
  induction rs with
  | nil => simp [encs]
  | cons r t ih =>
    have h1 := encB_le r (h r (by simp))
    have h2 := ih (fun x hx => h x (by simp [hx]))
    rw [encs_cons, List.length_append, List.length_cons]
    omega
theorem IsText.small {s : ByteArray} {rs : List Int} (h : IsText s rs) : s.size ≤ rs.length * 4 := by
  rw [size_data, h.bytes]
  exact encs_le h.ok
theorem IsText.big {s : ByteArray} {rs : List Int} (h : IsText s rs) : rs.length ≤ s.size := by
  rw [size_data, h.bytes]
  exact encs_len2 rs
def TextOf (n : Int) (s : ByteArray) : Prop := ∃ rs, IsText s rs ∧ (rs.length : Int) = n
end Go.Proofs.YtijpfbcippijoaaGreatDoor

namespace Go.Proofs.YtijpfbcippijoaaGreatDoor
open Go.RowKit Go.Lib
set_option maxRecDepth 100000
def pieceV (x : Int × Int) : List Value := [.int .i64 x.1, .int .i64 x.2]
def cellV (x : Int × Int) : List Value := [.int .i32 x.1, .int .i64 x.2]
structure GRun where
  s : ByteArray
  rs : List Int
  h : Int
def runV (x : GRun) : List Value := [.string x.s, .int .i64 x.h]
theorem layP : Lay pieceV 2 := ⟨fun _ => rfl, by decide, fun x u hu => by simp [pieceV] at hu; rcases hu with rfl | rfl <;> rfl⟩
theorem layC : Lay cellV 2 := ⟨fun _ => rfl, by decide, fun x u hu => by simp [cellV] at hu; rcases hu with rfl | rfl <;> rfl⟩
theorem layR : Lay runV 2 := ⟨fun _ => rfl, by decide, fun x u hu => by simp [runV] at hu; rcases hu with rfl | rfl <;> rfl⟩
theorem kindR : Kind Tryz.prog 35 65 2 24 := kind_of Tryz.underlying35 (z := .agg #[.string ⟨#[]⟩, .int .i64 0]) (by kernel_rfl) rfl
theorem kindC : Kind Tryz.prog 29 63 2 16 := kind_of Tryz.underlying29 (z := .agg #[.int .i32 0, .int .i64 0]) (by kernel_rfl) rfl
def cellsOf (L : List GRun) : List (Int × Int) := L.flatMap fun x => x.rs.map fun c => (c, x.h)
structure OkRun (x : GRun) : Prop where
  text : IsText x.s x.rs
  some_ : x.rs ≠ []
  few : x.rs.length ≤ 48
  lo : 0 ≤ x.h
  hi : x.h ≤ 2
structure OkRuns (L : List GRun) : Prop where
  few : L.length ≤ 24
  each : ∀ x ∈ L, OkRun x
  apart : ∀ j x y, L[j]? = some x → L[j + 1]? = some y → x.h ≠ y.h
theorem okRuns_nil : OkRuns [] := ⟨by decide, fun x hx => (by cases hx), fun j x y hx => (by simp at hx)⟩
theorem OkRuns.snoc {L : List GRun} (h : OkRuns L) {x : GRun} (hx : OkRun x) (hl : L.length < 24) (hd : ∀ y, L.getLast? = some y → y.h ≠ x.h) : OkRuns (L ++ [x]) := by
  refine ⟨by simp; omega, fun y hy => ?_, fun j y z hy hz => ?_⟩
  · rcases List.mem_append.1 hy with hy | hy
    · exact h.each y hy
    · simp at hy; subst hy; exact hx
  · rcases Nat.lt_trichotomy (j + 1) L.length with hj | hj | hj
    · rw [List.getElem?_append_left (by omega)] at hy hz
      exact h.apart j y z hy hz
    · rw [List.getElem?_append_left (by omega)] at hy
      rw [List.getElem?_append_right (by omega), show j + 1 - L.length = 0 by omega] at hz
      simp at hz; subst hz
      refine hd y ?_
      rw [List.getLast?_eq_getElem?, ← hy]
      congr 1; omega
    · rw [List.getElem?_eq_none (by simp; omega)] at hz
      cases hz
theorem okRun_mk {s : ByteArray} {rs : List Int} {h m : Int} (ht : IsText s rs) (hrl : (rs.length : Int) = 1 + m) (k3 : 0 ≤ m) (k4 : m < 48) (h0 : 0 ≤ h) (h2 : h ≤ 2) : OkRun ⟨s, rs, h⟩ :=
  ⟨ht, by intro e; simp only at e; rw [e] at hrl; simp at hrl; omega, by simp only; omega, h0, h2⟩
end Go.Proofs.YtijpfbcippijoaaGreatDoor

namespace Go.Proofs.YtijpfbcippijoaaGreatDoor
open Go.RowKit Go.Lib
set_option maxRecDepth 100000
section
variable {α : Type} {f : α → List Value} {k : Nat} {T : TypeId}
theorem OwnF.keep {w w' : World} {B : Nat} {v : Value} {l : List α} (h : OwnF f k T w B v l) (hk : ∀ g, v.ownBlock = some g → w'.heap[g]? = w.heap[g]?) : OwnF f k T w' B v l := by
  refine ⟨h.1, ?_⟩
  rcases h.2 with h0 | ⟨g, cap, cur, e, h1, hh, rest⟩
  · exact .inl h0
  · exact .inr ⟨g, cap, cur, e, h1, (hk g (by rw [e]; rfl)).trans hh, rest⟩
theorem OwnF.notIter {w : World} {B K p : Nat} {s : ByteArray} {v : Value} {l : List α} (h : OwnF f k T w B v l) (hi : w.heap[K]? = some (.stringIter s p)) : v.ownBlock ≠ some K := by
  intro e
  rcases h.2 with ⟨rfl, _⟩ | ⟨g, cap, cur, rfl, h1, hh, rest⟩
  · simp [Value.ownBlock] at e
  · simp only [Value.ownBlock, Option.some.injEq] at e
    subst e
    rw [hi] at hh
    cases hh
end
theorem cellsOf_take_succ (L : List GRun) (i : Nat) (x : GRun) (hx : L[i]? = some x) : cellsOf (L.take (i + 1)) = cellsOf (L.take i) ++ x.rs.map fun c => (c, x.h) := by
  obtain ⟨hi, rfl⟩ := List.getElem?_eq_some_iff.1 hx
  rw [List.take_succ_eq_append_getElem hi]
  unfold cellsOf
  rw [List.flatMap_append]
  simp
theorem map_take_succ (rs : List Int) (j : Nat) (hj : j < rs.length) (h : Int) : ((rs.take (j + 1)).map fun c => (c, h)) = ((rs.take j).map fun c => (c, h)) ++ [(rs[j], h)] := by
  rw [List.take_succ_eq_append_getElem hj, List.map_append]
  rfl
theorem cellsOf_le (L : List GRun) (i : Nat) (x : GRun) (hx : L[i]? = some x) : (cellsOf (L.take i)).length + x.rs.length ≤ (cellsOf L).length := by
  have h1 := cellsOf_take_succ L i x hx
  have h2 : cellsOf L = cellsOf (L.take (i + 1)) ++ cellsOf (L.drop (i + 1)) := by
    unfold cellsOf
    rw [← List.flatMap_append, List.take_append_drop]
  rw [h2, h1]
  simp
theorem vis_take_succ (l : List (Int × Int)) (i : Nat) (x : Int × Int) (hx : l[i]? = some x) : vis (l.take (i + 1)) = vis (l.take i) + if x.2 = 0 then 1 else 0 := by
  obtain ⟨hi, rfl⟩ := List.getElem?_eq_some_iff.1 hx
  rw [List.take_succ_eq_append_getElem hi, vis_append]
  simp [vis, cnt]
end Go.Proofs.YtijpfbcippijoaaGreatDoor
