import Derived.Test.YtijpfbcippijoaaGreatDoorTxtF
import Derived.WalkKit
import Derived.WalkSpells
import Derived.WalkLawsBesides
import Derived.Lib.OthersKept
import Derived.Laws.OwnMore
import Derived.Maps.AppendAt
import Derived.Test.YtijpfbcippijoaaGreatDoorGr22
import Derived.Deep.QuietTactic
import Derived.BigQuiet
import Derived.BigRegion
import Derived.Deep.RegionWith
import Derived.Deep.RegionHeld3
import Derived.Test.YtijpfbcippijoaaGreatDoorRpPR
import Derived.Shelf.Abstract
namespace Go.Proofs.YtijpfbcippijoaaGreatDoor
open Go.RowKit Go.Lib
set_option maxRecDepth 100000
structure IsSign (r : Int) : Prop where
  is : (97 ≤ r ∧ r ≤ 122) ∨ r = 233 ∨ r = 8364 ∨ r = 128512
theorem IsSign.ok {r : Int} (h : IsSign r) : okR r := by
  have := h.is
  refine ⟨valid_of (by omega) (by omega) (by omega), ?_⟩
  unfold okRune
  simp only [decide_eq_true_eq]
  omega
theorem IsText.snoc {s : ByteArray} {rs : List Int} (h : IsText s rs) {r : Int} (hr : okR r) : IsText (s ++ Utf8.encode r) (rs ++ [r]) := by
  refine ⟨?_, fun x hx => ?_⟩
  · rw [ByteArray.data_append, Array.toList_append, h.bytes, encs_append, encs_cons]
    simp [encs, encB]
  · rcases List.mem_append.1 hx with hx | hx
    · exact h.ok x hx
    · simp at hx; subst hx; exact hr
theorem encB_le (r : Int) (h : okR r) : (encB r).length ≤ 4 := by
  obtain ⟨h0, h1, h2⟩ := valid_le h.1
  obtain ⟨c, rfl⟩ : ∃ c : Nat, r = c := ⟨r.toNat, by omega⟩
  by_cases c1 : c < 0x80
  · rw [encB1 c c1]; simp
  · by_cases c2 : c < 0x800
    · rw [encB2 c c2 (by omega)]; simp
    · by_cases c3 : c < 0x10000
      · rw [encB3 c c3 (by omega) h.1]; simp
      · rw [encB4 c (by omega) h.1]; simp
theorem encs_le {rs : List Int} (h : ∀ r ∈ rs, okR r) : (encs rs).length ≤ rs.length * 4 := by
  induction rs with
  | nil => simp [encs]
  | cons r t ih =>
    have h1 := encB_le r (h r (by simp))
    have h2 := ih (fun x hx => h x (by simp [hx]))
    rw [encs_cons, List.length_append, List.length_cons]
    omega
theorem IsText.small {s : ByteArray} {rs : List Int} (h : IsText s rs) : s.size ≤ rs.length * 4 := by
  rw [size_data, h.bytes]
  exact encs_le h.ok
theorem IsText.big {s : ByteArray} {rs : List Int} (h : IsText s rs) : rs.length ≤ s.size := by
  rw [size_data, h.bytes]
  exact encs_len2 rs
end Go.Proofs.YtijpfbcippijoaaGreatDoor

namespace Go.Proofs.YtijpfbcippijoaaGreatDoor
open Go.RowKit Go.Lib
set_option maxRecDepth 100000
def pieceV (x : Int × Int) : List Value := [.int .i64 x.1, .int .i64 x.2]
def cellV (x : Int × Int) : List Value := [.int .i32 x.1, .int .i64 x.2]
structure GRun where
  s : ByteArray
  rs : List Int
  h : Int
def runV (x : GRun) : List Value := [.string x.s, .int .i64 x.h]
theorem layC : Lay cellV 2 := ⟨fun _ => rfl, by decide, fun x u hu => by simp [cellV] at hu; rcases hu with rfl | rfl <;> rfl⟩
theorem layR : Lay runV 2 := ⟨fun _ => rfl, by decide, fun x u hu => by simp [runV] at hu; rcases hu with rfl | rfl <;> rfl⟩
theorem kindR : Kind Tryz.prog 35 65 2 24 := kind_of Tryz.underlying35 (z := .agg #[.string ⟨#[]⟩, .int .i64 0]) (by kernel_rfl) rfl
theorem kindC : Kind Tryz.prog 29 63 2 16 := kind_of Tryz.underlying29 (z := .agg #[.int .i32 0, .int .i64 0]) (by kernel_rfl) rfl
def cellsOf (L : List GRun) : List (Int × Int) := L.flatMap fun x => x.rs.map fun c => (c, x.h)
structure OkRun (x : GRun) : Prop where
  text : IsText x.s x.rs
  some_ : x.rs ≠ []
  few : x.rs.length ≤ 48
  lo : 0 ≤ x.h
  hi : x.h ≤ 2
structure OkRuns (L : List GRun) : Prop where
  few : L.length ≤ 24
  each : ∀ x ∈ L, OkRun x
  apart : ∀ j x y, L[j]? = some x → L[j + 1]? = some y → x.h ≠ y.h
theorem OkRuns.snoc {L : List GRun} (h : OkRuns L) {x : GRun} (hx : OkRun x) (hl : L.length < 24) (hd : ∀ y, L.getLast? = some y → y.h ≠ x.h) : OkRuns (L ++ [x]) := by
  refine ⟨by simp; omega, fun y hy => ?_, fun j y z hy hz => ?_⟩
  · rcases List.mem_append.1 hy with hy | hy
    · exact h.each y hy
    · simp at hy; subst hy; exact hx
  · rcases Nat.lt_trichotomy (j + 1) L.length with hj | hj | hj
    · rw [List.getElem?_append_left (by omega)] at hy hz
      exact h.apart j y z hy hz
    · rw [List.getElem?_append_left (by omega)] at hy
      rw [List.getElem?_append_right (by omega), show j + 1 - L.length = 0 by omega] at hz
      simp at hz; subst hz
      refine hd y ?_
      rw [List.getLast?_eq_getElem?, ← hy]
      congr 1; omega
    · rw [List.getElem?_eq_none (by simp; omega)] at hz
      cases hz
end Go.Proofs.YtijpfbcippijoaaGreatDoor

namespace Go.Proofs.YtijpfbcippijoaaGreatDoor
open Go.RowKit Go.Lib
set_option maxRecDepth 100000
section
variable {α : Type} {f : α → List Value} {k : Nat} {T : TypeId}
theorem OwnF.keep {w w' : World} {B : Nat} {v : Value} {l : List α} (h : OwnF f k T w B v l) (hk : ∀ g, v.ownBlock = some g → w'.heap[g]? = w.heap[g]?) : OwnF f k T w' B v l := by
  refine ⟨h.1, ?_⟩
  rcases h.2 with h0 | ⟨g, cap, cur, e, h1, hh, rest⟩
  · exact .inl h0
  · exact .inr ⟨g, cap, cur, e, h1, (hk g (by rw [e]; rfl)).trans hh, rest⟩
theorem OwnF.notIter {w : World} {B K p : Nat} {s : ByteArray} {v : Value} {l : List α} (h : OwnF f k T w B v l) (hi : w.heap[K]? = some (.stringIter s p)) : v.ownBlock ≠ some K := by
  intro e
  rcases h.2 with ⟨rfl, _⟩ | ⟨g, cap, cur, rfl, h1, hh, rest⟩
  · simp [Value.ownBlock] at e
  · simp only [Value.ownBlock, Option.some.injEq] at e
    subst e
    rw [hi] at hh
    cases hh
end
theorem cellsOf_take_succ (L : List GRun) (i : Nat) (x : GRun) (hx : L[i]? = some x) : cellsOf (L.take (i + 1)) = cellsOf (L.take i) ++ x.rs.map fun c => (c, x.h) := by
  obtain ⟨hi, rfl⟩ := List.getElem?_eq_some_iff.1 hx
  rw [List.take_succ_eq_append_getElem hi]
  unfold cellsOf
  rw [List.flatMap_append]
  simp
theorem cellsOf_le (L : List GRun) (i : Nat) (x : GRun) (hx : L[i]? = some x) : (cellsOf (L.take i)).length + x.rs.length ≤ (cellsOf L).length := by
  have h1 := cellsOf_take_succ L i x hx
  have h2 : cellsOf L = cellsOf (L.take (i + 1)) ++ cellsOf (L.drop (i + 1)) := by
    unfold cellsOf
    rw [← List.flatMap_append, List.take_append_drop]
  rw [h2, h1]
  simp
end Go.Proofs.YtijpfbcippijoaaGreatDoor

namespace Go.Proofs.YtijpfbcippijoaaGreatDoor
open Go.RowKit Go.Lib Go.Shelf
set_option maxRecDepth 100000
def Found (P : Nat → Bool) (n i : Nat) : Prop := i ≤ n ∧ (0 < i → P (i - 1) = false) ∧ (i < n → P i = true)
def atP (l : List (Int × Int)) (j : Nat) : Int × Int := l.getD j (0, 0)
end Go.Proofs.YtijpfbcippijoaaGreatDoor

namespace Go.Proofs.YtijpfbcippijoaaGreatDoor
set_option maxRecDepth 100000
structure Srt (l : List (Int × Int)) : Prop where
  some_ : ∀ x ∈ l, x.1 < x.2
  apart : ∀ (i j : Nat) x y, i < j → l[i]? = some x → l[j]? = some y → x.2 < y.1
def meetL (lo hi : Int) (l : List (Int × Int)) : List (Int × Int) := l.filter fun x => decide (lo < x.2 ∧ x.1 < hi)
theorem atP_get {l : List (Int × Int)} {k : Nat} (h : k < l.length) : l[k]? = some (atP l k) := by
  unfold atP
  rw [List.getD_eq_getElem?_getD, List.getElem?_eq_getElem h]
  rfl
section
variable {l : List (Int × Int)} (h : Srt l) {lo hi : Int} {i j : Nat}
include h
theorem Srt.mono {k m : Nat} (hkm : k < m) (hm : m < l.length) : (atP l k).1 < (atP l m).1 ∧ (atP l k).2 < (atP l m).2 := by
  have h1 := h.apart k m _ _ hkm (atP_get (by omega)) (atP_get hm)
  have h2 := h.some_ _ (List.mem_of_getElem? (atP_get (k := k) (by omega)))
  have h3 := h.some_ _ (List.mem_of_getElem? (atP_get hm))
  omega
theorem Srt.cut (hij : i ≤ j) (h1 : Found (fun k => decide (lo < (atP l k).2)) l.length i) (h2 : Found (fun k => decide (hi ≤ (atP l k).1)) l.length j) : (l.take j).drop i = meetL lo hi l := by
  obtain ⟨f1, f2⟩ := h.found1 h1
  obtain ⟨g1, g2⟩ := h.found2 h2
  have hj := h2.1
  have e : l = l.take i ++ ((l.take j).drop i ++ l.drop j) := by
    have e1 : l = l.take j ++ l.drop j := (List.take_append_drop j l).symm
    have e2 : l.take j = (l.take j).take i ++ (l.take j).drop i := (List.take_append_drop i _).symm
    rw [List.take_take, Nat.min_eq_left hij] at e2
    conv => lhs; rw [e1, e2]
    rw [List.append_assoc]
  have mem : ∀ (m : List (Int × Int)) (P : Int × Int → Prop), (∀ k x, m[k]? = some x → P x) → ∀ x ∈ m, P x := fun m P hm x hx => by
    obtain ⟨k, hk⟩ := List.getElem?_of_mem hx
    exact hm k x hk
  have key : ∀ k x, l[k]? = some x → x = atP l k ∧ k < l.length := fun k x hx => by
    have hl := (List.getElem?_eq_some_iff.1 hx).1
    rw [atP_get hl] at hx
    exact ⟨(Option.some.inj hx).symm, hl⟩
  unfold meetL
  conv => rhs; rw [e]
  rw [List.filter_append, List.filter_append, List.filter_eq_nil_iff.2, List.filter_eq_self.2, List.filter_eq_nil_iff.2]
  · simp
  · refine mem _ _ fun k x hx => ?_
    rw [List.getElem?_drop] at hx
    obtain ⟨rfl, hl⟩ := key _ _ hx
    have := g2 (j + k) (by omega) hl
    simp only [decide_eq_true_eq]
    omega
  · refine mem _ _ fun k x hx => ?_
    rw [List.getElem?_drop, List.getElem?_take] at hx
    split at hx
    · obtain ⟨rfl, hl⟩ := key _ _ hx
      have a := f2 (i + k) (by omega) hl
      have b := g1 (i + k) (by omega)
      simp only [decide_eq_true_eq]
      omega
    · cases hx
  · refine mem _ _ fun k x hx => ?_
    rw [List.getElem?_take] at hx
    split at hx
    · obtain ⟨rfl, hl⟩ := key _ _ hx
      have := f1 k (by omega)
      simp only [decide_eq_true_eq]
      omega
    · cases hx
end
open Go.RowKit Go.Lib
end Go.Proofs.YtijpfbcippijoaaGreatDoor
