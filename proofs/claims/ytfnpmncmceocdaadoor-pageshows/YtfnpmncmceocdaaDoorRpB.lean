import Derived.Test.YtfnpmncmceocdaaDoorRpA
import Derived.Test.YtfnpmncmceocdaaDoorRpM
import Derived.Deep.QuietTactic
import Derived.BigQuiet
import Derived.BigRegion
import Derived.Deep.RegionWith
import Derived.Deep.RegionHeld3
namespace Go.Proofs.YtfnpmncmceocdaaDoor
open Go.RowKit Go.Lib
set_option maxRecDepth 100000

def pieceV (x : Int × Int) : List Value := [.int .i64 x.1, .int .i64 x.2]
def cellV (x : Int × Int) : List Value := [.int .i32 x.1, .int .i64 x.2]
/-- A run: its text, the text's runes, its counter. -/
structure GRun where
  s : ByteArray
  rs : List Int
  h : Int
def runV (x : GRun) : List Value := [.string x.s, .int .i64 x.h]
theorem layP : Lay pieceV 2 := ⟨fun _ => rfl, by decide, fun x u hu => by simp [pieceV] at hu; rcases hu with rfl | rfl <;> rfl⟩
theorem layC : Lay cellV 2 := ⟨fun _ => rfl, by decide, fun x u hu => by simp [cellV] at hu; rcases hu with rfl | rfl <;> rfl⟩
theorem layR : Lay runV 2 := ⟨fun _ => rfl, by decide, fun x u hu => by simp [runV] at hu; rcases hu with rfl | rfl <;> rfl⟩
def cellsOf (L : List GRun) : List (Int × Int) := L.flatMap fun x => x.rs.map fun c => (c, x.h)
structure OkRun (x : GRun) : Prop where
  text : IsText x.s x.rs
  some_ : x.rs ≠ []
  few : x.rs.length ≤ 48
  lo : 0 ≤ x.h
  hi : x.h ≤ 2
structure OkRuns (L : List GRun) : Prop where
  few : L.length ≤ 24
  each : ∀ x ∈ L, OkRun x
  apart : ∀ j x y, L[j]? = some x → L[j + 1]? = some y → x.h ≠ y.h
theorem okRuns_nil : OkRuns [] := ⟨by decide, fun x hx => (by cases hx), fun j x y hx => (by simp at hx)⟩
theorem OkRuns.snoc {L : List GRun} (h : OkRuns L) {x : GRun} (hx : OkRun x) (hl : L.length < 24) (hd : ∀ y, L.getLast? = some y → y.h ≠ x.h) : OkRuns (L ++ [x]) := by
  refine ⟨by simp; omega, fun y hy => ?_, fun j y z hy hz => ?_⟩
  · rcases List.mem_append.1 hy with hy | hy
    · exact h.each y hy
    · simp at hy; subst hy; exact hx
  · rcases Nat.lt_trichotomy (j + 1) L.length with hj | hj | hj
    · rw [List.getElem?_append_left (by omega)] at hy hz
      exact h.apart j y z hy hz
    · rw [List.getElem?_append_left (by omega)] at hy
      rw [List.getElem?_append_right (by omega), show j + 1 - L.length = 0 by omega] at hz
      simp at hz; subst hz
      refine hd y ?_
      rw [List.getLast?_eq_getElem?, ← hy]
      congr 1; omega
    · rw [List.getElem?_eq_none (by simp; omega)] at hz
      cases hz

theorem okRun_mk {s : ByteArray} {rs : List Int} {h m : Int} (ht : IsText s rs) (hrl : (rs.length : Int) = 1 + m) (k3 : 0 ≤ m) (k4 : m < 48) (h0 : 0 ≤ h) (h2 : h ≤ 2) : OkRun ⟨s, rs, h⟩ :=
  ⟨ht, by intro e; simp only at e; rw [e] at hrl; simp at hrl; omega, by simp only; omega, h0, h2⟩
end Go.Proofs.YtfnpmncmceocdaaDoor

