import Derived.Test.YtmdnmhdimfglaaaGreatDoorGaX
import Derived.Test.YtmdnmhdimfglaaaGreatDoorGaE
import Derived.Test.YtmdnmhdimfglaaaGreatDoorGaC
import Derived.Deep.RegionHeld3
namespace Go.Proofs.YtmdnmhdimfglaaaGreatDoor
open Go.RowKit Go.Lib
set_option maxRecDepth 100000
theorem ctx_ok : SthOk ctxL := fun s hs => by
  simp only [ctxL, List.mem_singleton] at hs
  subst hs
  simp
def ctxI (p n : Int) : List Sth := withL 2 p n ctxL 0
theorem ctxI_eq {p n : Int} (h0 : 0 ≤ p) (h1 : p ≤ 1048576) : ctxI p n = (if 0 < p then [(0, 0, p)] else []) ++ [(2, 0, n), (0, p, 2097152)] := by
  unfold ctxI ctxL withL withL withOne
  rw [if_pos ⟨h0, by simp only [wid]; omega⟩]
  simp
theorem ctxI_ok {p n : Int} (h0 : 0 ≤ p) (h1 : p ≤ 1048576) (h2 : 0 ≤ n) (h3 : n ≤ 4194304) : SthOk (ctxI p n) := fun s hs => by
  rw [ctxI_eq h0 h1] at hs
  split at hs <;> simp at hs <;> rcases hs with rfl | rfl | rfl <;> simp <;> omega
theorem ctxI_len {p n : Int} (h0 : 0 ≤ p) (h1 : p ≤ 1048576) : (ctxI p n).length ≤ 3 := by
  rw [ctxI_eq h0 h1]
  split <;> simp
theorem place_ctx {p n k : Int} (h0 : 0 ≤ p) (h1 : p ≤ 1048576) (hk : 0 ≤ k) (hk2 : k < 2097152) : placeL 0 k (ctxI p n) 0 = if k < p then k else k + n := by
  rw [ctxI_eq h0 h1]
  by_cases hp : 0 < p
  · rw [if_pos hp]
    simp only [List.cons_append, List.nil_append, placeL]
    by_cases h : k < p
    · rw [if_pos ⟨trivial, hk, h⟩, if_pos h]; omega
    · rw [if_neg (fun hh => h hh.2.2), if_neg (fun hh => absurd hh.1 (by decide)), if_pos ⟨trivial, by omega, hk2⟩, if_neg h]; omega
  · rw [if_neg hp]
    simp only [List.nil_append, placeL]
    rw [if_neg (fun hh => absurd hh.1 (by decide)), if_pos ⟨trivial, by omega, hk2⟩, if_neg (by omega)]
    omega
theorem place_ins {p n : Int} (h0 : 0 ≤ p) (h1 : p ≤ 1048576) (hn : 0 < n) : placeL 2 0 (ctxI p n) 0 = p := by
  rw [ctxI_eq h0 h1]
  by_cases hp : 0 < p
  · rw [if_pos hp]
    simp only [List.cons_append, List.nil_append, placeL]
    rw [if_neg (fun hh => absurd hh.1 (by decide)), if_pos ⟨trivial, by omega, hn⟩]; omega
  · rw [if_neg hp]
    simp only [List.nil_append, placeL]
    rw [if_pos ⟨trivial, by omega, hn⟩]; omega
end Go.Proofs.YtmdnmhdimfglaaaGreatDoor
