import Derived.Test.YtjngncamhnpphaaDcO
namespace Go.Proofs.Ytjngncamhnpphaa
open Go.ChangeShapes Go.WideShapes Go.ChangeAt Go.RowKit Go.WideMaps Go.WideElems
set_option maxRecDepth 100000
/-- A slice of Ops, opened. -/
theorem open_opsV {H : Type} {enc : TypeId × Value → H} {W : World} {base : Nat} {v : Value} {d : DataW H} {p : List MemPlace}
    (hv : Value.okWide Try.prog W .any base 43 v) (h : DataW.Trod enc Try.prog W 0 (fun _ => true) true 43 v d p) (hz : (d.weights Try.prog 43).all (· ≤ reachBytes) = true) :
    ∃ (oa : Option Addr) (on oc : Nat) (ops : List OpR), v = .slice oa on oc ∧ Rw opV 5 W oa on oc ops ∧ (∀ o ∈ ops, OpIn W o) ∧ on ≤ 2199023255551 := by
  obtain ⟨a0, n0, cap0, rfl⟩ := okWide_slice Try.underlying43 hv
  obtain ⟨fuel, hf⟩ := h
  exact open_ops (y := (d, p)) (by simpa [Value.cells] using hf) hz
end Go.Proofs.Ytjngncamhnpphaa
