import Derived.Test.YtfehgaioioejoaaDeB
import Derived.Test.YtfehgaioioejoaaDeW
/-! DiskApart. -/
namespace Go.Proofs.Ytfehgaioioejoaa
open Go.RowKit Go.Lib Go.Sort Go.Shelf
set_option maxRecDepth 100000

def stN (S : Dk) (ops : List OpR) (j : Nat) : Dk := (ops.take j).foldl doesS S
theorem stN_succ {S : Dk} {ops : List OpR} {j : Nat} {o : OpR} (h : ops[j]? = some o) : stN S ops (j + 1) = doesS (stN S ops j) o := by
  unfold stN
  rw [List.take_add_one, h, List.foldl_append]
  rfl
theorem alike_k {W : World} {K1 K2 : Nat → Prop} {S : Dk} {o : OpR} {A1 A2 : An} (h1 : AnsK W K1 S o A1) (h2 : AnsK W K2 S o A2) (hn : (S.fs.map (·.nm)).Nodup) (hl : S.fs.length ≤ 4398046511104) :
    Calls Try.prog 43 #[.agg #[.int .i64 A1.E, .int .i64 A1.N, .int .i64 A1.M, .slice A1.a1 A1.n1 A1.c1, .slice A1.a2 A1.n2 A1.c2, .bool A1.dn], .agg #[.int .i64 A2.E, .int .i64 A2.N, .int .i64 A2.M, .slice A2.a1 A2.n1 A2.c1, .slice A2.a2 A2.n2 A2.c2, .bool A2.dn]] W fun e w' => e = .returned (.bool true) ∧ Below W.heap.size W w' := by
  obtain ⟨l1, vs1, p1, r1, f1, e1, g1, _⟩ := h1.files
  obtain ⟨l2, vs2, p2, r2, f2, e2, g2, _⟩ := h2.files
  have hll : l1 = l2 := by
    refine rise_unique (p1.trans p2.symm) ((p1.map _).nodup_iff.2 ?_) r1 r2
    unfold ansF
    split
    · exact hn
    · simp
  subst hll
  have hlen : l1.length ≤ 4398046511104 := by
    rw [p2.length_eq]
    unfold ansF
    split
    · exact hl
    · simp
  have := alike_eq A1.E A1.N A1.M A1.dn h1.bytes h2.bytes ⟨vs1, f1, e1, g1⟩ ⟨vs2, f2, e2, g2⟩ hlen
  rw [show A2.E = A1.E from h2.e.trans h1.e.symm, show A2.N = A1.N from h2.n.trans h1.n.symm, show A2.M = A1.M from h2.m.trans h1.m.symm, show A2.dn = A1.dn from h2.d.trans h1.d.symm]
  exact this
/-- what the first loop leaves at i -/
structure Ap1 (W0 W : World) (p q r l0 m0 : Nat) (ops : List OpR) (i : Nat) (v : Value) (As : List An) (Ps : List (Dk × OpR)) (col : Nat → Nat) : Prop where
  ap : Ap W0.heap.size W0 W p q r (stN ⟨l0, [], false, 0, 0⟩ ops i) ⟨l0, [], false, 0, 0⟩ ⟨m0, [], false, 0, 0⟩ v As Ps col
  la : As.length = i
  lp : Ps.length = i
  ps : ∀ j o, j < i → ops[j]? = some o → Ps[j]? = some (stN ⟨l0, [], false, 0, 0⟩ ops j, o)
  inv : Inv (stN ⟨l0, [], false, 0, 0⟩ ops i) i
end Go.Proofs.Ytfehgaioioejoaa
