import Derived.Test.YtjnglghhcbdpmaaSpIi
import Derived.Deep.RegionHeld3
namespace Go.Proofs.Ytjnglghhcbdpmaa
open Go.RowKit Go.Lib
set_option maxRecDepth 100000

/-- A slice of bool in the world that reads as bs. -/
structure RngB (w : World) (a : Option Addr) (n cap : Nat) (bs : List Bool) : Prop where
  len : bs.length = n
  room : n ≤ cap ∧ cap ≤ maxLen
  cells : ∀ j, j < n → ∃ g off, a = some ⟨g, off, none⟩ ∧ g < w.heap.size ∧ w.cell? ⟨g, off + j, none⟩ = some (.bool (bs.getD j false))
/-- The pieces that are in, put together: the first k of them. -/
def joinedL (cuts : List Int) (bs : List Bool) : Nat → List (Int × Int)
  | 0 => []
  | k + 1 => if bs.getD k false = true then addedL (joinedL cuts bs k) (cuts.getD k 0) (cuts.getD (k + 1) 0) else joinedL cuts bs k
theorem joinedL_length (cuts : List Int) (bs : List Bool) (k : Nat) : (joinedL cuts bs k).length ≤ k := by
  induction k with
  | zero => simp [joinedL]
  | succ k ih =>
    rw [joinedL]
    split
    · have := addedL_length (joinedL cuts bs k) (cuts.getD k 0) (cuts.getD (k + 1) 0); omega
    · omega
theorem joinedL_last {cuts : List Int} (hs : Asc cuts) (bs : List Bool) (k : Nat) (hk : k < cuts.length) (r : Int × Int) (h : (joinedL cuts bs k).getLast? = some r) : r.2 ≤ cuts.getD k 0 := by
  induction k generalizing r with
  | zero => simp [joinedL] at h
  | succ k ih =>
    have hle : cuts.getD k 0 ≤ cuts.getD (k + 1) 0 := asc_get hs (by omega) hk
    rw [joinedL] at h
    generalize cuts.getD (k + 1) 0 = y at *
    generalize cuts.getD k 0 = x at *
    split at h
    · unfold addedL at h
      split at h
      · have := ih (by omega) r h; omega
      · split at h
        · simp at h; subst h; exact Int.le_refl _
        · rename_i r0 h0
          have := ih (by omega) r0 h0
          split at h
          · simp at h; subst h; simp only; omega
          · simp at h; subst h; exact Int.le_refl _
    · have := ih (by omega) r h; omega
theorem step_append_e2 {P : Program} {ops : Array Oper} {o : Oper} {a : Act} {w : World} {K : Act → World → Prop} {Q : Exit → Act → World → Prop} {E : Prop} {R : Value → World → Prop} (hgd : o.guard = none) (s x : Operand) (t : TypeId)
    (ho : o.op = .call { callee := .builtin .append, args := #[s, x], argTypes := #[t, t] }) (v u : Value) (hs : a.eval s = v) (hx : a.eval x = u)
    (hex : ∃ v' w', (Builtin.append_ #[t, t] o.type #[v, u]).run P w = .ok v' w' ∧ R v' w') (h : ∀ v' w', R v' w' → K (a.put o.dst v') w') :
    if Region.wanted o (yielded ops a.tmps) = true then Oper.wp P o a w K Q else E := by
  obtain ⟨v', w', hr, hR⟩ := hex
  have hw : Region.wanted o (yielded ops a.tmps) = true := by simp [Region.wanted, hgd]
  rw [if_pos hw]
  unfold Oper.wp execOp
  simp only [ho, resolve, invoke, builtin, Sem.run_bind, Sem.run_pure, Result.andThen_ok, List.map_toArray, List.map_cons, List.map_nil, hs, hx, hr]
  exact h v' w' hR

end Go.Proofs.Ytjnglghhcbdpmaa
