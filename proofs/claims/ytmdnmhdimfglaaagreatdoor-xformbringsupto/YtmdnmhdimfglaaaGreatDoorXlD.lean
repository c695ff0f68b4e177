import Derived.Test.YtmdnmhdimfglaaaGreatDoorXlC
import Derived.Test.YtmdnmhdimfglaaaGreatDoorXkC
namespace Go.Proofs.YtmdnmhdimfglaaaGreatDoor
open Go.RowKit Go.Lib
set_option maxRecDepth 100000
theorem put9_other {W W9 : World} {g k b : Nat} {v0 v1 v2 v3 v4 v5 v6 v7 v8 : Value} (h : (((((((((W.setCell ⟨g, k, none⟩ v0).setCell ⟨g, k + 1, none⟩ v1).setCell ⟨g, k + 2, none⟩ v2).setCell ⟨g, k + 3, none⟩ v3).setCell ⟨g, k + 4, none⟩ v4).setCell ⟨g, k + 5, none⟩ v5).setCell ⟨g, k + 6, none⟩ v6).setCell ⟨g, k + 7, none⟩ v7).setCell ⟨g, k + 8, none⟩ v8) = W9) (hb : b ≠ g) : W9.heap[b]? = W.heap[b]? := by
  subst h
  exact ((((((((((But.set _ _ _ _).trans (But.set _ _ _ _)).trans (But.set _ _ _ _)).trans (But.set _ _ _ _)).trans (But.set _ _ _ _)).trans (But.set _ _ _ _)).trans (But.set _ _ _ _)).trans (But.set _ _ _ _)).trans (But.set _ _ _ _))).2 b hb
theorem runIn_mem {W : World} {B : Nat} {a : Option Addr} {n cap : Nat} {L : List OpM} (h : OwnF opF 9 34 W B (.slice a n cap) L) (hr : ∀ x ∈ L, Rdy W x) : RunIn W a n cap (L.map (·.1)) := ⟨L, rfl, ⟨B, h⟩, hr⟩
theorem own_apart {α β : Type} {f : α → List Value} {f2 : β → List Value} {k k2 : Nat} {T T2 : TypeId} {W : World} {B B2 : Nat} {a b : Option Addr} {n cap m cap2 : Nat} {l : List α} {l2 : List β} (h : OwnF f k T W B (.slice a n cap) l) (h2 : OwnF f2 k2 T2 W B2 (.slice b m cap2) l2) (hT : T ≠ T2) {ad ad0 : Addr} (e : b = some ad) (e0 : a = some ad0) : ad.block ≠ ad0.block := by
  subst e e0
  rcases h.2 with ⟨q, _⟩ | ⟨g, cp, cur, q, _, hh, _⟩
  · cases q
  · cases q
    rcases h2.2 with ⟨q, _⟩ | ⟨g2, cp2, cur2, q, _, hh2, _⟩
    · cases q
    · cases q
      intro h3
      simp only at h3
      subst h3
      rw [hh] at hh2
      simp only [Option.some.injEq, Obj.cells.injEq] at hh2
      exact hT hh2.2.1
end Go.Proofs.YtmdnmhdimfglaaaGreatDoor
