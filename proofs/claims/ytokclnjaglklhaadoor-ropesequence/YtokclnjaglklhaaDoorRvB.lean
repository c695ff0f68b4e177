import Derived.Test.YtokclnjaglklhaaDoorRtL
/-! Several ropes: what is done to one leaves the others; Copy. -/
namespace Go.Proofs.YtokclnjaglklhaaDoor
open Go.RowKit Go.Lib
set_option maxRecDepth 100000

theorem KpT.upd {W W' : World} {q : Nat} {t : Tr} (h : RopeAt W q t) (hu : Upd q W W') : KpT W W' := by
  obtain ⟨g, hb, _⟩ := h
  refine ⟨hu.size, fun b cs fr hx => hu.block b (Array.getElem?_eq_some_iff.1 hx).1 ?_, fun b cs fr hx => hu.block b (Array.getElem?_eq_some_iff.1 hx).1 ?_⟩
  · rintro rfl
    rw [hb] at hx
    cases hx
  · rintro rfl
    rw [hb] at hx
    cases hx
theorem RopeAt.upd {W W' : World} {q q2 : Nat} {t t2 : Tr} (h2 : RopeAt W q2 t2) (h : RopeAt W q t) (hne : q2 ≠ q) (hu : Upd q W W') : RopeAt W' q2 t2 := by
  obtain ⟨g, hb, hA⟩ := h2
  exact ⟨g, (hu.block q2 (Array.getElem?_eq_some_iff.1 hb).1 hne).trans hb, hA.kpT (KpT.upd h hu)⟩
theorem Both.upd {w2 : World} {q q2 : Nat} {M M2 : Int} {R R2 : List (Int × Int)} {a a2 : Option Addr} {c c2 : Nat} {W W' : World} (h2 : Both w2 q2 M2 R2 a2 c2 W) (h : Both w2 q M R a c W) (hne : q2 ≠ q) (hq : w2.heap.size ≤ q) (hu : Upd q W W') : Both w2 q2 M2 R2 a2 c2 W' := by
  obtain ⟨t, k1, _, _, k4⟩ := h.rope
  obtain ⟨t2, j1, j2, j3, j4⟩ := h2.rope
  exact ⟨⟨t2, j1.upd k1 hne hu, j2, j3, Upd.below j4 hu hq j4.size⟩, Rw.upd num_cell h2.row k1 hu, h2.ok, h2.cnt⟩
theorem Both.wide {w2 : World} {q : Nat} {M N : Int} {R : List (Int × Int)} {a : Option Addr} {cap : Nat} {W : World} (h : Both w2 q M R a cap W) (hN : M ≤ N) : Both w2 q N R a cap W := ⟨h.rope, h.row, h.ok, fun c hc => ⟨(h.cnt c hc).1, Int.le_trans (h.cnt c hc).2 hN⟩⟩
end Go.Proofs.YtokclnjaglklhaaDoor
