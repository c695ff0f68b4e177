import Derived.Test.YtjnglghhcbdpmaaSpFw
namespace Go.Proofs.Ytjnglghhcbdpmaa
open Go.RowKit Go.Lib
set_option maxRecDepth 100000

def flatB (bs : List Bool) : List Value := bs.map Value.bool
/-- A row of bools of one's own. -/
def OwnB (w : World) (B : Nat) (v : Value) (bs : List Bool) : Prop := w.ownsRow B 4 1 v bs.length (flatB bs)
theorem OwnB.below {w w' : World} {B : Nat} {v : Value} {l : List Bool} (h : OwnB w B v l) (hb : Below w.heap.size w w') : OwnB w' B v l := by
  refine ⟨h.1, ?_⟩
  rcases h.2 with h0 | ⟨g, cap, cur, e, h1, hh, rest⟩
  · exact .inl h0
  · exact .inr ⟨g, cap, cur, e, h1, (hb.block g (Array.getElem?_eq_some_iff.1 hh).1).trans hh, rest⟩
theorem OwnB.mono {w : World} {B C : Nat} {v : Value} {l : List Bool} (h : OwnB w B v l) (hC : C ≤ B) : OwnB w C v l := by
  refine ⟨h.1, ?_⟩
  rcases h.2 with h0 | ⟨g, cap, cur, e, h1, rest⟩
  · exact .inl h0
  · exact .inr ⟨g, cap, cur, e, by omega, rest⟩
theorem OwnB.rng {w : World} {B n cap : Nat} {a : Option Addr} {l : List Bool} (h : OwnB w B (.slice a n cap) l) : RngB w a n cap l := by
  rcases h.2 with ⟨e, h0⟩ | ⟨g, cap', cur, e, _, hh, hn, hm, hsz, htk⟩
  · simp only [Value.slice.injEq] at e
    obtain ⟨rfl, rfl, rfl⟩ := e
    exact ⟨h0, ⟨Nat.le_refl _, Nat.zero_le _⟩, fun j hj => by omega⟩
  · simp only [Value.slice.injEq] at e
    obtain ⟨rfl, rfl, rfl⟩ := e
    refine ⟨rfl, ⟨hn, hm⟩, fun j hj => ⟨g, 0, rfl, (Array.getElem?_eq_some_iff.1 hh).1, ?_⟩⟩
    rw [Nat.zero_add]
    have e1 : cur.toList[j]? = (flatB l)[j]? := by rw [← htk, List.getElem?_take, if_pos (by omega)]
    simp only [World.cell?, hh]
    simp only [Array.getElem?_toList] at e1
    rw [e1]
    simp [flatB, List.getElem?_eq_getElem hj, List.getD_eq_getElem?_getD]
theorem ownB_set {w : World} {B g n cap : Nat} {l : List Bool} (h : OwnB w B (.slice (some ⟨g, 0, none⟩) n cap) l) (j : Nat) (z : Bool) :
    OwnB (w.setCell ⟨g, j, none⟩ (.bool z)) B (.slice (some ⟨g, 0, none⟩) n cap) (l.set j z) := by
  have hlen := h.rng.len
  have h' : w.ownsRow B 4 1 (.slice (some ⟨g, 0, none⟩) n cap) n (flatB l) := by
    unfold OwnB at h
    rw [hlen] at h
    exact h
  have := (World.ownsRow.stored h' j (.bool z)).1
  unfold OwnB
  rw [List.length_set, hlen]
  have e : flatB (l.set j z) = (flatB l).set j (.bool z) := by simp [flatB, List.map_set]
  rw [e]
  exact this
theorem boolInfo : (Try.prog.info? 4).map (fun i => (i.zero, i.size, i.bytes)) = some (some (.bool false), 1, 1) := by kernel_rfl
end Go.Proofs.Ytjnglghhcbdpmaa
