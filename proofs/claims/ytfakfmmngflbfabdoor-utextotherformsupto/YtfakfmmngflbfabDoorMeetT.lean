import Derived.Test.YtfakfmmngflbfabDoorPos2
namespace Go.Proofs.YtfakfmmngflbfabDoor
open Go.RowKit Go.Lib

theorem own_below {w w' : World} {B e size n : Nat} {v : Value} {xs : List Value} (h : w.ownsRow B e size v n xs) (hb : Below w.heap.size w w') : w'.ownsRow B e size v n xs := by
  refine ⟨h.1, ?_⟩
  rcases h.2 with h0 | ⟨g, cap, cur, hv, hB, hh, rest⟩
  · exact .inl h0
  · exact .inr ⟨g, cap, cur, hv, hB, (hb.block g (Array.getElem?_eq_some_iff.1 hh).1).trans hh, rest⟩

/-- The cells of what 'let' has made. -/
theorem own_cell {W : World} {B n g cap : Nat} {zs : List Int} (h : W.ownsRow B 21 1 (.slice (some ⟨g, 0, none⟩) n cap) n (letV zs)) (j : Nat) (hj : j < n) : W.cell? ⟨g, j, none⟩ = some (.int .i32 ((zs.map letR).getD j 0)) := by
  obtain ⟨hl, hr⟩ := h
  have hlen : zs.length = n := by simpa [letV] using hl
  rcases hr with ⟨e, _⟩ | ⟨g', cap', cur, e, _, hh, hn, _, hsz, htk⟩
  · cases e
  · cases e
    have e1 : cur.toList[j]? = (letV zs)[j]? := by
      rw [← htk, List.getElem?_take, if_pos (by omega)]
    simp only [World.cell?, hh]
    simp only [Array.getElem?_toList] at e1
    rw [e1]
    simp [letV, List.getElem?_eq_getElem (show j < zs.length by omega)]
theorem own_cap {W : World} {B n g cap : Nat} {zs : List Int} (h : W.ownsRow B 21 1 (.slice (some ⟨g, 0, none⟩) n cap) n (letV zs)) : n ≤ cap ∧ cap ≤ maxLen := by
  rcases h.2 with ⟨e, _⟩ | ⟨g', cap', cur, e, _, hh, hn, hm, hsz, htk⟩
  · cases e
  · cases e; exact ⟨hn, hm⟩
theorem conv_take {W : World} {B n g cap : Nat} {zs : List Int} (h : W.ownsRow B 21 1 (.slice (some ⟨g, 0, none⟩) n cap) n (letV zs)) (k : Nat) (hk : k ≤ n) :
    (convert 22 9 (.slice (some ⟨g, 0, none⟩) k cap)).run Tryd.prog W = .ok (.string (runesBytes ((zs.map letR).take k))) W := by
  have hlen : zs.length = n := by simpa [letV] using h.1
  exact run_convert_runes (P := Tryd.prog) W 22 9 21 ⟨g, 0, none⟩ k cap (zs.map letR) (by simp; omega) Tryd.underlying22 Tryd.underlying21 Tryd.underlying9 (fun j hj => by
      rw [show (⟨g, 0, none⟩ : Addr).add j = ⟨g, j, none⟩ by cases j <;> simp [Addr.add]]
      exact own_cell h j (by simpa [hlen] using hj))
theorem take_size (rs : List Int) (k : Nat) : (runesBytes (rs.take k)).size = posOf rs k := by rw [size_data, runesBytes_encs]; rfl

theorem mod_nat (k : Int) (n : Nat) : ∃ kk : Nat, kk ≤ n ∧ k % ((n : Int) + 1) = kk := by
  have h1 := Int.emod_nonneg k (show (n : Int) + 1 ≠ 0 by omega)
  have h2 := Int.emod_lt_of_pos k (show 0 < (n : Int) + 1 by omega)
  exact ⟨(k % ((n : Int) + 1)).toNat, by omega, by omega⟩
end Go.Proofs.YtfakfmmngflbfabDoor
