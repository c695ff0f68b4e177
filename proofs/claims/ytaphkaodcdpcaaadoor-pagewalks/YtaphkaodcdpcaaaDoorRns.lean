import Derived.Test.YtaphkaodcdpcaaaDoorRowX
import Derived.Laws.IdiomStrings
namespace Go.Proofs.YtaphkaodcdpcaaaDoor
open Go.RowKit Go.Lib

/-- A row of runes, as cells. -/
def runeV (rs : List Int) : List Value := rs.map (fun r => .int .i32 r)
theorem runesFrom_text {s : ByteArray} {rs : List Int} (h : IsText s rs) : ∀ (n j : Nat) (acc : Array Value), rs.length ≤ j + n → j ≤ rs.length → Conv.runesFrom s n (posOf rs j) acc = acc ++ (runeV (rs.drop j)).toArray
  | 0, j, acc, h1, h2 => by
    have : rs.drop j = [] := List.drop_eq_nil_of_le (by omega)
    simp [Conv.runesFrom, this, runeV]
  | n + 1, j, acc, h1, h2 => by
    unfold Conv.runesFrom
    by_cases hj : j < rs.length
    · have hlt : posOf rs j < s.size := by rw [h.size]; exact posOf_lt rs hj (Nat.le_refl _)
      rw [if_pos hlt, h.decode j hj]
      simp only
      rw [← posOf_succ rs j hj, runesFrom_text h n (j + 1) _ (by omega) (by omega)]
      have hb := (h.bound j hj).1
      have e : Int.ofNat rs[j].toNat = rs[j] := by simp; omega
      rw [e]
      have e2 : runeV (rs.drop j) = .int .i32 rs[j] :: runeV (rs.drop (j + 1)) := by rw [List.drop_eq_getElem_cons hj]; rfl
      rw [e2]
      simp
    · have hjl : j = rs.length := by omega
      subst hjl
      have hlt : ¬ posOf rs rs.length < s.size := by rw [h.size]; omega
      rw [if_neg hlt]
      simp [runeV]
theorem runesFrom_all {s : ByteArray} {rs : List Int} (h : IsText s rs) : Conv.runesFrom s s.size 0 #[] = (runeV rs).toArray := by
  have h1 := runesFrom_text h s.size 0 #[] (by rw [h.size]; have := posOf_ge rs rs.length (Nat.le_refl _); omega) (Nat.zero_le _)
  rw [posOf_zero] at h1
  simpa using h1

/-- '[]rune(s)' of a text. -/
theorem conv_runes {s : ByteArray} {rs : List Int} (h : IsText s rs) (hl : rs.length ≤ 70368744177664) (w : World) :
    (convert 9 23 (.string s)).run Tryd.prog w = .ok (.slice (some ⟨w.heap.size, 0, none⟩) rs.length (grownCap w rs.length 0 21))
      (w.drew.alloc (.cells ((runeV rs).toArray ++ Array.replicate (grownCap w rs.length 0 21 - rs.length) (.int .i32 0)) 21)) := by
  have hsz : ((runeV rs).toArray).size = rs.length := by simp [runeV]
  have := run_runes_of_string (P := Tryd.prog) w 9 23 21 s Tryd.underlying9 Tryd.underlying23 Tryd.underlying21 (by rw [runesFrom_all h, hsz]; exact hl)
  rw [runesFrom_all h, hsz] at this
  exact this
theorem row_runes (rs : List Int) (w : World) (hcap : grownCap w rs.length 0 21 ≤ maxLen) :
    Row32 (w.drew.alloc (.cells ((runeV rs).toArray ++ Array.replicate (grownCap w rs.length 0 21 - rs.length) (.int .i32 0)) 21)) (some ⟨w.heap.size, 0, none⟩) rs.length (grownCap w rs.length 0 21) rs := by
  refine ⟨rfl, ⟨grownCap_ge _ _ _ _, hcap⟩, fun j hj => ⟨w.heap.size, 0, rfl, by simp, ?_⟩⟩
  rw [Nat.zero_add]
  refine (World.cell?_alloc_mark w.drew _ _ _ j).trans ?_
  rw [Array.getElem?_append_left (by simpa [runeV] using hj)]
  simp [runeV, List.getD_eq_getElem?_getD, List.getElem?_eq_getElem hj]
end Go.Proofs.YtaphkaodcdpcaaaDoor
