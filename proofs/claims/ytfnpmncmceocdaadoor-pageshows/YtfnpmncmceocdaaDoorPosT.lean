import Derived.Test.YtfnpmncmceocdaaDoorChk
import Derived.Test.YtfnpmncmceocdaaDoorLow
namespace Go.Proofs.YtfnpmncmceocdaaDoor
open Go.RowKit Go.Lib

theorem encs_len2 (rs : List Int) : rs.length ≤ (encs rs).length := by
  induction rs with
  | nil => simp
  | cons r rs ih => have := encB_pos r; rw [encs_cons, List.length_cons, List.length_append]; omega
/-- the byte at which rune number j begins -/
def posOf (rs : List Int) (j : Nat) : Nat := (encs (rs.take j)).length
theorem posOf_zero (rs : List Int) : posOf rs 0 = 0 := by simp [posOf, encs]
theorem posOf_succ (rs : List Int) (j : Nat) (h : j < rs.length) : posOf rs (j + 1) = posOf rs j + (encB rs[j]).length := by
  unfold posOf
  rw [List.take_succ_eq_append_getElem h, encs_append, List.length_append]
  simp [encs]
theorem posOf_all (rs : List Int) : posOf rs rs.length = (encs rs).length := by simp [posOf]
theorem posOf_drop (rs : List Int) (j : Nat) : (encs rs).drop (posOf rs j) = encs (rs.drop j) := by
  unfold posOf
  have h := encs_append (rs.take j) (rs.drop j)
  rw [List.take_append_drop] at h
  rw [h, List.drop_left]
theorem posOf_take (rs : List Int) (j : Nat) : (encs rs).take (posOf rs j) = encs (rs.take j) := by
  unfold posOf
  have h := encs_append (rs.take j) (rs.drop j)
  rw [List.take_append_drop] at h
  rw [h, List.take_left]
theorem posOf_mono (rs : List Int) {i j : Nat} (h : i ≤ j) : posOf rs i ≤ posOf rs j := by
  unfold posOf
  have h2 : rs.take j = rs.take i ++ (rs.take j).drop i := by
    have := List.take_append_drop i (rs.take j)
    rw [List.take_take, Nat.min_eq_left h] at this
    exact this.symm
  rw [h2, encs_append, List.length_append]
  omega
theorem posOf_le (rs : List Int) (j : Nat) : posOf rs j ≤ (encs rs).length := by
  rcases Nat.le_total j rs.length with h | h
  · rw [← posOf_all]; exact posOf_mono rs h
  · rw [posOf, List.take_of_length_le h]; exact Nat.le_refl _
theorem posOf_lt (rs : List Int) {i j : Nat} (h : i < j) (hj : j ≤ rs.length) : posOf rs i < posOf rs j := by
  have h1 := posOf_succ rs i (by omega)
  have h2 := encB_pos rs[i]
  have h3 := posOf_mono rs (show i + 1 ≤ j by omega)
  omega
theorem posOf_ge (rs : List Int) (j : Nat) (h : j ≤ rs.length) : j ≤ posOf rs j := by
  have := encs_len2 (rs.take j)
  rw [List.length_take, Nat.min_eq_left h] at this
  exact this

/-- A string that is these runes. -/
structure IsText (s : ByteArray) (rs : List Int) : Prop where
  bytes : s.data.toList = encs rs
  ok : ∀ r ∈ rs, okR r

theorem IsText.size {s : ByteArray} {rs : List Int} (h : IsText s rs) : s.size = posOf rs rs.length := by rw [size_data, h.bytes, posOf_all]
theorem IsText.check {s : ByteArray} {rs : List Int} (h : IsText s rs) : check s = ((rs.length : Int), 0, 0) := check_text s rs h.bytes h.ok
theorem IsText.okAt {s : ByteArray} {rs : List Int} (h : IsText s rs) (j : Nat) (hj : j < rs.length) : okR rs[j] := h.ok _ (List.getElem_mem hj)
theorem IsText.bound {s : ByteArray} {rs : List Int} (h : IsText s rs) (j : Nat) (hj : j < rs.length) : 0 ≤ rs[j] ∧ rs[j] ≤ 1114111 := by
  have := valid_le (h.okAt j hj).1
  omega
theorem IsText.decode {s : ByteArray} {rs : List Int} (h : IsText s rs) (j : Nat) (hj : j < rs.length) : Utf8.decode s (posOf rs j) = (rs[j].toNat, (encB rs[j]).length) := by
  rw [decode_dec, h.bytes, posOf_drop, List.drop_eq_getElem_cons hj, encs_cons]
  exact dec_enc _ (h.okAt j hj).1 _
theorem IsText.extract {s : ByteArray} {rs : List Int} (h : IsText s rs) (i j : Nat) (hij : i ≤ j) : IsText (s.extract (posOf rs i) (posOf rs j)) ((rs.take j).drop i) := by
  refine ⟨?_, fun r hr => h.ok r (List.mem_of_mem_take (List.mem_of_mem_drop hr))⟩
  rw [extract_list, h.bytes, posOf_take]
  have e : posOf rs i = posOf (rs.take j) i := by unfold posOf; rw [List.take_take, Nat.min_eq_left hij]
  rw [e, posOf_drop]

section
variable {P : Program}
/-- 'next' over a text. -/
theorem run_next_text {s : ByteArray} {rs : List Int} (h : IsText s rs) (w : World) (k j : Nat) (ty : TypeId) (hk : w.heap[k]? = some (.stringIter s (posOf rs j))) (hj : j < rs.length) :
    (Instr.next (.pointer (some ⟨k, 0, none⟩)) true ty).run P w = .ok (.tuple #[.bool true, .int .i64 (posOf rs j), .int .i32 rs[j]]) (w.iterAt k s (posOf rs (j + 1))) := by
  have hlt : posOf rs j < s.size := by rw [h.size]; exact posOf_lt rs hj (Nat.le_refl _)
  rw [run_next_any_at w k s (posOf rs j) ty hk hlt, h.decode j hj, posOf_succ rs j hj]
  have := (h.bound j hj).1
  rw [show ((rs[j].toNat : Nat) : Int) = rs[j] by omega]
theorem run_next_done {s : ByteArray} {rs : List Int} (h : IsText s rs) (w : World) (k : Nat) (ty : TypeId) (hk : w.heap[k]? = some (.stringIter s (posOf rs rs.length))) :
    (Instr.next (.pointer (some ⟨k, 0, none⟩)) true ty).run P w = .ok (.tuple #[.bool false]) w :=
  run_next_end_at w k s _ ty hk (by rw [h.size]; omega)
end
theorem iterPos_of' {w : World} {k : Nat} {s : ByteArray} {p : Nat} (h : w.heap[k]? = some (.stringIter s p)) : w.iterPos k = p := by simp [World.iterPos, h]

/-- The table of barred runes, as the walks take it. -/
structure Bar (w : World) : Prop where
  lies : ∃ t fr, w.heap[2]? = some (.cells barCells t fr)
theorem Bar.below {w w' : World} (h : Bar w) (hb : Below w.heap.size w w') : Bar w' := by
  obtain ⟨t, fr, hg⟩ := h.lies
  exact ⟨t, fr, bar_below hb (Array.getElem?_eq_some_iff.1 hg).1 hg⟩
theorem Bar.alloc {w : World} (h : Bar w) (o : Obj) : Bar (w.alloc o) := h.below ((Below.refl _ _).alloc (Nat.le_refl _) _)

theorem check_bar {s : ByteArray} {n p c : Int} (hs : s.size ≤ 9223372036854775807) (h : check s = (n, p, c)) (w : World) (hw : Bar w) :
    Calls Tryd.prog 22 #[.string s] w fun e w' => e = .returned (.tuple #[.int .i64 n, .int .i64 p, .int .i64 c]) ∧ Below w.heap.size w w' := by
  obtain ⟨t, fr, hg⟩ := hw.lies
  exact check_eq s (by unfold maxLen; omega) h w fr t hg

end Go.Proofs.YtfnpmncmceocdaaDoor
