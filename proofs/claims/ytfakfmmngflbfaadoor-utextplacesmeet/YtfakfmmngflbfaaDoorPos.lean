import Derived.Test.YtfakfmmngflbfaaDoorPure1
namespace Go.Proofs.YtfakfmmngflbfaaDoor
open Go.RowKit Go.Lib

theorem encs_len2 (rs : List Int) : rs.length ≤ (encs rs).length := by
  induction rs with
  | nil => simp
  | cons r rs ih => have := encB_pos r; rw [encs_cons, List.length_cons, List.length_append]; omega
/-- the byte at which rune number j begins -/
def posOf (rs : List Int) (j : Nat) : Nat := (encs (rs.take j)).length
theorem posOf_zero (rs : List Int) : posOf rs 0 = 0 := by simp [posOf, encs]
theorem posOf_succ (rs : List Int) (j : Nat) (h : j < rs.length) : posOf rs (j + 1) = posOf rs j + (encB rs[j]).length := by
  unfold posOf
  rw [List.take_succ_eq_append_getElem h, encs_append, List.length_append]
  simp [encs]
theorem posOf_all (rs : List Int) : posOf rs rs.length = (encs rs).length := by simp [posOf]
theorem posOf_drop (rs : List Int) (j : Nat) : (encs rs).drop (posOf rs j) = encs (rs.drop j) := by
  unfold posOf
  have h := encs_append (rs.take j) (rs.drop j)
  rw [List.take_append_drop] at h
  rw [h, List.drop_left]
theorem posOf_take (rs : List Int) (j : Nat) : (encs rs).take (posOf rs j) = encs (rs.take j) := by
  unfold posOf
  have h := encs_append (rs.take j) (rs.drop j)
  rw [List.take_append_drop] at h
  rw [h, List.take_left]
theorem posOf_mono (rs : List Int) {i j : Nat} (h : i ≤ j) : posOf rs i ≤ posOf rs j := by
  unfold posOf
  have h2 : rs.take j = rs.take i ++ (rs.take j).drop i := by
    have := List.take_append_drop i (rs.take j)
    rw [List.take_take, Nat.min_eq_left h] at this
    exact this.symm
  rw [h2, encs_append, List.length_append]
  omega
theorem posOf_le (rs : List Int) (j : Nat) : posOf rs j ≤ (encs rs).length := by
  rcases Nat.le_total j rs.length with h | h
  · rw [← posOf_all]; exact posOf_mono rs h
  · rw [posOf, List.take_of_length_le h]; exact Nat.le_refl _
theorem posOf_lt (rs : List Int) {i j : Nat} (h : i < j) (hj : j ≤ rs.length) : posOf rs i < posOf rs j := by
  have h1 := posOf_succ rs i (by omega)
  have h2 := encB_pos rs[i]
  have h3 := posOf_mono rs (show i + 1 ≤ j by omega)
  omega
theorem posOf_ge (rs : List Int) (j : Nat) (h : j ≤ rs.length) : j ≤ posOf rs j := by
  have := encs_len2 (rs.take j)
  rw [List.length_take, Nat.min_eq_left h] at this
  exact this

/-- A string that is these runes. -/
structure IsText (s : ByteArray) (rs : List Int) : Prop where
  bytes : s.data.toList = encs rs
  ok : ∀ r ∈ rs, okR r

theorem IsText.size {s : ByteArray} {rs : List Int} (h : IsText s rs) : s.size = posOf rs rs.length := by rw [size_data, h.bytes, posOf_all]
theorem IsText.check {s : ByteArray} {rs : List Int} (h : IsText s rs) : check s = ((rs.length : Int), 0, 0) := check_text s rs h.bytes h.ok
theorem IsText.okAt {s : ByteArray} {rs : List Int} (h : IsText s rs) (j : Nat) (hj : j < rs.length) : okR rs[j] := h.ok _ (List.getElem_mem hj)
theorem IsText.bound {s : ByteArray} {rs : List Int} (h : IsText s rs) (j : Nat) (hj : j < rs.length) : 0 ≤ rs[j] ∧ rs[j] ≤ 1114111 := by
  have := valid_le (h.okAt j hj).1
  omega
theorem IsText.decode {s : ByteArray} {rs : List Int} (h : IsText s rs) (j : Nat) (hj : j < rs.length) : Utf8.decode s (posOf rs j) = (rs[j].toNat, (encB rs[j]).length) := by
  rw [decode_dec, h.bytes, posOf_drop, List.drop_eq_getElem_cons hj, encs_cons]
  exact dec_enc _ (h.okAt j hj).1 _
theorem isText_txt (zs : List Int) : IsText (txt zs) (zs.map letR) := ⟨txt_encs zs, lets_ok zs⟩
theorem IsText.extract {s : ByteArray} {rs : List Int} (h : IsText s rs) (i j : Nat) (hij : i ≤ j) : IsText (s.extract (posOf rs i) (posOf rs j)) ((rs.take j).drop i) := by
  refine ⟨?_, fun r hr => h.ok r (List.mem_of_mem_take (List.mem_of_mem_drop hr))⟩
  rw [extract_list, h.bytes, posOf_take]
  have e : posOf rs i = posOf (rs.take j) i := by unfold posOf; rw [List.take_take, Nat.min_eq_left hij]
  rw [e, posOf_drop]

section
variable {P : Program}
/-- 'next' over a text. -/
theorem run_next_text {s : ByteArray} {rs : List Int} (h : IsText s rs) (w : World) (k j : Nat) (ty : TypeId) (hk : w.heap[k]? = some (.stringIter s (posOf rs j))) (hj : j < rs.length) :
    (Instr.next (.pointer (some ⟨k, 0, none⟩)) true ty).run P w = .ok (.tuple #[.bool true, .int .i64 (posOf rs j), .int .i32 rs[j]]) (w.iterAt k s (posOf rs (j + 1))) := by
  have hlt : posOf rs j < s.size := by rw [h.size]; exact posOf_lt rs hj (Nat.le_refl _)
  rw [run_next_any_at w k s (posOf rs j) ty hk hlt, h.decode j hj, posOf_succ rs j hj]
  have := (h.bound j hj).1
  rw [show ((rs[j].toNat : Nat) : Int) = rs[j] by omega]
theorem run_next_done {s : ByteArray} {rs : List Int} (h : IsText s rs) (w : World) (k : Nat) (ty : TypeId) (hk : w.heap[k]? = some (.stringIter s (posOf rs rs.length))) :
    (Instr.next (.pointer (some ⟨k, 0, none⟩)) true ty).run P w = .ok (.tuple #[.bool false]) w :=
  run_next_end_at w k s _ ty hk (by rw [h.size]; omega)
end
theorem iterPos_of' {w : World} {k : Nat} {s : ByteArray} {p : Nat} (h : w.heap[k]? = some (.stringIter s p)) : w.iterPos k = p := by simp [World.iterPos, h]

set_option maxHeartbeats 400000 in
theorem byteOf_any {s : ByteArray} {rs : List Int} (h : IsText s rs) (hs : s.size ≤ 9223372036854775807) (k : Nat) (hk : k ≤ rs.length) (w : World) :
    Calls Tryd.prog 24 #[.string s, .int .i64 k] w fun e w' => e = .returned (.int .i64 (posOf rs k)) ∧ Below w.heap.size w w' := by
  have hsz := h.size
  have HSZ : Hid (s.size = posOf rs rs.length) := hsz
  have hrl := posOf_ge rs rs.length (Nat.le_refl _)
  rw [← hsz] at hrl
  clear hsz
  go_enter Tryd.func24, Tryd.ntmps24
  go_wp2_with fail
  go_loopw [1] (fun v w' => ∃ j : Nat, w'.heap[w.heap.size]? = some (.stringIter s (posOf rs j)) ∧ Below w.heap.size w w' ∧ j ≤ k ∧ v = .int .i64 ((k : Int) - j)) (fun _ w' => s.size - w'.iterPos w.heap.size)
  case atStart =>
    refine ⟨0, ?_, (Below.refl _ _).alloc (Nat.le_refl _) _, by omega, by go_num⟩
    rw [posOf_zero]; exact World.iter_heap _ _ _
  case round =>
    obtain ⟨j, hit, hb, hjk, rfl⟩ := hrel
    by_cases hj : j < rs.length
    · have hnx : ∀ ty, (Instr.next (.pointer (some ⟨w.heap.size, 0, none⟩)) true ty).run Tryd.prog wr = _ := fun ty => run_next_text h wr w.heap.size j ty hit hj
      have hb2 : Below w.heap.size w (wr.iterAt w.heap.size s (posOf rs (j + 1))) := below_iterAt hb (Nat.le_refl _) _ _
      have hit2 := iterAt_heap wr w.heap.size s (posOf rs j) (posOf rs (j + 1)) hit
      have HP : Hid (wr.iterPos w.heap.size = posOf rs j) := iterPos_of' hit
      have hlt : posOf rs j < posOf rs (j + 1) := posOf_lt rs (Nat.lt_succ_self j) (by omega)
      have hle := posOf_mono rs (show j + 1 ≤ rs.length by omega)
      have HLE : Hid (posOf rs (j + 1) ≤ s.size) := by rw [HSZ.out]; exact hle
      clear hle
      by_cases hz : j = k
      · subst hz
        have t1 : (((j : Int) - j) == 0) = true := by simp
        go_wp2_with fail
        go_ret
        exact ⟨rfl, hb2⟩
      · have t1 : (((k : Int) - j) == 0) = false := beq_eq_false_iff_ne.2 (by omega)
        go_wp2_with fail
        refine ⟨⟨j + 1, hit2, hb2, by omega, by go_num⟩, ?_⟩
        rw [HP.out, iterPos_of' hit2]
        have := HLE.out
        omega
    · have hjl : j = rs.length := by omega
      subst hjl
      have hkl : k = rs.length := by omega
      subst hkl
      have hnx : ∀ ty, (Instr.next (.pointer (some ⟨w.heap.size, 0, none⟩)) true ty).run Tryd.prog wr = _ := fun ty => run_next_done h wr w.heap.size ty hit
      go_wp2_with fail
      go_ret
      rw [← HSZ.out]
      exact ⟨rfl, hb⟩

theorem tmod_neg2 (k n : Int) (hn : 0 < n) (hn2 : n ≤ 9223372036854775807) (h : k.tmod n < 0) : wrap64 (k.tmod n + n) = k % n := by
  have h1 := Int.emod_nonneg k (show n ≠ 0 by omega)
  have h2 := Int.emod_lt_of_pos k hn
  have h3 := @Int.tmod_eq_emod k n
  have h4 : (n.natAbs : Int) = n := by omega
  have h5 : k.tmod n + n = k % n := by
    split at h3 <;> omega
  rw [h5]
  exact IntWalk.wrap64_in _ ⟨by omega, by omega⟩
theorem tmod_pos2 (k n : Int) (hn : 0 < n) (h : 0 ≤ k.tmod n) : k.tmod n = k % n := by
  have h1 := Int.emod_nonneg k (show n ≠ 0 by omega)
  have h2 := Int.emod_lt_of_pos k hn
  have h3 := @Int.tmod_eq_emod k n
  have h4 : (n.natAbs : Int) = n := by omega
  split at h3 <;> omega
set_option maxHeartbeats 400000 in
theorem pick_all (k n : Int) (hn : 0 < n) (hn2 : n ≤ 9223372036854775807) (w : World) :
    Calls Tryd.prog 11 #[.int .i64 k, .int .i64 n] w fun e w' => e = .returned (.int .i64 (k % n)) ∧ w' = w := by
  go_enter Tryd.func11, Tryd.ntmps11
  go_wp2
  · go_ret
    exact ⟨congrArg (fun b => Ending.returned (.int .i64 b)) (tmod_neg2 k n hn hn2 (by assumption)), rfl⟩
  · go_ret
    exact ⟨congrArg (fun b => Ending.returned (.int .i64 b)) (tmod_pos2 k n hn (by assumption)), rfl⟩

/-- The table of barred runes, as the walks take it. -/
structure Bar (w : World) : Prop where
  lies : ∃ t fr, w.heap[1]? = some (.cells barCells t fr)
theorem Bar.below {w w' : World} (h : Bar w) (hb : Below w.heap.size w w') : Bar w' := by
  obtain ⟨t, fr, hg⟩ := h.lies
  exact ⟨t, fr, bar_below hb (Array.getElem?_eq_some_iff.1 hg).1 hg⟩
theorem Bar.alloc {w : World} (h : Bar w) (o : Obj) : Bar (w.alloc o) := h.below ((Below.refl _ _).alloc (Nat.le_refl _) _)

theorem check_bar {s : ByteArray} {n p c : Int} (hs : s.size ≤ 9223372036854775807) (h : check s = (n, p, c)) (w : World) (hw : Bar w) :
    Calls Tryd.prog 10 #[.string s] w fun e w' => e = .returned (.tuple #[.int .i64 n, .int .i64 p, .int .i64 c]) ∧ Below w.heap.size w w' := by
  obtain ⟨t, fr, hg⟩ := hw.lies
  exact check_eq s (by unfold maxLen; omega) h w fr t hg

set_option maxHeartbeats 400000 in
theorem place_in {s : ByteArray} {rs : List Int} (h : IsText s rs) (hs : s.size ≤ 9223372036854775807) (k : Int) (h0 : 0 ≤ k) (hk : k ≤ rs.length) (w : World) (hw : Bar w) :
    Calls Tryd.prog 13 #[.string s, .int .i64 k] w fun e w' => e = .returned (.tuple #[.int .i64 (posOf rs k.toNat), .int .i64 0]) ∧ Below w.heap.size w w' := by
  obtain ⟨k, rfl⟩ := Int.eq_ofNat_of_zero_le h0
  rw [Int.toNat_natCast]
  have hk' : k ≤ rs.length := by omega
  go_enter Tryd.func13, Tryd.ntmps13
  go_wp2_with fail
  refine (check_bar hs h.check _ hw).mono ?_
  rintro e w1 ⟨rfl, hb1⟩
  go_wp2_with fail
  refine (byteOf_any h hs k hk' _).mono ?_
  rintro e w2 ⟨rfl, hb2⟩
  have hb3 := hb1.trans (hb2.mono hb1.size)
  clear hb1 hb2
  go_wp2_with fail
  go_ret2
  exact ⟨rfl, hb3⟩
set_option maxHeartbeats 400000 in
theorem place_out {s : ByteArray} {rs : List Int} (h : IsText s rs) (hs : s.size ≤ 9223372036854775807) (k : Int) (hk : k < 0 ∨ (rs.length : Int) < k) (w : World) (hw : Bar w) :
    Calls Tryd.prog 13 #[.string s, .int .i64 k] w fun e w' => e = .returned (.tuple #[.int .i64 0, .int .i64 12]) ∧ Below w.heap.size w w' := by
  rcases hk with hk | hk
  · go_enter Tryd.func13, Tryd.ntmps13
    go_wp2_with fail
    refine (check_bar hs h.check _ hw).mono ?_
    rintro e w1 ⟨rfl, hb1⟩
    go_wp2_with fail
    go_ret2
    exact ⟨rfl, hb1⟩
  · have h0 : ¬ k < 0 := by omega
    go_enter Tryd.func13, Tryd.ntmps13
    go_wp2_with fail
    refine (check_bar hs h.check _ hw).mono ?_
    rintro e w1 ⟨rfl, hb1⟩
    go_wp2_with fail
    go_ret2
    exact ⟨rfl, hb1⟩
end Go.Proofs.YtfakfmmngflbfaaDoor
