import Derived.Test.YtfakfmmngflbfaaDoorPure1
namespace Go.Proofs.YtfakfmmngflbfaaDoor
open Go.RowKit Go.Lib

theorem sz1 {a : ByteArray} (h : a.size ≤ 9223372036854775807) : a.size ≤ maxLen := by unfold maxLen; omega
theorem sz2 {a b : ByteArray} (h : a.size + b.size ≤ 9223372036854775807) : (a ++ b).size ≤ maxLen := by unfold maxLen; rw [ByteArray.size_append]; omega
theorem sz3 {a b : ByteArray} (x : UInt8) (h : a.size + b.size ≤ 9223372036854775806) : (a ++ ⟨#[x]⟩ ++ b).size ≤ maxLen := by
  unfold maxLen; rw [ByteArray.size_append, ByteArray.size_append, show (⟨#[x]⟩ : ByteArray).size = 1 from rfl]; omega
theorem encs_len (rs : List Int) : rs.length ≤ (encs rs).length := by
  induction rs with
  | nil => simp
  | cons r rs ih => have := encB_pos r; rw [encs_cons, List.length_cons, List.length_append]; omega

set_option maxHeartbeats 1000000 in
theorem firstFault_text (o n : Value) (zo : List Int) (k : Int) (raw : ByteArray) (b : Int) (rs : List Int) (h : raw.data.toList = encs rs) (ha : ∀ r ∈ rs, okR r) (w : World) (ho : Ints w o zo)
    (h4 : zo.length * 4 ≤ 140737488351232) (hraw : raw.size ≤ 140737488351232) (fr : Nat × Nat) (t : TypeId) (hg : w.heap[1]? = some (.cells barCells t fr)) :
    Calls Tryd.prog 3 #[.agg #[o, n, .int .i64 k, .string raw, .int .u8 b]] w fun e w' => e = .returned (.bool true) ∧ Below w.heap.size w w' := by
  have hgl : 1 < w.heap.size := (Array.getElem?_eq_some_iff.1 hg).1
  have HG : Hid (w.heap[1]? = some (.cells barCells t fr)) := hg
  have C1 : Hid (check (txt zo ++ ⟨#[255]⟩ ++ raw) = (0, ((txt zo).size : Int), 10)) := ff_255 zo raw
  have C0 : Hid (check (txt zo ++ ⟨#[0]⟩ ++ raw) = (0, ((txt zo).size : Int), 11)) := ff_0 zo raw
  have hts := txt_size zo
  have SR : Hid (raw.size ≤ maxLen) := sz1 (by omega)
  have ST : Hid ((txt zo ++ raw).size ≤ maxLen) := sz2 (by omega)
  have S1 : Hid ((txt zo ++ ⟨#[255]⟩ ++ raw).size ≤ maxLen) := sz3 _ (by omega)
  have S0 : Hid ((txt zo ++ ⟨#[0]⟩ ++ raw).size ≤ maxLen) := sz3 _ (by omega)
  have CT : Hid (check (txt zo ++ raw) = ((zo.length : Int) + rs.length, 0, 0)) := ff_text zo raw rs h ha
  have CR : Hid (check raw = ((rs.length : Int), 0, 0)) := check_text raw rs h ha
  have hrl : rs.length ≤ raw.size := by rw [size_data, h]; exact encs_len rs
  clear hg h ha
  go_enter Tryd.func3, Tryd.ntmps3
  go_wp2_with fail
  refine (let_ints o zo _ (ho.mono ((Below.refl _ _).alloc (Nat.le_refl _) _)) h4).mono ?_
  rintro e w2 ⟨a, cap, rfl, hown, hb2⟩
  have hcv := conv_let hown
  have hc2 : w2.cell? ⟨w.heap.size, 3, none⟩ = some (.string raw) := (hb2.cell (p := ⟨w.heap.size, 3, none⟩) (by simp)).trans (World.cell?_alloc_mark _ _ _ _ _)
  have hB2 : Below w.heap.size w w2 := ((Below.refl _ _).alloc (Nat.le_refl _) _).trans (hb2.mono (by simp))
  have hs2 : w.heap.size < w2.heap.size := by have := hb2.size; simp at this; omega
  clear hb2 hown ho
  generalize txt zo = s at *
  go_wp2_with fail
  refine (check_eq _ ST.out CT.out _ fr t (bar_below hB2 hgl HG.out)).mono ?_
  rintro e w3 ⟨rfl, hb3⟩
  have hc3 : w3.cell? ⟨w.heap.size, 3, none⟩ = some (.string raw) := (hb3.cell (p := ⟨w.heap.size, 3, none⟩) hs2).trans hc2
  have hB3 : Below w.heap.size w w3 := hB2.trans (hb3.mono (by omega))
  have hs3 : w.heap.size < w3.heap.size := Nat.lt_of_lt_of_le hs2 hb3.size
  clear hb3 hc2 hB2 hs2
  go_wp2_with fail
  refine (check_eq _ SR.out CR.out _ fr t (bar_below hB3 hgl HG.out)).mono ?_
  rintro e w4 ⟨rfl, hb4⟩
  have hc4 : w4.cell? ⟨w.heap.size, 3, none⟩ = some (.string raw) := (hb4.cell (p := ⟨w.heap.size, 3, none⟩) hs3).trans hc3
  have hB4 : Below w.heap.size w w4 := hB3.trans (hb4.mono (by omega))
  have hs4 : w.heap.size < w4.heap.size := Nat.lt_of_lt_of_le hs3 hb4.size
  clear hb4 hc3 hB3 hs3
  go_wp2_with fail
  refine (check_eq _ S1.out C1.out _ fr t (bar_below hB4 hgl HG.out)).mono ?_
  rintro e w5 ⟨rfl, hb5⟩
  have hc5 : w5.cell? ⟨w.heap.size, 3, none⟩ = some (.string raw) := (hb5.cell (p := ⟨w.heap.size, 3, none⟩) hs4).trans hc4
  have hB5 : Below w.heap.size w w5 := hB4.trans (hb5.mono (by omega))
  have hs5 : w.heap.size < w5.heap.size := Nat.lt_of_lt_of_le hs4 hb5.size
  clear hb5 hc4 hB4 hs4
  go_wp2_with fail
  refine (check_eq _ S0.out C0.out _ fr t (bar_below hB5 hgl HG.out)).mono ?_
  rintro e w6 ⟨rfl, hb6⟩
  have hB6 : Below w.heap.size w w6 := hB5.trans (hb6.mono (by omega))
  clear hb6 hc5 hB5 hs5
  go_wp2_with fail
  go_ret
  exact ⟨rfl, hB6⟩

set_option maxHeartbeats 1000000 in
theorem firstFault_10 (o n : Value) (zo : List Int) (k : Int) (raw : ByteArray) (b : Int) (rs : List Int) (rest : List UInt8) (h : raw.data.toList = encs rs ++ rest) (ha : ∀ r ∈ rs, okR r) (hbad : bad rest) (hf : faultOf rest = 10) (w : World) (ho : Ints w o zo)
    (h4 : zo.length * 4 ≤ 140737488351232) (hraw : raw.size ≤ 140737488351232) (fr : Nat × Nat) (t : TypeId) (hg : w.heap[1]? = some (.cells barCells t fr)) :
    Calls Tryd.prog 3 #[.agg #[o, n, .int .i64 k, .string raw, .int .u8 b]] w fun e w' => e = .returned (.bool true) ∧ Below w.heap.size w w' := by
  have hgl : 1 < w.heap.size := (Array.getElem?_eq_some_iff.1 hg).1
  have HG : Hid (w.heap[1]? = some (.cells barCells t fr)) := hg
  have C1 : Hid (check (txt zo ++ ⟨#[255]⟩ ++ raw) = (0, ((txt zo).size : Int), 10)) := ff_255 zo raw
  have C0 : Hid (check (txt zo ++ ⟨#[0]⟩ ++ raw) = (0, ((txt zo).size : Int), 11)) := ff_0 zo raw
  have hts := txt_size zo
  have SR : Hid (raw.size ≤ maxLen) := sz1 (by omega)
  have ST : Hid ((txt zo ++ raw).size ≤ maxLen) := sz2 (by omega)
  have S1 : Hid ((txt zo ++ ⟨#[255]⟩ ++ raw).size ≤ maxLen) := sz3 _ (by omega)
  have S0 : Hid ((txt zo ++ ⟨#[0]⟩ ++ raw).size ≤ maxLen) := sz3 _ (by omega)
  have CT : Hid (check (txt zo ++ raw) = (0, ((txt zo).size : Int) + ((encs rs).length : Int), 10)) := by rw [← hf]; exact ff_fault zo raw rs rest h ha hbad
  have CR : Hid (check raw = (0, ((encs rs).length : Int), 10)) := by rw [← hf]; exact check_fault raw rs rest h ha hbad
  have CP : Hid (check (raw.extract 0 (encs rs).length) = ((rs.length : Int), 0, 0)) := ff_take raw rs rest h ha
  have hL : (encs rs).length < raw.size := by
    have := List.length_pos_iff.2 hbad.1
    rw [size_data, h, List.length_append]; omega
  have SP : Hid ((raw.extract 0 (encs rs).length).size ≤ maxLen) := sz1 (by rw [ByteArray.size_extract]; omega)
  generalize (encs rs).length = L at *
  clear hg h ha hbad hf
  go_enter Tryd.func3, Tryd.ntmps3
  go_wp2_with fail
  refine (let_ints o zo _ (ho.mono ((Below.refl _ _).alloc (Nat.le_refl _) _)) h4).mono ?_
  rintro e w2 ⟨a, cap, rfl, hown, hb2⟩
  have hcv := conv_let hown
  have hc2 : w2.cell? ⟨w.heap.size, 3, none⟩ = some (.string raw) := (hb2.cell (p := ⟨w.heap.size, 3, none⟩) (by simp)).trans (World.cell?_alloc_mark _ _ _ _ _)
  have hB2 : Below w.heap.size w w2 := ((Below.refl _ _).alloc (Nat.le_refl _) _).trans (hb2.mono (by simp))
  have hs2 : w.heap.size < w2.heap.size := by have := hb2.size; simp at this; omega
  clear hb2 hown ho
  generalize txt zo = s at *
  go_wp2_with fail
  refine (check_eq _ ST.out CT.out _ fr t (bar_below hB2 hgl HG.out)).mono ?_
  rintro e w3 ⟨rfl, hb3⟩
  have hc3 : w3.cell? ⟨w.heap.size, 3, none⟩ = some (.string raw) := (hb3.cell (p := ⟨w.heap.size, 3, none⟩) hs2).trans hc2
  have hB3 : Below w.heap.size w w3 := hB2.trans (hb3.mono (by omega))
  have hs3 : w.heap.size < w3.heap.size := Nat.lt_of_lt_of_le hs2 hb3.size
  clear hb3 hc2 hB2 hs2
  go_wp2_with fail
  refine (check_eq _ SR.out CR.out _ fr t (bar_below hB3 hgl HG.out)).mono ?_
  rintro e w4 ⟨rfl, hb4⟩
  have hc4 : w4.cell? ⟨w.heap.size, 3, none⟩ = some (.string raw) := (hb4.cell (p := ⟨w.heap.size, 3, none⟩) hs3).trans hc3
  have hB4 : Below w.heap.size w w4 := hB3.trans (hb4.mono (by omega))
  have hs4 : w.heap.size < w4.heap.size := Nat.lt_of_lt_of_le hs3 hb4.size
  clear hb4 hc3 hB3 hs3
  go_wp2_with fail
  refine (check_eq _ SP.out CP.out _ fr t (bar_below hB4 hgl HG.out)).mono ?_
  rintro e w5 ⟨rfl, hb5⟩
  have hc5 : w5.cell? ⟨w.heap.size, 3, none⟩ = some (.string raw) := (hb5.cell (p := ⟨w.heap.size, 3, none⟩) hs4).trans hc4
  have hB5 : Below w.heap.size w w5 := hB4.trans (hb5.mono (by omega))
  have hs5 : w.heap.size < w5.heap.size := Nat.lt_of_lt_of_le hs4 hb5.size
  clear hb5 hc4 hB4 hs4
  go_wp2_with fail
  refine (check_eq _ S1.out C1.out _ fr t (bar_below hB5 hgl HG.out)).mono ?_
  rintro e w6 ⟨rfl, hb6⟩
  have hc6 : w6.cell? ⟨w.heap.size, 3, none⟩ = some (.string raw) := (hb6.cell (p := ⟨w.heap.size, 3, none⟩) hs5).trans hc5
  have hB6 : Below w.heap.size w w6 := hB5.trans (hb6.mono (by omega))
  have hs6 : w.heap.size < w6.heap.size := Nat.lt_of_lt_of_le hs5 hb6.size
  clear hb6 hc5 hB5 hs5
  go_wp2_with fail
  refine (check_eq _ S0.out C0.out _ fr t (bar_below hB6 hgl HG.out)).mono ?_
  rintro e w7 ⟨rfl, hb7⟩
  have hB7 : Below w.heap.size w w7 := hB6.trans (hb7.mono (by omega))
  clear hb7 hc6 hB6 hs6
  go_wp2_with fail
  go_ret
  exact ⟨rfl, hB7⟩

set_option maxHeartbeats 1000000 in
theorem firstFault_11 (o n : Value) (zo : List Int) (k : Int) (raw : ByteArray) (b : Int) (rs : List Int) (rest : List UInt8) (h : raw.data.toList = encs rs ++ rest) (ha : ∀ r ∈ rs, okR r) (hbad : bad rest) (hf : faultOf rest = 11) (w : World) (ho : Ints w o zo)
    (h4 : zo.length * 4 ≤ 140737488351232) (hraw : raw.size ≤ 140737488351232) (fr : Nat × Nat) (t : TypeId) (hg : w.heap[1]? = some (.cells barCells t fr)) :
    Calls Tryd.prog 3 #[.agg #[o, n, .int .i64 k, .string raw, .int .u8 b]] w fun e w' => e = .returned (.bool true) ∧ Below w.heap.size w w' := by
  have hgl : 1 < w.heap.size := (Array.getElem?_eq_some_iff.1 hg).1
  have HG : Hid (w.heap[1]? = some (.cells barCells t fr)) := hg
  have C1 : Hid (check (txt zo ++ ⟨#[255]⟩ ++ raw) = (0, ((txt zo).size : Int), 10)) := ff_255 zo raw
  have C0 : Hid (check (txt zo ++ ⟨#[0]⟩ ++ raw) = (0, ((txt zo).size : Int), 11)) := ff_0 zo raw
  have hts := txt_size zo
  have SR : Hid (raw.size ≤ maxLen) := sz1 (by omega)
  have ST : Hid ((txt zo ++ raw).size ≤ maxLen) := sz2 (by omega)
  have S1 : Hid ((txt zo ++ ⟨#[255]⟩ ++ raw).size ≤ maxLen) := sz3 _ (by omega)
  have S0 : Hid ((txt zo ++ ⟨#[0]⟩ ++ raw).size ≤ maxLen) := sz3 _ (by omega)
  have CT : Hid (check (txt zo ++ raw) = (0, ((txt zo).size : Int) + ((encs rs).length : Int), 11)) := by rw [← hf]; exact ff_fault zo raw rs rest h ha hbad
  have CR : Hid (check raw = (0, ((encs rs).length : Int), 11)) := by rw [← hf]; exact check_fault raw rs rest h ha hbad
  have CP : Hid (check (raw.extract 0 (encs rs).length) = ((rs.length : Int), 0, 0)) := ff_take raw rs rest h ha
  have hL : (encs rs).length < raw.size := by
    have := List.length_pos_iff.2 hbad.1
    rw [size_data, h, List.length_append]; omega
  have SP : Hid ((raw.extract 0 (encs rs).length).size ≤ maxLen) := sz1 (by rw [ByteArray.size_extract]; omega)
  generalize (encs rs).length = L at *
  clear hg h ha hbad hf
  go_enter Tryd.func3, Tryd.ntmps3
  go_wp2_with fail
  refine (let_ints o zo _ (ho.mono ((Below.refl _ _).alloc (Nat.le_refl _) _)) h4).mono ?_
  rintro e w2 ⟨a, cap, rfl, hown, hb2⟩
  have hcv := conv_let hown
  have hc2 : w2.cell? ⟨w.heap.size, 3, none⟩ = some (.string raw) := (hb2.cell (p := ⟨w.heap.size, 3, none⟩) (by simp)).trans (World.cell?_alloc_mark _ _ _ _ _)
  have hB2 : Below w.heap.size w w2 := ((Below.refl _ _).alloc (Nat.le_refl _) _).trans (hb2.mono (by simp))
  have hs2 : w.heap.size < w2.heap.size := by have := hb2.size; simp at this; omega
  clear hb2 hown ho
  generalize txt zo = s at *
  go_wp2_with fail
  refine (check_eq _ ST.out CT.out _ fr t (bar_below hB2 hgl HG.out)).mono ?_
  rintro e w3 ⟨rfl, hb3⟩
  have hc3 : w3.cell? ⟨w.heap.size, 3, none⟩ = some (.string raw) := (hb3.cell (p := ⟨w.heap.size, 3, none⟩) hs2).trans hc2
  have hB3 : Below w.heap.size w w3 := hB2.trans (hb3.mono (by omega))
  have hs3 : w.heap.size < w3.heap.size := Nat.lt_of_lt_of_le hs2 hb3.size
  clear hb3 hc2 hB2 hs2
  go_wp2_with fail
  refine (check_eq _ SR.out CR.out _ fr t (bar_below hB3 hgl HG.out)).mono ?_
  rintro e w4 ⟨rfl, hb4⟩
  have hc4 : w4.cell? ⟨w.heap.size, 3, none⟩ = some (.string raw) := (hb4.cell (p := ⟨w.heap.size, 3, none⟩) hs3).trans hc3
  have hB4 : Below w.heap.size w w4 := hB3.trans (hb4.mono (by omega))
  have hs4 : w.heap.size < w4.heap.size := Nat.lt_of_lt_of_le hs3 hb4.size
  clear hb4 hc3 hB3 hs3
  go_wp2_with fail
  refine (check_eq _ SP.out CP.out _ fr t (bar_below hB4 hgl HG.out)).mono ?_
  rintro e w5 ⟨rfl, hb5⟩
  have hc5 : w5.cell? ⟨w.heap.size, 3, none⟩ = some (.string raw) := (hb5.cell (p := ⟨w.heap.size, 3, none⟩) hs4).trans hc4
  have hB5 : Below w.heap.size w w5 := hB4.trans (hb5.mono (by omega))
  have hs5 : w.heap.size < w5.heap.size := Nat.lt_of_lt_of_le hs4 hb5.size
  clear hb5 hc4 hB4 hs4
  go_wp2_with fail
  refine (check_eq _ S1.out C1.out _ fr t (bar_below hB5 hgl HG.out)).mono ?_
  rintro e w6 ⟨rfl, hb6⟩
  have hc6 : w6.cell? ⟨w.heap.size, 3, none⟩ = some (.string raw) := (hb6.cell (p := ⟨w.heap.size, 3, none⟩) hs5).trans hc5
  have hB6 : Below w.heap.size w w6 := hB5.trans (hb6.mono (by omega))
  have hs6 : w.heap.size < w6.heap.size := Nat.lt_of_lt_of_le hs5 hb6.size
  clear hb6 hc5 hB5 hs5
  go_wp2_with fail
  refine (check_eq _ S0.out C0.out _ fr t (bar_below hB6 hgl HG.out)).mono ?_
  rintro e w7 ⟨rfl, hb7⟩
  have hB7 : Below w.heap.size w w7 := hB6.trans (hb7.mono (by omega))
  clear hb7 hc6 hB6 hs6
  go_wp2_with fail
  go_ret
  exact ⟨rfl, hB7⟩

theorem firstFault_any (o n : Value) (zo : List Int) (k : Int) (raw : ByteArray) (b : Int) (w : World) (ho : Ints w o zo)
    (h4 : zo.length * 4 ≤ 140737488351232) (hraw : raw.size ≤ 140737488351232) (fr : Nat × Nat) (t : TypeId) (hg : w.heap[1]? = some (.cells barCells t fr)) :
    Calls Tryd.prog 3 #[.agg #[o, n, .int .i64 k, .string raw, .int .u8 b]] w fun e w' => e = .returned (.bool true) ∧ Below w.heap.size w w' := by
  rcases check_split raw with ⟨rs, h, ha, _⟩ | ⟨rs, rest, h, ha, hbad, _⟩
  · exact firstFault_text o n zo k raw b rs h ha w ho h4 hraw fr t hg
  · rcases faultOf_pos rest with hf | hf
    · exact firstFault_10 o n zo k raw b rs rest h ha hbad hf w ho h4 hraw fr t hg
    · exact firstFault_11 o n zo k raw b rs rest h ha hbad hf w ho h4 hraw fr t hg
end Go.Proofs.YtfakfmmngflbfaaDoor
