import Derived.Test.YtfakfmmngflbfabDoorChk
import Derived.Test.YtfakfmmngflbfabDoorTwo
namespace Go.Proofs.YtfakfmmngflbfabDoor

theorem runesBytes_from (ns : List Int) : ∀ s : ByteArray, (ns.foldl (fun r n => r ++ Utf8.encode n) s).data.toList = s.data.toList ++ encs ns := by
  induction ns with
  | nil => intro s; simp [encs]
  | cons n ns ih =>
    intro s
    rw [List.foldl_cons, ih, encs_cons, ByteArray.data_append, Array.toList_append, List.append_assoc]
    rfl
theorem runesBytes_encs (ns : List Int) : (runesBytes ns).data.toList = encs ns := by
  have := runesBytes_from ns ByteArray.empty
  rw [runesBytes, this]
  rfl
theorem txt_encs (zs : List Int) : (txt zs).data.toList = encs (zs.map letR) := runesBytes_encs _
theorem txt_size (zs : List Int) : (txt zs).size ≤ 4 * zs.length := by
  have := runesBytes_size_le (zs.map letR)
  simpa [txt] using this
theorem letR_ok (z : Int) : okR (letR z) := by
  have h : (letR z = 9 ∨ letR z = 10 ∨ (32 ≤ letR z ∧ letR z ≤ 126) ∨ (161 ≤ letR z ∧ letR z ≤ 55295) ∨ (65536 ≤ letR z ∧ letR z ≤ 131069)) := by
    unfold letR
    split
    · assumption
    · omega
  generalize letR z = r at *
  refine ⟨valid_of (by omega) (by omega) (by omega), ?_⟩
  unfold okRune
  rw [decide_eq_true_iff]
  omega
theorem lets_ok (zs : List Int) : ∀ r ∈ zs.map letR, okR r := by
  intro r hr
  obtain ⟨z, _, rfl⟩ := List.mem_map.1 hr
  exact letR_ok z
theorem append_list (a b : ByteArray) : (a ++ b).data.toList = a.data.toList ++ b.data.toList := by
  rw [ByteArray.data_append, Array.toList_append]

theorem check_txt (zs : List Int) : check (txt zs) = ((zs.length : Int), 0, 0) := by
  have := check_text (txt zs) _ (txt_encs zs) (lets_ok zs)
  simpa using this

theorem ff_text (zs : List Int) (raw : ByteArray) (rs : List Int) (h : raw.data.toList = encs rs) (ha : ∀ r ∈ rs, okR r) : check (txt zs ++ raw) = ((zs.length : Int) + rs.length, 0, 0) := by
  have := check_text (txt zs ++ raw) (zs.map letR ++ rs) (by rw [append_list, txt_encs, h, encs_append]) (fun r hr => (List.mem_append.1 hr).elim (lets_ok zs r) (ha r))
  rw [this]
  simp
theorem ff_fault (zs : List Int) (raw : ByteArray) (rs : List Int) (rest : List UInt8) (h : raw.data.toList = encs rs ++ rest) (ha : ∀ r ∈ rs, okR r) (hb : bad rest) :
    check (txt zs ++ raw) = (0, ((txt zs).size : Int) + ((encs rs).length : Int), faultOf rest) := by
  have := check_fault (txt zs ++ raw) (zs.map letR ++ rs) rest (by rw [append_list, txt_encs, h, encs_append, List.append_assoc]) (fun r hr => (List.mem_append.1 hr).elim (lets_ok zs r) (ha r)) hb
  rw [this, encs_append, List.length_append, size_data, txt_encs]
  simp
theorem ff_take (raw : ByteArray) (rs : List Int) (rest : List UInt8) (h : raw.data.toList = encs rs ++ rest) (ha : ∀ r ∈ rs, okR r) : check (raw.extract 0 (encs rs).length) = ((rs.length : Int), 0, 0) := by
  refine check_text _ rs ?_ ha
  rw [extract_list, h, List.drop_zero, List.take_left]
theorem bad_ff (l : List UInt8) : bad (255 :: l) ∧ faultOf (255 :: l) = 10 := by
  have hd : dec (255 :: l) = (65533, 1) := by
    rw [dec1]
    unfold decN
    rw [show (255 : UInt8).toNat = 255 from rfl, if_neg (by omega), if_neg (by omega), if_neg (by omega), if_neg (by omega)]
  have hb : brkL (255 :: l) = true := by
    unfold brkL
    rw [hd, if_pos rfl]
    simp
  exact ⟨⟨by simp, .inl hb⟩, by simp [faultOf, hb]⟩
theorem bad_00 (l : List UInt8) : bad (0 :: l) ∧ faultOf (0 :: l) = 11 := by
  have hd : dec (0 :: l) = (0, 1) := by
    rw [dec1]
    unfold decN
    rw [show (0 : UInt8).toNat = 0 from rfl, if_pos (by omega)]
  have hb : brkL (0 :: l) = false := by
    unfold brkL
    rw [hd]
    rfl
  have ho : okRune (dec (0 :: l)).1 = false := by
    rw [hd]; decide
  exact ⟨⟨by simp, .inr ho⟩, by simp [faultOf, hb]⟩
theorem ff_255 (zs : List Int) (raw : ByteArray) : check (txt zs ++ ⟨#[255]⟩ ++ raw) = (0, ((txt zs).size : Int), 10) := by
  have hb := bad_ff raw.data.toList
  have := check_fault (txt zs ++ ⟨#[255]⟩ ++ raw) (zs.map letR) (255 :: raw.data.toList) (by rw [append_list, append_list, txt_encs]; simp) (lets_ok zs) hb.1
  rw [this, hb.2, size_data, txt_encs]
theorem ff_0 (zs : List Int) (raw : ByteArray) : check (txt zs ++ ⟨#[0]⟩ ++ raw) = (0, ((txt zs).size : Int), 11) := by
  have hb := bad_00 raw.data.toList
  have := check_fault (txt zs ++ ⟨#[0]⟩ ++ raw) (zs.map letR) (0 :: raw.data.toList) (by rw [append_list, append_list, txt_encs]; simp) (lets_ok zs) hb.1
  rw [this, hb.2, size_data, txt_encs]
end Go.Proofs.YtfakfmmngflbfabDoor
