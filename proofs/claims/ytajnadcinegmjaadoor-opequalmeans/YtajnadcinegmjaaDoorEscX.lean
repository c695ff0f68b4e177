import Derived.Test.YtajnadcinegmjaaDoorParsX
import Derived.Test.YtajnadcinegmjaaDoorClone
import Derived.Lib.Bytealg
import Derived.Deep.RegionWith
import Derived.Deep.DeepCutAuto
import Derived.Deep.QuietTactic
import Derived.BigQuiet
import Derived.BigRegion
import Derived.WalkSpells
namespace Go.Proofs.YtajnadcinegmjaaDoor
open Go.RowKit Go.Lib

def okV (r : Int) : Bool := decide (r < 55296 ∨ (57343 < r ∧ r ≤ 1114111))
end Go.Proofs.YtajnadcinegmjaaDoor

namespace Go.Proofs.YtajnadcinegmjaaDoor
open Go.RowKit Go.Lib

theorem ext_list (s : ByteArray) (i j : Nat) : (s.extract i j).data.toList = (s.data.toList.take j).drop i := by
  rw [ByteArray.data_extract, Array.toList_extract]
  simp [List.extract, List.drop_take]

theorem pu_le {mx : Nat} : ∀ {l : List UInt8} {n v : Nat}, pu mx n l = some v → n ≤ mx → v ≤ mx
  | [], n, v, h, hn => by
    simp [pu] at h
    omega
  | c :: t, n, v, h, hn => by
    rw [pu] at h
    split at h
    · simp at h
    · split at h
      · rename_i h2
        exact pu_le h h2
      · simp at h
/-- What an escape that opens a row of bytes means, and its width; a width of 0: it is none. -/
def byteL2 (l : List UInt8) : List UInt8 × Nat :=
  if l.length < 4 then ([], 0) else match pu 255 0 ((l.take 4).drop 2) with
    | some v => ([UInt8.ofNat v], 4)
    | none => ([], 0)
theorem pre_u (s : ByteArray) : pre s ⟨#[92, 117, 123]⟩ = (s.data.toList.take 3 == [92, 117, 123]) := by
  have e3 : (⟨#[92, 117, 123]⟩ : ByteArray).size = 3 := rfl
  have e6 : (⟨#[92, 117, 123]⟩ : ByteArray).toList = [92, 117, 123] := by rw [Go.ByteArray.toList_eq]
  have e7 : (s.extract 0 3).toList = s.data.toList.take 3 := by
    rw [Go.ByteArray.toList_eq, extract_list]; rfl
  have e8 : s.size = s.data.toList.length := size_data s
  unfold pre
  rw [e3, e6, e7, e8]
  split
  · rfl
  · rw [eq_comm, beq_eq_false_iff_ne]
    intro e
    have := congrArg List.length e
    simp at this
    simp at *
    omega
/-- The same of a rune by its number. -/
def runeL2 (l : List UInt8) : List UInt8 × Nat :=
  if Lib.indexByte l 125 < 0 then ([], 0) else if (l.take 3 == [92, 117, 123]) = false then ([], 0) else if Lib.indexByte l 125 = 3 then ([], 0) else
  match pu 2147483647 0 ((l.take (Lib.indexByte l 125).toNat).drop 3) with
    | none => ([], 0)
    | some v => if okV v = true then (encB v, (Lib.indexByte l 125).toNat + 1) else ([], 0)
theorem index_lt (l : List UInt8) (c : UInt8) : Lib.indexByte l c < l.length ∨ Lib.indexByte l c = -1 := by
  induction l with
  | nil => right; rfl
  | cons b l ih =>
    rw [Lib.indexByte]
    split
    · left; simp
    · split
      · right; rfl
      · rename_i h2
        have : Lib.indexByte l c ≠ -1 := by simpa using h2
        left
        rcases ih with h | h
        · simp; omega
        · exact absurd h this
theorem index_prefix (l : List UInt8) (h : l.take 3 = [92, 117, 123]) : 3 ≤ Lib.indexByte l 125 ∨ Lib.indexByte l 125 = -1 := by
  obtain ⟨rest, rfl⟩ := take_of_cons3 h
  have h1 := Lib.indexByte_ge rest 125
  have e : Lib.indexByte (92 :: 117 :: 123 :: rest) 125 = if Lib.indexByte rest 125 == -1 then -1 else Lib.indexByte rest 125 + 1 + 1 + 1 := by
    simp only [Lib.indexByte, show ((92 : UInt8) == 125) = false from rfl, show ((117 : UInt8) == 125) = false from rfl, show ((123 : UInt8) == 125) = false from rfl]
    by_cases h2 : Lib.indexByte rest 125 = -1
    · rw [h2]; rfl
    · have t1 : (Lib.indexByte rest 125 == -1) = false := beq_eq_false_iff_ne.2 h2
      have t2 : (Lib.indexByte rest 125 + 1 == -1) = false := beq_eq_false_iff_ne.2 (by omega)
      have t3 : (Lib.indexByte rest 125 + 1 + 1 == -1) = false := beq_eq_false_iff_ne.2 (by omega)
      simp [t1, t2, t3]
  rw [e]
  split
  · right; rfl
  · rename_i h2
    have : Lib.indexByte rest 125 ≠ -1 := by simpa using h2
    left; omega

theorem size_zero (s : ByteArray) (h : s.size = 0) : (s.toList == []) = true := by
  have h2 : s.toList = s.data.toList := ByteArray.toList_eq _
  have h3 := size_data s
  rw [h] at h3
  have h4 : s.data.toList = [] := List.length_eq_zero_iff.1 h3.symm
  rw [h2, h4]
  rfl
end Go.Proofs.YtajnadcinegmjaaDoor

namespace Go.Proofs.YtajnadcinegmjaaDoor
open Go.RowKit Go.Lib

theorem byteAt1 (s : ByteArray) (h : 1 < s.size) : ∀ h', (s[1]'h').toNat = at0 s.data.toList 1 := by
  intro h'
  have h2 : 1 < s.data.size := h
  have e : s[1]'h' = s.data[1]'h2 := rfl
  rw [e]
  unfold at0
  rw [List.getD_eq_getElem?_getD, Array.getElem?_toList, Array.getElem?_eq_getElem h2]
  rfl
theorem ext12 (s : ByteArray) (h : 1 < s.size) : s.extract 1 2 = ⟨[UInt8.ofNat (at0 s.data.toList 1)].toArray⟩ := by
  have h2 : (s.extract 1 2).data.toList = [UInt8.ofNat (at0 s.data.toList 1)] := by
    rw [ext_list]
    have h3 : 1 < s.data.toList.length := by rw [← size_data]; exact h
    match hl : s.data.toList, h3 with
    | a :: b :: t, _ =>
      show [b] = [UInt8.ofNat b.toNat]
      simp
  apply ByteArray.ext
  apply Array.toList_inj.1
  rw [h2]
theorem encB_most (r : Int) : (encB r).length ≤ 4 := by
  rw [encB_is, ← size_data]
  exact encode_size_le _
/-- What an escape means, and its width. -/
def escL (l : List UInt8) : List UInt8 × Nat :=
  if l.length < 2 then ([], 0) else if at0 l 1 = 34 then ([34], 2) else if at0 l 1 = 92 then ([92], 2) else if at0 l 1 = 110 then ([10], 2) else if at0 l 1 = 116 then ([9], 2)
  else if at0 l 1 = 120 then byteL2 l else if at0 l 1 = 117 then runeL2 l else ([], 0)
theorem byteL2_len (l : List UInt8) : (byteL2 l).1.length ≤ 4 ∧ (byteL2 l).2 ≤ l.length := by
  unfold byteL2
  split
  · simp
  · split <;> simp <;> omega
theorem runeL2_len (l : List UInt8) : (runeL2 l).1.length ≤ 4 ∧ (runeL2 l).2 ≤ l.length := by
  unfold runeL2
  split
  · simp
  · rename_i h0
    split
    · simp
    · split
      · simp
      · split
        · simp
        · split
          · rename_i v _ _
            have h1 := index_lt l 125
            have hb := encB_most (v : Int)
            generalize encB (v : Int) = bs at *
            exact ⟨hb, by simp; omega⟩
          · simp
theorem escL_len (l : List UInt8) : (escL l).1.length ≤ 4 ∧ (escL l).2 ≤ l.length := by
  unfold escL
  split
  · simp
  · split
    · simp; omega
    · split
      · simp; omega
      · split
        · simp; omega
        · split
          · simp; omega
          · split
            · exact byteL2_len l
            · split
              · exact runeL2_len l
              · simp

/-- What a quoted form that opens a row of bytes would mean, and how many bytes it is. -/
def rdL : Nat → List UInt8 → List UInt8 → Nat → Option (List UInt8 × Nat)
  | 0, _, _, _ => none
  | f + 1, acc, l, n => if l = [] then none else if at0 l 0 = 34 then some (acc, n + 1)
    else if at0 l 0 = 92 then (if (escL l).2 = 0 then none else rdL f (acc ++ (escL l).1) (l.drop (escL l).2) (n + (escL l).2))
    else rdL f (acc ++ [UInt8.ofNat (at0 l 0)]) (l.drop 1) (n + 1)
def readL (l : List UInt8) : Option (List UInt8 × Nat) := if l.take 1 = [34] then rdL l.length [] (l.drop 1) 1 else none
theorem rdL_end (f : Nat) (acc : List UInt8) (n : Nat) : rdL f acc [] n = none := by
  cases f
  · rfl
  · rw [rdL, if_pos rfl]
theorem pre_q (s : ByteArray) : pre s ⟨#[34]⟩ = decide (s.data.toList.take 1 = [34]) := by
  have e3 : (⟨#[34]⟩ : ByteArray).size = 1 := rfl
  have e6 : (⟨#[34]⟩ : ByteArray).toList = [34] := by rw [Go.ByteArray.toList_eq]
  have e7 : (s.extract 0 1).toList = s.data.toList.take 1 := by
    rw [Go.ByteArray.toList_eq, extract_list]; rfl
  have e8 : s.size = s.data.toList.length := size_data s
  unfold pre
  rw [e3, e6, e7, e8]
  split
  · exact Bool.eq_iff_iff.2 (by simp)
  · rename_i h
    rw [eq_comm, decide_eq_false_iff_not]
    intro e
    have := congrArg List.length e
    rw [List.length_take, List.length_singleton] at this
    omega

end Go.Proofs.YtajnadcinegmjaaDoor

namespace Go.Proofs.YtajnadcinegmjaaDoor
open Go.RowKit Go.Lib

/-- What Unquote answers. -/
def unqL (l : List UInt8) : List UInt8 × Nat × Int := match readL l with
  | some (x, n) => if quoted ⟨x.toArray⟩ = l.take n then (x, n, 0) else ([], 0, 13)
  | none => ([], 0, 13)
theorem list_of (l : List UInt8) : (⟨l.toArray⟩ : ByteArray).toList = l := by rw [Go.ByteArray.toList_eq]
theorem take_of (s : ByteArray) (n : Nat) : (s.extract 0 n).toList = s.data.toList.take n := by rw [Go.ByteArray.toList_eq, extract_list]; rfl

theorem below_dw {B : Nat} {w W : World} (h : Below B w W) : Below B w W.drew := h.trans ⟨rfl, rfl, rfl, Nat.le_refl _, fun _ _ => rfl⟩
theorem Deb.dw {w : World} (h : Deb w) : Deb w.drew := ⟨h.cell⟩

end Go.Proofs.YtajnadcinegmjaaDoor
