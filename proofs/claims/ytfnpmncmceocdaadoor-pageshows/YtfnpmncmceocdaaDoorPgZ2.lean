import Derived.Test.YtfnpmncmceocdaaDoorPgT
/-! strings.TrimRight of blanks. -/
namespace Go.Proofs.YtfnpmncmceocdaaDoor
open Go.RowKit Go.Lib Go.Shelf
set_option maxRecDepth 100000

/-- Bytes without the blanks at their end. -/
def trimB (l : List UInt8) : List UInt8 := (l.reverse.dropWhile (fun b => b == 32)).reverse
theorem trimB_snoc (l : List UInt8) (b : UInt8) : trimB (l ++ [b]) = if b == 32 then trimB l else l ++ [b] := by
  unfold trimB
  rw [List.reverse_append]
  simp only [List.reverse_cons, List.reverse_nil, List.nil_append, List.cons_append, List.dropWhile_cons]
  split
  · rfl
  · simp
set_option maxHeartbeats 4000000 in
theorem trimByte_any (s : ByteArray) (hs : s.size ≤ 9223372036854775806) (w : World) :
    Calls Tryd.prog 44 #[.string s, .int .u8 32] w fun e w' => e = .returned (.string ⟨(trimB s.data.toList).toArray⟩) ∧ w' = w := by
  go_enter Tryd.func44, Tryd.ntmps44
  go_wp2_with fail
  go_loopw [0] (fun vs w' => ∃ t : ByteArray, vs = .string t ∧ t.size ≤ 9223372036854775806 ∧ trimB t.data.toList = trimB s.data.toList ∧ w' = w) (fun vs _ => match vs with | .string t => t.size | _ => 0)
  case atStart => exact ⟨s, rfl, hs, rfl, rfl⟩
  case round =>
    obtain ⟨t, rfl, ht, he, rfl⟩ := hrel
    by_cases h0 : t.size = 0
    · have z1 : decide ((t.size : Int) > 0) = false := decide_eq_false (by omega)
      have z2 : decide (0 < t.size) = false := decide_eq_false (by omega)
      have hE : t.data.toList = [] := by
        rw [← List.length_eq_zero_iff, ← size_data]
        exact h0
      have HE : Hid ((⟨(trimB s.data.toList).toArray⟩ : ByteArray) = t) := by
        show _ = _
        rw [← he, hE]
        cases t with
        | mk d =>
          have : d.toList = [] := hE
          simp [trimB]
          exact (Array.toList_inj.1 (by simpa using this)).symm
      clear he hE
      go_wp2_with fail
      go_ret
      exact ⟨congrArg (fun b => Ending.returned (.string b)) HE.out.symm, rfl⟩
    · have z1 : decide ((t.size : Int) > 0) = true := decide_eq_true (by omega)
      have z2 : decide (0 < t.size) = true := decide_eq_true (by omega)
      obtain ⟨n, hn⟩ : ∃ n, t.size = n + 1 := ⟨t.size - 1, by omega⟩
      have hl : t.data.toList.length = n + 1 := by rw [← size_data, hn]
      have hlt : n < t.size := by omega
      have hsp : t.data.toList = t.data.toList.take n ++ [t[n]'hlt] := by
        have hx : t.data.toList[n]'(by omega) = t[n]'hlt := by
          rw [Array.getElem_toList]
          rfl
        rw [← hx, List.take_append_getElem, List.take_of_length_le (by omega)]
      have hex : (t.extract 0 n).data.toList = t.data.toList.take n := by rw [extract_list, List.drop_zero]
      have hez : (t.extract 0 n).size = n := by rw [size_data, hex, List.length_take]; omega
      by_cases hb : t[n]'hlt = 32
      · have z3 : (((t[n]'hlt).toNat : Int) == 32) = true := by rw [hb]; decide
        have HT : Hid (trimB (t.extract 0 n).data.toList = trimB s.data.toList) := by
          show _ = _
          rw [hex, ← he]
          conv => rhs; rw [hsp, hb, trimB_snoc]
          rw [if_pos (by decide)]
        have HS : Hid ((t.extract 0 n).size = n) := hez
        clear he hsp hl hex hez hb
        go_wp2_with fail
        case roundEnd =>
          refine ⟨⟨_, rfl, by rw [HS.out]; omega, HT.out, trivial⟩, ?_⟩
          show (t.extract 0 n).size < t.size
          rw [HS.out]
          omega
      · have z3 : (((t[n]'hlt).toNat : Int) == 32) = false := by
          rw [beq_eq_false_iff_ne]
          intro h
          exact hb (UInt8.toNat_inj.1 (by have : (32 : UInt8).toNat = 32 := rfl; omega))
        have HE : Hid ((⟨(trimB s.data.toList).toArray⟩ : ByteArray) = t) := by
          show _ = _
          have : trimB s.data.toList = t.data.toList := by
            rw [← he, hsp, trimB_snoc, if_neg (by simpa using hb)]
          rw [this]
        clear he hsp hl hex hez hb
        go_wp2_with fail
        go_ret
        exact ⟨congrArg (fun b => Ending.returned (.string b)) HE.out.symm, rfl⟩
set_option maxHeartbeats 4000000 in
theorem trimRight_any (s : ByteArray) (hs : s.size ≤ 9223372036854775806) (w : World) :
    Calls Tryd.prog 31 #[.string s, .string ⟨#[32]⟩] w fun e w' => e = .returned (.string ⟨(trimB s.data.toList).toArray⟩) ∧ w' = w := by
  go_enter Tryd.func31, Tryd.ntmps31
  by_cases h0 : s.size = 0
  · have hE : s = ⟨#[]⟩ := by
      cases s with
      | mk d =>
        have : d.toList = [] := by rw [← List.length_eq_zero_iff]; exact h0
        exact congrArg ByteArray.mk (Array.toList_inj.1 this)
    subst hE
    go_wp2_with fail
    go_ret
    exact ⟨rfl, rfl⟩
  · have hE : s.toList.isEmpty = false := by
      rw [Go.ByteArray.toList_eq]
      cases hx : s.data.toList with
      | nil => exact absurd (by rw [size_data, hx]; rfl) h0
      | cons a b => rfl
    go_wp2_with fail
    refine (trimByte_any _ hs _).mono ?_
    rintro e w' ⟨rfl, hwe⟩
    obtain rfl := hwe.symm
    clear hwe
    go_wp2_with fail
    go_ret
    exact ⟨rfl, rfl⟩
end Go.Proofs.YtfnpmncmceocdaaDoor
