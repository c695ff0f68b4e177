import Derived.Test.YtelcjhflopgojaaDoorMkB
import Derived.Test.YtelcjhflopgojaaDoorClone
/-! Names; strings.Clone. -/
namespace Go.Proofs.YtelcjhflopgojaaDoor
open Go.RowKit Go.Lib
set_option maxRecDepth 100000

def inN (n : Nat) : Bool := (decide (97 ≤ n) && decide (n ≤ 122)) || (decide (48 ≤ n) && decide (n ≤ 57)) || decide (n = 46) || decide (n = 45) || decide (n = 95)
def nameOk (l : List UInt8) : Bool := decide (l.length ≠ 0) && decide (l.length ≤ 32) && l.all (fun c => inN c.toNat)
set_option maxHeartbeats 2000000 in
theorem inName_any (n : Nat) (w : World) : Calls Tryd.prog 16 #[.int .u8 (n : Int)] w fun e w' => e = .returned (.bool (inN n)) ∧ w' = w := by
  obtain ⟨r, hr⟩ : ∃ r, inN n = r := ⟨_, rfl⟩
  rw [hr]
  have H : Hid (inN n = r) := hr
  clear hr
  go_enter Tryd.func16, Tryd.ntmps16
  by_cases h1 : (97 : Int) ≤ (n : Int) <;> by_cases h2 : (n : Int) ≤ 122 <;> by_cases h3 : (48 : Int) ≤ (n : Int) <;> by_cases h4 : (n : Int) ≤ 57 <;> by_cases h5 : (n : Int) = 46 <;> by_cases h6 : (n : Int) = 45 <;> by_cases h7 : (n : Int) = 95 <;> first
    | (exfalso; omega)
    | ((first | have a1 := decide_eq_true h1 | have a1 := decide_eq_false h1)
       (first | have a5 : ((n : Int) == 46) = true := beq_iff_eq.2 h5 | have a5 : ((n : Int) == 46) = false := beq_eq_false_iff_ne.2 h5)
       (first | have a6 : ((n : Int) == 45) = true := beq_iff_eq.2 h6 | have a6 : ((n : Int) == 45) = false := beq_eq_false_iff_ne.2 h6)
       (first | have a7 : ((n : Int) == 95) = true := beq_iff_eq.2 h7 | have a7 : ((n : Int) == 95) = false := beq_eq_false_iff_ne.2 h7)
       go_wp2_with fail
       go_ret
       refine ⟨?_, rfl⟩
       rw [← H.out]
       first
         | (rw [show inN n = true by (unfold inN; simp only [Bool.or_eq_true, Bool.and_eq_true, decide_eq_true_eq]; omega)]; rfl)
         | (rw [show inN n = false by (unfold inN; simp only [Bool.or_eq_false_iff, Bool.and_eq_false_iff, decide_eq_false_iff_not]; omega)]; rfl))
set_option maxHeartbeats 2000000 in
theorem isName_any (l : List UInt8) (hl : l.length ≤ 9223372036854775807) (w : World) : Calls Tryd.prog 10 #[.string ⟨l.toArray⟩] w fun e w' => e = .returned (.bool (nameOk l)) ∧ w' = w := by
  have hsz : (⟨l.toArray⟩ : ByteArray).size = l.length := by simp [ByteArray.size]
  have hx0 : ∀ (w : World) (j : Nat) (c : UInt8), l[j]? = some c → (Instr.index 9 (.string ⟨l.toArray⟩) (.int .i64 (j : Int))).run Tryd.prog w = .ok (.int .u8 (c.toNat : Int)) w := fun w j c hc => by
    obtain ⟨hj, rfl⟩ := List.getElem?_eq_some_iff.1 hc
    rw [run_index_string w 9 _ .i64 _ Tryd.underlying9, dif_pos (by constructor <;> omega)]
    rfl
  obtain ⟨r, hr⟩ : ∃ r, nameOk l = r := ⟨_, rfl⟩
  rw [hr]
  have H : Hid (nameOk l = r) := hr
  have HI : Hid (∀ (n : Nat) (w : World), Calls Tryd.prog 16 #[.int .u8 (n : Int)] w fun e w' => e = .returned (.bool (inN n)) ∧ w' = w) := inName_any
  have HX : Hid (∀ (w : World) (j : Nat) (c : UInt8), l[j]? = some c → (Instr.index 9 (.string ⟨l.toArray⟩) (.int .i64 (j : Int))).run Tryd.prog w = .ok (.int .u8 (c.toNat : Int)) w) := hx0
  clear hr hx0
  generalize (⟨l.toArray⟩ : ByteArray) = s at *
  have HZ : Hid (s.size = l.length) := hsz
  clear hsz
  have hsz := HZ.out
  by_cases h0 : l.length = 0
  · have b0 : ((s.size : Int) == 0) = true := by rw [hsz, h0]; rfl
    have hr : r = false := by rw [← H.out]; unfold nameOk; simp [h0]
    subst hr
    clear hsz h0
    go_enter Tryd.func10, Tryd.ntmps10
    go_wp2_with fail
    go_ret
    exact ⟨rfl, rfl⟩
  · have b0 : ((s.size : Int) == 0) = false := beq_eq_false_iff_ne.2 (by rw [hsz]; omega)
    by_cases h1 : l.length ≤ 32
    · have b1 : ¬ ((32 : Int) < (s.size : Int)) := by rw [hsz]; omega
      have hs2 : s.size ≤ 32 := by omega
      clear hsz
      have HL : Hid (¬ l.length = 0 ∧ l.length ≤ 32) := ⟨h0, h1⟩
      clear h0 h1
      go_enter Tryd.func10, Tryd.ntmps10
      go_wp2_with fail
      go_loopw [14] (fun v wr => ∃ j : Nat, j ≤ s.size ∧ v = .int .i64 (j : Int) ∧ wr = w ∧ Hid (∀ c ∈ l.take j, inN c.toNat = true)) (fun v _ => s.size - (RowKit.intOf v).toNat)
      case atStart => exact ⟨0, Nat.zero_le _, rfl, rfl, fun c hc => by simp at hc⟩
      case round =>
        obtain ⟨j, hj, rfl, rfl, hc⟩ := hrel
        by_cases hlt2 : j < s.size
        · have hlt : j < l.length := by rw [← HZ.out]; exact hlt2
          have hk : (j : Int) < (s.size : Int) := by omega
          have HLT : Hid (j < l.length) := hlt
          obtain ⟨c, hcc⟩ : ∃ c, l[j] = c := ⟨_, rfl⟩
          have HCC : Hid (l[j]? = some c) := by rw [← hcc]; exact List.getElem?_eq_getElem hlt
          have hx := HX.out wr j c HCC.out
          clear hcc hlt
          cases hb : inN c.toNat with
          | true =>
            have hb2 : Hid (inN c.toNat = true) := hb
            have HI2 := HI.out c.toNat wr
            rw [hb] at HI2
            clear hb
            go_wp2_with fail
            refine HI2.mono ?_
            rintro e w1 ⟨rfl, rfl⟩
            go_wp2_with fail
            go_roundw
            case rel =>
              refine ⟨j + 1, by omega, by go_num, trivial, fun d hc2 => ?_⟩
              rw [List.take_add_one, HCC.out] at hc2
              rcases List.mem_append.1 hc2 with h | h
              · exact hc.out d h
              · simp at h; subst h; exact hb2.out
            case measure => simp [RowKit.intOf]; omega
          | false =>
            have hr : r = false := by
              rw [← H.out]; unfold nameOk
              have : l.all (fun c => inN c.toNat) = false := by
                rw [List.all_eq_false]
                exact ⟨c, List.mem_of_getElem? HCC.out, by simp [hb]⟩
              simp [this]
            subst hr
            have HI2 := HI.out c.toNat wr
            rw [hb] at HI2
            clear hb
            go_wp2_with fail
            refine HI2.mono ?_
            rintro e w1 ⟨rfl, rfl⟩
            go_wp2_with fail
            go_ret
            exact ⟨rfl, rfl⟩
        · obtain rfl : j = s.size := by omega
          have hk : ¬ ((s.size : Int) < (s.size : Int)) := by omega
          have hr : r = true := by
            rw [← H.out]; unfold nameOk
            have : l.all (fun c => inN c.toNat) = true := by
              rw [List.all_eq_true]
              intro c hc2
              exact hc.out c (by rw [HZ.out, List.take_length]; exact hc2)
            have := HL.out; simp [*]
          subst hr
          go_wp2_with fail
          go_ret
          exact ⟨rfl, rfl⟩
    · have b1 : (32 : Int) < (s.size : Int) := by rw [hsz]; omega
      have hr : r = false := by rw [← H.out]; unfold nameOk; simp [h1]
      subst hr
      clear hsz h1
      go_enter Tryd.func10, Tryd.ntmps10
      go_wp2_with fail
      go_ret
      exact ⟨rfl, rfl⟩
theorem clone_run (nm : List UInt8) (hl : nm.length ≤ 281474976710656) (w : World) : Calls Tryd.prog 17 #[.string ⟨nm.toArray⟩] w fun e w' => e = .returned (.string ⟨nm.toArray⟩) ∧ Below w.heap.size w w' := by
  have HC : Hid (Calls Tryd.prog 25 #[.string ⟨nm.toArray⟩] w fun e w' => e = .returned (.string ⟨nm.toArray⟩) ∧ Below w.heap.size w w') := Tryd.clone_any _ w (by simpa [ByteArray.size] using hl)
  clear hl
  generalize (⟨nm.toArray⟩ : ByteArray) = s at *
  go_enter Tryd.func17, Tryd.ntmps17
  go_wp2_with fail
  refine HC.out.mono ?_
  rintro e w1 ⟨rfl, hb⟩
  have HB : Hid (Below w.heap.size w w1) := hb
  clear hb
  go_wp2_with fail
  go_ret
  exact ⟨rfl, HB.out⟩
end Go.Proofs.YtelcjhflopgojaaDoor
