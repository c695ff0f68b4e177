import Derived.Test.YtnbedohlgghhdaaDoorQuo
import Derived.Laws.IdiomStrings
import Derived.Deep.DeepCutAuto
namespace Go.Proofs.YtnbedohlgghhdaaDoor
open Go.RowKit Go.Lib

def lowN (n : Nat) : Nat := if n / 32 % 2 = 1 then n else n + 32
theorem low_bits (n : Nat) (h : n < 256) : bits .or .u8 (n : Int) 32 = (lowN n : Int) := by
  have : ∀ m : Fin 256, bits .or .u8 ((m.val : Nat) : Int) 32 = (lowN m.val : Int) := by decide +kernel
  exact this ⟨n, h⟩
theorem lowN_lt (n : Nat) (h : n < 256) : lowN n < 256 := by unfold lowN; split <;> omega
set_option maxHeartbeats 400000 in
theorem lower_any (n : Nat) (h : n < 256) (w : World) : Calls Tryd.prog 93 #[.int .u8 n] w fun e w' => e = .returned (.int .u8 (lowN n)) ∧ w' = w := by
  have hb := low_bits n h
  go_enter Tryd.func93, Tryd.ntmps93
  go_wp2_with fail
  go_ret
  exact ⟨rfl, rfl⟩
/-- The number of a digit, capital letters too; the number of a row of digits, up to a greatest one. -/
def hexV (n : Nat) : Option Nat := if 48 ≤ n ∧ n ≤ 57 then some (n - 48) else if 97 ≤ lowN n ∧ lowN n ≤ 102 then some (lowN n - 87) else none
def pu (max : Nat) : Nat → List UInt8 → Option Nat
  | n, [] => some n
  | n, c :: t => match hexV c.toNat with
    | none => none
    | some d => if 16 * n + d ≤ max then pu max (16 * n + d) t else none
theorem hexV_lt {n d : Nat} (h : hexV n = some d) : d < 16 := by
  unfold hexV at h
  split at h
  · simp at h; omega
  · split at h
    · simp at h; omega
    · simp at h

theorem cell_bytes (s : ByteArray) (w : World) (cap : Nat) (T : TypeId) (fz : Nat × Nat) (j : Nat) (hj : j < s.size) : (w.alloc (.cells (bytesRow s cap) T fz)).cell? ⟨w.heap.size, j, none⟩ = some (.int .u8 ((s.data.toList.getD j 0).toNat : Int)) := by
  have hj2 : j < s.data.size := hj
  rw [World.cell?_alloc_mark, bytesRow_at s cap j hj2, List.getD_eq_getElem?_getD, Array.getElem?_toList, Array.getElem?_eq_getElem hj2]
  rfl
theorem pu_step {mx nv j : Nat} {l : List UInt8} (hj : j < l.length) : pu mx nv (l.drop j) = match hexV (l.getD j 0).toNat with
    | none => none
    | some d => if 16 * nv + d ≤ mx then pu mx (16 * nv + d) (l.drop (j + 1)) else none := by
  rw [List.drop_eq_getElem_cons hj, pu, List.getD_eq_getElem?_getD, List.getElem?_eq_getElem hj]
  rfl
theorem size_ne (s : ByteArray) (h : 0 < s.size) : (s.toList == []) = false := by
  rw [beq_eq_false_iff_ne]
  intro e
  have h2 : s.toList = s.data.toList := ByteArray.toList_eq _
  rw [h2] at e
  have h3 := size_data s
  rw [e, List.length_nil] at h3
  omega

end Go.Proofs.YtnbedohlgghhdaaDoor
