import Derived.Test.YtijpfbcippijoaaGreatDoorQlF
import Derived.Test.YtijpfbcippijoaaGreatDoorRefUnq
namespace Go.Proofs.YtijpfbcippijoaaGreatDoor
open Go.RowKit Go.Lib Sp
set_option maxRecDepth 100000
theorem bs_listk (l : List UInt8) : (bs l).data.toList = l := rfl
theorem bs_of (s : ByteArray) : bs s.data.toList = s := rfl
theorem bs_ext (l : List UInt8) (i k : Nat) : (bs l).extract i k = bs ((l.drop i).take (k - i)) := by
  rw [← bs_of ((bs l).extract i k), ext_mid, bs_listk]
def wordG (c : UInt8) (l : List UInt8) (i : Nat) : List UInt8 × Nat := if l.length < i then ([], l.length) else ((l.drop i).take (spanN c (l.drop i)), i + spanN c (l.drop i))
theorem wordG_le (c : UInt8) (l : List UInt8) (i : Nat) : (wordG c l i).1.length ≤ l.length ∧ (wordG c l i).2 ≤ l.length := by
  unfold wordG
  split
  · simp
  · have := spanN_le c (l.drop i)
    rw [List.length_drop] at this
    refine ⟨?_, by simp only; omega⟩
    simp only [List.length_take, List.length_drop]
    omega
theorem gWord_G (c : UInt8) (l : List UInt8) (hl : l.length ≤ 9223372036854775806) (i : Nat) (hi : i ≤ 9223372036854775807) (w : World) :
    Calls Tryz.prog 110 #[.string (bs l), .int .i64 (i : Int), .int .u8 (c.toNat : Int)] w fun e w' => e = .returned (.tuple #[.string (bs (wordG c l i).1), .int .i64 ((wordG c l i).2 : Int)]) ∧ w' = w := by
  unfold wordG
  split
  · rename_i h
    have := gWord_past (bs l) (by rw [bs_size]; omega) i (by rw [bs_size]; exact h) hi c w
    rw [bs_size] at this
    exact this
  · rename_i h
    have := gWord_any (bs l) (by rw [bs_size]; omega) i (by rw [bs_size]; omega) c w
    rw [bs_listk, bs_ext, Nat.add_sub_cancel_left] at this
    exact this
theorem gNumber_G (l : List UInt8) (hl : l.length ≤ 9223372036854775806) (w : World) :
    Calls Tryz.prog 112 #[.string (bs l)] w fun e w' => e = .returned (.int .i64 (numG l)) ∧ w' = w := gNumber_any (bs l) (by rw [bs_size]; omega) w
theorem gPair_G (c : UInt8) (l : List UInt8) (hl : l.length ≤ 9223372036854775806) (w : World) :
    Calls Tryz.prog 111 #[.string (bs l), .int .u8 (c.toNat : Int)] w fun e w' => e = .returned (.tuple #[.int .i64 (pairG c l).1, .int .i64 (pairG c l).2]) ∧ w' = w := gPair_any (bs l) (by rw [bs_size]; omega) c w
def idG (l : List UInt8) : Int × Int := if l = [45] then (0, 0) else pairG 46 l
def restG (l : List UInt8) (k : Nat) : List UInt8 := l.drop (k + 1)
end Go.Proofs.YtijpfbcippijoaaGreatDoor
