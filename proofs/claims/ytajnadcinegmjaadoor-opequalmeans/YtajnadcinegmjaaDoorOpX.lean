import Derived.Lib.AtoiAll
import Derived.Test.YtajnadcinegmjaaDoorOpN
import Derived.Test.YtajnadcinegmjaaDoorEscX
namespace Go.Proofs.YtajnadcinegmjaaDoor
open Go.RowKit Go.Lib Sp
set_option maxRecDepth 100000

/-- strings.Cut at a sign of one byte. -/
def cut1 (l : List UInt8) (c : UInt8) : List UInt8 × List UInt8 × Bool :=
  if Lib.indexByte l c < 0 then (l, [], false) else (l.take (Lib.indexByte l c).toNat, l.drop ((Lib.indexByte l c).toNat + 1), true)
theorem cut1_le (l : List UInt8) (c : UInt8) : (cut1 l c).1.length ≤ l.length ∧ (cut1 l c).2.1.length ≤ l.length := by
  unfold cut1
  split
  · simp
  · simp only [List.length_take, List.length_drop]; omega
theorem cut1_more {l : List UInt8} {c : UInt8} (h : (cut1 l c).2.2 = true) : (cut1 l c).2.1.length < l.length := by
  unfold cut1 at h ⊢
  split at h
  · cases h
  · rename_i h2
    rw [if_neg h2]
    rcases index_lt l c with h3 | h3
    · simp only [List.length_drop]; omega
    · omega
theorem bs_id (s : ByteArray) : bs s.data.toList = s := by cases s; simp [bs]
theorem bs_list (l : List UInt8) : (bs l).data.toList = l := by simp [bs]
theorem bs_take (l : List UInt8) (n : Nat) : (bs l).extract 0 n = bs (l.take n) := by
  rw [← bs_id ((bs l).extract 0 n), extract_list, bs_list]; rfl
theorem bs_drop (l : List UInt8) (n : Nat) : (bs l).extract n (bs l).size = bs (l.drop n) := by
  rw [← bs_id ((bs l).extract n (bs l).size), extract_list, bs_list, bs_size, List.take_length]

/-- What readNumber reads. -/
def numP (l : List UInt8) : Int := match Lib.atoiAll l with
  | .ok v => v
  | _ => -1
def idP (l : List UInt8) : Int × Int := if l = [45] then (0, 0) else (numP (cut1 l 46).1, numP (cut1 l 46).2.1)
end Go.Proofs.YtajnadcinegmjaaDoor
