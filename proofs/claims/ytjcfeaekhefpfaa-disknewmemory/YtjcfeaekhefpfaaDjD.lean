import Derived.Test.YtjcfeaekhefpfaaDjA
/-! What DiskNewMemory's calls leave of its disks. -/
namespace Go.Proofs.Ytjcfeaekhefpfaa.Nm
open Go.RowKit Go.Lib Go.Sort Go.Shelf
set_option maxRecDepth 100000
def na : List UInt8 := [97]
def nb : List UInt8 := [98]
def nS0 (L : Nat) : Dk := ⟨L, [], false, 0, 0⟩
def nS1 (L : Nat) (s : Nat) (A : List UInt8) : Dk := ⟨L, [⟨na, A, s⟩], false, 0, 0⟩
def nS2 (L : Nat) (A Y : List UInt8) : Dk := ⟨L, [⟨na, A, 0⟩, ⟨nb, Y, 0⟩], false, 0, 0⟩
theorem na_ne : ¬ na = nb := by decide
theorem nb_ne : ¬ nb = na := by decide
theorem take_all {α : Type} (l : List α) (n : Nat) (h : l.length ≤ n) : l.take n = l := List.take_of_length_le h
theorem readyA (S : Dk) (h : S.down = false) : readyP S na = 0 := by
  unfold readyP
  rw [h]
  simp only [Bool.false_eq_true, if_false]
  decide
theorem readyB (S : Dk) (h : S.down = false) : readyP S nb = 0 := by
  unfold readyP
  rw [h]
  simp only [Bool.false_eq_true, if_false]
  decide
theorem nstep01 (L : Nat) (A : List UInt8) (h : A.length ≤ L) : (appP (nS0 L) na A).1 = nS1 L 0 A := by
  have ht : takeN (nS0 L) A.length = A.length := by
    simp only [takeN, nS0, used, List.map_nil, List.sum_nil]
    omega
  unfold appP appS
  rw [ht, take_all _ _ (Nat.le_refl _)]
  simp [nS0, nS1, growP, enter, growF]
theorem nstep12 (L : Nat) (A Y : List UInt8) (h : A.length + Y.length ≤ L) : (appP (nS1 L 0 A) nb Y).1 = nS2 L A Y := by
  have ht : takeN (nS1 L 0 A) Y.length = Y.length := by
    simp only [takeN, nS1, used, List.map_cons, List.map_nil, List.sum_cons, List.sum_nil]
    omega
  unfold appP appS
  rw [ht, take_all _ _ (Nat.le_refl _)]
  simp [nS1, nS2, growP, enter, growF, na_ne]
theorem nstep22 (L : Nat) (A Y Z : List UInt8) (h : A.length + Y.length + Z.length ≤ L) : (appP (nS2 L A Y) nb Z).1 = nS2 L A (Y ++ Z) := by
  have ht : takeN (nS2 L A Y) Z.length = Z.length := by
    simp only [takeN, nS2, used, List.map_cons, List.map_nil, List.sum_cons, List.sum_nil]
    omega
  unfold appP appS
  rw [ht, take_all _ _ (Nat.le_refl _)]
  simp [nS2, growP, enter, growF, na_ne]
theorem nstep11 (L s : Nat) (A Z : List UInt8) (h : A.length + Z.length ≤ L) : appP (nS1 L s A) na Z = (nS1 L s (A ++ Z), (Z.length : Int), 0) := by
  have ht : takeN (nS1 L s A) Z.length = Z.length := by
    simp only [takeN, nS1, used, List.map_cons, List.map_nil, List.sum_cons, List.sum_nil]
    omega
  unfold appP appS
  rw [ht, take_all _ _ (Nat.le_refl _)]
  simp [nS1, growP, enter, growF]
theorem nok0 (L : Nat) (h : L ≤ 1099511627776) : (nS0 L).Ok := ⟨h, by simp [nS0, used], by simp [nS0], by simp [nS0]⟩
theorem nok1 (L s : Nat) (A : List UInt8) (h : L ≤ 1099511627776) (h2 : A.length ≤ L) : (nS1 L s A).Ok := ⟨h, by simp [nS1, used]; exact h2, by simp [nS1], by simp [nS1]⟩
theorem nok2 (L : Nat) (A Y : List UInt8) (h : L ≤ 1099511627776) (h2 : A.length + Y.length ≤ L) : (nS2 L A Y).Ok := ⟨h, by simp [nS2, used]; exact h2, by simp [nS2], by simp [nS2]⟩
theorem nread (L : Nat) (A Y : List UInt8) : readP (nS2 L A Y) na 0 (A.length : Int) = (A, 0) := by
  have hf : findE (nS2 L A Y) na = 0 := by
    unfold findE
    rw [readyA _ rfl]
    simp [nS2, hasF]
  unfold readP
  rw [if_pos hf]
  have hb : bytesF (nS2 L A Y).fs na = A := by simp [nS2, bytesF]
  have hl : lenF (nS2 L A Y).fs na = A.length := by simp [nS2, lenF]
  rw [hb, hl, if_neg (by omega)]
  simp
end Go.Proofs.Ytjcfeaekhefpfaa.Nm
