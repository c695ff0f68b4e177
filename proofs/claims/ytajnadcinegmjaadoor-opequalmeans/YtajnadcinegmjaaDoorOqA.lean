import Derived.Test.YtajnadcinegmjaaDoorOpZ
import Derived.Test.YtajnadcinegmjaaDoorOpW
namespace Go.Proofs.YtajnadcinegmjaaDoor
open Go.RowKit Go.Lib Sp
set_option maxRecDepth 100000

def zeroOp : OpV := ⟨0, 0, 0, 0, ⟨#[]⟩, [], 0, 0, false⟩
def Taken (l : List UInt8) : Prop := ownP (readP l) = 0 ∧ printP (readP l) = l
theorem rdL_le : ∀ (f : Nat) (acc l : List UInt8) (n : Nat) (x : List UInt8) (m : Nat), rdL f acc l n = some (x, m) → m ≤ n + l.length ∧ x.length ≤ acc.length + 4 * l.length
  | 0, acc, l, n, x, m, h => by simp [rdL] at h
  | f + 1, acc, l, n, x, m, h => by
    rw [rdL] at h
    split at h
    · simp at h
    · rename_i h0
      have hl : 1 ≤ l.length := by
        cases l with
        | nil => exact absurd rfl h0
        | cons a t => simp
      split at h
      · simp only [Option.some.injEq, Prod.mk.injEq] at h
        obtain ⟨rfl, rfl⟩ := h
        omega
      · split at h
        · split at h
          · simp at h
          · have h1 := rdL_le f _ _ _ _ _ h
            have h2 := escL_len l
            rw [List.length_drop, List.length_append] at h1
            omega
        · have h1 := rdL_le f _ _ _ _ _ h
          rw [List.length_drop, List.length_append, List.length_singleton] at h1
          omega
theorem readL_le {l x : List UInt8} {n : Nat} (h : readL l = some (x, n)) : n ≤ l.length ∧ x.length ≤ 4 * l.length := by
  unfold readL at h
  split at h
  · rename_i h0
    have h1 := rdL_le _ _ _ _ _ _ h
    rw [List.length_drop] at h1
    have h2 := congrArg List.length h0
    rw [List.length_take, List.length_singleton] at h2
    rw [List.length_nil] at h1
    omega
  · simp at h
theorem unqL_len (l : List UInt8) : (unqL l).1.length ≤ 4 * l.length := by
  unfold unqL
  cases h : readL l with
  | none => simp
  | some p =>
    obtain ⟨x, n⟩ := p
    simp only
    split
    · exact (readL_le h).2
    · simp
theorem readP_size (l : List UInt8) : (readP l).s.size ≤ 4 * l.length := by
  unfold readP readW
  have h1 := (cut1_le l 32).2
  have h2 := (cut1_le (cut1 l 32).2.1 32).2
  split
  · have h3 := (cut1_le (cut1 (cut1 l 32).2.1 32).2.1 32).2
    have h4 := unqL_len (cut1 (cut1 (cut1 l 32).2.1 32).2.1 32).2.1
    simp only [bs_size]
    omega
  all_goals
    repeat' split
    all_goals exact Nat.zero_le _

theorem set9g {W : World} {b : Nat} {T : TypeId} {u0 u1 u2 u3 u4 u5 u6 u7 u8 v0 v1 v2 v3 v4 v5 v6 v7 v8 : Value} (h : W.heap[b]? = some (.cells #[u0, u1, u2, u3, u4, u5, u6, u7, u8] T)) :
    (((((((((W.setCell ⟨b, 0, none⟩ v0).setCell ⟨b, 1, none⟩ v1).setCell ⟨b, 2, none⟩ v2).setCell ⟨b, 3, none⟩ v3).setCell ⟨b, 4, none⟩ v4).setCell ⟨b, 5, none⟩ v5).setCell ⟨b, 6, none⟩ v6).setCell ⟨b, 7, none⟩ v7).setCell ⟨b, 8, none⟩ v8).heap[b]? = some (.cells #[v0, v1, v2, v3, v4, v5, v6, v7, v8] T) := by
  have h0 := (heap_setCell_same _ b 0 _ _ v0 h).trans (by simp; rfl)
  have h1 := (heap_setCell_same _ b 1 _ _ v1 h0).trans (by simp; rfl)
  have h2 := (heap_setCell_same _ b 2 _ _ v2 h1).trans (by simp; rfl)
  have h3 := (heap_setCell_same _ b 3 _ _ v3 h2).trans (by simp; rfl)
  have h4 := (heap_setCell_same _ b 4 _ _ v4 h3).trans (by simp; rfl)
  have h5 := (heap_setCell_same _ b 5 _ _ v5 h4).trans (by simp; rfl)
  have h6 := (heap_setCell_same _ b 6 _ _ v6 h5).trans (by simp; rfl)
  have h7 := (heap_setCell_same _ b 7 _ _ v7 h6).trans (by simp; rfl)
  have h8 := (heap_setCell_same _ b 8 _ _ v8 h7).trans (by simp; rfl)
  exact h8

end Go.Proofs.YtajnadcinegmjaaDoor
