import Derived.Test.YtjnglghhcbdpmaaSpInt
namespace Go.Proofs.Ytjnglghhcbdpmaa
open Go.RowKit Go.Lib
set_option maxRecDepth 100000

def Asc (l : List Int) : Prop := l.Pairwise (· ≤ ·)
theorem rngI_take {w : World} {a : Option Addr} {n cap : Nat} {xs : List Int} (h : RngI w a n cap xs) (k : Nat) (hk : k ≤ n) : RngI w a k cap (xs.take k) := by
  have hlen := h.len
  have hroom := h.room
  refine ⟨by simp; omega, by omega, fun j hj => ?_⟩
  obtain ⟨g, off, ha, hg, hc⟩ := h.cells j (by omega)
  refine ⟨g, off, ha, hg, hc.trans ?_⟩
  simp [List.getD_eq_getElem?_getD, hj]
theorem rngI_drop {w : World} {g off n cap : Nat} {xs : List Int} (h : RngI w (some ⟨g, off, none⟩) n cap xs) (k : Nat) (hk : k ≤ n) : RngI w (some ⟨g, off + k, none⟩) (n - k) (cap - k) (xs.drop k) := by
  have hlen := h.len
  have hroom := h.room
  refine ⟨by simp; omega, by omega, fun j hj => ?_⟩
  obtain ⟨g', off', ha, hg, hc⟩ := h.cells (k + j) (by omega)
  simp only [Option.some.injEq, Addr.mk.injEq, and_true] at ha
  obtain ⟨rfl, rfl⟩ := ha
  refine ⟨g, off + k, rfl, hg, ?_⟩
  rw [Nat.add_assoc, hc]
  simp [List.getD_eq_getElem?_getD]
theorem elemI : Try.prog.elem 23 = 3 := by kernel_rfl
theorem cutI_high (W : World) (a : Option Addr) (n cap k : Nat) (hk : k ≤ cap) : (Instr.slice 23 (.slice a n cap) none (some (.int .i64 (k : Int))) none).run Try.prog W = .ok (.slice a k cap) W := by
  obtain ⟨i, hi, hz, hsz, hby⟩ := info_parts intInfo
  have := run_slice_h (P := Try.prog) W 23 a n cap (by rw [elemI]; exact Try.underlying23) .i64 (k : Int) (by omega) (by omega)
  rw [this, elemI]
  simp [sizeOf, typeInfo, hi, hsz, sliced, Addr.add]
theorem cutI_low (W : World) (g off n cap k : Nat) (hk : k ≤ n) (hc : k < cap) : (Instr.slice 23 (.slice (some ⟨g, off, none⟩) n cap) (some (.int .i64 (k : Int))) none none).run Try.prog W = .ok (.slice (some ⟨g, off + k, none⟩) (n - k) (cap - k)) W := by
  obtain ⟨i, hi, hz, hsz, hby⟩ := info_parts intInfo
  have := run_slice_l (P := Try.prog) W 23 (some ⟨g, off, none⟩) n cap (by rw [elemI]; exact Try.underlying23) .i64 (k : Int) (by omega) (by omega)
  rw [this, elemI]
  simp [sizeOf, typeInfo, hi, hsz, sliced, Addr.add]
  rw [if_neg (by omega)]
  split <;> simp_all
theorem makeI (w : World) (n : Nat) (hn : n ≤ 1048576) : ∃ w', (Instr.makeSlice 23 (.int .i64 0) (.int .i64 (n : Int))).run Try.prog w = .ok (.slice (some ⟨w.heap.size, 0, none⟩) 0 n) w' ∧ OwnI w' w.heap.size (.slice (some ⟨w.heap.size, 0, none⟩) 0 n) [] ∧ Below w.heap.size w w' := by
  obtain ⟨i, hi, hz, hsz, hby⟩ := info_parts intInfo
  have hr := run_make (P := Try.prog) w 23 3 i _ Try.underlying23 hi hz .i64 .i64 0 (n : Int) (by omega) (by omega) (by rw [hby]; omega) (by omega)
  refine ⟨_, hr, ?_, (Below.refl _ _).alloc (Nat.le_refl _) _⟩
  have := World.ownsRow_made (base := w.heap.size) (e := 3) (size := 1) w (madeCells (Value.int .i64 0).cells (n * 1)) n (Nat.le_refl _) (by simp only [maxLen]; omega) (by simp [madeCells])
  simp only [hsz, Int.toNat_natCast] at *
  exact this

theorem below_drewN' {B : Nat} {a w : World} (h : Below B a w) (m : Nat) : Below B a (w.drewN m) := h.trans ⟨rfl, rfl, rfl, Nat.le_refl _, fun _ _ => rfl⟩
/-- What holds in the loop that merges. -/
structure MInv (A B : List Int) (i j : Nat) (out : List Int) : Prop where
  perm : (out ++ (A.drop i ++ B.drop j)).Perm (A ++ B)
  asc : Asc out
  le : ∀ x ∈ out, ∀ y ∈ A.drop i ++ B.drop j, x ≤ y
theorem dropI (l : List Int) (j : Nat) (hj : j < l.length) : l.drop j = l.getD j 0 :: l.drop (j + 1) := by
  rw [List.getD_eq_getElem?_getD, List.getElem?_eq_getElem hj]
  exact List.drop_eq_getElem_cons hj
theorem asc_snoc {out : List Int} {x : Int} (h : Asc out) (hx : ∀ y ∈ out, y ≤ x) : Asc (out ++ [x]) :=
  List.pairwise_append.2 ⟨h, by simp, fun a ha b hb => by simp only [List.mem_singleton] at hb; subst hb; exact hx a ha⟩
theorem MInv.stepA {A B : List Int} {i j : Nat} {out : List Int} (h : MInv A B i j out) (hA : Asc A) (hB : Asc B) (hi : i < A.length) (hj : j < B.length → A.getD i 0 ≤ B.getD j 0) : MInv A B (i + 1) j (out ++ [A.getD i 0]) := by
  have hd := dropI A i hi
  refine ⟨?_, asc_snoc h.asc (fun y hy => h.le y hy _ (by rw [hd]; simp)), fun x hx y hy => ?_⟩
  · have := h.perm
    rw [hd] at this
    simpa using this
  · rcases List.mem_append.1 hx with hx | hx
    · exact h.le x hx y (by rw [hd]; rcases List.mem_append.1 hy with hy | hy <;> simp [hy])
    · simp only [List.mem_singleton] at hx
      subst hx
      rcases List.mem_append.1 hy with hy | hy
      · have := hA.drop (i := i)
        rw [hd] at this
        exact (List.pairwise_cons.1 this).1 y hy
      · by_cases hjl : j < B.length
        · have h1 := hj hjl
          have := hB.drop (i := j)
          rw [dropI B j hjl] at this hy
          rcases List.mem_cons.1 hy with rfl | hy
          · exact h1
          · have := (List.pairwise_cons.1 this).1 y hy
            omega
        · rw [List.drop_eq_nil_of_le (by omega)] at hy
          cases hy
theorem MInv.stepB {A B : List Int} {i j : Nat} {out : List Int} (h : MInv A B i j out) (hA : Asc A) (hB : Asc B) (hj : j < B.length) (hi : i < A.length → B.getD j 0 ≤ A.getD i 0) : MInv A B i (j + 1) (out ++ [B.getD j 0]) := by
  have hd := dropI B j hj
  refine ⟨?_, asc_snoc h.asc (fun y hy => h.le y hy _ (by rw [hd]; simp)), fun x hx y hy => ?_⟩
  · have := h.perm
    rw [hd] at this
    refine List.Perm.trans ?_ this
    rw [List.append_assoc]
    refine List.Perm.append_left _ ?_
    exact (List.perm_middle (l₁ := A.drop i) (a := B.getD j 0) (l₂ := B.drop (j + 1))).symm
  · rcases List.mem_append.1 hx with hx | hx
    · exact h.le x hx y (by rw [hd]; rcases List.mem_append.1 hy with hy | hy <;> simp [hy])
    · simp only [List.mem_singleton] at hx
      subst hx
      rcases List.mem_append.1 hy with hy | hy
      · by_cases hil : i < A.length
        · have h1 := hi hil
          have := hA.drop (i := i)
          rw [dropI A i hil] at this hy
          rcases List.mem_cons.1 hy with rfl | hy
          · exact h1
          · have := (List.pairwise_cons.1 this).1 y hy
            omega
        · rw [List.drop_eq_nil_of_le (by omega)] at hy
          cases hy
      · have := hB.drop (i := j)
        rw [hd] at this
        exact (List.pairwise_cons.1 this).1 y hy
end Go.Proofs.Ytjnglghhcbdpmaa
