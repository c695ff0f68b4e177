import Derived.Test.YtnbedohlgghhdaaDoorOpJX
namespace Go.Proofs.YtnbedohlgghhdaaDoor
open Go.RowKit Go.Lib Sp
set_option maxRecDepth 100000

theorem tmod_fix (k n : Int) (hn : 0 < n) : (k.tmod n < 0 → k.tmod n + n = k % n) ∧ (¬ k.tmod n < 0 → k.tmod n = k % n) := by
  have h0 := Int.emod_nonneg k (show n ≠ 0 by omega)
  have h1 := Int.emod_lt_of_pos k hn
  have h2 : k.tmod n = k % n ∨ k.tmod n = k % n - n := by
    rw [Int.tmod_eq_emod]
    split
    · left; omega
    · right; rw [show (n.natAbs : Int) = n by omega]
  omega
set_option maxHeartbeats 400000 in
theorem pick_any (k n : Int) (hn : 0 < n) (hn2 : n ≤ 1000000000) (w : World) :
    Calls Tryd.prog 12 #[.int .i64 k, .int .i64 n] w fun e w' => e = .returned (.int .i64 (k % n)) ∧ w' = w := by
  obtain ⟨f1, f2⟩ := tmod_fix k n hn
  have hb0 := Int.emod_nonneg k (show n ≠ 0 by omega)
  have hb1 := Int.emod_lt_of_pos k hn
  have t0 : (n == 0) = false := beq_eq_false_iff_ne.2 (by omega)
  have t1 : (n == -1) = false := beq_eq_false_iff_ne.2 (by omega)
  generalize hr : k % n = r at *
  generalize hm : k.tmod n = m at *
  by_cases h : m < 0
  · have e1 := f1 h
    subst e1
    clear f1 f2
    go_enter Tryd.func12, Tryd.ntmps12
    go_wp2_with fail
    go_ret
    exact ⟨rfl, rfl⟩
  · have e1 := f2 h
    subst e1
    clear f1 f2
    go_enter Tryd.func12, Tryd.ntmps12
    go_wp2_with fail
    go_ret
    exact ⟨rfl, rfl⟩

/-- the text of j times the rune e9 -/
def eL (j : Nat) : List UInt8 := encs (List.replicate j 233)
def eS (j : Nat) : ByteArray := ⟨(eL j).toArray⟩
theorem eS_next (j : Nat) : eS j ++ ⟨#[195, 169]⟩ = eS (j + 1) := by
  have h : eL (j + 1) = eL j ++ [195, 169] := by
    unfold eL
    rw [List.replicate_succ', encs_append]
    rfl
  apply ByteArray.ext
  rw [ByteArray.data_append]
  unfold eS
  rw [h]
  simp
theorem okE : okR 233 := ⟨by decide, by decide⟩
theorem eS_text (j : Nat) : IsText (eS j) (List.replicate j 233) := ⟨rfl, fun r hr => by rw [List.eq_of_mem_replicate hr]; exact okE⟩
theorem eS_size (j : Nat) : (eS j).size = j * 2 := by
  have h : ∀ j, (eL j).length = j * 2 := by
    intro j
    induction j with
    | zero => rfl
    | succ j ih =>
      have : eL (j + 1) = eL j ++ [195, 169] := by
        unfold eL
        rw [List.replicate_succ', encs_append]
        rfl
      rw [this, List.length_append, ih]; simp; omega
  show (eL j).toArray.size = _
  rw [List.size_toArray, h]
theorem check_eS (j : Nat) : check (eS j) = ((j : Int), 0, 0) := by rw [(eS_text j).check, List.length_replicate]
theorem check_eSz : check (eS 256 ++ ⟨#[122]⟩) = (257, 0, 0) := by
  have h : IsText (eS 256 ++ ⟨#[122]⟩) (List.replicate 256 233 ++ [122]) := by
    refine ⟨?_, fun r hr => ?_⟩
    · rw [encs_append, ByteArray.data_append]
      unfold eS eL
      simp
      rfl
    · rcases List.mem_append.1 hr with hr | hr
      · rw [List.eq_of_mem_replicate hr]; exact okE
      · simp at hr; subst hr; exact ⟨by decide, by decide⟩
  rw [h.check]
  simp
theorem check_z : check ⟨#[122]⟩ = (1, 0, 0) := by kernel_rfl
theorem insOk {c n p total : Int} {s : ByteArray} {m : Int} (hI : (c = 0 ∧ n = 0) ∨ isIdP c n = true) (hT : 0 ≤ total ∧ total ≤ 1048576) (hc : check s = (m, 0, 0)) (h1 : 1 ≤ m) (h2 : m ≤ 256) (h3 : 0 ≤ p ∧ p ≤ total) (h4 : total + m ≤ 1048576) : opCheck ⟨c, n, 1, p, s, [], 0, 0, false⟩ total = 0 := by
  rw [opCheck_ins hT hI]; simp only [insP, hc]; rw [if_neg (by simp), if_neg (by omega), if_neg (by omega), if_neg (by omega), if_neg (by omega)]
theorem insGrow {c n p total : Int} {s : ByteArray} {m : Int} (hI : (c = 0 ∧ n = 0) ∨ isIdP c n = true) (hT : 0 ≤ total ∧ total ≤ 1048576) (hc : check s = (m, 0, 0)) (h1 : 1 ≤ m) (h2 : m ≤ 256) (h3 : 0 ≤ p ∧ p ≤ total) (h4 : 1048576 < total + m) : opCheck ⟨c, n, 1, p, s, [], 0, 0, false⟩ total = 24 := by
  rw [opCheck_ins hT hI]; simp only [insP, hc]; rw [if_neg (by simp), if_neg (by omega), if_neg (by omega), if_neg (by omega), if_pos (by omega)]
theorem insLong {c n p total : Int} {s : ByteArray} {m : Int} (hI : (c = 0 ∧ n = 0) ∨ isIdP c n = true) (hT : 0 ≤ total ∧ total ≤ 1048576) (hc : check s = (m, 0, 0)) (h2 : 256 < m) : opCheck ⟨c, n, 1, p, s, [], 0, 0, false⟩ total = 14 := by
  rw [opCheck_ins hT hI]; simp only [insP, hc]; rw [if_neg (by simp), if_neg (by omega), if_pos (by omega)]
theorem insPlace {c n p total : Int} {s : ByteArray} {m : Int} (hI : (c = 0 ∧ n = 0) ∨ isIdP c n = true) (hT : 0 ≤ total ∧ total ≤ 1048576) (hc : check s = (m, 0, 0)) (h1 : 1 ≤ m) (h2 : m ≤ 256) (h3 : p < 0 ∨ total < p) : opCheck ⟨c, n, 1, p, s, [], 0, 0, false⟩ total = 12 := by
  rw [opCheck_ins hT hI]; simp only [insP, hc]; rw [if_neg (by simp), if_neg (by omega), if_neg (by omega), if_pos (by omega)]

end Go.Proofs.YtnbedohlgghhdaaDoor
