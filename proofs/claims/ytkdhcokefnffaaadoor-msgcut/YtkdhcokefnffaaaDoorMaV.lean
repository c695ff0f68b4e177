import Derived.Test.YtkdhcokefnffaaaDoorMaU
/-! Strings to bytes; what Decode tells of numbers that are too long. -/
namespace Go.Proofs.YtkdhcokefnffaaaDoor
open Go.RowKit Go.Lib Sp
set_option maxRecDepth 100000

theorem strB_size (l : List Nat) : (strB l).size = l.length := by simp [strB, ByteArray.size]
theorem strB_append (a b : List Nat) : strB a ++ strB b = strB (a ++ b) := by
  simp only [strB, List.map_append]
  apply ByteArray.ext
  simp
/-- '[]byte(s)' -/
theorem back_bytes (W : World) (l : List Nat) (hb : ∀ x ∈ l, x < 256) (hl : l.length ≤ 1000) : ∃ cap W', (convert 9 39 (.string (strB l))).run Tryd.prog W = .ok (.slice (some ⟨W.heap.size, 0, none⟩) l.length cap) W' ∧ Rw byV 1 W' (some ⟨W.heap.size, 0, none⟩) l.length cap l ∧ Below W.heap.size W W' ∧ W.heap.size < W'.heap.size := by
  have hr := run_bytes_of_string (P := Tryd.prog) W 9 39 5 (strB l) Tryd.underlying9 Tryd.underlying39 Tryd.underlying5
  rw [strB_size] at hr
  have hlt : ∀ o : Obj, W.heap.size < (W.drew.alloc o).heap.size := fun o => by rw [World.size_alloc]; exact Nat.lt_succ_self _
  have hbe : ∀ o : Obj, Below W.heap.size W (W.drew.alloc o) := fun o => (Below.refl W.heap.size W).drew.alloc (Nat.le_refl _) o
  refine ⟨_, _, hr, ⟨rfl, ⟨grownCap_ge .., grownCap_le_maxLen _ _ _ _ (by simp only [maxLen]; omega)⟩, fun h0 => ⟨_, 0, rfl, hlt _, fun j x hj i v hv => ?_⟩⟩, hbe _, hlt _⟩
  obtain ⟨hj1, hj2⟩ := List.getElem?_eq_some_iff.1 hj
  have hi : i = 0 := by have := (List.getElem?_eq_some_iff.1 hv).1; simp [byV] at this; omega
  subst hi
  simp [byV] at hv
  subst hv
  have hx := hb x (hj2 ▸ List.getElem_mem hj1)
  have hsz : j < (strB l).data.size := by simpa [strB] using hj1
  have := World.cell?_alloc_mark W.drew (bytesRow (strB l) (grownCap W l.length 0 5)) 5 ((bytesRow (strB l) (grownCap W l.length 0 5)).size, (bytesRow (strB l) (grownCap W l.length 0 5)).size + 1) j
  simp only [Nat.mul_one, Nat.zero_add, Nat.add_zero]
  rw [show W.heap.size = W.drew.heap.size from rfl, this, bytesRow_at _ _ _ hsz]
  simp [strB, hj2]
  omega

theorem numP_one (k : Nat) (r : List Nat) (hk : k < 128) : numP (k :: r) = .ok k 1 := by
  unfold numP
  rw [numF, if_pos hk, if_neg (by omega)]
  simp
theorem btw_one (n i k : Nat) (lo hi why : Int) (r : List Nat) (hk : k < 128) (h : lo ≤ (k : Int) ∧ (k : Int) ≤ hi) : btwP n i lo hi why (k :: r) = .ok k 1 := by
  unfold btwP
  rw [numP_one k r hk]
  exact if_pos h
theorem code_one (n : Nat) (r : List Nat) : btwP n 0 1 4 100 (1 :: r) = .ok 1 1 := btw_one n 0 1 1 4 100 r (by omega) (by omega)
theorem hello_rev (n k : Nat) (r : List Nat) (hk : 1 ≤ k ∧ k ≤ 8) (at_ why : Int) (hr : btwP n 2 0 8192 104 r = .bad at_ why) : helloP n 1 (1 :: k :: r) = .bad at_ why := by
  unfold helloP
  rw [show (1 :: k :: r).drop 1 = k :: r from rfl, btw_one n 1 k 1 8 104 r (by omega) (by omega)]
  simp only
  rw [show (1 :: k :: r).drop (1 + 1) = r from rfl, hr]
theorem hello_client (n : Nat) (r : List Nat) (hr : numP r = .bad) : helloP n 1 (1 :: r) = .bad 1 101 := by
  unfold helloP
  rw [show (1 :: r).drop 1 = r from rfl]
  unfold btwP
  rw [hr]
  rfl
theorem numP_grown1 (x : Nat) (r : List Nat) (hx : x < 128) : numP ((128 + x) :: 0 :: r) = .bad := by
  unfold numP
  rw [numF, if_neg (by omega), numF, if_pos (by omega), if_pos (by omega)]
theorem numP_grown2 (y x : Nat) (hy : 128 ≤ y) : numP (y :: (128 + x) :: 0 :: []) = .bad := by
  unfold numP
  rw [numF, if_neg (by omega), numF, if_neg (by omega), numF, if_pos (by omega), if_pos (by omega)]
/-- a rev's bytes: the last one is no mark that another follows -/
theorem enc_last (r : Nat) (hr : r ≤ 8192) : ∃ (pre : List Nat) (x : Nat), encP r = pre ++ [x] ∧ x < 128 ∧ (pre = [] ∨ ∃ y, 128 ≤ y ∧ y < 256 ∧ pre = [y]) := by
  unfold encP
  rw [encF]
  split
  · exact ⟨[], r, rfl, by omega, .inl rfl⟩
  · rw [encF, if_pos (by omega)]
    exact ⟨[128 + r % 128], r / 128, rfl, by omega, .inr ⟨_, by omega, by omega, rfl⟩⟩
theorem rev_grown (n : Nat) (pre : List Nat) (x : Nat) (hx : x < 128) (hp : pre = [] ∨ ∃ y, 128 ≤ y ∧ y < 256 ∧ pre = [y]) : btwP n 2 0 8192 104 (pre ++ [128 + x, 0]) = .bad 2 101 := by
  unfold btwP
  rcases hp with rfl | ⟨y, hy, _, rfl⟩
  · rw [show ([] : List Nat) ++ [128 + x, 0] = (128 + x) :: 0 :: [] from rfl, numP_grown1 x [] hx]
    rfl
  · rw [show [y] ++ [128 + x, 0] = y :: (128 + x) :: 0 :: [] from rfl, numP_grown2 y x hy]
    rfl
theorem rev_five (n : Nat) : btwP n 2 0 8192 104 [128, 128, 128, 128, 1] = .bad 2 101 := by rfl
theorem rev_above (n : Nat) : btwP n 2 0 8192 104 [129, 64] = .bad 2 104 := by rfl
end Go.Proofs.YtkdhcokefnffaaaDoor
