import Derived.Test.YthkfcocakhekaaaDoorSpE
namespace Go.Proofs.YthkfcocakhekaaaDoor.Sp
open Go.RowKit Go.Lib
set_option maxRecDepth 100000

theorem takenL_snoc (l a : List (Int × Int)) (x : Int × Int) (lo hi d : Int) : takenL l (a ++ [x]) lo hi d = addedL (takenL l a lo hi d) (max x.1 lo + d) (min x.2 hi + d) := by
  simp [takenL, List.foldl_append]
theorem take_getD (l : List (Int × Int)) (j : Nat) (hj : j < l.length) : l.take (j + 1) = l.take j ++ [l.getD j (0, 0)] := by
  rw [List.getD_eq_getElem?_getD, List.getElem?_eq_getElem hj]
  exact List.take_succ_eq_append_getElem hj

set_option maxHeartbeats 1000000 in
theorem taken_any {w : World} {B : Nat} {a : Option Addr} {n cap : Nat} {l : List (Int × Int)} (h : Own w B (.slice a n cap) l) (hB : B ≤ w.heap.size) {b : Option Addr} {m capb : Nat} {k : List (Int × Int)} (hk : Rng w b m capb k) (hu : Under B b m)
    (lo hi d : Int) (hn : n ≤ 2097152) (hm : m ≤ 2097152) (hr : ∀ r ∈ k, -4611686018427387904 ≤ r.1 ∧ r.1 ≤ 4611686018427387903 ∧ -4611686018427387904 ≤ r.2 ∧ r.2 ≤ 4611686018427387903)
    (hlo : -4611686018427387904 ≤ lo ∧ lo ≤ 4611686018427387903) (hhi : -4611686018427387904 ≤ hi ∧ hi ≤ 4611686018427387903) (hd : -4611686018427387904 ≤ d ∧ d ≤ 4611686018427387903) :
    Calls Tryd.prog 85 #[.slice a n cap, .slice b m capb, .int .i64 lo, .int .i64 hi, .int .i64 d] w fun e w' => ∃ a' n' cap', e = .returned (.slice a' n' cap') ∧ Own w' B (.slice a' n' cap') (takenL l k lo hi d) ∧ Below B w w' := by
  have hlen := hk.len
  have hroom := hk.room
  have hln := h.rng.len
  have hmx := max_run
  have hmn := min_run
  obtain ⟨l1, l2⟩ := hlo
  obtain ⟨h1, h2⟩ := hhi
  obtain ⟨d1, d2⟩ := hd
  have HR : Hid (∀ r ∈ k, -4611686018427387904 ≤ r.1 ∧ r.1 ≤ 4611686018427387903 ∧ -4611686018427387904 ≤ r.2 ∧ r.2 ≤ 4611686018427387903) := hr
  clear hr
  go_enter Tryd.func85, Tryd.ntmps85
  go_wp2_with fail
  go_loopw [0, 15] (fun v i w' => ∃ (j : Nat) (a' : Option Addr) (n' cap' : Nat), j ≤ m ∧ i = .int .i64 j ∧ v = .slice a' n' cap' ∧ Own w' B (.slice a' n' cap') (takenL l (k.take j) lo hi d) ∧ Below B w w') (fun _ i _ => m - (RowKit.intOf i).toNat)
  case atStart => exact ⟨0, a, n, cap, Nat.zero_le _, rfl, rfl, h, Below.refl _ _⟩
  case round =>
    obtain ⟨j, a', n', cap', hjm, rfl, rfl, ho, hb⟩ := hrel
    have hsz := hb.size
    by_cases hj : j < m
    · obtain ⟨g, off, rfl, hg, hc, hd⟩ := hk.cells j hj
      have hgB := hu (by omega) g off rfl
      have c0 := (hb.cell (p := ⟨g, off + j * 2, none⟩) hgB).trans hc
      have c1 := (hb.cell (p := ⟨g, off + j * 2 + 1, none⟩) hgB).trans hd
      have hmem : k.getD j (0, 0) ∈ k := by
        rw [List.getD_eq_getElem?_getD, List.getElem?_eq_getElem (by omega)]
        exact List.getElem_mem _
      obtain ⟨r1, r2, r3, r4⟩ := HR.out _ hmem
      have hnl := ho.rng.len
      have hle := takenL_length l (k.take j) lo hi d
      rw [List.length_take] at hle
      have HT : Hid (takenL l (k.take (j + 1)) lo hi d = addedL (takenL l (k.take j) lo hi d) (max (k.getD j (0, 0)).1 lo + d) (min (k.getD j (0, 0)).2 hi + d)) := by
        show _ = _
        rw [take_getD k j (by omega), takenL_snoc]
      have hn' : n' ≤ 8388608 := by omega
      clear hnl hle hmem hc hd
      generalize (k.getD j (0, 0)).1 = x at *
      generalize (k.getD j (0, 0)).2 = y at *
      have b1 : -9223372036854775808 ≤ max x lo + d ∧ max x lo + d ≤ 9223372036854775807 := by omega
      have b2 : -9223372036854775808 ≤ min y hi + d ∧ min y hi + d ≤ 9223372036854775807 := by omega
      have HA := fun (W : World) (hO : Own W B (.slice a' n' cap') (takenL l (k.take j) lo hi d)) (hBW : B ≤ W.heap.size) => added_any hO hBW (max x lo + d) (min y hi + d) hn'
      go_wp2_with fail
      refine (HA _ ((ho.below ((Below.refl _ _).alloc (Nat.le_refl _) _))) (by simp; omega)).mono ?_
      rintro e w2 ⟨a2, n2, cap2, rfl, ho2, hb2⟩
      rw [← HT.out] at ho2
      have hB2 : Below B w w2 := (hb.alloc (by omega) _).trans hb2
      clear hb2 HA HT
      go_wp2_with fail
      go_roundw
      case rel => exact ⟨j + 1, a2, n2, cap2, by omega, by go_num, rfl, ho2, hB2⟩
      case measure => simp [RowKit.intOf]; omega
    · have e1 : k.take j = k := List.take_of_length_le (by omega)
      rw [e1] at ho
      go_wp2_with fail
      go_ret
      exact ⟨_, _, _, rfl, ho, hb⟩

set_option maxHeartbeats 400000 in
theorem bounded_any {a : Option Addr} {n cap : Nat} {w : World} :
    Calls Tryd.prog 86 #[.slice a n cap] w fun e w' => e = .returned (.tuple (if 32768 < n then #[.slice none 0 0, .int .i64 21] else #[.slice a n cap, .int .i64 0])) ∧ w' = w := by
  by_cases h : 32768 < n
  · rw [if_pos h]
    go_enter Tryd.func86, Tryd.ntmps86
    go_wp2_with fail
    go_ret2
    exact ⟨rfl, rfl⟩
  · rw [if_neg h]
    go_enter Tryd.func86, Tryd.ntmps86
    go_wp2_with fail
    go_ret2
    exact ⟨rfl, rfl⟩
end Go.Proofs.YthkfcocakhekaaaDoor.Sp
