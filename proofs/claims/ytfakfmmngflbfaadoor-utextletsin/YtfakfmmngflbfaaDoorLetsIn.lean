import Derived.Test.YtfakfmmngflbfaaDoorLow
namespace Go.Proofs.YtfakfmmngflbfaaDoor
open Go.RowKit Go.Lib Go.IntWalk

theorem tmod_neg (k n : Int) (hn : 0 < n) (hn2 : n ≤ 1099511627776) (h : k.tmod n < 0) : wrap64 (k.tmod n + n) = k % n := by
  have h1 := Int.emod_nonneg k (show n ≠ 0 by omega)
  have h2 := Int.emod_lt_of_pos k hn
  have h3 := @Int.tmod_eq_emod k n
  have h4 : (n.natAbs : Int) = n := by omega
  have h5 : k.tmod n + n = k % n := by
    split at h3 <;> omega
  rw [h5]
  exact wrap64_in _ ⟨by omega, by omega⟩
theorem tmod_pos (k n : Int) (hn : 0 < n) (h : 0 ≤ k.tmod n) : k.tmod n = k % n := by
  have h1 := Int.emod_nonneg k (show n ≠ 0 by omega)
  have h2 := Int.emod_lt_of_pos k hn
  have h3 := @Int.tmod_eq_emod k n
  have h4 : (n.natAbs : Int) = n := by omega
  split at h3 <;> omega

set_option maxHeartbeats 400000 in
theorem pick_any (k n : Int) (hn : 0 < n) (hn2 : n ≤ 1099511627776) (w : World) :
    Calls Tryd.prog 11 #[.int .i64 k, .int .i64 n] w fun e w' => e = .returned (.int .i64 (k % n)) ∧ w' = w := by
  go_enter Tryd.func11, Tryd.ntmps11
  go_wp2
  · go_ret
    exact ⟨congrArg (fun b => Ending.returned (.int .i64 b)) (tmod_neg k n hn hn2 (by assumption)), rfl⟩
  · go_ret
    exact ⟨congrArg (fun b => Ending.returned (.int .i64 b)) (tmod_pos k n hn (by assumption)), rfl⟩

theorem load_new (w : World) (xs : List Value) (t : TypeId) : (loadCells ⟨w.heap.size, 0, none⟩ xs.length).run Tryd.prog (w.alloc (.cells xs.toArray t)) = .ok xs.toArray (w.alloc (.cells xs.toArray t)) :=
  run_loadCells_list (P := Tryd.prog) _ _ xs (fun j v hj => by
    rw [show (⟨w.heap.size, 0, none⟩ : Addr).add j = ⟨w.heap.size, j, none⟩ by cases j <;> simp [Addr.add]]
    rw [World.cell?_alloc_mark]
    simpa using hj)
theorem conv1 (w : World) (x : Int) : (convert 30 9 (.slice (some ⟨w.heap.size, 0, none⟩) 1 1)).run Tryd.prog (w.alloc (.cells #[.int .u8 x] 5)) =
    .ok (.string ⟨#[UInt8.ofNat x.toNat]⟩) (w.alloc (.cells #[.int .u8 x] 5)) := by
  rw [run_convert_bytes_string _ _ _ _ _ _ _ Tryd.underlying30 Tryd.underlying5 Tryd.underlying9]
  exact run_bytesToString _ _ 1 _ [x] (load_new w [.int .u8 x] _)
theorem conv2 (w : World) (x y : Int) : (convert 30 9 (.slice (some ⟨w.heap.size, 0, none⟩) 2 2)).run Tryd.prog (w.alloc (.cells #[.int .u8 x, .int .u8 y] 5)) =
    .ok (.string ⟨#[UInt8.ofNat x.toNat, UInt8.ofNat y.toNat]⟩) (w.alloc (.cells #[.int .u8 x, .int .u8 y] 5)) := by
  rw [run_convert_bytes_string _ _ _ _ _ _ _ Tryd.underlying30 Tryd.underlying5 Tryd.underlying9]
  exact run_bytesToString _ _ 2 _ [x, y] (load_new w [.int .u8 x, .int .u8 y] _)
theorem conv3 (w : World) (x y z : Int) : (convert 30 9 (.slice (some ⟨w.heap.size, 0, none⟩) 3 3)).run Tryd.prog (w.alloc (.cells #[.int .u8 x, .int .u8 y, .int .u8 z] 5)) =
    .ok (.string ⟨#[UInt8.ofNat x.toNat, UInt8.ofNat y.toNat, UInt8.ofNat z.toNat]⟩) (w.alloc (.cells #[.int .u8 x, .int .u8 y, .int .u8 z] 5)) := by
  rw [run_convert_bytes_string _ _ _ _ _ _ _ Tryd.underlying30 Tryd.underlying5 Tryd.underlying9]
  exact run_bytesToString _ _ 3 _ [x, y, z] (load_new w [.int .u8 x, .int .u8 y, .int .u8 z] _)

set_option maxHeartbeats 1000000 in
theorem letsIn_hi (n : Int) (h : 128 ≤ n) (h2 : n ≤ 255) (r : Int) (w : World) (fr : Nat × Nat) (t : TypeId) (hg : w.heap[1]? = some (.cells barCells t fr)) :
    Calls Tryd.prog 4 #[.int .u8 n, .int .i64 r] w fun e w' => e = .returned (.bool true) ∧ Below w.heap.size w w' := by
  have c1 := conv1
  have c2 := conv2
  have c3 := conv3
  have hgl : 1 < w.heap.size := (Array.getElem?_eq_some_iff.1 hg).1
  have HG : Hid (w.heap[1]? = some (.cells barCells t fr)) := hg
  clear hg
  have t1 : (n == 9) = false := beq_eq_false_iff_ne.2 (by omega)
  have t2 : (n == 10) = false := beq_eq_false_iff_ne.2 (by omega)
  go_enter Tryd.func4, Tryd.ntmps4
  go_wp2_with fail
  refine (check_eq _ (by simp [ByteArray.size, maxLen]) (check_hi n h h2) _ fr t (bar_alloc HG.out _)).mono ?_
  rintro e w1 ⟨rfl, hb1⟩
  have hb1' : Below w.heap.size w w1 := ((Below.refl _ _).alloc (Nat.le_refl _) _).trans (hb1.mono (by simp))
  clear hb1
  go_wp2_with (go_at_call 11; refine (pick_any _ _ (by omega) (by omega) _).mono ?_; rintro e w' ⟨rfl, rfl⟩)
  refine (check_eq _ (by simp [ByteArray.size, maxLen]) (check_ed _ _ (by omega) (by omega)) _ fr t (bar_alloc (bar_below hb1' hgl HG.out) _)).mono ?_
  rintro e w2 ⟨rfl, hb2⟩
  have hb2' := (hb1'.alloc hb1'.size _).trans (hb2.mono (by have := hb1'.size; simp; omega))
  clear hb2 hb1'
  go_wp2_with fail
  refine (check_eq _ (by simp [ByteArray.size, maxLen]) (check_e0 _ _ (by omega) (by omega)) _ fr t (bar_alloc (bar_below hb2' hgl HG.out) _)).mono ?_
  rintro e w3 ⟨rfl, hb3⟩
  have hb3' := (hb2'.alloc hb2'.size _).trans (hb3.mono (by have := hb2'.size; simp; omega))
  clear hb3 hb2'
  go_wp2_with fail
  refine (check_eq _ (by simp [ByteArray.size, maxLen]) (check_c0 _ _ (by omega) (by omega)) _ fr t (bar_alloc (bar_below hb3' hgl HG.out) _)).mono ?_
  rintro e w4 ⟨rfl, hb4⟩
  have hb4' := (hb3'.alloc hb3'.size _).trans (hb4.mono (by have := hb3'.size; simp; omega))
  clear hb4 hb3'
  go_wp2_with fail
  go_ret
  exact ⟨rfl, hb4'⟩

set_option maxHeartbeats 1000000 in
theorem letsIn_lo1 (n : Int) (h : 0 ≤ n) (h2 : n ≤ 8) (r : Int) (w : World) (fr : Nat × Nat) (t : TypeId) (hg : w.heap[1]? = some (.cells barCells t fr)) :
    Calls Tryd.prog 4 #[.int .u8 n, .int .i64 r] w fun e w' => e = .returned (.bool true) ∧ Below w.heap.size w w' := by
  have ok : okRune n = false := by unfold okRune; rw [decide_eq_false_iff_not]; omega
  have ck : check ⟨#[UInt8.ofNat n.toNat]⟩ = (0, 0, 11) := by rw [check_lo n (by omega) (by omega), ok]; rfl
  clear ok
  have CK : Hid (check ⟨#[UInt8.ofNat n.toNat]⟩ = (0, 0, 11)) := ck
  clear ck
  have c1 := conv1
  have c2 := conv2
  have c3 := conv3
  have hgl : 1 < w.heap.size := (Array.getElem?_eq_some_iff.1 hg).1
  have HG : Hid (w.heap[1]? = some (.cells barCells t fr)) := hg
  clear hg
  have t1 : (n == 9) = false := beq_eq_false_iff_ne.2 (by omega)
  have t2 : (n == 10) = false := beq_eq_false_iff_ne.2 (by omega)
  go_enter Tryd.func4, Tryd.ntmps4
  go_wp2_with fail
  refine (check_eq _ (by simp [ByteArray.size, maxLen]) (CK.out) _ fr t (bar_alloc HG.out _)).mono ?_
  rintro e w1 ⟨rfl, hb1⟩
  have hb1' : Below w.heap.size w w1 := ((Below.refl _ _).alloc (Nat.le_refl _) _).trans (hb1.mono (by simp))
  clear hb1
  go_wp2_with (go_at_call 11; refine (pick_any _ _ (by omega) (by omega) _).mono ?_; rintro e w' ⟨rfl, rfl⟩)
  refine (check_eq _ (by simp [ByteArray.size, maxLen]) (check_ed _ _ (by omega) (by omega)) _ fr t (bar_alloc (bar_below hb1' hgl HG.out) _)).mono ?_
  rintro e w2 ⟨rfl, hb2⟩
  have hb2' := (hb1'.alloc hb1'.size _).trans (hb2.mono (by have := hb1'.size; simp; omega))
  clear hb2 hb1'
  go_wp2_with fail
  refine (check_eq _ (by simp [ByteArray.size, maxLen]) (check_e0 _ _ (by omega) (by omega)) _ fr t (bar_alloc (bar_below hb2' hgl HG.out) _)).mono ?_
  rintro e w3 ⟨rfl, hb3⟩
  have hb3' := (hb2'.alloc hb2'.size _).trans (hb3.mono (by have := hb2'.size; simp; omega))
  clear hb3 hb2'
  go_wp2_with fail
  refine (check_eq _ (by simp [ByteArray.size, maxLen]) (check_c0 _ _ (by omega) (by omega)) _ fr t (bar_alloc (bar_below hb3' hgl HG.out) _)).mono ?_
  rintro e w4 ⟨rfl, hb4⟩
  have hb4' := (hb3'.alloc hb3'.size _).trans (hb4.mono (by have := hb3'.size; simp; omega))
  clear hb4 hb3'
  go_wp2_with fail
  go_ret
  exact ⟨rfl, hb4'⟩

set_option maxHeartbeats 1000000 in
theorem letsIn_tab (n : Int) (h : 9 ≤ n) (h2 : n ≤ 9) (r : Int) (w : World) (fr : Nat × Nat) (t : TypeId) (hg : w.heap[1]? = some (.cells barCells t fr)) :
    Calls Tryd.prog 4 #[.int .u8 n, .int .i64 r] w fun e w' => e = .returned (.bool true) ∧ Below w.heap.size w w' := by
  have ok : okRune n = true := by unfold okRune; rw [decide_eq_true_iff]; omega
  have ck : check ⟨#[UInt8.ofNat n.toNat]⟩ = (1, 0, 0) := by rw [check_lo n (by omega) (by omega), ok]; rfl
  clear ok
  have CK : Hid (check ⟨#[UInt8.ofNat n.toNat]⟩ = (1, 0, 0)) := ck
  clear ck
  have c1 := conv1
  have c2 := conv2
  have c3 := conv3
  have hgl : 1 < w.heap.size := (Array.getElem?_eq_some_iff.1 hg).1
  have HG : Hid (w.heap[1]? = some (.cells barCells t fr)) := hg
  clear hg
  have t1 : (n == 9) = true := beq_iff_eq.2 (by omega)
  have t2 : (n == 10) = false := beq_eq_false_iff_ne.2 (by omega)
  go_enter Tryd.func4, Tryd.ntmps4
  go_wp2_with fail
  refine (check_eq _ (by simp [ByteArray.size, maxLen]) (CK.out) _ fr t (bar_alloc HG.out _)).mono ?_
  rintro e w1 ⟨rfl, hb1⟩
  have hb1' : Below w.heap.size w w1 := ((Below.refl _ _).alloc (Nat.le_refl _) _).trans (hb1.mono (by simp))
  clear hb1
  go_wp2_with (go_at_call 11; refine (pick_any _ _ (by omega) (by omega) _).mono ?_; rintro e w' ⟨rfl, rfl⟩)
  refine (check_eq _ (by simp [ByteArray.size, maxLen]) (check_ed _ _ (by omega) (by omega)) _ fr t (bar_alloc (bar_below hb1' hgl HG.out) _)).mono ?_
  rintro e w2 ⟨rfl, hb2⟩
  have hb2' := (hb1'.alloc hb1'.size _).trans (hb2.mono (by have := hb1'.size; simp; omega))
  clear hb2 hb1'
  go_wp2_with fail
  refine (check_eq _ (by simp [ByteArray.size, maxLen]) (check_e0 _ _ (by omega) (by omega)) _ fr t (bar_alloc (bar_below hb2' hgl HG.out) _)).mono ?_
  rintro e w3 ⟨rfl, hb3⟩
  have hb3' := (hb2'.alloc hb2'.size _).trans (hb3.mono (by have := hb2'.size; simp; omega))
  clear hb3 hb2'
  go_wp2_with fail
  refine (check_eq _ (by simp [ByteArray.size, maxLen]) (check_c0 _ _ (by omega) (by omega)) _ fr t (bar_alloc (bar_below hb3' hgl HG.out) _)).mono ?_
  rintro e w4 ⟨rfl, hb4⟩
  have hb4' := (hb3'.alloc hb3'.size _).trans (hb4.mono (by have := hb3'.size; simp; omega))
  clear hb4 hb3'
  go_wp2_with fail
  go_ret
  exact ⟨rfl, hb4'⟩

set_option maxHeartbeats 1000000 in
theorem letsIn_nl (n : Int) (h : 10 ≤ n) (h2 : n ≤ 10) (r : Int) (w : World) (fr : Nat × Nat) (t : TypeId) (hg : w.heap[1]? = some (.cells barCells t fr)) :
    Calls Tryd.prog 4 #[.int .u8 n, .int .i64 r] w fun e w' => e = .returned (.bool true) ∧ Below w.heap.size w w' := by
  have ok : okRune n = true := by unfold okRune; rw [decide_eq_true_iff]; omega
  have ck : check ⟨#[UInt8.ofNat n.toNat]⟩ = (1, 0, 0) := by rw [check_lo n (by omega) (by omega), ok]; rfl
  clear ok
  have CK : Hid (check ⟨#[UInt8.ofNat n.toNat]⟩ = (1, 0, 0)) := ck
  clear ck
  have c1 := conv1
  have c2 := conv2
  have c3 := conv3
  have hgl : 1 < w.heap.size := (Array.getElem?_eq_some_iff.1 hg).1
  have HG : Hid (w.heap[1]? = some (.cells barCells t fr)) := hg
  clear hg
  have t1 : (n == 9) = false := beq_eq_false_iff_ne.2 (by omega)
  have t2 : (n == 10) = true := beq_iff_eq.2 (by omega)
  go_enter Tryd.func4, Tryd.ntmps4
  go_wp2_with fail
  refine (check_eq _ (by simp [ByteArray.size, maxLen]) (CK.out) _ fr t (bar_alloc HG.out _)).mono ?_
  rintro e w1 ⟨rfl, hb1⟩
  have hb1' : Below w.heap.size w w1 := ((Below.refl _ _).alloc (Nat.le_refl _) _).trans (hb1.mono (by simp))
  clear hb1
  go_wp2_with (go_at_call 11; refine (pick_any _ _ (by omega) (by omega) _).mono ?_; rintro e w' ⟨rfl, rfl⟩)
  refine (check_eq _ (by simp [ByteArray.size, maxLen]) (check_ed _ _ (by omega) (by omega)) _ fr t (bar_alloc (bar_below hb1' hgl HG.out) _)).mono ?_
  rintro e w2 ⟨rfl, hb2⟩
  have hb2' := (hb1'.alloc hb1'.size _).trans (hb2.mono (by have := hb1'.size; simp; omega))
  clear hb2 hb1'
  go_wp2_with fail
  refine (check_eq _ (by simp [ByteArray.size, maxLen]) (check_e0 _ _ (by omega) (by omega)) _ fr t (bar_alloc (bar_below hb2' hgl HG.out) _)).mono ?_
  rintro e w3 ⟨rfl, hb3⟩
  have hb3' := (hb2'.alloc hb2'.size _).trans (hb3.mono (by have := hb2'.size; simp; omega))
  clear hb3 hb2'
  go_wp2_with fail
  refine (check_eq _ (by simp [ByteArray.size, maxLen]) (check_c0 _ _ (by omega) (by omega)) _ fr t (bar_alloc (bar_below hb3' hgl HG.out) _)).mono ?_
  rintro e w4 ⟨rfl, hb4⟩
  have hb4' := (hb3'.alloc hb3'.size _).trans (hb4.mono (by have := hb3'.size; simp; omega))
  clear hb4 hb3'
  go_wp2_with fail
  go_ret
  exact ⟨rfl, hb4'⟩

set_option maxHeartbeats 1000000 in
theorem letsIn_lo2 (n : Int) (h : 11 ≤ n) (h2 : n ≤ 31) (r : Int) (w : World) (fr : Nat × Nat) (t : TypeId) (hg : w.heap[1]? = some (.cells barCells t fr)) :
    Calls Tryd.prog 4 #[.int .u8 n, .int .i64 r] w fun e w' => e = .returned (.bool true) ∧ Below w.heap.size w w' := by
  have ok : okRune n = false := by unfold okRune; rw [decide_eq_false_iff_not]; omega
  have ck : check ⟨#[UInt8.ofNat n.toNat]⟩ = (0, 0, 11) := by rw [check_lo n (by omega) (by omega), ok]; rfl
  clear ok
  have CK : Hid (check ⟨#[UInt8.ofNat n.toNat]⟩ = (0, 0, 11)) := ck
  clear ck
  have c1 := conv1
  have c2 := conv2
  have c3 := conv3
  have hgl : 1 < w.heap.size := (Array.getElem?_eq_some_iff.1 hg).1
  have HG : Hid (w.heap[1]? = some (.cells barCells t fr)) := hg
  clear hg
  have t1 : (n == 9) = false := beq_eq_false_iff_ne.2 (by omega)
  have t2 : (n == 10) = false := beq_eq_false_iff_ne.2 (by omega)
  go_enter Tryd.func4, Tryd.ntmps4
  go_wp2_with fail
  refine (check_eq _ (by simp [ByteArray.size, maxLen]) (CK.out) _ fr t (bar_alloc HG.out _)).mono ?_
  rintro e w1 ⟨rfl, hb1⟩
  have hb1' : Below w.heap.size w w1 := ((Below.refl _ _).alloc (Nat.le_refl _) _).trans (hb1.mono (by simp))
  clear hb1
  go_wp2_with (go_at_call 11; refine (pick_any _ _ (by omega) (by omega) _).mono ?_; rintro e w' ⟨rfl, rfl⟩)
  refine (check_eq _ (by simp [ByteArray.size, maxLen]) (check_ed _ _ (by omega) (by omega)) _ fr t (bar_alloc (bar_below hb1' hgl HG.out) _)).mono ?_
  rintro e w2 ⟨rfl, hb2⟩
  have hb2' := (hb1'.alloc hb1'.size _).trans (hb2.mono (by have := hb1'.size; simp; omega))
  clear hb2 hb1'
  go_wp2_with fail
  refine (check_eq _ (by simp [ByteArray.size, maxLen]) (check_e0 _ _ (by omega) (by omega)) _ fr t (bar_alloc (bar_below hb2' hgl HG.out) _)).mono ?_
  rintro e w3 ⟨rfl, hb3⟩
  have hb3' := (hb2'.alloc hb2'.size _).trans (hb3.mono (by have := hb2'.size; simp; omega))
  clear hb3 hb2'
  go_wp2_with fail
  refine (check_eq _ (by simp [ByteArray.size, maxLen]) (check_c0 _ _ (by omega) (by omega)) _ fr t (bar_alloc (bar_below hb3' hgl HG.out) _)).mono ?_
  rintro e w4 ⟨rfl, hb4⟩
  have hb4' := (hb3'.alloc hb3'.size _).trans (hb4.mono (by have := hb3'.size; simp; omega))
  clear hb4 hb3'
  go_wp2_with fail
  go_ret
  exact ⟨rfl, hb4'⟩

set_option maxHeartbeats 1000000 in
theorem letsIn_asc (n : Int) (h : 32 ≤ n) (h2 : n ≤ 126) (r : Int) (w : World) (fr : Nat × Nat) (t : TypeId) (hg : w.heap[1]? = some (.cells barCells t fr)) :
    Calls Tryd.prog 4 #[.int .u8 n, .int .i64 r] w fun e w' => e = .returned (.bool true) ∧ Below w.heap.size w w' := by
  have ok : okRune n = true := by unfold okRune; rw [decide_eq_true_iff]; omega
  have ck : check ⟨#[UInt8.ofNat n.toNat]⟩ = (1, 0, 0) := by rw [check_lo n (by omega) (by omega), ok]; rfl
  clear ok
  have CK : Hid (check ⟨#[UInt8.ofNat n.toNat]⟩ = (1, 0, 0)) := ck
  clear ck
  have c1 := conv1
  have c2 := conv2
  have c3 := conv3
  have hgl : 1 < w.heap.size := (Array.getElem?_eq_some_iff.1 hg).1
  have HG : Hid (w.heap[1]? = some (.cells barCells t fr)) := hg
  clear hg
  have t1 : (n == 9) = false := beq_eq_false_iff_ne.2 (by omega)
  have t2 : (n == 10) = false := beq_eq_false_iff_ne.2 (by omega)
  go_enter Tryd.func4, Tryd.ntmps4
  go_wp2_with fail
  refine (check_eq _ (by simp [ByteArray.size, maxLen]) (CK.out) _ fr t (bar_alloc HG.out _)).mono ?_
  rintro e w1 ⟨rfl, hb1⟩
  have hb1' : Below w.heap.size w w1 := ((Below.refl _ _).alloc (Nat.le_refl _) _).trans (hb1.mono (by simp))
  clear hb1
  go_wp2_with (go_at_call 11; refine (pick_any _ _ (by omega) (by omega) _).mono ?_; rintro e w' ⟨rfl, rfl⟩)
  refine (check_eq _ (by simp [ByteArray.size, maxLen]) (check_ed _ _ (by omega) (by omega)) _ fr t (bar_alloc (bar_below hb1' hgl HG.out) _)).mono ?_
  rintro e w2 ⟨rfl, hb2⟩
  have hb2' := (hb1'.alloc hb1'.size _).trans (hb2.mono (by have := hb1'.size; simp; omega))
  clear hb2 hb1'
  go_wp2_with fail
  refine (check_eq _ (by simp [ByteArray.size, maxLen]) (check_e0 _ _ (by omega) (by omega)) _ fr t (bar_alloc (bar_below hb2' hgl HG.out) _)).mono ?_
  rintro e w3 ⟨rfl, hb3⟩
  have hb3' := (hb2'.alloc hb2'.size _).trans (hb3.mono (by have := hb2'.size; simp; omega))
  clear hb3 hb2'
  go_wp2_with fail
  refine (check_eq _ (by simp [ByteArray.size, maxLen]) (check_c0 _ _ (by omega) (by omega)) _ fr t (bar_alloc (bar_below hb3' hgl HG.out) _)).mono ?_
  rintro e w4 ⟨rfl, hb4⟩
  have hb4' := (hb3'.alloc hb3'.size _).trans (hb4.mono (by have := hb3'.size; simp; omega))
  clear hb4 hb3'
  go_wp2_with fail
  go_ret
  exact ⟨rfl, hb4'⟩

set_option maxHeartbeats 1000000 in
theorem letsIn_del (n : Int) (h : 127 ≤ n) (h2 : n ≤ 127) (r : Int) (w : World) (fr : Nat × Nat) (t : TypeId) (hg : w.heap[1]? = some (.cells barCells t fr)) :
    Calls Tryd.prog 4 #[.int .u8 n, .int .i64 r] w fun e w' => e = .returned (.bool true) ∧ Below w.heap.size w w' := by
  have ok : okRune n = false := by unfold okRune; rw [decide_eq_false_iff_not]; omega
  have ck : check ⟨#[UInt8.ofNat n.toNat]⟩ = (0, 0, 11) := by rw [check_lo n (by omega) (by omega), ok]; rfl
  clear ok
  have CK : Hid (check ⟨#[UInt8.ofNat n.toNat]⟩ = (0, 0, 11)) := ck
  clear ck
  have c1 := conv1
  have c2 := conv2
  have c3 := conv3
  have hgl : 1 < w.heap.size := (Array.getElem?_eq_some_iff.1 hg).1
  have HG : Hid (w.heap[1]? = some (.cells barCells t fr)) := hg
  clear hg
  have t1 : (n == 9) = false := beq_eq_false_iff_ne.2 (by omega)
  have t2 : (n == 10) = false := beq_eq_false_iff_ne.2 (by omega)
  have t3 : decide (n ≤ 126) = false := by rw [decide_eq_false_iff_not]; omega
  have t4 : decide (128 ≤ n) = false := by rw [decide_eq_false_iff_not]; omega
  go_enter Tryd.func4, Tryd.ntmps4
  go_wp2_with fail
  refine (check_eq _ (by simp [ByteArray.size, maxLen]) (CK.out) _ fr t (bar_alloc HG.out _)).mono ?_
  rintro e w1 ⟨rfl, hb1⟩
  have hb1' : Below w.heap.size w w1 := ((Below.refl _ _).alloc (Nat.le_refl _) _).trans (hb1.mono (by simp))
  clear hb1
  go_wp2_with (go_at_call 11; refine (pick_any _ _ (by omega) (by omega) _).mono ?_; rintro e w' ⟨rfl, rfl⟩)
  refine (check_eq _ (by simp [ByteArray.size, maxLen]) (check_ed _ _ (by omega) (by omega)) _ fr t (bar_alloc (bar_below hb1' hgl HG.out) _)).mono ?_
  rintro e w2 ⟨rfl, hb2⟩
  have hb2' := (hb1'.alloc hb1'.size _).trans (hb2.mono (by have := hb1'.size; simp; omega))
  clear hb2 hb1'
  go_wp2_with fail
  refine (check_eq _ (by simp [ByteArray.size, maxLen]) (check_e0 _ _ (by omega) (by omega)) _ fr t (bar_alloc (bar_below hb2' hgl HG.out) _)).mono ?_
  rintro e w3 ⟨rfl, hb3⟩
  have hb3' := (hb2'.alloc hb2'.size _).trans (hb3.mono (by have := hb2'.size; simp; omega))
  clear hb3 hb2'
  go_wp2_with fail
  refine (check_eq _ (by simp [ByteArray.size, maxLen]) (check_c0 _ _ (by omega) (by omega)) _ fr t (bar_alloc (bar_below hb3' hgl HG.out) _)).mono ?_
  rintro e w4 ⟨rfl, hb4⟩
  have hb4' := (hb3'.alloc hb3'.size _).trans (hb4.mono (by have := hb3'.size; simp; omega))
  clear hb4 hb3'
  go_wp2_with fail
  go_ret
  exact ⟨rfl, hb4'⟩

theorem letsIn_any (n : Int) (h : 0 ≤ n) (h2 : n ≤ 255) (r : Int) (w : World) (fr : Nat × Nat) (t : TypeId) (hg : w.heap[1]? = some (.cells barCells t fr)) :
    Calls Tryd.prog 4 #[.int .u8 n, .int .i64 r] w fun e w' => e = .returned (.bool true) ∧ Below w.heap.size w w' := by
  by_cases a1 : n ≤ 8
  · exact letsIn_lo1 n h a1 r w fr t hg
  by_cases a2 : n ≤ 9
  · exact letsIn_tab n (by omega) a2 r w fr t hg
  by_cases a3 : n ≤ 10
  · exact letsIn_nl n (by omega) a3 r w fr t hg
  by_cases a4 : n ≤ 31
  · exact letsIn_lo2 n (by omega) a4 r w fr t hg
  by_cases a5 : n ≤ 126
  · exact letsIn_asc n (by omega) a5 r w fr t hg
  by_cases a6 : n ≤ 127
  · exact letsIn_del n (by omega) a6 r w fr t hg
  exact letsIn_hi n (by omega) h2 r w fr t hg
end Go.Proofs.YtfakfmmngflbfaaDoor
