import Derived.Test.YtaclgiakinoocaaDgD
/-! The reference's survives, Used, Files, look. -/
namespace Go.Proofs.Ytaclgiakinoocaa
open Go.RowKit Go.Lib
set_option maxRecDepth 100000

set_option maxHeartbeats 2000000 in
theorem rSurvives (w : World) (s : ByteArray) (th : Bool) (xa : Option Addr) (xn xc xs k L : Nat) (hs : xs ≤ xn) (hc : xn ≤ xc) (hx : xc ≤ 9223372036854775807) (hL : xs + min k (xn - xs) = L) :
    Calls Try.prog 104 #[.agg #[.string s, .bool th, .slice xa xn xc, .int .i64 (xs : Int)], .int .i64 (k : Int)] w fun e w' => e = .returned (.agg #[.string s, .bool (decide (0 < L)), .slice xa L xc, .int .i64 (L : Int)]) ∧ Below w.heap.size w w' := by
  obtain ⟨W0, hW0⟩ : ∃ W0, w.alloc (.cells #[.string s, .bool th, .slice xa xn xc, .int .i64 (xs : Int)] 134) = W0 := ⟨_, rfl⟩
  obtain ⟨W1, hW1⟩ : ∃ W1, W0.alloc (.cells #[.string ⟨#[]⟩, .bool false, .slice none 0 0, .int .i64 0] 134) = W1 := ⟨_, rfl⟩
  have hs0 : W0.heap.size = w.heap.size + 1 := by rw [← hW0, World.size_alloc]
  have hb1 : Below w.heap.size w W1 := by rw [← hW1, ← hW0]; exact ((Below.refl _ _).alloc (Nat.le_refl _) _).alloc (by rw [World.size_alloc]; omega) _
  have hq0 : W0.heap[w.heap.size]? = some (.cells #[.string s, .bool th, .slice xa xn xc, .int .i64 (xs : Int)] 134) := by rw [← hW0]; exact (MapKept.heap_alloc w _).1
  have hq : W1.heap[w.heap.size]? = some (.cells #[.string s, .bool th, .slice xa xn xc, .int .i64 (xs : Int)] 134) := by rw [← hW1]; exact ((MapKept.heap_alloc W0 _).2 _ (by omega)).trans hq0
  have hA : W1.heap[W0.heap.size]? = some (.cells #[.string ⟨#[]⟩, .bool false, .slice none 0 0, .int .i64 0] 134) := by rw [← hW1]; exact (MapKept.heap_alloc W0 _).1
  obtain ⟨c0, c1, c2, c3⟩ := box4 hq
  have k1 := Lib.frozen_of_heap hq 1
  have k2 := Lib.frozen_of_heap hq 2
  have k3 := Lib.frozen_of_heap hq 3
  have g0 : IntKind.i64.wrap ((xn : Int) - (xs : Int)) = ((xn - xs : Nat) : Int) := by rw [IntWalk.i64_in _ (by omega)]; omega
  have HM : ∀ ats ty W, (Builtin.min_ ats ty #[.int .i64 (k : Int), .int .i64 ((xn - xs : Nat) : Int)]).run Try.prog W = .ok (.int .i64 ((min k (xn - xs) : Nat) : Int)) W := fun ats ty W => by
    rw [min_run]; congr 2; omega
  have g1 : IntKind.i64.wrap ((xs : Int) + ((min k (xn - xs) : Nat) : Int)) = (L : Int) := by rw [IntWalk.i64_in _ (by omega)]; omega
  have hcut : ∀ W, (Instr.slice 22 (.slice xa xn xc) none (some (.int .i64 (L : Int))) none).run Try.prog W = .ok (.slice xa L xc) W := fun W => cutU W xa xn xc L (by omega)
  have HH : Hid (Below w.heap.size w W1 ∧ W1.heap[w.heap.size]? = some (.cells #[.string s, .bool th, .slice xa xn xc, .int .i64 (xs : Int)] 134) ∧ W1.heap[W0.heap.size]? = some (.cells #[.string ⟨#[]⟩, .bool false, .slice none 0 0, .int .i64 0] 134) ∧ W0.heap.size = w.heap.size + 1) := ⟨hb1, hq, hA, hs0⟩
  obtain ⟨V, hV, hVq, hVC⟩ : ∃ V, ((W1.setCell ⟨w.heap.size, 2, none⟩ (.slice xa L xc)).setCell ⟨w.heap.size, 3, none⟩ (.int .i64 (L : Int))).setCell ⟨w.heap.size, 1, none⟩ (.bool (decide (0 < L))) = V ∧ V.heap[w.heap.size]? = some (.cells #[.string s, .bool (decide (0 < L)), .slice xa L xc, .int .i64 (L : Int)] 134) ∧ Chg (fun g => g = w.heap.size) W1 V := by
    have e0 := heap_setCell_cells hq 2 (.slice xa L xc)
    have e1 := heap_setCell_cells e0 3 (.int .i64 (L : Int))
    have e2 := heap_setCell_cells e1 1 (.bool (decide (0 < L)))
    have hs : ∀ (i : Nat) (W : World) (u : Value), Chg (fun g => g = w.heap.size) W (W.setCell ⟨w.heap.size, i, none⟩ u) := fun i W u => Chg.set (D := fun g => g = w.heap.size) (q := w.heap.size) i W u rfl
    exact ⟨_, rfl, e2, ((hs 2 _ _).trans (hs 3 _ _)).trans (hs 1 _ _)⟩
  obtain ⟨m0, m1, m2, m3⟩ := box4 hVq
  have hAV : V.heap[W0.heap.size]? = some (.cells #[.string ⟨#[]⟩, .bool false, .slice none 0 0, .int .i64 0] 134) := hVC.block hA (by omega)
  obtain ⟨W9, hW9, hh9, hC9⟩ := set4 hAV (.string s) (.bool (decide (0 < L))) (.slice xa L xc) (.int .i64 (L : Int))
  obtain ⟨y0, y1, y2, y3⟩ := box4 hAV
  have j0 := Lib.frozen_of_heap hAV 0
  have j1 := Lib.frozen_of_heap hAV 1
  have j2 := Lib.frozen_of_heap hAV 2
  have j3 := Lib.frozen_of_heap hAV 3
  obtain ⟨r0, r1, r2, r3⟩ := box4 hh9
  have HB : Hid (Below w.heap.size w W9) := (hb1.trans (hVC.below (fun g e => by omega) hb1.size)).trans (hC9.below (fun g e => by omega) (by have := hb1.size; have := hVC.size; omega))
  clear hs hc hx hL hs0 hb1 hq0 hq hA hVq hVC hAV hh9 hC9
  go_enter Try.func104, Try.ntmps104
  go_wp2_with fail
  refine bodyPost_ret (v := .agg #[.string s, .bool (decide (0 < L)), .slice xa L xc, .int .i64 (L : Int)]) (by simp [results, Try.results104, go_sem, r0, r1, r2, r3]) rfl ?_
  exact ⟨rfl, HB.out⟩
def sumR (xs : List Rf) : Nat := (xs.map (fun x => x.bs.length)).sum
theorem sumR_used (xs : List Rf) : used (xs.map Rf.fl) = sumR xs := by
  unfold used sumR
  rw [List.map_map]
  rfl
theorem sumR_snoc {xs : List Rf} {i : Nat} {o : Rf} (h : xs[i]? = some o) : sumR (xs.take (i + 1)) = sumR (xs.take i) + o.bs.length := by
  unfold sumR
  rw [List.take_add_one, h]
  simp
theorem sumR_le (xs : List Rf) (i : Nat) : sumR (xs.take i) ≤ sumR xs := by
  have : sumR xs = sumR (xs.take i) + sumR (xs.drop i) := by
    unfold sumR
    rw [← List.sum_append, ← List.map_append, List.take_append_drop]
  omega
variable {w : World} {r c : Nat} {T : Dk} {K : Int} {a : Option Addr} {xs : List Rf}
set_option maxHeartbeats 2000000 in
theorem rUsed (h : RefAt w r T K a c xs) (hn : xs.length ≤ 1073741824) (hu : sumR xs ≤ 1099511627776) :
    Calls Try.prog 71 #[.pointer (some ⟨r, 0, none⟩)] w fun e w' => e = .returned (.int .i64 (sumR xs : Int)) ∧ w' = w := by
  obtain ⟨c0, c1, c2, c3, c4⟩ := box5 h.box
  have HH : Hid (RefAt w r T K a c xs ∧ sumR xs ≤ 1099511627776) := ⟨h, hu⟩
  have hnc : (xs.length : Int) ≤ 1073741824 := by omega
  clear h c0 c2 c3 c4 hn hu
  obtain ⟨n, hn⟩ : ∃ n, xs.length = n := ⟨_, rfl⟩
  have HN : Hid (xs.length = n) := hn
  rw [hn] at c1 hnc
  clear hn
  go_enter Try.func71, Try.ntmps71
  go_wp2_with fail
  go_loopw [3, 4] (fun vn vi wr => ∃ i : Nat, i ≤ n ∧ vi = .int .i64 (i : Int) ∧ vn = .int .i64 (sumR (xs.take i) : Int) ∧ wr = w) (fun _ vi _ => n - (RowKit.intOf vi).toNat)
  case atStart => exact ⟨0, Nat.zero_le _, rfl, rfl, rfl⟩
  case round =>
    obtain ⟨i, hi, rfl, rfl, hwr⟩ := hrel
    subst hwr
    by_cases hlt : i < n
    · have hlt2 : (i : Int) < (n : Int) := by omega
      have hrow := HH.out.1.row
      rw [HN.out] at hrow
      obtain ⟨g, off, o, hoa, hgl, hoi, hcell⟩ := hrow.at i hlt
      subst hoa
      have o2 := hcell 2 _ rfl
      have gi : IntKind.i64.wrap ((i : Int) + 1) = ((i + 1 : Nat) : Int) := by rw [IntWalk.i64_in _ (by omega)]; omega
      have hsn := sumR_snoc hoi
      have hle := sumR_le xs (i + 1)
      have hub := HH.out.2
      have gs : IntKind.i64.wrap ((sumR (xs.take i) : Int) + (o.bs.length : Int)) = (sumR (xs.take (i + 1)) : Int) := by rw [IntWalk.i64_in _ (by omega)]; omega
      clear hcell hgl hoi hrow hsn hle hub
      generalize sumR (xs.take i) = s1 at *
      generalize hs2 : sumR (xs.take (i + 1)) = s2 at *
      have HS2 : Hid (sumR (xs.take (i + 1)) = s2) := hs2
      clear hs2
      go_wp2_with fail
      go_roundw
      case rel => exact ⟨i + 1, by omega, by first | rfl | go_num, by first | rfl | rw [HS2.out], by first | rfl | trivial⟩
      case measure => simp [RowKit.intOf]; omega
    · obtain rfl : i = n := by omega
      have hlt2 : ¬ ((i : Int) < (i : Int)) := by omega
      have he : xs.take i = xs := by rw [← HN.out, List.take_length]
      rw [he]
      go_wp2_with fail
      go_ret
      exact ⟨rfl, rfl⟩
set_option maxHeartbeats 2000000 in
theorem rLook_err (h : RefAt w r T K a c xs) (nm : List UInt8) (hl : nm.length ≤ 9223372036854775807) (must : Bool) (hr : readyP T nm ≠ 0) :
    Calls Try.prog 94 #[.pointer (some ⟨r, 0, none⟩), .string ⟨nm.toArray⟩, .bool must] w fun e w' => e = .returned (.tuple #[.agg #[.string ⟨#[]⟩, .bool false, .slice none 0 0, .int .i64 0], .int .i64 (readyP T nm)]) ∧ Below w.heap.size w w' := by
  obtain ⟨W0, hW0⟩ : ∃ W0, w.alloc (.cells #[.string ⟨#[]⟩, .bool false, .slice none 0 0, .int .i64 0] 134) = W0 := ⟨_, rfl⟩
  have hb0 : Below w.heap.size w W0 := by rw [← hW0]; exact (Below.refl _ _).alloc (Nat.le_refl _) _
  have hq : W0.heap[w.heap.size]? = some (.cells #[.string ⟨#[]⟩, .bool false, .slice none 0 0, .int .i64 0] 134) := by rw [← hW0]; exact (MapKept.heap_alloc w _).1
  have h := h.below hb0
  obtain ⟨c0, c1, c2, c3, c4⟩ := box5 h.box
  obtain ⟨W9, hW9, hh9, hC9⟩ := set4 hq (.string ⟨#[]⟩) (.bool false) (.slice none 0 0) (.int .i64 0)
  obtain ⟨y0, y1, y2, y3⟩ := box4 hq
  have k0 := Lib.frozen_of_heap hq 0
  have k1 := Lib.frozen_of_heap hq 1
  have k2 := Lib.frozen_of_heap hq 2
  have k3 := Lib.frozen_of_heap hq 3
  obtain ⟨r0, r1, r2, r3⟩ := box4 hh9
  have HB : Hid (Below w.heap.size w W9) := hb0.trans (hC9.below (fun g e => by omega) hb0.size)
  have HN : Hid (∀ W, Calls Try.prog 90 #[.string ⟨nm.toArray⟩] W fun e w' => e = .returned (.bool (nameOk nm)) ∧ w' = W) := rNamed nm hl
  cases hd : T.down with
  | true =>
    have he : readyP T nm = 110 := by unfold readyP; rw [if_pos hd]
    rw [hd] at c2
    rw [he]
    clear h hl hr hd he c0 c1 c3 c4 hh9 hC9 hb0 hq HN
    generalize (⟨nm.toArray⟩ : ByteArray) = s at *
    go_enter Try.func94, Try.ntmps94
    go_wp2_with fail
    refine bodyPost_ret (v := .tuple #[.agg #[.string ⟨#[]⟩, .bool false, .slice none 0 0, .int .i64 0], .int .i64 110]) (by simp [results, Try.results94, go_sem, r0, r1, r2, r3]) rfl ?_
    exact ⟨rfl, HB.out⟩
  | false =>
    have hno : nameOk nm = false := by
      cases hq : nameOk nm with
      | false => rfl
      | true => exact absurd (by unfold readyP; rw [if_neg (by simp [hd]), if_pos hq]) hr
    have he : readyP T nm = 113 := by unfold readyP; rw [if_neg (by simp [hd]), if_neg (by simp [hno])]
    rw [hd] at c2
    rw [he]
    rw [hno] at HN
    clear h hl hr hd he hno c0 c1 c3 c4 hh9 hC9 hb0 hq
    generalize (⟨nm.toArray⟩ : ByteArray) = s at *
    go_enter Try.func94, Try.ntmps94
    go_wp2_with fail
    refine (HN.out _).mono ?_
    rintro e wz ⟨rfl, hz⟩
    rw [hz]
    clear hz wz
    go_wp2_with fail
    refine bodyPost_ret (v := .tuple #[.agg #[.string ⟨#[]⟩, .bool false, .slice none 0 0, .int .i64 0], .int .i64 113]) (by simp [results, Try.results94, go_sem, r0, r1, r2, r3]) rfl ?_
    exact ⟨rfl, HB.out⟩
set_option maxHeartbeats 4000000 in
theorem rLook_ok (h : RefAt w r T K a c xs) (hn : xs.length ≤ 4398046511104) (nm : List UInt8) (hl : nm.length ≤ 9223372036854775807) (must : Bool) (hr : readyP T nm = 0) (s : ByteArray) (th : Bool) (xa : Option Addr) (xn xc : Nat) (y : Int) (hfa : fileA xs nm = .agg #[.string s, .bool th, .slice xa xn xc, .int .i64 y]) (hm : must = false ∨ th = true) :
    Calls Try.prog 94 #[.pointer (some ⟨r, 0, none⟩), .string ⟨nm.toArray⟩, .bool must] w fun e w' => e = .returned (.tuple #[.agg #[.string s, .bool th, .slice xa xn xc, .int .i64 y], .int .i64 0]) ∧ Below w.heap.size w w' := by
  obtain ⟨W0, hW0⟩ : ∃ W0, w.alloc (.cells #[.string ⟨#[]⟩, .bool false, .slice none 0 0, .int .i64 0] 134) = W0 := ⟨_, rfl⟩
  have hb0 : Below w.heap.size w W0 := by rw [← hW0]; exact (Below.refl _ _).alloc (Nat.le_refl _) _
  have hq : W0.heap[w.heap.size]? = some (.cells #[.string ⟨#[]⟩, .bool false, .slice none 0 0, .int .i64 0] 134) := by rw [← hW0]; exact (MapKept.heap_alloc w _).1
  have h := h.below hb0
  obtain ⟨c0, c1, c2, c3, c4⟩ := box5 h.box
  have hd : T.down = false := by
    cases hd : T.down with
    | false => rfl
    | true => unfold readyP at hr; rw [if_pos hd] at hr; cases hr
  have hno : nameOk nm = true := by
    unfold readyP at hr
    rw [if_neg (by simp [hd])] at hr
    cases hq : nameOk nm with
    | true => rfl
    | false => rw [hq] at hr; cases hr
  have HN : Hid (∀ W, Calls Try.prog 90 #[.string ⟨nm.toArray⟩] W fun e w' => e = .returned (.bool true) ∧ w' = W) := fun W => by have := rNamed nm hl W; rwa [hno] at this
  have HFI : Hid (Calls Try.prog 91 #[.pointer (some ⟨r, 0, none⟩), .string ⟨nm.toArray⟩] W0 fun e w' => e = .returned (.agg #[.string s, .bool th, .slice xa xn xc, .int .i64 y]) ∧ Below W0.heap.size W0 w') := by have := rFile h hn nm; rwa [hfa] at this
  have HH : Hid (Below w.heap.size w W0 ∧ W0.heap[w.heap.size]? = some (.cells #[.string ⟨#[]⟩, .bool false, .slice none 0 0, .int .i64 0] 134)) := ⟨hb0, hq⟩
  rw [hd] at c2
  clear h hl hr hd hno c0 c1 c3 c4 hb0 hq hfa hn
  generalize (⟨nm.toArray⟩ : ByteArray) = sn at *
  cases must with
  | false =>
    clear hm
    go_enter Try.func94, Try.ntmps94
    go_wp2_with fail
    refine (HN.out _).mono ?_
    rintro e wz ⟨rfl, hz⟩
    rw [hz]
    clear hz wz
    go_wp2_with fail
    refine (HFI.out).mono ?_
    rintro e w1 ⟨rfl, hb1⟩
    have hq1 : w1.heap[w.heap.size]? = some (.cells #[.string ⟨#[]⟩, .bool false, .slice none 0 0, .int .i64 0] 134) := (hb1.block _ (Array.getElem?_eq_some_iff.1 HH.out.2).1).trans HH.out.2
    obtain ⟨V5, hV5⟩ : ∃ V5, w1.alloc (.cells #[.string ⟨#[]⟩, .bool false, .slice none 0 0, .int .i64 0] 134) = V5 := ⟨_, rfl⟩
    have hV5b : Below w1.heap.size w1 V5 := by rw [← hV5]; exact (Below.refl _ _).alloc (Nat.le_refl _) _
    have hV5h : V5.heap[w1.heap.size]? = some (.cells #[.string ⟨#[]⟩, .bool false, .slice none 0 0, .int .i64 0] 134) := by rw [← hV5]; exact (MapKept.heap_alloc w1 _).1
    obtain ⟨V6, hV6, hh9, hC9⟩ := set4 hV5h (.string s) (.bool th) (.slice xa xn xc) (.int .i64 y)
    obtain ⟨y0, y1, y2, y3⟩ := box4 hV5h
    have k0 := Lib.frozen_of_heap hV5h 0
    have k1 := Lib.frozen_of_heap hV5h 1
    have k2 := Lib.frozen_of_heap hV5h 2
    have k3 := Lib.frozen_of_heap hV5h 3
    obtain ⟨t0, t1, t2, t3⟩ := box4 hh9
    have hwl : w.heap.size < w1.heap.size := (Array.getElem?_eq_some_iff.1 hq1).1
    have hq6 : V6.heap[w.heap.size]? = some (.cells #[.string ⟨#[]⟩, .bool false, .slice none 0 0, .int .i64 0] 134) := hC9.block ((hV5b.block _ hwl).trans hq1) (by omega)
    have hb6 : Below w.heap.size w V6 := ((HH.out.1.trans (hb1.mono HH.out.1.size)).trans (hV5b.mono (by omega))).trans (hC9.below (fun g e => by omega) (by have := hV5b.size; omega))
    clear hh9 hC9 hV5b hV5h hb1 hq1 hwl
    obtain ⟨W9, hW9, hh9, hC9⟩ := set4 hq6 (.string s) (.bool th) (.slice xa xn xc) (.int .i64 y)
    obtain ⟨x0, x1, x2, x3⟩ := box4 hq6
    have j0 := Lib.frozen_of_heap hq6 0
    have j1 := Lib.frozen_of_heap hq6 1
    have j2 := Lib.frozen_of_heap hq6 2
    have j3 := Lib.frozen_of_heap hq6 3
    obtain ⟨r0, r1, r2, r3⟩ := box4 hh9
    have HB : Hid (Below w.heap.size w W9) := hb6.trans (hC9.below (fun g e => by omega) hb6.size)
    clear hq6 hh9 hC9 hb6
    go_wp2_with fail
    refine bodyPost_ret (v := .tuple #[.agg #[.string s, .bool th, .slice xa xn xc, .int .i64 y], .int .i64 0]) (by simp [results, Try.results94, go_sem, r0, r1, r2, r3]) rfl ?_
    exact ⟨rfl, HB.out⟩
  | true =>
    have hth : th = true := by simpa using hm
    subst hth
    clear hm
    go_enter Try.func94, Try.ntmps94
    go_wp2_with fail
    refine (HN.out _).mono ?_
    rintro e wz ⟨rfl, hz⟩
    rw [hz]
    clear hz wz
    go_wp2_with fail
    refine (HFI.out).mono ?_
    rintro e w1 ⟨rfl, hb1⟩
    have hq1 : w1.heap[w.heap.size]? = some (.cells #[.string ⟨#[]⟩, .bool false, .slice none 0 0, .int .i64 0] 134) := (hb1.block _ (Array.getElem?_eq_some_iff.1 HH.out.2).1).trans HH.out.2
    obtain ⟨V5, hV5⟩ : ∃ V5, w1.alloc (.cells #[.string ⟨#[]⟩, .bool false, .slice none 0 0, .int .i64 0] 134) = V5 := ⟨_, rfl⟩
    have hV5b : Below w1.heap.size w1 V5 := by rw [← hV5]; exact (Below.refl _ _).alloc (Nat.le_refl _) _
    have hV5h : V5.heap[w1.heap.size]? = some (.cells #[.string ⟨#[]⟩, .bool false, .slice none 0 0, .int .i64 0] 134) := by rw [← hV5]; exact (MapKept.heap_alloc w1 _).1
    obtain ⟨V6, hV6, hh9, hC9⟩ := set4 hV5h (.string s) (.bool true) (.slice xa xn xc) (.int .i64 y)
    obtain ⟨y0, y1, y2, y3⟩ := box4 hV5h
    have k0 := Lib.frozen_of_heap hV5h 0
    have k1 := Lib.frozen_of_heap hV5h 1
    have k2 := Lib.frozen_of_heap hV5h 2
    have k3 := Lib.frozen_of_heap hV5h 3
    obtain ⟨t0, t1, t2, t3⟩ := box4 hh9
    have hwl : w.heap.size < w1.heap.size := (Array.getElem?_eq_some_iff.1 hq1).1
    have hq6 : V6.heap[w.heap.size]? = some (.cells #[.string ⟨#[]⟩, .bool false, .slice none 0 0, .int .i64 0] 134) := hC9.block ((hV5b.block _ hwl).trans hq1) (by omega)
    have hb6 : Below w.heap.size w V6 := ((HH.out.1.trans (hb1.mono HH.out.1.size)).trans (hV5b.mono (by omega))).trans (hC9.below (fun g e => by omega) (by have := hV5b.size; omega))
    clear hh9 hC9 hV5b hV5h hb1 hq1 hwl
    obtain ⟨W9, hW9, hh9, hC9⟩ := set4 hq6 (.string s) (.bool true) (.slice xa xn xc) (.int .i64 y)
    obtain ⟨x0, x1, x2, x3⟩ := box4 hq6
    have j0 := Lib.frozen_of_heap hq6 0
    have j1 := Lib.frozen_of_heap hq6 1
    have j2 := Lib.frozen_of_heap hq6 2
    have j3 := Lib.frozen_of_heap hq6 3
    obtain ⟨r0, r1, r2, r3⟩ := box4 hh9
    have HB : Hid (Below w.heap.size w W9) := hb6.trans (hC9.below (fun g e => by omega) hb6.size)
    clear hq6 hh9 hC9 hb6
    go_wp2_with fail
    refine bodyPost_ret (v := .tuple #[.agg #[.string s, .bool true, .slice xa xn xc, .int .i64 y], .int .i64 0]) (by simp [results, Try.results94, go_sem, r0, r1, r2, r3]) rfl ?_
    exact ⟨rfl, HB.out⟩
set_option maxHeartbeats 4000000 in
theorem rLook_none (h : RefAt w r T K a c xs) (hn : xs.length ≤ 4398046511104) (nm : List UInt8) (hl : nm.length ≤ 9223372036854775807) (must : Bool) (hr : readyP T nm = 0) (s : ByteArray) (th : Bool) (xa : Option Addr) (xn xc : Nat) (y : Int) (hfa : fileA xs nm = .agg #[.string s, .bool th, .slice xa xn xc, .int .i64 y]) (hm : must = true) (ht : th = false) :
    Calls Try.prog 94 #[.pointer (some ⟨r, 0, none⟩), .string ⟨nm.toArray⟩, .bool must] w fun e w' => e = .returned (.tuple #[.agg #[.string ⟨#[]⟩, .bool false, .slice none 0 0, .int .i64 0], .int .i64 112]) ∧ Below w.heap.size w w' := by
  obtain ⟨W0, hW0⟩ : ∃ W0, w.alloc (.cells #[.string ⟨#[]⟩, .bool false, .slice none 0 0, .int .i64 0] 134) = W0 := ⟨_, rfl⟩
  have hb0 : Below w.heap.size w W0 := by rw [← hW0]; exact (Below.refl _ _).alloc (Nat.le_refl _) _
  have hq : W0.heap[w.heap.size]? = some (.cells #[.string ⟨#[]⟩, .bool false, .slice none 0 0, .int .i64 0] 134) := by rw [← hW0]; exact (MapKept.heap_alloc w _).1
  have h := h.below hb0
  obtain ⟨c0, c1, c2, c3, c4⟩ := box5 h.box
  have hd : T.down = false := by
    cases hd : T.down with
    | false => rfl
    | true => unfold readyP at hr; rw [if_pos hd] at hr; cases hr
  have hno : nameOk nm = true := by
    unfold readyP at hr
    rw [if_neg (by simp [hd])] at hr
    cases hq : nameOk nm with
    | true => rfl
    | false => rw [hq] at hr; cases hr
  have HN : Hid (∀ W, Calls Try.prog 90 #[.string ⟨nm.toArray⟩] W fun e w' => e = .returned (.bool true) ∧ w' = W) := fun W => by have := rNamed nm hl W; rwa [hno] at this
  have HFI : Hid (Calls Try.prog 91 #[.pointer (some ⟨r, 0, none⟩), .string ⟨nm.toArray⟩] W0 fun e w' => e = .returned (.agg #[.string s, .bool th, .slice xa xn xc, .int .i64 y]) ∧ Below W0.heap.size W0 w') := by have := rFile h hn nm; rwa [hfa] at this
  have HH : Hid (Below w.heap.size w W0 ∧ W0.heap[w.heap.size]? = some (.cells #[.string ⟨#[]⟩, .bool false, .slice none 0 0, .int .i64 0] 134)) := ⟨hb0, hq⟩
  rw [hd] at c2
  clear h hl hr hd hno c0 c1 c3 c4 hb0 hq hfa hn
  generalize (⟨nm.toArray⟩ : ByteArray) = sn at *
  subst hm
  subst ht
  go_enter Try.func94, Try.ntmps94
  go_wp2_with fail
  refine (HN.out _).mono ?_
  rintro e wz ⟨rfl, hz⟩
  rw [hz]
  clear hz wz
  go_wp2_with fail
  refine (HFI.out).mono ?_
  rintro e w1 ⟨rfl, hb1⟩
  have hq1 : w1.heap[w.heap.size]? = some (.cells #[.string ⟨#[]⟩, .bool false, .slice none 0 0, .int .i64 0] 134) := (hb1.block _ (Array.getElem?_eq_some_iff.1 HH.out.2).1).trans HH.out.2
  obtain ⟨V5, hV5⟩ : ∃ V5, w1.alloc (.cells #[.string ⟨#[]⟩, .bool false, .slice none 0 0, .int .i64 0] 134) = V5 := ⟨_, rfl⟩
  have hV5b : Below w1.heap.size w1 V5 := by rw [← hV5]; exact (Below.refl _ _).alloc (Nat.le_refl _) _
  have hV5h : V5.heap[w1.heap.size]? = some (.cells #[.string ⟨#[]⟩, .bool false, .slice none 0 0, .int .i64 0] 134) := by rw [← hV5]; exact (MapKept.heap_alloc w1 _).1
  obtain ⟨V6, hV6, hh9, hC9⟩ := set4 hV5h (.string s) (.bool false) (.slice xa xn xc) (.int .i64 y)
  obtain ⟨y0, y1, y2, y3⟩ := box4 hV5h
  have k0 := Lib.frozen_of_heap hV5h 0
  have k1 := Lib.frozen_of_heap hV5h 1
  have k2 := Lib.frozen_of_heap hV5h 2
  have k3 := Lib.frozen_of_heap hV5h 3
  obtain ⟨t0, t1, t2, t3⟩ := box4 hh9
  have hwl : w.heap.size < w1.heap.size := (Array.getElem?_eq_some_iff.1 hq1).1
  have hq6 : V6.heap[w.heap.size]? = some (.cells #[.string ⟨#[]⟩, .bool false, .slice none 0 0, .int .i64 0] 134) := hC9.block ((hV5b.block _ hwl).trans hq1) (by omega)
  have hb6 : Below w.heap.size w V6 := ((HH.out.1.trans (hb1.mono HH.out.1.size)).trans (hV5b.mono (by omega))).trans (hC9.below (fun g e => by omega) (by have := hV5b.size; omega))
  clear hh9 hC9 hV5b hV5h hb1 hq1 hwl
  obtain ⟨W9, hW9, hh9, hC9⟩ := set4 hq6 (.string ⟨#[]⟩) (.bool false) (.slice none 0 0) (.int .i64 0)
  obtain ⟨x0, x1, x2, x3⟩ := box4 hq6
  have j0 := Lib.frozen_of_heap hq6 0
  have j1 := Lib.frozen_of_heap hq6 1
  have j2 := Lib.frozen_of_heap hq6 2
  have j3 := Lib.frozen_of_heap hq6 3
  obtain ⟨r0, r1, r2, r3⟩ := box4 hh9
  have HB : Hid (Below w.heap.size w W9) := hb6.trans (hC9.below (fun g e => by omega) hb6.size)
  clear hq6 hh9 hC9 hb6
  go_wp2_with fail
  refine bodyPost_ret (v := .tuple #[.agg #[.string ⟨#[]⟩, .bool false, .slice none 0 0, .int .i64 0], .int .i64 112]) (by simp [results, Try.results94, go_sem, r0, r1, r2, r3]) rfl ?_
  exact ⟨rfl, HB.out⟩
end Go.Proofs.Ytaclgiakinoocaa
