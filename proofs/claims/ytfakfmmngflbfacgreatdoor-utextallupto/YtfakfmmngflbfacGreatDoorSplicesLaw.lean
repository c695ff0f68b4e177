import Derived.Test.YtfakfmmngflbfacGreatDoorRefDiff
import Derived.Test.YtfakfmmngflbfacGreatDoorRefSplice
namespace Go.Proofs.YtfakfmmngflbfacGreatDoor
open Go.RowKit Go.Lib

theorem splice_agree (S T : ByteArray) (A B : Int) (hS : S.size ≤ 2097152) (hT : T.size ≤ 2097152) : ∃ (n : ByteArray) (e : Int),
    (∀ w, Tabs w → Calls Tryz.prog 37 #[.string S, .int .i64 A, .int .i64 B, .string T] w fun E w' => E = .returned (.tuple #[.string n, .int .i64 e]) ∧ Below w.heap.size w w') ∧
    (∀ w, Calls Tryz.prog 38 #[.string S, .int .i64 A, .int .i64 B, .string T] w fun E w' => E = .returned (.tuple #[.string n, .int .i64 e]) ∧ Below w.heap.size w w') := by
  rcases text_or S with ⟨rs, h⟩ | ⟨p, c, h, hc⟩
  · rcases text_or T with ⟨ts, h2⟩ | ⟨p, c, h2, hc⟩
    · by_cases hk : 0 ≤ A ∧ A ≤ rs.length ∧ 0 ≤ B ∧ B ≤ rs.length - A
      · obtain ⟨a, rfl⟩ := Int.eq_ofNat_of_zero_le hk.1
        obtain ⟨d, rfl⟩ := Int.eq_ofNat_of_zero_le hk.2.2.1
        exact ⟨_, _, fun w hw => splice_in h h2 hS hT a d (by omega) w hw.bar, fun w => refSplice_in h h2 hS hT a d (by omega) w⟩
      · exact ⟨_, _, fun w hw => splice_out h h2 hS hT A B hk w hw.bar, fun w => refSplice_out h h2 hS hT A B hk w⟩
    · exact ⟨_, c, fun w hw => splice_bad2 h h2 hc (by omega) (by omega) A B w hw.bar, fun w => refSplice_bad2 h h2 hc hS hT A B w⟩
  · exact ⟨_, c, fun w hw => splice_bad h hc (by omega) A B T w hw.bar, fun w => refSplice_bad h hc hS A B T w⟩
theorem diff_agree (S T : ByteArray) (hS : S.size ≤ 2097152) (hT : T.size ≤ 2097152) : ∃ (a d : Int) (n : ByteArray) (e : Int),
    (∀ w, Tabs w → Calls Tryz.prog 39 #[.string S, .string T] w fun E w' => E = .returned (.tuple #[.int .i64 a, .int .i64 d, .string n, .int .i64 e]) ∧ Below w.heap.size w w') ∧
    (∀ w, Calls Tryz.prog 40 #[.string S, .string T] w fun E w' => E = .returned (.tuple #[.int .i64 a, .int .i64 d, .string n, .int .i64 e]) ∧ Below w.heap.size w w') := by
  rcases text_or S with ⟨rs, h⟩ | ⟨p, c, h, hc⟩
  · have hl := text_len h
    rcases text_or T with ⟨ts, h2⟩ | ⟨p, c, h2, hc⟩
    · have hl2 := text_len h2
      exact ⟨_, _, _, _, fun w hw => diff_in h h2 (by omega) (by omega) (by omega) (by omega) w hw.bar, fun w => refDiff_in h h2 hS hT w⟩
    · exact ⟨_, _, _, c, fun w hw => diff_bad2 h h2 hc (by omega) (by omega) w hw.bar, fun w => refDiff_bad2 h h2 hc hS hT w⟩
  · exact ⟨_, _, _, c, fun w hw => diff_bad h hc (by omega) T w hw.bar, fun w => refDiff_bad h hc hS T w⟩
set_option maxHeartbeats 1000000 in
set_option maxRecDepth 100000 in
theorem cuts_splice (S T : ByteArray) (A B : Int) (hS : S.size ≤ 2097152) (hT : T.size ≤ 2097152) (w : World) (hw : Tabs w) :
    Calls Tryz.prog 20 #[.agg #[.int .i64 5, .string S, .string T, .int .i64 A, .int .i64 B]] w fun e w' => e = .returned (.bool true) ∧ Below w.heap.size w w' := by
  obtain ⟨n, e, h1, h2⟩ := splice_agree S T A B hS hT
  have H1 : Hid (∀ w, Tabs w → Calls Tryz.prog 37 #[.string S, .int .i64 A, .int .i64 B, .string T] w fun E w' => E = .returned (.tuple #[.string n, .int .i64 e]) ∧ Below w.heap.size w w') := h1
  have H2 : Hid (∀ w, Calls Tryz.prog 38 #[.string S, .int .i64 A, .int .i64 B, .string T] w fun E w' => E = .returned (.tuple #[.string n, .int .i64 e]) ∧ Below w.heap.size w w') := h2
  clear h1 h2
  have t0 : (n.toList == n.toList) = true := beq_self_eq_true _
  have t1 : (e == e) = true := by simp
  go_enter Tryz.func20, Tryz.ntmps20
  go_wp2_with fail
  have hb0 : Below w.heap.size w (w.alloc (Obj.cells #[.int .i64 5, .string S, .string T, .int .i64 A, .int .i64 B] 27)) := (Below.refl _ _).alloc (Nat.le_refl _) _
  refine (H1.out _ (hw.below hb0)).mono ?_
  rintro e w1 ⟨rfl, hb1⟩
  have hc1 : w1.cell? ⟨w.heap.size, 1, none⟩ = some (.string S) := (hb1.cell (p := ⟨w.heap.size, 1, none⟩) (by simp)).trans (World.cell?_alloc_mark _ _ _ _ _)
  have hc2 : w1.cell? ⟨w.heap.size, 2, none⟩ = some (.string T) := (hb1.cell (p := ⟨w.heap.size, 2, none⟩) (by simp)).trans (World.cell?_alloc_mark _ _ _ _ _)
  have hc3 : w1.cell? ⟨w.heap.size, 3, none⟩ = some (.int .i64 A) := (hb1.cell (p := ⟨w.heap.size, 3, none⟩) (by simp)).trans (World.cell?_alloc_mark _ _ _ _ _)
  have hc4 : w1.cell? ⟨w.heap.size, 4, none⟩ = some (.int .i64 B) := (hb1.cell (p := ⟨w.heap.size, 4, none⟩) (by simp)).trans (World.cell?_alloc_mark _ _ _ _ _)
  have hB1 : Below w.heap.size w w1 := hb0.trans (hb1.mono (by simp))
  clear hb1 hb0
  go_wp2_with fail
  refine (H2.out _).mono ?_
  rintro e w2 ⟨rfl, hb2⟩
  have hB2 := hB1.trans (hb2.mono hB1.size)
  clear hb2 hB1 hc1 hc2 hc3 hc4
  go_wp2_with fail
  go_ret
  exact ⟨rfl, hB2⟩
set_option maxHeartbeats 1000000 in
set_option maxRecDepth 100000 in
theorem cuts_diff (S T : ByteArray) (A B : Int) (hS : S.size ≤ 2097152) (hT : T.size ≤ 2097152) (w : World) (hw : Tabs w) :
    Calls Tryz.prog 20 #[.agg #[.int .i64 6, .string S, .string T, .int .i64 A, .int .i64 B]] w fun e w' => e = .returned (.bool true) ∧ Below w.heap.size w w' := by
  obtain ⟨a, d, n, e, h1, h2⟩ := diff_agree S T hS hT
  have H1 : Hid (∀ w, Tabs w → Calls Tryz.prog 39 #[.string S, .string T] w fun E w' => E = .returned (.tuple #[.int .i64 a, .int .i64 d, .string n, .int .i64 e]) ∧ Below w.heap.size w w') := h1
  have H2 : Hid (∀ w, Calls Tryz.prog 40 #[.string S, .string T] w fun E w' => E = .returned (.tuple #[.int .i64 a, .int .i64 d, .string n, .int .i64 e]) ∧ Below w.heap.size w w') := h2
  clear h1 h2
  have t0 : (a == a) = true := by simp
  have t1 : (d == d) = true := by simp
  have t2 : (n.toList == n.toList) = true := beq_self_eq_true _
  have t3 : (e == e) = true := by simp
  go_enter Tryz.func20, Tryz.ntmps20
  go_wp2_with fail
  have hb0 : Below w.heap.size w (w.alloc (Obj.cells #[.int .i64 6, .string S, .string T, .int .i64 A, .int .i64 B] 27)) := (Below.refl _ _).alloc (Nat.le_refl _) _
  refine (H1.out _ (hw.below hb0)).mono ?_
  rintro e w1 ⟨rfl, hb1⟩
  have hc1 : w1.cell? ⟨w.heap.size, 1, none⟩ = some (.string S) := (hb1.cell (p := ⟨w.heap.size, 1, none⟩) (by simp)).trans (World.cell?_alloc_mark _ _ _ _ _)
  have hc2 : w1.cell? ⟨w.heap.size, 2, none⟩ = some (.string T) := (hb1.cell (p := ⟨w.heap.size, 2, none⟩) (by simp)).trans (World.cell?_alloc_mark _ _ _ _ _)
  have hc3 : w1.cell? ⟨w.heap.size, 3, none⟩ = some (.int .i64 A) := (hb1.cell (p := ⟨w.heap.size, 3, none⟩) (by simp)).trans (World.cell?_alloc_mark _ _ _ _ _)
  have hc4 : w1.cell? ⟨w.heap.size, 4, none⟩ = some (.int .i64 B) := (hb1.cell (p := ⟨w.heap.size, 4, none⟩) (by simp)).trans (World.cell?_alloc_mark _ _ _ _ _)
  have hB1 : Below w.heap.size w w1 := hb0.trans (hb1.mono (by simp))
  clear hb1 hb0
  go_wp2_with fail
  refine (H2.out _).mono ?_
  rintro e w2 ⟨rfl, hb2⟩
  have hB2 := hB1.trans (hb2.mono hB1.size)
  clear hb2 hB1 hc1 hc2 hc3 hc4
  go_wp2_with fail
  go_ret
  exact ⟨rfl, hB2⟩
set_option maxHeartbeats 1000000 in
set_option maxRecDepth 100000 in
theorem plays_splice (S T : ByteArray) (A B : Int) (hS : S.size ≤ 2097152) (hT : T.size ≤ 2097152) (w : World) (hw : Tabs w) :
    Calls Tryz.prog 10 #[.agg #[.int .i64 5, .string S, .string T, .int .i64 A, .int .i64 B]] w fun e w' => e = .returned (.bool true) ∧ Below w.heap.size w w' := by
  have HW : Hid (∀ w, Tabs w → Calls Tryz.prog 20 #[.agg #[.int .i64 5, .string S, .string T, .int .i64 A, .int .i64 B]] w fun e w' => e = .returned (.bool true) ∧ Below w.heap.size w w') := fun w hw => cuts_splice S T A B hS hT w hw
  go_enter Tryz.func10, Tryz.ntmps10
  go_wp2_with fail
  have hb0 : Below w.heap.size w (w.alloc (Obj.cells #[.int .i64 5, .string S, .string T, .int .i64 A, .int .i64 B] 27)) := (Below.refl _ _).alloc (Nat.le_refl _) _
  refine (HW.out _ (hw.below hb0)).mono ?_
  rintro e w1 ⟨rfl, hb1⟩
  have hB1 : Below w.heap.size w w1 := hb0.trans (hb1.mono (by simp))
  clear hb1 hb0 HW
  go_wp2_with fail
  go_ret
  exact ⟨rfl, hB1⟩
set_option maxHeartbeats 1000000 in
set_option maxRecDepth 100000 in
theorem plays_diff (S T : ByteArray) (A B : Int) (hS : S.size ≤ 2097152) (hT : T.size ≤ 2097152) (w : World) (hw : Tabs w) :
    Calls Tryz.prog 10 #[.agg #[.int .i64 6, .string S, .string T, .int .i64 A, .int .i64 B]] w fun e w' => e = .returned (.bool true) ∧ Below w.heap.size w w' := by
  have HW : Hid (∀ w, Tabs w → Calls Tryz.prog 20 #[.agg #[.int .i64 6, .string S, .string T, .int .i64 A, .int .i64 B]] w fun e w' => e = .returned (.bool true) ∧ Below w.heap.size w w') := fun w hw => cuts_diff S T A B hS hT w hw
  go_enter Tryz.func10, Tryz.ntmps10
  go_wp2_with fail
  have hb0 : Below w.heap.size w (w.alloc (Obj.cells #[.int .i64 6, .string S, .string T, .int .i64 A, .int .i64 B] 27)) := (Below.refl _ _).alloc (Nat.le_refl _) _
  refine (HW.out _ (hw.below hb0)).mono ?_
  rintro e w1 ⟨rfl, hb1⟩
  have hB1 : Below w.heap.size w w1 := hb0.trans (hb1.mono (by simp))
  clear hb1 hb0 HW
  go_wp2_with fail
  go_ret
  exact ⟨rfl, hB1⟩
set_option maxHeartbeats 400000 in
theorem splicesLaw_any (a : Option Addr) (n cap : Nat) (hn : n ≤ 2097152) (hcap : n ≤ cap ∧ cap ≤ maxLen) (w : World) (hw : Tabs w) (hsc : Script w a n smallOp) :
    Calls Tryz.prog 4 #[.slice a n cap] w fun e w' => e = .returned (.bool true) ∧ Below w.heap.size w w' := by
  have HK := kinds_tab smallOp 5 6 a n cap hn hcap w hw hsc (fun o ho h1 h2 w' hw' => by
    obtain ⟨kind, S, T, A, B⟩ := o
    obtain ⟨hS, hT, hA, hB⟩ := ho
    simp only at h1 h2 hS hT hA hB
    have : kind = 5 ∨ kind = 6 := by omega
    rcases this with rfl | rfl
    · exact plays_splice S T A B hS hT w' hw'
    · exact plays_diff S T A B hS hT w' hw')
  go_enter Tryz.func4, Tryz.ntmps4
  go_wp2_with fail
  refine HK.mono ?_
  rintro e w1 ⟨rfl, hb1⟩
  clear HK
  go_wp2_with fail
  go_ret
  exact ⟨rfl, hb1⟩
end Go.Proofs.YtfakfmmngflbfacGreatDoor
