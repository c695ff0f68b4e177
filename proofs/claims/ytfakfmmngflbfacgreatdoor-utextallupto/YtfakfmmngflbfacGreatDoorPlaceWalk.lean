import Derived.Test.YtfakfmmngflbfacGreatDoorSlices
import Derived.Test.YtfakfmmngflbfacGreatDoorAgree
import Derived.Test.YtfakfmmngflbfacGreatDoorKinds2
namespace Go.Proofs.YtfakfmmngflbfacGreatDoor
open Go.RowKit Go.Lib

theorem place_agree (S : ByteArray) (A : Int) (hS : S.size ≤ 2097152) : ∃ n e : Int,
    (∀ w, Tabs w → Calls Tryz.prog 14 #[.string S, .int .i64 A] w fun E w' => E = .returned (.tuple #[.int .i64 n, .int .i64 e]) ∧ Below w.heap.size w w') ∧
    (∀ w, Calls Tryz.prog 15 #[.string S, .int .i64 A] w fun E w' => E = .returned (.tuple #[.int .i64 n, .int .i64 e]) ∧ Below w.heap.size w w') := by
  rcases text_or S with ⟨rs, h⟩ | ⟨p, c, h, hc⟩
  · by_cases hA : A < 0 ∨ (rs.length : Int) < A
    · exact ⟨0, 12, fun w hw => place_out h (by omega) A hA w hw.bar, fun w => refPlace_out h hS A hA w⟩
    · obtain ⟨k, rfl⟩ := Int.eq_ofNat_of_zero_le (show 0 ≤ A by omega)
      refine ⟨_, _, fun w hw => ?_, fun w => refPlace_in h hS k (by omega) w⟩
      have := place_in h (by omega) (k : Int) (by omega) (by omega) w hw.bar
      rw [Int.toNat_natCast] at this
      exact this
  · exact ⟨0, c, fun w hw => place_bad h hc (by omega) A w hw.bar, fun w => refPlace_bad h hc hS A w⟩
set_option maxHeartbeats 400000 in
theorem index_bad {s : ByteArray} {p c : Int} (h : check s = (0, p, c)) (hc : c = 10 ∨ c = 11) (hs : s.size ≤ 9223372036854775807) (k : Int) (w : World) (hw : Bar w) :
    Calls Tryz.prog 16 #[.string s, .int .i64 k] w fun e w' => e = .returned (.tuple #[.int .i64 0, .int .i64 c]) ∧ Below w.heap.size w w' := by
  have t1 : (c != 0) = true := by rcases hc with rfl | rfl <;> rfl
  have HC : Hid (check s = (0, p, c)) := h
  clear h hc
  go_enter Tryz.func16, Tryz.ntmps16
  go_wp2_with fail
  refine (check_bar hs HC.out _ hw).mono ?_
  rintro e w1 ⟨rfl, hb1⟩
  go_wp2_with fail
  go_ret2
  exact ⟨rfl, hb1⟩
theorem index_agree (S : ByteArray) (A : Int) (hS : S.size ≤ 2097152) : ∃ n e : Int,
    (∀ w, Tabs w → Calls Tryz.prog 16 #[.string S, .int .i64 A] w fun E w' => E = .returned (.tuple #[.int .i64 n, .int .i64 e]) ∧ Below w.heap.size w w') ∧
    (∀ w, Calls Tryz.prog 17 #[.string S, .int .i64 A] w fun E w' => E = .returned (.tuple #[.int .i64 n, .int .i64 e]) ∧ Below w.heap.size w w') := by
  rcases text_or S with ⟨rs, h⟩ | ⟨p, c, h, hc⟩
  · have key : ∃ n e : Int, IdxIs rs A n e := by
      by_cases hk : ∃ j : Nat, j ≤ rs.length ∧ A = posOf rs j
      · obtain ⟨j, hj, e⟩ := hk
        exact ⟨j, 0, .inl ⟨rfl, j, hj, rfl, e⟩⟩
      · exact ⟨0, 12, .inr ⟨rfl, rfl, fun j hj e => hk ⟨j, hj, e⟩⟩⟩
    obtain ⟨n, e, hne⟩ := key
    refine ⟨n, e, fun w hw => (index_loop h (by omega) A w hw.bar).mono ?_, fun w => (refIndex_text h hS A w).mono ?_⟩
    · rintro E w' ⟨a, c, rfl, hb, hi⟩
      obtain ⟨rfl, rfl⟩ := IdxIs.one hi hne
      exact ⟨rfl, hb⟩
    · rintro E w' ⟨a, c, rfl, hb, hi⟩
      obtain ⟨rfl, rfl⟩ := IdxIs.one hi hne
      exact ⟨rfl, hb⟩
  · exact ⟨0, c, fun w hw => index_bad h hc (by omega) A w hw.bar, fun w => refIndex_bad h hc hS A w⟩
theorem slice_agree (S : ByteArray) (A B : Int) (hS : S.size ≤ 2097152) : ∃ (n : ByteArray) (e : Int),
    (∀ w, Tabs w → Calls Tryz.prog 18 #[.string S, .int .i64 A, .int .i64 B] w fun E w' => E = .returned (.tuple #[.string n, .int .i64 e]) ∧ Below w.heap.size w w') ∧
    (∀ w, Calls Tryz.prog 19 #[.string S, .int .i64 A, .int .i64 B] w fun E w' => E = .returned (.tuple #[.string n, .int .i64 e]) ∧ Below w.heap.size w w') := by
  rcases text_or S with ⟨rs, h⟩ | ⟨p, c, h, hc⟩
  · by_cases hk : 0 ≤ A ∧ A ≤ B ∧ B ≤ rs.length
    · obtain ⟨lo, rfl⟩ := Int.eq_ofNat_of_zero_le hk.1
      obtain ⟨hi, rfl⟩ := Int.eq_ofNat_of_zero_le (show 0 ≤ B by omega)
      exact ⟨_, _, fun w hw => slice_in h (by omega) lo hi (by omega) (by omega) w hw.bar, fun w => refSlice_in h hS lo hi (by omega) (by omega) w⟩
    · exact ⟨_, _, fun w hw => slice_out h (by omega) A B hk w hw.bar, fun w => refSlice_out h hS A B hk w⟩
  · exact ⟨_, c, fun w hw => slice_bad h hc (by omega) A B w hw.bar, fun w => refSlice_bad h hc hS A B w⟩

set_option maxHeartbeats 1000000 in
set_option maxRecDepth 100000 in
theorem plays_place (S T : ByteArray) (A B : Int) (hS : S.size ≤ 2097152) (w : World) (hw : Tabs w) :
    Calls Tryz.prog 10 #[.agg #[.int .i64 2, .string S, .string T, .int .i64 A, .int .i64 B]] w fun e w' => e = .returned (.bool true) ∧ Below w.heap.size w w' := by
  obtain ⟨n, e, h1, h2⟩ := place_agree S A hS
  have H1 : Hid (∀ w, Tabs w → Calls Tryz.prog 14 #[.string S, .int .i64 A] w fun E w' => E = .returned (.tuple #[.int .i64 n, .int .i64 e]) ∧ Below w.heap.size w w') := h1
  have H2 : Hid (∀ w, Calls Tryz.prog 15 #[.string S, .int .i64 A] w fun E w' => E = .returned (.tuple #[.int .i64 n, .int .i64 e]) ∧ Below w.heap.size w w') := h2
  clear h1 h2
  have t0 : (n == n) = true := by simp
  have t1 : (e == e) = true := by simp
  go_enter Tryz.func10, Tryz.ntmps10
  go_wp2_with fail
  have hb0 : Below w.heap.size w (w.alloc (Obj.cells #[.int .i64 2, .string S, .string T, .int .i64 A, .int .i64 B] 27)) := (Below.refl _ _).alloc (Nat.le_refl _) _
  refine (H1.out _ (hw.below hb0)).mono ?_
  rintro e w1 ⟨rfl, hb1⟩
  have hc1 : w1.cell? ⟨w.heap.size, 1, none⟩ = some (.string S) := (hb1.cell (p := ⟨w.heap.size, 1, none⟩) (by simp)).trans (World.cell?_alloc_mark _ _ _ _ _)
  have hc3 : w1.cell? ⟨w.heap.size, 3, none⟩ = some (.int .i64 A) := (hb1.cell (p := ⟨w.heap.size, 3, none⟩) (by simp)).trans (World.cell?_alloc_mark _ _ _ _ _)
  have hc4 : w1.cell? ⟨w.heap.size, 4, none⟩ = some (.int .i64 B) := (hb1.cell (p := ⟨w.heap.size, 4, none⟩) (by simp)).trans (World.cell?_alloc_mark _ _ _ _ _)
  have hB1 : Below w.heap.size w w1 := hb0.trans (hb1.mono (by simp))
  clear hb1 hb0
  go_wp2_with fail
  refine (H2.out _).mono ?_
  rintro e w2 ⟨rfl, hb2⟩
  have hB2 := hB1.trans (hb2.mono hB1.size)
  clear hb2 hB1 hc1 hc3 hc4
  go_wp2_with fail
  go_ret
  exact ⟨rfl, hB2⟩
set_option maxHeartbeats 1000000 in
set_option maxRecDepth 100000 in
theorem plays_index (S T : ByteArray) (A B : Int) (hS : S.size ≤ 2097152) (w : World) (hw : Tabs w) :
    Calls Tryz.prog 10 #[.agg #[.int .i64 3, .string S, .string T, .int .i64 A, .int .i64 B]] w fun e w' => e = .returned (.bool true) ∧ Below w.heap.size w w' := by
  obtain ⟨n, e, h1, h2⟩ := index_agree S A hS
  have H1 : Hid (∀ w, Tabs w → Calls Tryz.prog 16 #[.string S, .int .i64 A] w fun E w' => E = .returned (.tuple #[.int .i64 n, .int .i64 e]) ∧ Below w.heap.size w w') := h1
  have H2 : Hid (∀ w, Calls Tryz.prog 17 #[.string S, .int .i64 A] w fun E w' => E = .returned (.tuple #[.int .i64 n, .int .i64 e]) ∧ Below w.heap.size w w') := h2
  clear h1 h2
  have t0 : (n == n) = true := by simp
  have t1 : (e == e) = true := by simp
  go_enter Tryz.func10, Tryz.ntmps10
  go_wp2_with fail
  have hb0 : Below w.heap.size w (w.alloc (Obj.cells #[.int .i64 3, .string S, .string T, .int .i64 A, .int .i64 B] 27)) := (Below.refl _ _).alloc (Nat.le_refl _) _
  refine (H1.out _ (hw.below hb0)).mono ?_
  rintro e w1 ⟨rfl, hb1⟩
  have hc1 : w1.cell? ⟨w.heap.size, 1, none⟩ = some (.string S) := (hb1.cell (p := ⟨w.heap.size, 1, none⟩) (by simp)).trans (World.cell?_alloc_mark _ _ _ _ _)
  have hc3 : w1.cell? ⟨w.heap.size, 3, none⟩ = some (.int .i64 A) := (hb1.cell (p := ⟨w.heap.size, 3, none⟩) (by simp)).trans (World.cell?_alloc_mark _ _ _ _ _)
  have hc4 : w1.cell? ⟨w.heap.size, 4, none⟩ = some (.int .i64 B) := (hb1.cell (p := ⟨w.heap.size, 4, none⟩) (by simp)).trans (World.cell?_alloc_mark _ _ _ _ _)
  have hB1 : Below w.heap.size w w1 := hb0.trans (hb1.mono (by simp))
  clear hb1 hb0
  go_wp2_with fail
  refine (H2.out _).mono ?_
  rintro e w2 ⟨rfl, hb2⟩
  have hB2 := hB1.trans (hb2.mono hB1.size)
  clear hb2 hB1 hc1 hc3 hc4
  go_wp2_with fail
  go_ret
  exact ⟨rfl, hB2⟩
set_option maxHeartbeats 1000000 in
set_option maxRecDepth 100000 in
theorem plays_slice (S T : ByteArray) (A B : Int) (hS : S.size ≤ 2097152) (w : World) (hw : Tabs w) :
    Calls Tryz.prog 10 #[.agg #[.int .i64 4, .string S, .string T, .int .i64 A, .int .i64 B]] w fun e w' => e = .returned (.bool true) ∧ Below w.heap.size w w' := by
  obtain ⟨n, e, h1, h2⟩ := slice_agree S A B hS
  have H1 : Hid (∀ w, Tabs w → Calls Tryz.prog 18 #[.string S, .int .i64 A, .int .i64 B] w fun E w' => E = .returned (.tuple #[.string n, .int .i64 e]) ∧ Below w.heap.size w w') := h1
  have H2 : Hid (∀ w, Calls Tryz.prog 19 #[.string S, .int .i64 A, .int .i64 B] w fun E w' => E = .returned (.tuple #[.string n, .int .i64 e]) ∧ Below w.heap.size w w') := h2
  clear h1 h2
  have t0 : (n.toList == n.toList) = true := beq_self_eq_true _
  have t1 : (e == e) = true := by simp
  go_enter Tryz.func10, Tryz.ntmps10
  go_wp2_with fail
  have hb0 : Below w.heap.size w (w.alloc (Obj.cells #[.int .i64 4, .string S, .string T, .int .i64 A, .int .i64 B] 27)) := (Below.refl _ _).alloc (Nat.le_refl _) _
  refine (H1.out _ (hw.below hb0)).mono ?_
  rintro e w1 ⟨rfl, hb1⟩
  have hc1 : w1.cell? ⟨w.heap.size, 1, none⟩ = some (.string S) := (hb1.cell (p := ⟨w.heap.size, 1, none⟩) (by simp)).trans (World.cell?_alloc_mark _ _ _ _ _)
  have hc3 : w1.cell? ⟨w.heap.size, 3, none⟩ = some (.int .i64 A) := (hb1.cell (p := ⟨w.heap.size, 3, none⟩) (by simp)).trans (World.cell?_alloc_mark _ _ _ _ _)
  have hc4 : w1.cell? ⟨w.heap.size, 4, none⟩ = some (.int .i64 B) := (hb1.cell (p := ⟨w.heap.size, 4, none⟩) (by simp)).trans (World.cell?_alloc_mark _ _ _ _ _)
  have hB1 : Below w.heap.size w w1 := hb0.trans (hb1.mono (by simp))
  clear hb1 hb0
  go_wp2_with fail
  refine (H2.out _).mono ?_
  rintro e w2 ⟨rfl, hb2⟩
  have hB2 := hB1.trans (hb2.mono hB1.size)
  clear hb2 hB1 hc1 hc3 hc4
  go_wp2_with fail
  go_ret
  exact ⟨rfl, hB2⟩
set_option maxHeartbeats 400000 in
theorem placesLaw_any (a : Option Addr) (n cap : Nat) (hn : n ≤ 2097152) (hcap : n ≤ cap ∧ cap ≤ maxLen) (w : World) (hw : Tabs w) (hsc : Script w a n smallOp) :
    Calls Tryz.prog 3 #[.slice a n cap] w fun e w' => e = .returned (.bool true) ∧ Below w.heap.size w w' := by
  have HK := kinds_tab smallOp 2 4 a n cap hn hcap w hw hsc (fun o ho h1 h2 w' hw' => by
    obtain ⟨kind, S, T, A, B⟩ := o
    obtain ⟨hS, hT, hA, hB⟩ := ho
    simp only at h1 h2 hS hT hA hB
    have : kind = 2 ∨ kind = 3 ∨ kind = 4 := by omega
    rcases this with rfl | rfl | rfl
    · exact plays_place S T A B hS w' hw'
    · exact plays_index S T A B hS w' hw'
    · exact plays_slice S T A B hS w' hw')
  go_enter Tryz.func3, Tryz.ntmps3
  go_wp2_with fail
  refine HK.mono ?_
  rintro e w1 ⟨rfl, hb1⟩
  clear HK
  go_wp2_with fail
  go_ret
  exact ⟨rfl, hb1⟩
end Go.Proofs.YtfakfmmngflbfacGreatDoor

namespace Go.Proofs.YtfakfmmngflbfacGreatDoor
open Go.RowKit Go.Lib

theorem where_agree (S : ByteArray) (A : Int) (hS : S.size ≤ 2097152) : ∃ l c e : Int,
    (∀ w, Tabs w → Calls Tryz.prog 46 #[.string S, .int .i64 A] w fun E w' => E = .returned (.tuple #[.int .i64 l, .int .i64 c, .int .i64 e]) ∧ Below w.heap.size w w') ∧
    (∀ w, Calls Tryz.prog 47 #[.string S, .int .i64 A] w fun E w' => E = .returned (.tuple #[.int .i64 l, .int .i64 c, .int .i64 e]) ∧ Below w.heap.size w w') := by
  rcases text_or S with ⟨rs, h⟩ | ⟨p, c, h, hc⟩
  · by_cases hA : A < 0 ∨ (rs.length : Int) < A
    · exact ⟨0, 0, 12, fun w hw => where_no (.inr ⟨rfl, rs, h, hA⟩) (by omega) w hw.bar, fun w => refWhere_out h hS A hA w⟩
    · obtain ⟨k, rfl⟩ := Int.eq_ofNat_of_zero_le (show 0 ≤ A by omega)
      exact ⟨_, _, _, fun w hw => where_in h (by omega) k (by omega) w hw.bar, fun w => refWhere_in h hS k (by omega) w⟩
  · exact ⟨0, 0, c, fun w hw => where_no (.inl ⟨p, h, hc⟩) (by omega) w hw.bar, fun w => refWhere_bad h hc hS A w⟩
theorem find_agree (S : ByteArray) (A B : Int) (hS : S.size ≤ 2097152) (hA : A ≤ 9223372036854775807) (hB : B ≤ 9223372036854775807) : ∃ n e : Int,
    (∀ w, Tabs w → Calls Tryz.prog 48 #[.string S, .int .i64 A, .int .i64 B] w fun E w' => E = .returned (.tuple #[.int .i64 n, .int .i64 e]) ∧ Below w.heap.size w w') ∧
    (∀ w, Calls Tryz.prog 49 #[.string S, .int .i64 A, .int .i64 B] w fun E w' => E = .returned (.tuple #[.int .i64 n, .int .i64 e]) ∧ Below w.heap.size w w') := by
  rcases text_or S with ⟨rs, h⟩ | ⟨p, c, h, hc⟩
  · by_cases hA0 : A < 0
    · exact ⟨0, 12, fun w hw => find_neg h (by omega) A B hA0 w hw.bar, fun w => refFind_neg h hS A B (.inl hA0) w⟩
    · by_cases hB0 : B < 0
      · exact ⟨0, 12, fun w hw => find_negc h (by omega) A B (by omega) hB0 w hw.bar, fun w => refFind_neg h hS A B (.inr ⟨by omega, hB0⟩) w⟩
      · exact ⟨_, _, fun w hw => find_in_text h (by omega) A B (by omega) (by omega) hA hB w hw.bar, fun w => refFind_in h hS A B (by omega) (by omega) w⟩
  · exact ⟨0, c, fun w hw => find_bad h hc (by omega) A B w hw.bar, fun w => refFind_bad h hc hS A B w⟩
theorem step_agree (S : ByteArray) (A B : Int) (hS : S.size ≤ 2097152) : ∃ n e : Int,
    (∀ w, Tabs w → Calls Tryz.prog 50 #[.string S, .int .i64 A, .int .i64 B] w fun E w' => E = .returned (.tuple #[.int .i64 n, .int .i64 e]) ∧ Below w.heap.size w w') ∧
    (∀ w, Calls Tryz.prog 51 #[.string S, .int .i64 A, .int .i64 B] w fun E w' => E = .returned (.tuple #[.int .i64 n, .int .i64 e]) ∧ Below w.heap.size w w') := by
  rcases text_or S with ⟨rs, h⟩ | ⟨p, c, h, hc⟩
  · have hlen := text_len h
    by_cases hA : A < 0 ∨ (rs.length : Int) < A
    · exact ⟨0, 12, fun w hw => step_no (.inr ⟨rfl, rs, h, hA⟩) (by omega) B w hw.bar, fun w => refStep_out h hS A B hA w⟩
    · obtain ⟨k, rfl⟩ := Int.eq_ofNat_of_zero_le (show 0 ≤ A by omega)
      have hk : k ≤ rs.length := by omega
      by_cases hB : B < 1 ∨ 10 < B
      · exact ⟨0, 16, fun w hw => step_how h (by omega) k hk B hB w hw.bar, fun w => refStep_how h hS k hk B hB w⟩
      · have hB2 : B = 1 ∨ B = 2 ∨ B = 3 ∨ B = 4 ∨ B = 5 ∨ B = 6 ∨ B = 7 ∨ B = 8 ∨ B = 9 ∨ B = 10 := by omega
        rcases hB2 with rfl | rfl | rfl | rfl | rfl | rfl | rfl | rfl | rfl | rfl
        · exact ⟨_, _, fun w hw => step_left h (by omega) (by omega) k hk w hw.bar hw.wlk, fun w => refStep_left h hS k hk w⟩
        · exact ⟨_, _, fun w hw => step_right h (by omega) (by omega) k hk w hw.bar hw.wlk, fun w => refStep_right h hS k hk w⟩
        · exact ⟨_, _, fun w hw => step_home h (by omega) (by omega) k hk w hw.bar hw.wlk, fun w => refStep_home h hS k hk w⟩
        · exact ⟨_, _, fun w hw => step_end h (by omega) (by omega) k hk w hw.bar hw.wlk, fun w => refStep_end h hS k hk w⟩
        · exact ⟨_, _, fun w hw => step_up h (by omega) (by omega) k hk w hw.bar hw.wlk, fun w => refStep_up h hS k hk w⟩
        · exact ⟨_, _, fun w hw => step_down h (by omega) (by omega) k hk w hw.bar hw.wlk, fun w => refStep_down h hS k hk w⟩
        · exact ⟨_, _, fun w hw => step_wordLeft h (by omega) (by omega) k hk w hw.bar hw.wlk, fun w => refStep_wordLeft h hS k hk w⟩
        · exact ⟨_, _, fun w hw => step_wordRight h (by omega) (by omega) k hk w hw.bar hw.wlk, fun w => refStep_wordRight h hS k hk w⟩
        · exact ⟨_, _, fun w hw => step_top h (by omega) (by omega) k hk w hw.bar hw.wlk, fun w => refStep_top h hS k hk w⟩
        · exact ⟨_, _, fun w hw => step_bottom h (by omega) (by omega) k hk w hw.bar hw.wlk, fun w => refStep_bottom h hS k hk w⟩
  · exact ⟨0, c, fun w hw => step_no (.inl ⟨p, h, hc⟩) (by omega) B w hw.bar, fun w => refStep_bad h hc hS A B w⟩

set_option maxHeartbeats 1000000 in
set_option maxRecDepth 100000 in
theorem walks_where (S T : ByteArray) (A B : Int) (hS : S.size ≤ 2097152) (hA : A ≤ 9223372036854775807) (hB : B ≤ 9223372036854775807) (w : World) (hw : Tabs w) :
    Calls Tryz.prog 24 #[.agg #[.int .i64 9, .string S, .string T, .int .i64 A, .int .i64 B]] w fun e w' => e = .returned (.bool true) ∧ Below w.heap.size w w' := by
  obtain ⟨l, c, e, h1, h2⟩ := where_agree S A hS
  have H1 : Hid (∀ w, Tabs w → Calls Tryz.prog 46 #[.string S, .int .i64 A] w fun E w' => E = .returned (.tuple #[.int .i64 l, .int .i64 c, .int .i64 e]) ∧ Below w.heap.size w w') := h1
  have H2 : Hid (∀ w, Calls Tryz.prog 47 #[.string S, .int .i64 A] w fun E w' => E = .returned (.tuple #[.int .i64 l, .int .i64 c, .int .i64 e]) ∧ Below w.heap.size w w') := h2
  clear h1 h2
  have _ra := hA
  have _rb := hB
  have t0 : (l == l) = true := by simp
  have t1 : (c == c) = true := by simp
  have t2 : (e == e) = true := by simp
  go_enter Tryz.func24, Tryz.ntmps24
  go_wp2_with fail
  have hb0 : Below w.heap.size w (w.alloc (Obj.cells #[.int .i64 9, .string S, .string T, .int .i64 A, .int .i64 B] 27)) := (Below.refl _ _).alloc (Nat.le_refl _) _
  refine (H1.out _ (hw.below hb0)).mono ?_
  rintro e w1 ⟨rfl, hb1⟩
  have hc1 : w1.cell? ⟨w.heap.size, 1, none⟩ = some (.string S) := (hb1.cell (p := ⟨w.heap.size, 1, none⟩) (by simp)).trans (World.cell?_alloc_mark _ _ _ _ _)
  have hc3 : w1.cell? ⟨w.heap.size, 3, none⟩ = some (.int .i64 A) := (hb1.cell (p := ⟨w.heap.size, 3, none⟩) (by simp)).trans (World.cell?_alloc_mark _ _ _ _ _)
  have hc4 : w1.cell? ⟨w.heap.size, 4, none⟩ = some (.int .i64 B) := (hb1.cell (p := ⟨w.heap.size, 4, none⟩) (by simp)).trans (World.cell?_alloc_mark _ _ _ _ _)
  have hB1 : Below w.heap.size w w1 := hb0.trans (hb1.mono (by simp))
  clear hb1 hb0
  go_wp2_with fail
  refine (H2.out _).mono ?_
  rintro e w2 ⟨rfl, hb2⟩
  have hB2 := hB1.trans (hb2.mono hB1.size)
  clear hb2 hB1 hc1 hc3 hc4
  go_wp2_with fail
  go_ret
  exact ⟨rfl, hB2⟩
set_option maxHeartbeats 1000000 in
set_option maxRecDepth 100000 in
theorem walks_find (S T : ByteArray) (A B : Int) (hS : S.size ≤ 2097152) (hA : A ≤ 9223372036854775807) (hB : B ≤ 9223372036854775807) (w : World) (hw : Tabs w) :
    Calls Tryz.prog 24 #[.agg #[.int .i64 10, .string S, .string T, .int .i64 A, .int .i64 B]] w fun e w' => e = .returned (.bool true) ∧ Below w.heap.size w w' := by
  obtain ⟨n, e, h1, h2⟩ := find_agree S A B hS hA hB
  have H1 : Hid (∀ w, Tabs w → Calls Tryz.prog 48 #[.string S, .int .i64 A, .int .i64 B] w fun E w' => E = .returned (.tuple #[.int .i64 n, .int .i64 e]) ∧ Below w.heap.size w w') := h1
  have H2 : Hid (∀ w, Calls Tryz.prog 49 #[.string S, .int .i64 A, .int .i64 B] w fun E w' => E = .returned (.tuple #[.int .i64 n, .int .i64 e]) ∧ Below w.heap.size w w') := h2
  clear h1 h2
  have _ra := hA
  have _rb := hB
  have t0 : (n == n) = true := by simp
  have t1 : (e == e) = true := by simp
  go_enter Tryz.func24, Tryz.ntmps24
  go_wp2_with fail
  have hb0 : Below w.heap.size w (w.alloc (Obj.cells #[.int .i64 10, .string S, .string T, .int .i64 A, .int .i64 B] 27)) := (Below.refl _ _).alloc (Nat.le_refl _) _
  refine (H1.out _ (hw.below hb0)).mono ?_
  rintro e w1 ⟨rfl, hb1⟩
  have hc1 : w1.cell? ⟨w.heap.size, 1, none⟩ = some (.string S) := (hb1.cell (p := ⟨w.heap.size, 1, none⟩) (by simp)).trans (World.cell?_alloc_mark _ _ _ _ _)
  have hc3 : w1.cell? ⟨w.heap.size, 3, none⟩ = some (.int .i64 A) := (hb1.cell (p := ⟨w.heap.size, 3, none⟩) (by simp)).trans (World.cell?_alloc_mark _ _ _ _ _)
  have hc4 : w1.cell? ⟨w.heap.size, 4, none⟩ = some (.int .i64 B) := (hb1.cell (p := ⟨w.heap.size, 4, none⟩) (by simp)).trans (World.cell?_alloc_mark _ _ _ _ _)
  have hB1 : Below w.heap.size w w1 := hb0.trans (hb1.mono (by simp))
  clear hb1 hb0
  go_wp2_with fail
  refine (H2.out _).mono ?_
  rintro e w2 ⟨rfl, hb2⟩
  have hB2 := hB1.trans (hb2.mono hB1.size)
  clear hb2 hB1 hc1 hc3 hc4
  go_wp2_with fail
  go_ret
  exact ⟨rfl, hB2⟩
set_option maxHeartbeats 1000000 in
set_option maxRecDepth 100000 in
theorem walks_step (S T : ByteArray) (A B : Int) (hS : S.size ≤ 2097152) (hA : A ≤ 9223372036854775807) (hB : B ≤ 9223372036854775807) (w : World) (hw : Tabs w) :
    Calls Tryz.prog 24 #[.agg #[.int .i64 11, .string S, .string T, .int .i64 A, .int .i64 B]] w fun e w' => e = .returned (.bool true) ∧ Below w.heap.size w w' := by
  obtain ⟨n, e, h1, h2⟩ := step_agree S A B hS
  have H1 : Hid (∀ w, Tabs w → Calls Tryz.prog 50 #[.string S, .int .i64 A, .int .i64 B] w fun E w' => E = .returned (.tuple #[.int .i64 n, .int .i64 e]) ∧ Below w.heap.size w w') := h1
  have H2 : Hid (∀ w, Calls Tryz.prog 51 #[.string S, .int .i64 A, .int .i64 B] w fun E w' => E = .returned (.tuple #[.int .i64 n, .int .i64 e]) ∧ Below w.heap.size w w') := h2
  clear h1 h2
  have _ra := hA
  have _rb := hB
  have t0 : (n == n) = true := by simp
  have t1 : (e == e) = true := by simp
  go_enter Tryz.func24, Tryz.ntmps24
  go_wp2_with fail
  have hb0 : Below w.heap.size w (w.alloc (Obj.cells #[.int .i64 11, .string S, .string T, .int .i64 A, .int .i64 B] 27)) := (Below.refl _ _).alloc (Nat.le_refl _) _
  refine (H1.out _ (hw.below hb0)).mono ?_
  rintro e w1 ⟨rfl, hb1⟩
  have hc1 : w1.cell? ⟨w.heap.size, 1, none⟩ = some (.string S) := (hb1.cell (p := ⟨w.heap.size, 1, none⟩) (by simp)).trans (World.cell?_alloc_mark _ _ _ _ _)
  have hc3 : w1.cell? ⟨w.heap.size, 3, none⟩ = some (.int .i64 A) := (hb1.cell (p := ⟨w.heap.size, 3, none⟩) (by simp)).trans (World.cell?_alloc_mark _ _ _ _ _)
  have hc4 : w1.cell? ⟨w.heap.size, 4, none⟩ = some (.int .i64 B) := (hb1.cell (p := ⟨w.heap.size, 4, none⟩) (by simp)).trans (World.cell?_alloc_mark _ _ _ _ _)
  have hB1 : Below w.heap.size w w1 := hb0.trans (hb1.mono (by simp))
  clear hb1 hb0
  go_wp2_with fail
  refine (H2.out _).mono ?_
  rintro e w2 ⟨rfl, hb2⟩
  have hB2 := hB1.trans (hb2.mono hB1.size)
  clear hb2 hB1 hc1 hc3 hc4
  go_wp2_with fail
  go_ret
  exact ⟨rfl, hB2⟩
set_option maxHeartbeats 1000000 in
set_option maxRecDepth 100000 in
theorem plays_where (S T : ByteArray) (A B : Int) (hS : S.size ≤ 2097152) (hA : A ≤ 9223372036854775807) (hB : B ≤ 9223372036854775807) (w : World) (hw : Tabs w) :
    Calls Tryz.prog 10 #[.agg #[.int .i64 9, .string S, .string T, .int .i64 A, .int .i64 B]] w fun e w' => e = .returned (.bool true) ∧ Below w.heap.size w w' := by
  have HW : Hid (∀ w, Tabs w → Calls Tryz.prog 24 #[.agg #[.int .i64 9, .string S, .string T, .int .i64 A, .int .i64 B]] w fun e w' => e = .returned (.bool true) ∧ Below w.heap.size w w') := fun w hw => walks_where S T A B hS hA hB w hw
  go_enter Tryz.func10, Tryz.ntmps10
  go_wp2_with fail
  have hb0 : Below w.heap.size w (w.alloc (Obj.cells #[.int .i64 9, .string S, .string T, .int .i64 A, .int .i64 B] 27)) := (Below.refl _ _).alloc (Nat.le_refl _) _
  refine (HW.out _ (hw.below hb0)).mono ?_
  rintro e w1 ⟨rfl, hb1⟩
  have hB1 : Below w.heap.size w w1 := hb0.trans (hb1.mono (by simp))
  clear hb1 hb0 HW
  go_wp2_with fail
  go_ret
  exact ⟨rfl, hB1⟩
set_option maxHeartbeats 1000000 in
set_option maxRecDepth 100000 in
theorem plays_find (S T : ByteArray) (A B : Int) (hS : S.size ≤ 2097152) (hA : A ≤ 9223372036854775807) (hB : B ≤ 9223372036854775807) (w : World) (hw : Tabs w) :
    Calls Tryz.prog 10 #[.agg #[.int .i64 10, .string S, .string T, .int .i64 A, .int .i64 B]] w fun e w' => e = .returned (.bool true) ∧ Below w.heap.size w w' := by
  have HW : Hid (∀ w, Tabs w → Calls Tryz.prog 24 #[.agg #[.int .i64 10, .string S, .string T, .int .i64 A, .int .i64 B]] w fun e w' => e = .returned (.bool true) ∧ Below w.heap.size w w') := fun w hw => walks_find S T A B hS hA hB w hw
  go_enter Tryz.func10, Tryz.ntmps10
  go_wp2_with fail
  have hb0 : Below w.heap.size w (w.alloc (Obj.cells #[.int .i64 10, .string S, .string T, .int .i64 A, .int .i64 B] 27)) := (Below.refl _ _).alloc (Nat.le_refl _) _
  refine (HW.out _ (hw.below hb0)).mono ?_
  rintro e w1 ⟨rfl, hb1⟩
  have hB1 : Below w.heap.size w w1 := hb0.trans (hb1.mono (by simp))
  clear hb1 hb0 HW
  go_wp2_with fail
  go_ret
  exact ⟨rfl, hB1⟩
set_option maxHeartbeats 1000000 in
set_option maxRecDepth 100000 in
theorem plays_step (S T : ByteArray) (A B : Int) (hS : S.size ≤ 2097152) (hA : A ≤ 9223372036854775807) (hB : B ≤ 9223372036854775807) (w : World) (hw : Tabs w) :
    Calls Tryz.prog 10 #[.agg #[.int .i64 11, .string S, .string T, .int .i64 A, .int .i64 B]] w fun e w' => e = .returned (.bool true) ∧ Below w.heap.size w w' := by
  have HW : Hid (∀ w, Tabs w → Calls Tryz.prog 24 #[.agg #[.int .i64 11, .string S, .string T, .int .i64 A, .int .i64 B]] w fun e w' => e = .returned (.bool true) ∧ Below w.heap.size w w') := fun w hw => walks_step S T A B hS hA hB w hw
  go_enter Tryz.func10, Tryz.ntmps10
  go_wp2_with fail
  have hb0 : Below w.heap.size w (w.alloc (Obj.cells #[.int .i64 11, .string S, .string T, .int .i64 A, .int .i64 B] 27)) := (Below.refl _ _).alloc (Nat.le_refl _) _
  refine (HW.out _ (hw.below hb0)).mono ?_
  rintro e w1 ⟨rfl, hb1⟩
  have hB1 : Below w.heap.size w w1 := hb0.trans (hb1.mono (by simp))
  clear hb1 hb0 HW
  go_wp2_with fail
  go_ret
  exact ⟨rfl, hB1⟩
set_option maxHeartbeats 400000 in
theorem walksLaw_any (a : Option Addr) (n cap : Nat) (hn : n ≤ 2097152) (hcap : n ≤ cap ∧ cap ≤ maxLen) (w : World) (hw : Tabs w) (hsc : Script w a n smallOp) :
    Calls Tryz.prog 6 #[.slice a n cap] w fun e w' => e = .returned (.bool true) ∧ Below w.heap.size w w' := by
  have HK := kinds_tab smallOp 9 11 a n cap hn hcap w hw hsc (fun o ho h1 h2 w' hw' => by
    obtain ⟨kind, S, T, A, B⟩ := o
    obtain ⟨hS, hT, hA, hB⟩ := ho
    simp only at h1 h2 hS hT hA hB
    have : kind = 9 ∨ kind = 10 ∨ kind = 11 := by omega
    rcases this with rfl | rfl | rfl
    · exact plays_where S T A B hS hA.2 hB.2 w' hw'
    · exact plays_find S T A B hS hA.2 hB.2 w' hw'
    · exact plays_step S T A B hS hA.2 hB.2 w' hw')
  go_enter Tryz.func6, Tryz.ntmps6
  go_wp2_with fail
  refine HK.mono ?_
  rintro e w1 ⟨rfl, hb1⟩
  clear HK
  go_wp2_with fail
  go_ret
  exact ⟨rfl, hb1⟩
end Go.Proofs.YtfakfmmngflbfacGreatDoor
