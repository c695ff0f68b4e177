import Derived.Test.YtfakfmmngflbfacGreatDoorRefWord
import Derived.Test.YtfakfmmngflbfacGreatDoorStepAll
import Derived.Test.YtfakfmmngflbfacGreatDoorKinds
namespace Go.Proofs.YtfakfmmngflbfacGreatDoor
open Go.RowKit Go.Lib

/-! ## The program's calls that are refused. -/

set_option maxHeartbeats 400000 in
theorem place_bad {s : ByteArray} {p c : Int} (h : check s = (0, p, c)) (hc : c = 10 ∨ c = 11) (hs : s.size ≤ 9223372036854775807) (k : Int) (w : World) (hw : Bar w) :
    Calls Tryz.prog 14 #[.string s, .int .i64 k] w fun e w' => e = .returned (.tuple #[.int .i64 0, .int .i64 c]) ∧ Below w.heap.size w w' := by
  have t1 : (c != 0) = true := by rcases hc with rfl | rfl <;> rfl
  have HC : Hid (check s = (0, p, c)) := h
  clear h hc
  go_enter Tryz.func14, Tryz.ntmps14
  go_wp2_with fail
  refine (check_bar hs HC.out _ hw).mono ?_
  rintro e w1 ⟨rfl, hb1⟩
  go_wp2_with fail
  go_ret2
  exact ⟨rfl, hb1⟩
theorem place_no {s : ByteArray} {c : Int} {k : Int} (w : World) (hw : Bar w) (h : (∃ p, check s = (0, p, c) ∧ (c = 10 ∨ c = 11)) ∨ (c = 12 ∧ ∃ rs, IsText s rs ∧ (k < 0 ∨ (rs.length : Int) < k))) (hs : s.size ≤ 9223372036854775807) :
    Calls Tryz.prog 14 #[.string s, .int .i64 k] w fun e w' => e = .returned (.tuple #[.int .i64 0, .int .i64 c]) ∧ Below w.heap.size w w' := by
  rcases h with ⟨p, h, hc⟩ | ⟨rfl, rs, h, hk⟩
  · exact place_bad h hc hs k w hw
  · exact place_out h hs k hk w hw
def No (s : ByteArray) (k c : Int) : Prop := (∃ p, check s = (0, p, c) ∧ (c = 10 ∨ c = 11)) ∨ (c = 12 ∧ ∃ rs, IsText s rs ∧ (k < 0 ∨ (rs.length : Int) < k))
theorem No.ne {s : ByteArray} {k c : Int} (h : No s k c) : (c != 0) = true := by
  rcases h with ⟨_, _, rfl | rfl⟩ | ⟨rfl, _⟩ <;> rfl

set_option maxHeartbeats 400000 in
theorem where_no {s : ByteArray} {k c : Int} (h : No s k c) (hs : s.size ≤ 9223372036854775807) (w : World) (hw : Bar w) :
    Calls Tryz.prog 46 #[.string s, .int .i64 k] w fun e w' => e = .returned (.tuple #[.int .i64 0, .int .i64 0, .int .i64 c]) ∧ Below w.heap.size w w' := by
  have t1 := h.ne
  go_enter Tryz.func46, Tryz.ntmps46
  go_wp2_with fail
  refine (place_no _ hw h hs).mono ?_
  rintro e w1 ⟨rfl, hb1⟩
  go_wp2_with fail
  go_ret3
  exact ⟨rfl, hb1⟩
set_option maxHeartbeats 400000 in
theorem step_no {s : ByteArray} {k c : Int} (h : No s k c) (hs : s.size ≤ 9223372036854775807) (how : Int) (w : World) (hw : Bar w) :
    Calls Tryz.prog 50 #[.string s, .int .i64 k, .int .i64 how] w fun e w' => e = .returned (.tuple #[.int .i64 0, .int .i64 c]) ∧ Below w.heap.size w w' := by
  have t1 := h.ne
  go_enter Tryz.func50, Tryz.ntmps50
  go_wp2_with fail
  refine (place_no _ hw h hs).mono ?_
  rintro e w1 ⟨rfl, hb1⟩
  go_wp2_with fail
  go_ret2
  exact ⟨rfl, hb1⟩
set_option maxHeartbeats 400000 in
theorem step_how {s : ByteArray} {rs : List Int} (h : IsText s rs) (hs : s.size ≤ 9223372036854775807) (k : Nat) (hk : k ≤ rs.length) (how : Int) (hh : how < 1 ∨ 10 < how) (w : World) (hw : Bar w) :
    Calls Tryz.prog 50 #[.string s, .int .i64 k, .int .i64 how] w fun e w' => e = .returned (.tuple #[.int .i64 0, .int .i64 16]) ∧ Below w.heap.size w w' := by
  rcases hh with hh | hh
  · go_enter Tryz.func50, Tryz.ntmps50
    go_wp2_with fail
    refine (place_in h hs k (by omega) (by omega) _ hw).mono ?_
    rintro e w1 ⟨rfl, hb1⟩
    go_wp2_with fail
    go_ret2
    exact ⟨rfl, hb1⟩
  · have hh1 : ¬ (how < 1) := by omega
    go_enter Tryz.func50, Tryz.ntmps50
    go_wp2_with fail
    refine (place_in h hs k (by omega) (by omega) _ hw).mono ?_
    rintro e w1 ⟨rfl, hb1⟩
    go_wp2_with fail
    go_ret2
    exact ⟨rfl, hb1⟩
set_option maxHeartbeats 400000 in
theorem find_bad {s : ByteArray} {p c : Int} (h : check s = (0, p, c)) (hc : c = 10 ∨ c = 11) (hs : s.size ≤ 9223372036854775807) (line col : Int) (w : World) (hw : Bar w) :
    Calls Tryz.prog 48 #[.string s, .int .i64 line, .int .i64 col] w fun e w' => e = .returned (.tuple #[.int .i64 0, .int .i64 c]) ∧ Below w.heap.size w w' := by
  have t1 : (c != 0) = true := by rcases hc with rfl | rfl <;> rfl
  have HC : Hid (check s = (0, p, c)) := h
  clear h hc
  go_enter Tryz.func48, Tryz.ntmps48
  go_wp2_with fail
  refine (check_bar hs HC.out _ hw).mono ?_
  rintro e w1 ⟨rfl, hb1⟩
  go_wp2_with fail
  go_ret2
  exact ⟨rfl, hb1⟩
set_option maxHeartbeats 400000 in
theorem find_negc {s : ByteArray} {rs : List Int} (h : IsText s rs) (hs : s.size ≤ 9223372036854775807) (line col : Int) (hl0 : 0 ≤ line) (hc0 : col < 0) (w : World) (hw : Bar w) :
    Calls Tryz.prog 48 #[.string s, .int .i64 line, .int .i64 col] w fun e w' => e = .returned (.tuple #[.int .i64 0, .int .i64 12]) ∧ Below w.heap.size w w' := by
  go_enter Tryz.func48, Tryz.ntmps48
  go_wp2_with fail
  refine (check_bar (by omega) h.check _ hw).mono ?_
  rintro e w1 ⟨rfl, hb1⟩
  go_wp2_with fail
  go_ret2
  exact ⟨rfl, hb1⟩

/-! ## The document's calls. -/

set_option maxHeartbeats 400000 in
theorem refWhere_bad {s : ByteArray} {p c : Int} (h : check s = (0, p, c)) (hc : c = 10 ∨ c = 11) (hs : s.size ≤ 2097152) (k : Int) (w : World) :
    Calls Tryz.prog 47 #[.string s, .int .i64 k] w fun e w' => e = .returned (.tuple #[.int .i64 0, .int .i64 0, .int .i64 c]) ∧ Below w.heap.size w w' := by
  have t1 : (c != 0) = true := by rcases hc with rfl | rfl <;> rfl
  have HC : Hid (check s = (0, p, c)) := h
  have HC2 : Hid (c = 10 ∨ c = 11) := hc
  clear h hc
  go_enter Tryz.func47, Tryz.ntmps47
  go_wp2_with fail
  refine (runes_bad HC.out HC2.out hs _).mono ?_
  rintro e w1 ⟨a, cap, rfl, hb1⟩
  go_wp2_with fail
  go_ret3
  exact ⟨rfl, hb1⟩
set_option maxHeartbeats 400000 in
theorem refWhere_out {s : ByteArray} {rs : List Int} (h : IsText s rs) (hs : s.size ≤ 2097152) (k : Int) (hk : k < 0 ∨ (rs.length : Int) < k) (w : World) :
    Calls Tryz.prog 47 #[.string s, .int .i64 k] w fun e w' => e = .returned (.tuple #[.int .i64 0, .int .i64 0, .int .i64 12]) ∧ Below w.heap.size w w' := by
  rcases hk with hk | hk
  · go_enter Tryz.func47, Tryz.ntmps47
    go_wp2_with fail
    refine (runes_text h hs _).mono ?_
    rintro e w1 ⟨a, cap, rfl, hb1, _⟩
    go_wp2_with fail
    go_ret3
    exact ⟨rfl, hb1⟩
  · have hk0 : ¬ (k < 0) := by omega
    go_enter Tryz.func47, Tryz.ntmps47
    go_wp2_with fail
    refine (runes_text h hs _).mono ?_
    rintro e w1 ⟨a, cap, rfl, hb1, _⟩
    go_wp2_with fail
    go_ret3
    exact ⟨rfl, hb1⟩
set_option maxHeartbeats 400000 in
theorem refWhere_in {s : ByteArray} {rs : List Int} (h : IsText s rs) (hs : s.size ≤ 2097152) (k : Nat) (hk : k ≤ rs.length) (w : World) :
    Calls Tryz.prog 47 #[.string s, .int .i64 k] w fun e w' => e = .returned (.tuple #[.int .i64 (lineOf rs k), .int .i64 ((k : Int) - homeOf rs k), .int .i64 0]) ∧ Below w.heap.size w w' := by
  have hlen := text_len h
  go_enter Tryz.func47, Tryz.ntmps47
  go_wp2_with fail
  refine (runes_text h hs _).mono ?_
  rintro e w1 ⟨a, cap, rfl, hb1, hr⟩
  go_wp2_with fail
  refine (refwhere_any a _ cap rs _ hr (by omega) k hk).mono ?_
  rintro e w2 ⟨rfl, rfl⟩
  go_wp2_with fail
  go_ret3
  exact ⟨rfl, hb1⟩

set_option maxHeartbeats 400000 in
theorem refFind_bad {s : ByteArray} {p c : Int} (h : check s = (0, p, c)) (hc : c = 10 ∨ c = 11) (hs : s.size ≤ 2097152) (line col : Int) (w : World) :
    Calls Tryz.prog 49 #[.string s, .int .i64 line, .int .i64 col] w fun e w' => e = .returned (.tuple #[.int .i64 0, .int .i64 c]) ∧ Below w.heap.size w w' := by
  have t1 : (c != 0) = true := by rcases hc with rfl | rfl <;> rfl
  have HC : Hid (check s = (0, p, c)) := h
  have HC2 : Hid (c = 10 ∨ c = 11) := hc
  clear h hc
  go_enter Tryz.func49, Tryz.ntmps49
  go_wp2_with fail
  refine (runes_bad HC.out HC2.out hs _).mono ?_
  rintro e w1 ⟨a, cap, rfl, hb1⟩
  go_wp2_with fail
  go_ret2
  exact ⟨rfl, hb1⟩
set_option maxHeartbeats 400000 in
theorem refFind_neg {s : ByteArray} {rs : List Int} (h : IsText s rs) (hs : s.size ≤ 2097152) (line col : Int) (hk : line < 0 ∨ (0 ≤ line ∧ col < 0)) (w : World) :
    Calls Tryz.prog 49 #[.string s, .int .i64 line, .int .i64 col] w fun e w' => e = .returned (.tuple #[.int .i64 0, .int .i64 12]) ∧ Below w.heap.size w w' := by
  rcases hk with hk | ⟨hk0, hk⟩
  · go_enter Tryz.func49, Tryz.ntmps49
    go_wp2_with fail
    refine (runes_text h hs _).mono ?_
    rintro e w1 ⟨a, cap, rfl, hb1, _⟩
    go_wp2_with fail
    go_ret2
    exact ⟨rfl, hb1⟩
  · go_enter Tryz.func49, Tryz.ntmps49
    go_wp2_with fail
    refine (runes_text h hs _).mono ?_
    rintro e w1 ⟨a, cap, rfl, hb1, _⟩
    go_wp2_with fail
    go_ret2
    exact ⟨rfl, hb1⟩
set_option maxHeartbeats 400000 in
theorem refFind_in {s : ByteArray} {rs : List Int} (h : IsText s rs) (hs : s.size ≤ 2097152) (line col : Int) (hl : 0 ≤ line) (hc : 0 ≤ col) (w : World) :
    Calls Tryz.prog 49 #[.string s, .int .i64 line, .int .i64 col] w fun e w' => e = .returned (.tuple #[.int .i64 (findF rs rs.length 0 line col).1, .int .i64 (findF rs rs.length 0 line col).2]) ∧ Below w.heap.size w w' := by
  have hlen := text_len h
  rw [find_best rs line col hl hc]
  by_cases hb : bestF rs line col (rs.length + 1) < 0
  · rw [if_pos hb]
    go_enter Tryz.func49, Tryz.ntmps49
    go_wp2_with fail
    refine (runes_text h hs _).mono ?_
    rintro e w1 ⟨a, cap, rfl, hb1, hr⟩
    go_wp2_with fail
    refine (reffind_any a _ cap rs _ hr (by omega) line col).mono ?_
    rintro e w2 ⟨rfl, rfl⟩
    go_wp2_with fail
    go_ret2
    exact ⟨rfl, hb1⟩
  · rw [if_neg hb]
    go_enter Tryz.func49, Tryz.ntmps49
    go_wp2_with fail
    refine (runes_text h hs _).mono ?_
    rintro e w1 ⟨a, cap, rfl, hb1, hr⟩
    go_wp2_with fail
    refine (reffind_any a _ cap rs _ hr (by omega) line col).mono ?_
    rintro e w2 ⟨rfl, rfl⟩
    go_wp2_with fail
    go_ret2
    exact ⟨rfl, hb1⟩

set_option maxHeartbeats 400000 in
theorem refStep_bad {s : ByteArray} {p c : Int} (h : check s = (0, p, c)) (hc : c = 10 ∨ c = 11) (hs : s.size ≤ 2097152) (k how : Int) (w : World) :
    Calls Tryz.prog 51 #[.string s, .int .i64 k, .int .i64 how] w fun e w' => e = .returned (.tuple #[.int .i64 0, .int .i64 c]) ∧ Below w.heap.size w w' := by
  have t1 : (c != 0) = true := by rcases hc with rfl | rfl <;> rfl
  have HC : Hid (check s = (0, p, c)) := h
  have HC2 : Hid (c = 10 ∨ c = 11) := hc
  clear h hc
  go_enter Tryz.func51, Tryz.ntmps51
  go_wp2_with fail
  refine (runes_bad HC.out HC2.out hs _).mono ?_
  rintro e w1 ⟨a, cap, rfl, hb1⟩
  go_wp2_with fail
  go_ret2
  exact ⟨rfl, hb1⟩
set_option maxHeartbeats 400000 in
theorem refStep_out {s : ByteArray} {rs : List Int} (h : IsText s rs) (hs : s.size ≤ 2097152) (k how : Int) (hk : k < 0 ∨ (rs.length : Int) < k) (w : World) :
    Calls Tryz.prog 51 #[.string s, .int .i64 k, .int .i64 how] w fun e w' => e = .returned (.tuple #[.int .i64 0, .int .i64 12]) ∧ Below w.heap.size w w' := by
  rcases hk with hk | hk
  · go_enter Tryz.func51, Tryz.ntmps51
    go_wp2_with fail
    refine (runes_text h hs _).mono ?_
    rintro e w1 ⟨a, cap, rfl, hb1, _⟩
    go_wp2_with fail
    go_ret2
    exact ⟨rfl, hb1⟩
  · have hk0 : ¬ (k < 0) := by omega
    go_enter Tryz.func51, Tryz.ntmps51
    go_wp2_with fail
    refine (runes_text h hs _).mono ?_
    rintro e w1 ⟨a, cap, rfl, hb1, _⟩
    go_wp2_with fail
    go_ret2
    exact ⟨rfl, hb1⟩
set_option maxHeartbeats 1000000 in
theorem refStep_how {s : ByteArray} {rs : List Int} (h : IsText s rs) (hs : s.size ≤ 2097152) (k : Nat) (hk : k ≤ rs.length) (how : Int) (hh : how < 1 ∨ 10 < how) (w : World) :
    Calls Tryz.prog 51 #[.string s, .int .i64 k, .int .i64 how] w fun e w' => e = .returned (.tuple #[.int .i64 0, .int .i64 16]) ∧ Below w.heap.size w w' := by
  have hlen := text_len h
  have t1 : (how == 1) = false := beq_eq_false_iff_ne.2 (by omega)
  have t2 : (how == 2) = false := beq_eq_false_iff_ne.2 (by omega)
  have t3 : (how == 3) = false := beq_eq_false_iff_ne.2 (by omega)
  have t4 : (how == 4) = false := beq_eq_false_iff_ne.2 (by omega)
  have t5 : (how == 5) = false := beq_eq_false_iff_ne.2 (by omega)
  have t6 : (how == 6) = false := beq_eq_false_iff_ne.2 (by omega)
  have t7 : (how == 7) = false := beq_eq_false_iff_ne.2 (by omega)
  have t8 : (how == 8) = false := beq_eq_false_iff_ne.2 (by omega)
  have t9 : (how == 9) = false := beq_eq_false_iff_ne.2 (by omega)
  have t10 : (how == 10) = false := beq_eq_false_iff_ne.2 (by omega)
  clear hh
  go_enter Tryz.func51, Tryz.ntmps51
  go_wp2_with fail
  refine (runes_text h hs _).mono ?_
  rintro e w1 ⟨a, cap, rfl, hb1, hr⟩
  go_wp2_with fail
  refine (refwhere_any a _ cap rs _ hr (by omega) k hk).mono ?_
  rintro e w2 ⟨rfl, rfl⟩
  go_wp2_with fail
  go_ret2
  exact ⟨rfl, hb1⟩
set_option maxHeartbeats 1000000 in
theorem refStep_left {s : ByteArray} {rs : List Int} (h : IsText s rs) (hs : s.size ≤ 2097152) (k : Nat) (hk : k ≤ rs.length) (w : World) :
    Calls Tryz.prog 51 #[.string s, .int .i64 k, .int .i64 1] w fun e w' => e = .returned (.tuple #[.int .i64 ((k - 1 : Nat) : Int), .int .i64 0]) ∧ Below w.heap.size w w' := by
  have hlen := text_len h
  have hh := homeOf_le rs k
  have hll := lineOf_le rs k
  go_enter Tryz.func51, Tryz.ntmps51
  go_wp2_with fail
  refine (runes_text h hs _).mono ?_
  rintro e w1 ⟨a, cap, rfl, hb1, hr⟩
  go_wp2_with fail
  refine (refwhere_any a _ cap rs _ hr (by omega) k hk).mono ?_
  rintro e w2 ⟨rfl, rfl⟩
  go_wp2_with fail
  all_goals go_ret2
  all_goals exact ⟨congrArg (fun x => Ending.returned (.tuple #[.int .i64 x, .int .i64 0])) (by omega), hb1⟩
set_option maxHeartbeats 1000000 in
theorem refStep_right {s : ByteArray} {rs : List Int} (h : IsText s rs) (hs : s.size ≤ 2097152) (k : Nat) (hk : k ≤ rs.length) (w : World) :
    Calls Tryz.prog 51 #[.string s, .int .i64 k, .int .i64 2] w fun e w' => e = .returned (.tuple #[.int .i64 ((min (k + 1) rs.length : Nat) : Int), .int .i64 0]) ∧ Below w.heap.size w w' := by
  have hlen := text_len h
  have hh := homeOf_le rs k
  have hll := lineOf_le rs k
  go_enter Tryz.func51, Tryz.ntmps51
  go_wp2_with fail
  refine (runes_text h hs _).mono ?_
  rintro e w1 ⟨a, cap, rfl, hb1, hr⟩
  go_wp2_with fail
  refine (refwhere_any a _ cap rs _ hr (by omega) k hk).mono ?_
  rintro e w2 ⟨rfl, rfl⟩
  go_wp2_with fail
  all_goals go_ret2
  all_goals exact ⟨congrArg (fun x => Ending.returned (.tuple #[.int .i64 x, .int .i64 0])) (by omega), hb1⟩
set_option maxHeartbeats 1000000 in
theorem refStep_home {s : ByteArray} {rs : List Int} (h : IsText s rs) (hs : s.size ≤ 2097152) (k : Nat) (hk : k ≤ rs.length) (w : World) :
    Calls Tryz.prog 51 #[.string s, .int .i64 k, .int .i64 3] w fun e w' => e = .returned (.tuple #[.int .i64 (homeOf rs k), .int .i64 0]) ∧ Below w.heap.size w w' := by
  have hlen := text_len h
  have hh := homeOf_le rs k
  have hll := lineOf_le rs k
  have hbd := hh
  have HB : Hid (bestF rs (lineOf rs k) 0 (rs.length + 1) = homeOf rs k) := best_home rs k hk
  go_enter Tryz.func51, Tryz.ntmps51
  go_wp2_with fail
  refine (runes_text h hs _).mono ?_
  rintro e w1 ⟨a, cap, rfl, hb1, hr⟩
  go_wp2_with fail
  refine (refwhere_any a _ cap rs _ hr (by omega) k hk).mono ?_
  rintro e w2 ⟨rfl, rfl⟩
  go_wp2_with fail
  refine (reffind_any a _ cap rs _ hr (by omega) _ _).mono ?_
  rintro e w3 ⟨rfl, rfl⟩
  rw [HB.out]
  go_wp2_with fail
  go_ret2
  exact ⟨rfl, hb1⟩
set_option maxHeartbeats 1000000 in
theorem refStep_end {s : ByteArray} {rs : List Int} (h : IsText s rs) (hs : s.size ≤ 2097152) (k : Nat) (hk : k ≤ rs.length) (w : World) :
    Calls Tryz.prog 51 #[.string s, .int .i64 k, .int .i64 4] w fun e w' => e = .returned (.tuple #[.int .i64 (endOf rs k), .int .i64 0]) ∧ Below w.heap.size w w' := by
  have hlen := text_len h
  have hh := homeOf_le rs k
  have hll := lineOf_le rs k
  have hbd := endOf_le rs k hk
  have HB : Hid (bestF rs (lineOf rs k) rs.length (rs.length + 1) = endOf rs k) := best_end rs k hk
  go_enter Tryz.func51, Tryz.ntmps51
  go_wp2_with fail
  refine (runes_text h hs _).mono ?_
  rintro e w1 ⟨a, cap, rfl, hb1, hr⟩
  go_wp2_with fail
  refine (refwhere_any a _ cap rs _ hr (by omega) k hk).mono ?_
  rintro e w2 ⟨rfl, rfl⟩
  go_wp2_with fail
  refine (reffind_any a _ cap rs _ hr (by omega) _ _).mono ?_
  rintro e w3 ⟨rfl, rfl⟩
  rw [HB.out]
  go_wp2_with fail
  go_ret2
  exact ⟨rfl, hb1⟩
set_option maxHeartbeats 1000000 in
theorem refStep_up {s : ByteArray} {rs : List Int} (h : IsText s rs) (hs : s.size ≤ 2097152) (k : Nat) (hk : k ≤ rs.length) (w : World) :
    Calls Tryz.prog 51 #[.string s, .int .i64 k, .int .i64 5] w fun e w' => e = .returned (.tuple #[.int .i64 (upOf rs k), .int .i64 0]) ∧ Below w.heap.size w w' := by
  have hlen := text_len h
  have hh := homeOf_le rs k
  have hll := lineOf_le rs k
  have hbd := bestF_le rs ((lineOf rs k : Int) - 1) ((k : Int) - homeOf rs k) (rs.length + 1)
  have hup := upOf_le rs k
  have HB : Hid (max 0 (bestF rs ((lineOf rs k : Int) - 1) ((k : Int) - homeOf rs k) (rs.length + 1)) = upOf rs k) := best_up rs k hk
  generalize hbe : bestF rs ((lineOf rs k : Int) - 1) ((k : Int) - homeOf rs k) (rs.length + 1) = b at *
  have HE : Hid (bestF rs ((lineOf rs k : Int) - 1) ((k : Int) - homeOf rs k) (rs.length + 1) = b) := hbe
  clear hbe
  go_enter Tryz.func51, Tryz.ntmps51
  go_wp2_with fail
  refine (runes_text h hs _).mono ?_
  rintro e w1 ⟨a, cap, rfl, hb1, hr⟩
  go_wp2_with fail
  refine (refwhere_any a _ cap rs _ hr (by omega) k hk).mono ?_
  rintro e w2 ⟨rfl, rfl⟩
  go_wp2_with fail
  refine (reffind_any a _ cap rs _ hr (by omega) _ _).mono ?_
  rintro e w3 ⟨rfl, rfl⟩
  rw [HE.out]
  go_wp2_with fail
  all_goals go_ret2
  all_goals exact ⟨congrArg (fun x => Ending.returned (.tuple #[.int .i64 x, .int .i64 0])) (by have := HB.out; omega), hb1⟩
set_option maxHeartbeats 1000000 in
theorem refStep_down {s : ByteArray} {rs : List Int} (h : IsText s rs) (hs : s.size ≤ 2097152) (k : Nat) (hk : k ≤ rs.length) (w : World) :
    Calls Tryz.prog 51 #[.string s, .int .i64 k, .int .i64 6] w fun e w' => e = .returned (.tuple #[.int .i64 (downOf rs k), .int .i64 0]) ∧ Below w.heap.size w w' := by
  have hlen := text_len h
  have hh := homeOf_le rs k
  have hll := lineOf_le rs k
  have hbd := bestF_le rs ((lineOf rs k : Int) + 1) ((k : Int) - homeOf rs k) (rs.length + 1)
  have hdn := downOf_le rs k
  have HB : Hid ((if bestF rs ((lineOf rs k : Int) + 1) ((k : Int) - homeOf rs k) (rs.length + 1) < 0 then (rs.length : Int) else bestF rs ((lineOf rs k : Int) + 1) ((k : Int) - homeOf rs k) (rs.length + 1)) = downOf rs k) := best_down rs k hk
  generalize hbe : bestF rs ((lineOf rs k : Int) + 1) ((k : Int) - homeOf rs k) (rs.length + 1) = b at *
  have HE : Hid (bestF rs ((lineOf rs k : Int) + 1) ((k : Int) - homeOf rs k) (rs.length + 1) = b) := hbe
  clear hbe
  go_enter Tryz.func51, Tryz.ntmps51
  go_wp2_with fail
  refine (runes_text h hs _).mono ?_
  rintro e w1 ⟨a, cap, rfl, hb1, hr⟩
  go_wp2_with fail
  refine (refwhere_any a _ cap rs _ hr (by omega) k hk).mono ?_
  rintro e w2 ⟨rfl, rfl⟩
  go_wp2_with fail
  refine (reffind_any a _ cap rs _ hr (by omega) _ _).mono ?_
  rintro e w3 ⟨rfl, rfl⟩
  rw [HE.out]
  go_wp2_with fail
  all_goals go_ret2
  all_goals exact ⟨congrArg (fun x => Ending.returned (.tuple #[.int .i64 x, .int .i64 0])) (by have := HB.out; split at this <;> omega), hb1⟩
set_option maxHeartbeats 1000000 in
theorem refStep_wordLeft {s : ByteArray} {rs : List Int} (h : IsText s rs) (hs : s.size ≤ 2097152) (k : Nat) (hk : k ≤ rs.length) (w : World) :
    Calls Tryz.prog 51 #[.string s, .int .i64 k, .int .i64 7] w fun e w' => e = .returned (.tuple #[.int .i64 (backF wordR rs (backF (fun r => !wordR r) rs k)), .int .i64 0]) ∧ Below w.heap.size w w' := by
  have hlen := text_len h
  have hh := homeOf_le rs k
  have hll := lineOf_le rs k
  have b1 := backF_le (fun r => !wordR r) rs k
  have b2 := backF_le wordR rs (backF (fun r => !wordR r) rs k)
  go_enter Tryz.func51, Tryz.ntmps51
  go_wp2_with fail
  refine (runes_text h hs _).mono ?_
  rintro e w1 ⟨a, cap, rfl, hb1, hr⟩
  go_wp2_with fail
  refine (refwhere_any a _ cap rs _ hr (by omega) k hk).mono ?_
  rintro e w2 ⟨rfl, rfl⟩
  go_wp2_with fail
  refine (refword_back a _ cap rs _ hr (by omega) k hk).mono ?_
  rintro e w3 ⟨rfl, rfl⟩
  go_wp2_with fail
  go_ret2
  exact ⟨rfl, hb1⟩
set_option maxHeartbeats 1000000 in
theorem refStep_wordRight {s : ByteArray} {rs : List Int} (h : IsText s rs) (hs : s.size ≤ 2097152) (k : Nat) (hk : k ≤ rs.length) (w : World) :
    Calls Tryz.prog 51 #[.string s, .int .i64 k, .int .i64 8] w fun e w' => e = .returned (.tuple #[.int .i64 (onF wordR rs (rs.length - onF (fun r => !wordR r) rs (rs.length - k) k) (onF (fun r => !wordR r) rs (rs.length - k) k)), .int .i64 0]) ∧ Below w.heap.size w w' := by
  have hlen := text_len h
  have hh := homeOf_le rs k
  have hll := lineOf_le rs k
  have b1 := onF_le (fun r => !wordR r) rs (rs.length - k) k
  have b2 := onF_le wordR rs (rs.length - onF (fun r => !wordR r) rs (rs.length - k) k) (onF (fun r => !wordR r) rs (rs.length - k) k)
  go_enter Tryz.func51, Tryz.ntmps51
  go_wp2_with fail
  refine (runes_text h hs _).mono ?_
  rintro e w1 ⟨a, cap, rfl, hb1, hr⟩
  go_wp2_with fail
  refine (refwhere_any a _ cap rs _ hr (by omega) k hk).mono ?_
  rintro e w2 ⟨rfl, rfl⟩
  go_wp2_with fail
  refine (refword_on a _ cap rs _ hr (by omega) k hk).mono ?_
  rintro e w3 ⟨rfl, rfl⟩
  go_wp2_with fail
  go_ret2
  exact ⟨rfl, hb1⟩
set_option maxHeartbeats 1000000 in
theorem refStep_top {s : ByteArray} {rs : List Int} (h : IsText s rs) (hs : s.size ≤ 2097152) (k : Nat) (hk : k ≤ rs.length) (w : World) :
    Calls Tryz.prog 51 #[.string s, .int .i64 k, .int .i64 9] w fun e w' => e = .returned (.tuple #[.int .i64 0, .int .i64 0]) ∧ Below w.heap.size w w' := by
  have hlen := text_len h
  have hh := homeOf_le rs k
  have hll := lineOf_le rs k
  go_enter Tryz.func51, Tryz.ntmps51
  go_wp2_with fail
  refine (runes_text h hs _).mono ?_
  rintro e w1 ⟨a, cap, rfl, hb1, hr⟩
  go_wp2_with fail
  refine (refwhere_any a _ cap rs _ hr (by omega) k hk).mono ?_
  rintro e w2 ⟨rfl, rfl⟩
  go_wp2_with fail
  all_goals go_ret2
  all_goals exact ⟨congrArg (fun x => Ending.returned (.tuple #[.int .i64 x, .int .i64 0])) (by omega), hb1⟩
set_option maxHeartbeats 1000000 in
theorem refStep_bottom {s : ByteArray} {rs : List Int} (h : IsText s rs) (hs : s.size ≤ 2097152) (k : Nat) (hk : k ≤ rs.length) (w : World) :
    Calls Tryz.prog 51 #[.string s, .int .i64 k, .int .i64 10] w fun e w' => e = .returned (.tuple #[.int .i64 rs.length, .int .i64 0]) ∧ Below w.heap.size w w' := by
  have hlen := text_len h
  have hh := homeOf_le rs k
  have hll := lineOf_le rs k
  go_enter Tryz.func51, Tryz.ntmps51
  go_wp2_with fail
  refine (runes_text h hs _).mono ?_
  rintro e w1 ⟨a, cap, rfl, hb1, hr⟩
  go_wp2_with fail
  refine (refwhere_any a _ cap rs _ hr (by omega) k hk).mono ?_
  rintro e w2 ⟨rfl, rfl⟩
  go_wp2_with fail
  all_goals go_ret2
  all_goals exact ⟨congrArg (fun x => Ending.returned (.tuple #[.int .i64 x, .int .i64 0])) (by omega), hb1⟩
end Go.Proofs.YtfakfmmngflbfacGreatDoor
