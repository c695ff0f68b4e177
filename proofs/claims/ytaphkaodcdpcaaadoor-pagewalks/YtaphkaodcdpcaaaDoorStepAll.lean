import Derived.Test.YtaphkaodcdpcaaaDoorStepIn
import Derived.Test.YtaphkaodcdpcaaaDoorLines2
namespace Go.Proofs.YtaphkaodcdpcaaaDoor
open Go.RowKit Go.Lib

/-- the table's cells -/
def walkCells : Array Value := #[.int .i64 0, .int .i64 (-1), .int .i64 0, .int .i64 1, .int .i64 1, .int .i64 (-1), .int .i64 1, .int .i64 1, .int .i64 2, .int .i64 (-1), .int .i64 2, .int .i64 1, .int .i64 3, .int .i64 (-1), .int .i64 3, .int .i64 1, .int .i64 4, .int .i64 (-1), .int .i64 4, .int .i64 1]
/-- The table of walks, as the walks take it. -/
structure Wlk (w : World) : Prop where
  lies : ∃ t fr, w.heap[0]? = some (.cells walkCells t fr)
theorem Wlk.below {w w' : World} (h : Wlk w) (hb : Below w.heap.size w w') : Wlk w' := by
  obtain ⟨t, fr, hg⟩ := h.lies
  exact ⟨t, fr, (hb.block _ (Array.getElem?_eq_some_iff.1 hg).1).trans hg⟩
theorem Wlk.cell {w : World} (h : Wlk w) (j : Nat) : w.cell? ⟨0, j, none⟩ = walkCells[j]? := by
  obtain ⟨t, fr, hg⟩ := h.lies
  simp [World.cell?, hg]

theorem row_runes_on (rs : List Int) (hl : rs.length ≤ 70368744177664) (w : World) (X : Obj) :
    Row32 ((w.alloc X).alloc (.cells ((runeV rs).toArray ++ Array.replicate (grownCap (w.alloc X) rs.length 0 21 - rs.length) (.int .i32 0)) 21)).drew (some ⟨w.heap.size + 1, 0, none⟩) rs.length (grownCap (w.alloc X) rs.length 0 21) rs := by
  have h := row_runes rs (w.alloc X) (grownCap_le_maxLen _ _ _ _ (by unfold maxLen; omega))
  have e : (w.alloc X).heap.size = w.heap.size + 1 := by simp
  rw [e] at h
  exact h
theorem below_two {a w : World} (h : Below a.heap.size a w) (X Y : Obj) : Below a.heap.size a ((w.alloc X).alloc Y).drew := by
  have hs := h.size
  exact ((h.alloc hs X).alloc (by simp; omega) Y).trans ⟨rfl, rfl, rfl, Nat.le_refl _, fun _ _ => rfl⟩

set_option maxHeartbeats 1000000 in
theorem step_left {s : ByteArray} {rs : List Int} (h : IsText s rs) (hs : s.size ≤ 9223372036854775806) (hl : rs.length ≤ 70368744177664) (k : Nat) (hk : k ≤ rs.length) (w : World) (hw : Bar w) (hq : Wlk w) :
    Calls Tryd.prog 15 #[.string s, .int .i64 k, .int .i64 1] w fun e w' => e = .returned (.tuple #[.int .i64 ((k - 1 : Nat) : Int), .int .i64 0]) ∧ Below w.heap.size w w' := by
  have hcv := conv_runes h hl
  go_enter Tryd.func15, Tryd.ntmps15
  go_wp2_with fail
  refine (place_in h (by omega) k (by omega) (by omega) _ hw).mono ?_
  rintro e w1 ⟨rfl, hb1⟩
  have hq1 := hq.below hb1
  have c0 : w1.cell? ⟨0, 0, none⟩ = some (.int .i64 0) := hq1.cell 0
  have c1 : w1.cell? ⟨0, 1, none⟩ = some (.int .i64 (-1)) := hq1.cell 1
  go_wp2_with fail
  have hr := row_runes_on rs hl w1 (Obj.cells #[.int .i64 0, .int .i64 (-1)] 68)
  have hb2 := below_two hb1 (Obj.cells #[.int .i64 0, .int .i64 (-1)] 68) (.cells ((runeV rs).toArray ++ Array.replicate (grownCap (w1.alloc (Obj.cells #[.int .i64 0, .int .i64 (-1)] 68)) rs.length 0 21 - rs.length) (.int .i32 0)) 21)
  generalize grownCap _ rs.length 0 21 = cap at *
  generalize World.drew _ = w2 at *
  refine (stepIn_left _ _ _ _ (by omega) k hk).mono ?_
  rintro e w3 ⟨rfl, hb3⟩
  have hb4 := hb2.trans (hb3.mono hb2.size)
  clear hb3 hb2 hr c0 c1 hcv
  go_wp2_with fail
  go_ret2
  exact ⟨rfl, hb4⟩
set_option maxHeartbeats 1000000 in
theorem step_right {s : ByteArray} {rs : List Int} (h : IsText s rs) (hs : s.size ≤ 9223372036854775806) (hl : rs.length ≤ 70368744177664) (k : Nat) (hk : k ≤ rs.length) (w : World) (hw : Bar w) (hq : Wlk w) :
    Calls Tryd.prog 15 #[.string s, .int .i64 k, .int .i64 2] w fun e w' => e = .returned (.tuple #[.int .i64 ((min (k + 1) rs.length : Nat) : Int), .int .i64 0]) ∧ Below w.heap.size w w' := by
  have hcv := conv_runes h hl
  go_enter Tryd.func15, Tryd.ntmps15
  go_wp2_with fail
  refine (place_in h (by omega) k (by omega) (by omega) _ hw).mono ?_
  rintro e w1 ⟨rfl, hb1⟩
  have hq1 := hq.below hb1
  have c0 : w1.cell? ⟨0, 2, none⟩ = some (.int .i64 0) := hq1.cell 2
  have c1 : w1.cell? ⟨0, 3, none⟩ = some (.int .i64 1) := hq1.cell 3
  go_wp2_with fail
  have hr := row_runes_on rs hl w1 (Obj.cells #[.int .i64 0, .int .i64 1] 68)
  have hb2 := below_two hb1 (Obj.cells #[.int .i64 0, .int .i64 1] 68) (.cells ((runeV rs).toArray ++ Array.replicate (grownCap (w1.alloc (Obj.cells #[.int .i64 0, .int .i64 1] 68)) rs.length 0 21 - rs.length) (.int .i32 0)) 21)
  generalize grownCap _ rs.length 0 21 = cap at *
  generalize World.drew _ = w2 at *
  refine (stepIn_right _ _ _ _ (by omega) k hk).mono ?_
  rintro e w3 ⟨rfl, hb3⟩
  have hb4 := hb2.trans (hb3.mono hb2.size)
  clear hb3 hb2 hr c0 c1 hcv
  go_wp2_with fail
  go_ret2
  exact ⟨rfl, hb4⟩
set_option maxHeartbeats 1000000 in
theorem step_home {s : ByteArray} {rs : List Int} (h : IsText s rs) (hs : s.size ≤ 9223372036854775806) (hl : rs.length ≤ 70368744177664) (k : Nat) (hk : k ≤ rs.length) (w : World) (hw : Bar w) (hq : Wlk w) :
    Calls Tryd.prog 15 #[.string s, .int .i64 k, .int .i64 3] w fun e w' => e = .returned (.tuple #[.int .i64 (homeOf rs k), .int .i64 0]) ∧ Below w.heap.size w w' := by
  have hcv := conv_runes h hl
  go_enter Tryd.func15, Tryd.ntmps15
  go_wp2_with fail
  refine (place_in h (by omega) k (by omega) (by omega) _ hw).mono ?_
  rintro e w1 ⟨rfl, hb1⟩
  have hq1 := hq.below hb1
  have c0 : w1.cell? ⟨0, 4, none⟩ = some (.int .i64 1) := hq1.cell 4
  have c1 : w1.cell? ⟨0, 5, none⟩ = some (.int .i64 (-1)) := hq1.cell 5
  go_wp2_with fail
  have hr := row_runes_on rs hl w1 (Obj.cells #[.int .i64 1, .int .i64 (-1)] 68)
  have hb2 := below_two hb1 (Obj.cells #[.int .i64 1, .int .i64 (-1)] 68) (.cells ((runeV rs).toArray ++ Array.replicate (grownCap (w1.alloc (Obj.cells #[.int .i64 1, .int .i64 (-1)] 68)) rs.length 0 21 - rs.length) (.int .i32 0)) 21)
  generalize grownCap _ rs.length 0 21 = cap at *
  generalize World.drew _ = w2 at *
  refine (stepIn_home _ _ _ rs _ hr (by omega) k hk).mono ?_
  rintro e w3 ⟨rfl, hb3⟩
  have hb4 := hb2.trans (hb3.mono hb2.size)
  clear hb3 hb2 hr c0 c1 hcv
  go_wp2_with fail
  go_ret2
  exact ⟨rfl, hb4⟩
set_option maxHeartbeats 1000000 in
theorem step_end {s : ByteArray} {rs : List Int} (h : IsText s rs) (hs : s.size ≤ 9223372036854775806) (hl : rs.length ≤ 70368744177664) (k : Nat) (hk : k ≤ rs.length) (w : World) (hw : Bar w) (hq : Wlk w) :
    Calls Tryd.prog 15 #[.string s, .int .i64 k, .int .i64 4] w fun e w' => e = .returned (.tuple #[.int .i64 (endOf rs k), .int .i64 0]) ∧ Below w.heap.size w w' := by
  have hcv := conv_runes h hl
  go_enter Tryd.func15, Tryd.ntmps15
  go_wp2_with fail
  refine (place_in h (by omega) k (by omega) (by omega) _ hw).mono ?_
  rintro e w1 ⟨rfl, hb1⟩
  have hq1 := hq.below hb1
  have c0 : w1.cell? ⟨0, 6, none⟩ = some (.int .i64 1) := hq1.cell 6
  have c1 : w1.cell? ⟨0, 7, none⟩ = some (.int .i64 1) := hq1.cell 7
  go_wp2_with fail
  have hr := row_runes_on rs hl w1 (Obj.cells #[.int .i64 1, .int .i64 1] 68)
  have hb2 := below_two hb1 (Obj.cells #[.int .i64 1, .int .i64 1] 68) (.cells ((runeV rs).toArray ++ Array.replicate (grownCap (w1.alloc (Obj.cells #[.int .i64 1, .int .i64 1] 68)) rs.length 0 21 - rs.length) (.int .i32 0)) 21)
  generalize grownCap _ rs.length 0 21 = cap at *
  generalize World.drew _ = w2 at *
  refine (stepIn_end _ _ _ rs _ hr (by omega) k hk).mono ?_
  rintro e w3 ⟨rfl, hb3⟩
  have hb4 := hb2.trans (hb3.mono hb2.size)
  clear hb3 hb2 hr c0 c1 hcv
  go_wp2_with fail
  go_ret2
  exact ⟨rfl, hb4⟩
set_option maxHeartbeats 1000000 in
theorem step_wordLeft {s : ByteArray} {rs : List Int} (h : IsText s rs) (hs : s.size ≤ 9223372036854775806) (hl : rs.length ≤ 70368744177664) (k : Nat) (hk : k ≤ rs.length) (w : World) (hw : Bar w) (hq : Wlk w) :
    Calls Tryd.prog 15 #[.string s, .int .i64 k, .int .i64 7] w fun e w' => e = .returned (.tuple #[.int .i64 (backF wordR rs (backF (fun r => !wordR r) rs k)), .int .i64 0]) ∧ Below w.heap.size w w' := by
  have hcv := conv_runes h hl
  go_enter Tryd.func15, Tryd.ntmps15
  go_wp2_with fail
  refine (place_in h (by omega) k (by omega) (by omega) _ hw).mono ?_
  rintro e w1 ⟨rfl, hb1⟩
  have hq1 := hq.below hb1
  have c0 : w1.cell? ⟨0, 12, none⟩ = some (.int .i64 3) := hq1.cell 12
  have c1 : w1.cell? ⟨0, 13, none⟩ = some (.int .i64 (-1)) := hq1.cell 13
  go_wp2_with fail
  have hr := row_runes_on rs hl w1 (Obj.cells #[.int .i64 3, .int .i64 (-1)] 68)
  have hb2 := below_two hb1 (Obj.cells #[.int .i64 3, .int .i64 (-1)] 68) (.cells ((runeV rs).toArray ++ Array.replicate (grownCap (w1.alloc (Obj.cells #[.int .i64 3, .int .i64 (-1)] 68)) rs.length 0 21 - rs.length) (.int .i32 0)) 21)
  generalize grownCap _ rs.length 0 21 = cap at *
  generalize World.drew _ = w2 at *
  refine (stepIn_wordLeft _ _ _ rs _ hr (by omega) k hk).mono ?_
  rintro e w3 ⟨rfl, hb3⟩
  have hb4 := hb2.trans (hb3.mono hb2.size)
  clear hb3 hb2 hr c0 c1 hcv
  go_wp2_with fail
  go_ret2
  exact ⟨rfl, hb4⟩
set_option maxHeartbeats 1000000 in
theorem step_wordRight {s : ByteArray} {rs : List Int} (h : IsText s rs) (hs : s.size ≤ 9223372036854775806) (hl : rs.length ≤ 70368744177664) (k : Nat) (hk : k ≤ rs.length) (w : World) (hw : Bar w) (hq : Wlk w) :
    Calls Tryd.prog 15 #[.string s, .int .i64 k, .int .i64 8] w fun e w' => e = .returned (.tuple #[.int .i64 (onF wordR rs (rs.length - onF (fun r => !wordR r) rs (rs.length - k) k) (onF (fun r => !wordR r) rs (rs.length - k) k)), .int .i64 0]) ∧ Below w.heap.size w w' := by
  have hcv := conv_runes h hl
  go_enter Tryd.func15, Tryd.ntmps15
  go_wp2_with fail
  refine (place_in h (by omega) k (by omega) (by omega) _ hw).mono ?_
  rintro e w1 ⟨rfl, hb1⟩
  have hq1 := hq.below hb1
  have c0 : w1.cell? ⟨0, 14, none⟩ = some (.int .i64 3) := hq1.cell 14
  have c1 : w1.cell? ⟨0, 15, none⟩ = some (.int .i64 1) := hq1.cell 15
  go_wp2_with fail
  have hr := row_runes_on rs hl w1 (Obj.cells #[.int .i64 3, .int .i64 1] 68)
  have hb2 := below_two hb1 (Obj.cells #[.int .i64 3, .int .i64 1] 68) (.cells ((runeV rs).toArray ++ Array.replicate (grownCap (w1.alloc (Obj.cells #[.int .i64 3, .int .i64 1] 68)) rs.length 0 21 - rs.length) (.int .i32 0)) 21)
  generalize grownCap _ rs.length 0 21 = cap at *
  generalize World.drew _ = w2 at *
  refine (stepIn_wordRight _ _ _ rs _ hr (by omega) k hk).mono ?_
  rintro e w3 ⟨rfl, hb3⟩
  have hb4 := hb2.trans (hb3.mono hb2.size)
  clear hb3 hb2 hr c0 c1 hcv
  go_wp2_with fail
  go_ret2
  exact ⟨rfl, hb4⟩
set_option maxHeartbeats 1000000 in
theorem step_top {s : ByteArray} {rs : List Int} (h : IsText s rs) (hs : s.size ≤ 9223372036854775806) (hl : rs.length ≤ 70368744177664) (k : Nat) (hk : k ≤ rs.length) (w : World) (hw : Bar w) (hq : Wlk w) :
    Calls Tryd.prog 15 #[.string s, .int .i64 k, .int .i64 9] w fun e w' => e = .returned (.tuple #[.int .i64 0, .int .i64 0]) ∧ Below w.heap.size w w' := by
  have hcv := conv_runes h hl
  go_enter Tryd.func15, Tryd.ntmps15
  go_wp2_with fail
  refine (place_in h (by omega) k (by omega) (by omega) _ hw).mono ?_
  rintro e w1 ⟨rfl, hb1⟩
  have hq1 := hq.below hb1
  have c0 : w1.cell? ⟨0, 16, none⟩ = some (.int .i64 4) := hq1.cell 16
  have c1 : w1.cell? ⟨0, 17, none⟩ = some (.int .i64 (-1)) := hq1.cell 17
  go_wp2_with fail
  have hr := row_runes_on rs hl w1 (Obj.cells #[.int .i64 4, .int .i64 (-1)] 68)
  have hb2 := below_two hb1 (Obj.cells #[.int .i64 4, .int .i64 (-1)] 68) (.cells ((runeV rs).toArray ++ Array.replicate (grownCap (w1.alloc (Obj.cells #[.int .i64 4, .int .i64 (-1)] 68)) rs.length 0 21 - rs.length) (.int .i32 0)) 21)
  generalize grownCap _ rs.length 0 21 = cap at *
  generalize World.drew _ = w2 at *
  refine (stepIn_top _ _ _ _ (by omega) k hk).mono ?_
  rintro e w3 ⟨rfl, hb3⟩
  have hb4 := hb2.trans (hb3.mono hb2.size)
  clear hb3 hb2 hr c0 c1 hcv
  go_wp2_with fail
  go_ret2
  exact ⟨rfl, hb4⟩
set_option maxHeartbeats 1000000 in
theorem step_bottom {s : ByteArray} {rs : List Int} (h : IsText s rs) (hs : s.size ≤ 9223372036854775806) (hl : rs.length ≤ 70368744177664) (k : Nat) (hk : k ≤ rs.length) (w : World) (hw : Bar w) (hq : Wlk w) :
    Calls Tryd.prog 15 #[.string s, .int .i64 k, .int .i64 10] w fun e w' => e = .returned (.tuple #[.int .i64 rs.length, .int .i64 0]) ∧ Below w.heap.size w w' := by
  have hcv := conv_runes h hl
  go_enter Tryd.func15, Tryd.ntmps15
  go_wp2_with fail
  refine (place_in h (by omega) k (by omega) (by omega) _ hw).mono ?_
  rintro e w1 ⟨rfl, hb1⟩
  have hq1 := hq.below hb1
  have c0 : w1.cell? ⟨0, 18, none⟩ = some (.int .i64 4) := hq1.cell 18
  have c1 : w1.cell? ⟨0, 19, none⟩ = some (.int .i64 1) := hq1.cell 19
  go_wp2_with fail
  have hr := row_runes_on rs hl w1 (Obj.cells #[.int .i64 4, .int .i64 1] 68)
  have hb2 := below_two hb1 (Obj.cells #[.int .i64 4, .int .i64 1] 68) (.cells ((runeV rs).toArray ++ Array.replicate (grownCap (w1.alloc (Obj.cells #[.int .i64 4, .int .i64 1] 68)) rs.length 0 21 - rs.length) (.int .i32 0)) 21)
  generalize grownCap _ rs.length 0 21 = cap at *
  generalize World.drew _ = w2 at *
  refine (stepIn_bottom _ _ _ _ (by omega) k hk).mono ?_
  rintro e w3 ⟨rfl, hb3⟩
  have hb4 := hb2.trans (hb3.mono hb2.size)
  clear hb3 hb2 hr c0 c1 hcv
  go_wp2_with fail
  go_ret2
  exact ⟨rfl, hb4⟩

set_option maxHeartbeats 1000000 in
theorem stepLine_up {s : ByteArray} {rs : List Int} (h : IsText s rs) (hs : s.size ≤ 9223372036854775806) (hl : rs.length ≤ 70368744177664) (k : Nat) (hk : k ≤ rs.length) (w : World) (hw : Bar w) :
    Calls Tryd.prog 32 #[.string s, .int .i64 k, .int .i64 (-1)] w fun e w' => e = .returned (.int .i64 (upOf rs k)) ∧ Below w.heap.size w w' := by
  have hcv := conv_runes h hl
  have hh := homeOf_le rs k
  have hll := lineOf_le rs k
  go_enter Tryd.func32, Tryd.ntmps32
  go_wp2_with fail
  refine (where_in h (by omega) k hk _ hw).mono ?_
  rintro e w1 ⟨rfl, hb1⟩
  have hw1 := hw.below hb1
  by_cases h0 : homeOf rs k = 0
  · have hU : Hid (upOf rs k = 0) := by unfold upOf; rw [if_pos h0]; rfl
    have hz := line_zero rs k h0
    have hz' : ((lineOf rs k : Nat) : Int) = 0 := by omega
    rw [hz']
    go_wp2_with fail
    refine (find_neg h (by omega) (-1) _ (by omega) _ hw1).mono ?_
    rintro e w2 ⟨rfl, hb2⟩
    have hb3 := hb1.trans (hb2.mono hb1.size)
    clear hb2
    go_wp2_with (go_at_call 49; refine (edge_any _ _ _ _ _).mono ?_; rintro e w' ⟨rfl, rfl⟩)
    go_ret
    rw [hU.out]
    exact ⟨rfl, (hb3.alloc hb3.size _).trans ⟨rfl, rfl, rfl, Nat.le_refl _, fun _ _ => rfl⟩⟩
  · have h1 : 1 ≤ lineOf rs k := by have := line_up rs k h0; omega
    have F : Hid (findF rs rs.length 0 ((lineOf rs k : Int) - 1) ((k : Int) - homeOf rs k) = ((upOf rs k : Int), 0)) := find_up rs k hk h0
    go_wp2_with fail
    have e1 : (lineOf rs k : Int) + -1 = (lineOf rs k : Int) - 1 := by omega
    rw [e1]
    refine (find_in_text h (by omega) ((lineOf rs k : Int) - 1) ((k : Int) - homeOf rs k) (by omega) (by omega) (by omega) (by omega) _ hw1).mono ?_
    rintro e w2 ⟨rfl, hb2⟩
    rw [F.out]
    have hb3 := hb1.trans (hb2.mono hb1.size)
    clear hb2
    go_wp2_with fail
    go_ret
    exact ⟨rfl, hb3⟩

set_option maxHeartbeats 1000000 in
theorem stepLine_down {s : ByteArray} {rs : List Int} (h : IsText s rs) (hs : s.size ≤ 9223372036854775806) (hl : rs.length ≤ 70368744177664) (k : Nat) (hk : k ≤ rs.length) (w : World) (hw : Bar w) :
    Calls Tryd.prog 32 #[.string s, .int .i64 k, .int .i64 1] w fun e w' => e = .returned (.int .i64 (downOf rs k)) ∧ Below w.heap.size w w' := by
  have hcv := conv_runes h hl
  have hh := homeOf_le rs k
  have hll := lineOf_le rs k
  go_enter Tryd.func32, Tryd.ntmps32
  go_wp2_with fail
  refine (where_in h (by omega) k hk _ hw).mono ?_
  rintro e w1 ⟨rfl, hb1⟩
  have hw1 := hw.below hb1
  by_cases h0 : endOf rs k < rs.length
  · have F : Hid (findF rs rs.length 0 ((lineOf rs k : Int) + 1) ((k : Int) - homeOf rs k) = ((downOf rs k : Int), 0)) := find_down rs k hk h0
    go_wp2_with fail
    refine (find_in_text h (by omega) ((lineOf rs k : Int) + 1) ((k : Int) - homeOf rs k) (by omega) (by omega) (by omega) (by omega) _ hw1).mono ?_
    rintro e w2 ⟨rfl, hb2⟩
    rw [F.out]
    have hb3 := hb1.trans (hb2.mono hb1.size)
    clear hb2
    go_wp2_with fail
    go_ret
    exact ⟨rfl, hb3⟩
  · have F : Hid (findF rs rs.length 0 ((lineOf rs k : Int) + 1) ((k : Int) - homeOf rs k) = (0, 12)) := find_down0 rs k hk h0 _
    have hU : Hid (downOf rs k = rs.length) := by unfold downOf; rw [if_neg h0]; rfl
    go_wp2_with fail
    refine (find_in_text h (by omega) ((lineOf rs k : Int) + 1) ((k : Int) - homeOf rs k) (by omega) (by omega) (by omega) (by omega) _ hw1).mono ?_
    rintro e w2 ⟨rfl, hb2⟩
    rw [F.out]
    have hb3 := hb1.trans (hb2.mono hb1.size)
    clear hb2
    go_wp2_with (go_at_call 49; refine (edge_any _ _ _ _ _).mono ?_; rintro e w' ⟨rfl, rfl⟩)
    go_ret
    rw [hU.out]
    exact ⟨rfl, (hb3.alloc hb3.size _).trans ⟨rfl, rfl, rfl, Nat.le_refl _, fun _ _ => rfl⟩⟩

set_option maxHeartbeats 1000000 in
theorem step_up {s : ByteArray} {rs : List Int} (h : IsText s rs) (hs : s.size ≤ 9223372036854775806) (hl : rs.length ≤ 70368744177664) (k : Nat) (hk : k ≤ rs.length) (w : World) (hw : Bar w) (hq : Wlk w) :
    Calls Tryd.prog 15 #[.string s, .int .i64 k, .int .i64 5] w fun e w' => e = .returned (.tuple #[.int .i64 (upOf rs k), .int .i64 0]) ∧ Below w.heap.size w w' := by
  go_enter Tryd.func15, Tryd.ntmps15
  go_wp2_with fail
  refine (place_in h (by omega) k (by omega) (by omega) _ hw).mono ?_
  rintro e w1 ⟨rfl, hb1⟩
  have hq1 := hq.below hb1
  have hw1 := hw.below hb1
  have c0 : w1.cell? ⟨0, 8, none⟩ = some (.int .i64 2) := hq1.cell 8
  have c1 : w1.cell? ⟨0, 9, none⟩ = some (.int .i64 (-1)) := hq1.cell 9
  have hs1 := hb1.size
  go_wp2_with fail
  refine (stepLine_up h hs hl k hk _ (hw1.alloc _)).mono ?_
  rintro e w3 ⟨rfl, hb3⟩
  have hb4 := (hb1.alloc hs1 (Obj.cells #[.int .i64 2, .int .i64 (-1)] 68)).trans (hb3.mono (by simp; omega))
  clear hb3 c0 c1
  go_wp2_with fail
  go_ret2
  exact ⟨rfl, hb4⟩

set_option maxHeartbeats 1000000 in
theorem step_down {s : ByteArray} {rs : List Int} (h : IsText s rs) (hs : s.size ≤ 9223372036854775806) (hl : rs.length ≤ 70368744177664) (k : Nat) (hk : k ≤ rs.length) (w : World) (hw : Bar w) (hq : Wlk w) :
    Calls Tryd.prog 15 #[.string s, .int .i64 k, .int .i64 6] w fun e w' => e = .returned (.tuple #[.int .i64 (downOf rs k), .int .i64 0]) ∧ Below w.heap.size w w' := by
  go_enter Tryd.func15, Tryd.ntmps15
  go_wp2_with fail
  refine (place_in h (by omega) k (by omega) (by omega) _ hw).mono ?_
  rintro e w1 ⟨rfl, hb1⟩
  have hq1 := hq.below hb1
  have hw1 := hw.below hb1
  have c0 : w1.cell? ⟨0, 10, none⟩ = some (.int .i64 2) := hq1.cell 10
  have c1 : w1.cell? ⟨0, 11, none⟩ = some (.int .i64 1) := hq1.cell 11
  have hs1 := hb1.size
  go_wp2_with fail
  refine (stepLine_down h hs hl k hk _ (hw1.alloc _)).mono ?_
  rintro e w3 ⟨rfl, hb3⟩
  have hb4 := (hb1.alloc hs1 (Obj.cells #[.int .i64 2, .int .i64 1] 68)).trans (hb3.mono (by simp; omega))
  clear hb3 c0 c1
  go_wp2_with fail
  go_ret2
  exact ⟨rfl, hb4⟩
end Go.Proofs.YtaphkaodcdpcaaaDoor
