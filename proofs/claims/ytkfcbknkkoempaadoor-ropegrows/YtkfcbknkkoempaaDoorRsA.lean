import Derived.Test.YtkfcbknkkoempaaDoorRrEJ
/-! What Insert and From refuse for want of room; the empty text. -/
namespace Go.Proofs.YtkfcbknkkoempaaDoor
open Go.RowKit Go.Lib
set_option maxRecDepth 100000

set_option maxHeartbeats 2000000 in
theorem insert_grow {w : World} {q : Nat} {t : Tr} (h : RopeAt w q t) (hlen : t.row.length ≤ 1048576) (m : Nat) (hm : m ≤ t.row.length) {s : ByteArray} {rs : List Int} (ht : IsText s rs) (hrs : rs.length ≤ 1048576) (hid : Int) (h0 : 0 ≤ hid) (h1 : hid ≤ 1048576) (hn : 1048576 < t.row.length + rs.length) (hBar : Bar w) :
    Calls Tryd.prog 5 #[.pointer (some ⟨q, 0, none⟩), .int .i64 (m : Int), .string s, .int .i64 hid] w fun e w' => e = .returned (.int .i64 24) ∧ Below w.heap.size w w' := by
  have HT : Hid (∀ W, Below w.heap.size w W → Calls Tryd.prog 6 #[.pointer (some ⟨q, 0, none⟩)] W fun e w' => e = .returned (.int .i64 (t.row.length : Int)) ∧ w' = W) := fun W hW => ropeTotal_any (h.below hW)
  have HC := checkCells_any ht (by omega) hid h0 h1 w hBar
  clear h
  generalize t.row.length = L at *
  go_enter Tryd.func5, Tryd.ntmps5
  go_wp2_with fail
  refine (HT.out _ (Below.refl _ _)).mono ?_
  rintro e w1 ⟨rfl, rfl⟩
  go_wp2_with fail
  refine HC.mono ?_
  rintro e w2 ⟨rfl, hb2⟩
  go_wp2_with fail
  refine (HT.out _ hb2).mono ?_
  rintro e w3 ⟨rfl, rfl⟩
  go_wp2_with fail
  go_ret
  exact ⟨rfl, hb2⟩
set_option maxHeartbeats 2000000 in
theorem insert_none {w : World} {q : Nat} {t : Tr} (h : RopeAt w q t) (hlen : t.row.length ≤ 1048576) (m : Nat) (hm : m ≤ t.row.length) {s : ByteArray} (ht : IsText s []) (hid : Int) (h0 : 0 ≤ hid) (h1 : hid ≤ 1048576) (hBar : Bar w) :
    Calls Tryd.prog 5 #[.pointer (some ⟨q, 0, none⟩), .int .i64 (m : Int), .string s, .int .i64 hid] w fun e w' => e = .returned (.int .i64 0) ∧ Below w.heap.size w w' := by
  have HT : Hid (∀ W, Below w.heap.size w W → Calls Tryd.prog 6 #[.pointer (some ⟨q, 0, none⟩)] W fun e w' => e = .returned (.int .i64 (t.row.length : Int)) ∧ w' = W) := fun W hW => ropeTotal_any (h.below hW)
  have HC := checkCells_any ht (by simp) hid h0 h1 w hBar
  clear h
  generalize t.row.length = L at *
  simp only [List.length_nil] at HC
  go_enter Tryd.func5, Tryd.ntmps5
  go_wp2_with fail
  refine (HT.out _ (Below.refl _ _)).mono ?_
  rintro e w1 ⟨rfl, rfl⟩
  go_wp2_with fail
  refine HC.mono ?_
  rintro e w2 ⟨rfl, hb2⟩
  go_wp2_with fail
  refine (HT.out _ hb2).mono ?_
  rintro e w3 ⟨rfl, rfl⟩
  go_wp2_with fail
  go_ret
  exact ⟨rfl, hb2⟩
theorem Holds.grow {w2 : World} {q : Nat} {R : List (Int × Int)} {W : World} (h : Holds w2 q R W) (m : Nat) (hm : m ≤ R.length) {s : ByteArray} {rs : List Int} (ht : IsText s rs) (hrs : rs.length ≤ 1048576) (hid : Int) (h0 : 0 ≤ hid) (h1 : hid ≤ 1048576) (hn : 1048576 < R.length + rs.length) (hBar : Bar w2) :
    Calls Tryd.prog 5 #[.pointer (some ⟨q, 0, none⟩), .int .i64 (m : Int), .string s, .int .i64 hid] W fun e W' => e = .returned (.int .i64 24) ∧ Holds w2 q R W' := by
  have h' := h
  obtain ⟨t, k1, k2, rfl, k3⟩ := h
  exact (insert_grow k1 k2.len m hm ht hrs hid h0 h1 hn (hBar.below k3)).mono (fun e W' ⟨he, hb⟩ => ⟨he, h'.still hb⟩)
theorem Holds.putNone {w2 : World} {q : Nat} {R : List (Int × Int)} {W : World} (h : Holds w2 q R W) (m : Nat) (hm : m ≤ R.length) {s : ByteArray} (ht : IsText s []) (hid : Int) (h0 : 0 ≤ hid) (h1 : hid ≤ 1048576) (hBar : Bar w2) :
    Calls Tryd.prog 5 #[.pointer (some ⟨q, 0, none⟩), .int .i64 (m : Int), .string s, .int .i64 hid] W fun e W' => e = .returned (.int .i64 0) ∧ Holds w2 q R W' := by
  have h' := h
  obtain ⟨t, k1, k2, rfl, k3⟩ := h
  exact (insert_none k1 k2.len m hm ht hid h0 h1 (hBar.below k3)).mono (fun e W' ⟨he, hb⟩ => ⟨he, h'.still hb⟩)

set_option maxHeartbeats 2000000 in
theorem checkCells_big {s : ByteArray} {rs : List Int} (ht : IsText s rs) (hlen : rs.length ≤ 2097152) (hid : Int) (h0 : 0 ≤ hid) (h1 : hid ≤ 1048576) (w : World) (hB : Bar w) :
    Calls Tryd.prog 11 #[.string s, .int .i64 hid] w fun e w' => e = .returned (.tuple #[.int .i64 (rs.length : Int), .int .i64 0]) ∧ Below w.heap.size w w' := by
  have hsm := ht.small
  have HC := check_bar (by omega) ht.check w hB
  go_enter Tryd.func11, Tryd.ntmps11
  go_wp2_with fail
  refine HC.mono ?_
  rintro e w1 ⟨rfl, hb1⟩
  go_wp2_with fail
  go_ret2
  exact ⟨rfl, hb1⟩
set_option maxHeartbeats 4000000 in
/-- One run that is too long. -/
theorem from_grow {w : World} {g : Nat} {x : GRun} (hc0 : w.cell? ⟨g, 0, none⟩ = some (.string x.s)) (hc1 : w.cell? ⟨g, 1, none⟩ = some (.int .i64 x.h)) (hg : g < w.heap.size) (ht : IsText x.s x.rs) (h0 : 0 ≤ x.h) (h1 : x.h ≤ 1048576) (hn : 1048576 < x.rs.length) (hn2 : x.rs.length ≤ 2097152) (hBar : Bar w) :
    Calls Tryd.prog 4 #[.slice (some ⟨g, 0, none⟩) 1 1] w fun e w' => e = .returned (.tuple #[.pointer none, .int .i64 24]) ∧ Below w.heap.size w w' := by
  have hse := isText_ne ht (by intro e; rw [e] at hn; simp at hn)
  have HK : Hid (∀ W, Below w.heap.size w W → Calls Tryd.prog 11 #[.string x.s, .int .i64 x.h] W fun e w' => e = .returned (.tuple #[.int .i64 (x.rs.length : Int), .int .i64 0]) ∧ Below W.heap.size W w') := fun W hW => checkCells_big ht hn2 x.h h0 h1 W (hBar.below hW)
  clear ht
  generalize x.rs.length = L at *
  generalize x.h = hh at *
  go_enter Tryd.func4, Tryd.ntmps4
  go_wp2_with fail
  go_loopw [4, 14] (fun vt vi w' => (vi = .int .i64 0 ∧ vt = .int .i64 0 ∧ w' = w) ∨ (vi = .int .i64 1 ∧ vt = .int .i64 (L : Int) ∧ Below w.heap.size w w')) (fun _ i _ => 1 - (RowKit.intOf i).toNat)
  case atStart => exact .inl ⟨rfl, rfl, rfl⟩
  case round =>
    rcases hrel with ⟨rfl, rfl, rfl⟩ | ⟨rfl, rfl, hb⟩
    · have hb : Below wr.heap.size wr wr := Below.refl _ _
      go_wp2_with fail
      go_quiet (fail)
      go_wp2_with fail
      refine (HK.out _ (below_drewN (hb.alloc (Nat.le_refl _) _) _)).mono ?_
      rintro e w1 ⟨rfl, hb1⟩
      have hB1 : Below wr.heap.size wr w1 := (below_drewN (hb.alloc (Nat.le_refl _) _) _).trans (hb1.mono (by simp))
      go_wp2_with fail
      go_roundw
      case rel => exact .inr ⟨rfl, by go_num, hB1⟩
      case measure => simp [RowKit.intOf]
    · go_wp2_with fail
      go_ret2
      exact ⟨rfl, hb⟩
end Go.Proofs.YtkfcbknkkoempaaDoor
