import Derived.Test.YtfakfmmngflbfacGreatDoorSplice
import Derived.Test.YtfakfmmngflbfacGreatDoorDiffAll
import Derived.Deep.DeepCutAuto
import Derived.WalkSpells
namespace Go.Proofs.YtfakfmmngflbfacGreatDoor
open Go.RowKit Go.Lib

set_option maxHeartbeats 400000 in
theorem refSplice_bad {s : ByteArray} {p c : Int} (h : check s = (0, p, c)) (hc : c = 10 ∨ c = 11) (hs : s.size ≤ 2097152) (at_ del : Int) (t : ByteArray) (w : World) :
    Calls Tryz.prog 38 #[.string s, .int .i64 at_, .int .i64 del, .string t] w fun e w' => e = .returned (.tuple #[.string ⟨#[]⟩, .int .i64 c]) ∧ Below w.heap.size w w' := by
  have t1 : (c != 0) = true := by rcases hc with rfl | rfl <;> rfl
  have HC : Hid (check s = (0, p, c)) := h
  have HC2 : Hid (c = 10 ∨ c = 11) := hc
  clear h hc
  go_enter Tryz.func38, Tryz.ntmps38
  go_wp2_with fail
  refine (runes_bad HC.out HC2.out hs _).mono ?_
  rintro e w1 ⟨a, cap, rfl, hb1⟩
  go_wp2_with fail
  go_ret2
  exact ⟨rfl, hb1⟩
set_option maxHeartbeats 400000 in
theorem refSplice_bad2 {s t : ByteArray} {rs : List Int} {p c : Int} (h : IsText s rs) (h2 : check t = (0, p, c)) (hc : c = 10 ∨ c = 11) (hs : s.size ≤ 2097152) (ht : t.size ≤ 2097152) (at_ del : Int) (w : World) :
    Calls Tryz.prog 38 #[.string s, .int .i64 at_, .int .i64 del, .string t] w fun e w' => e = .returned (.tuple #[.string ⟨#[]⟩, .int .i64 c]) ∧ Below w.heap.size w w' := by
  have t1 : (c != 0) = true := by rcases hc with rfl | rfl <;> rfl
  have HC : Hid (check t = (0, p, c)) := h2
  have HC2 : Hid (c = 10 ∨ c = 11) := hc
  clear h2 hc
  go_enter Tryz.func38, Tryz.ntmps38
  go_wp2_with fail
  refine (runes_text h hs _).mono ?_
  rintro e w1 ⟨a, cap, rfl, hb1, _⟩
  go_wp2_with fail
  refine (runes_bad HC.out HC2.out ht _).mono ?_
  rintro e w2 ⟨a2, cap2, rfl, hb2⟩
  have hB2 := hb1.trans (hb2.mono hb1.size)
  clear hb1 hb2
  go_wp2_with fail
  go_ret2
  exact ⟨rfl, hB2⟩
set_option maxHeartbeats 1000000 in
theorem refSplice_out {s t : ByteArray} {rs ts : List Int} (h : IsText s rs) (h2 : IsText t ts) (hs : s.size ≤ 2097152) (ht : t.size ≤ 2097152) (at_ del : Int) (hk : ¬ (0 ≤ at_ ∧ at_ ≤ rs.length ∧ 0 ≤ del ∧ del ≤ rs.length - at_)) (w : World) :
    Calls Tryz.prog 38 #[.string s, .int .i64 at_, .int .i64 del, .string t] w fun e w' => e = .returned (.tuple #[.string ⟨#[]⟩, .int .i64 12]) ∧ Below w.heap.size w w' := by
  have hlen := text_len h
  have hcs : at_ < 0 ∨ (0 ≤ at_ ∧ del < 0) ∨ (0 ≤ at_ ∧ 0 ≤ del ∧ (rs.length : Int) < at_) ∨ (0 ≤ at_ ∧ 0 ≤ del ∧ at_ ≤ rs.length ∧ (rs.length : Int) - at_ < del) := by omega
  clear hk
  rcases hcs with k1 | ⟨k1, k2⟩ | ⟨k1, k2, k3⟩ | ⟨k1, k2, k3, k4⟩
  all_goals
    go_enter Tryz.func38, Tryz.ntmps38
    go_wp2_with fail
    refine (runes_text h hs _).mono ?_
    rintro e w1 ⟨a, cap, rfl, hb1, _⟩
    go_wp2_with fail
    refine (runes_text h2 ht _).mono ?_
    rintro e w2 ⟨a2, cap2, rfl, hb2, _⟩
    have hB2 := hb1.trans (hb2.mono hb1.size)
    clear hb1 hb2
    go_wp2_with fail
    go_ret2
    exact ⟨rfl, hB2⟩
end Go.Proofs.YtfakfmmngflbfacGreatDoor
