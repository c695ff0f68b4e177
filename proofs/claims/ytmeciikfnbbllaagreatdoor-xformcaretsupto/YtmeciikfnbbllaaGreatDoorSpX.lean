import Derived.Test.YtmeciikfnbbllaaGreatDoorSpL
namespace Go.Proofs.YtmeciikfnbbllaaGreatDoor.Sp
open Go.RowKit Go.Lib
set_option maxRecDepth 100000
set_option maxHeartbeats 1000000 in
theorem back_bad {w : World} {a : Option Addr} {n cap : Nat} {l : List (Int × Int)} (h : Rng w a n cap l) {i c : Int} (hc : checkL l = (i, c)) (h0 : c ≠ 0) (at_ k : Int) :
    Calls Tryz.prog 87 #[.slice a n cap, .int .i64 at_, .int .i64 k] w fun e w' => e = .returned (.tuple #[.slice none 0 0, .slice none 0 0, .int .i64 c]) ∧ Below w.heap.size w w' := by
  have HA := check_any h
  rw [hc] at HA
  simp only at HA
  have t1 : (c == 0) = false := by simp [h0]
  clear hc h0 h
  go_enter Tryz.func87, Tryz.ntmps87
  go_wp2_with fail
  refine HA.mono ?_
  rintro e w1 ⟨rfl, hb1⟩
  go_wp2_with fail
  go_ret3
  exact ⟨rfl, hb1⟩
set_option maxHeartbeats 1000000 in
theorem back_place {w : World} {a : Option Addr} {n cap : Nat} {l : List (Int × Int)} (h : Rng w a n cap l) (hl : Lst l) {at_ k : Int} (hp : ¬ ((0 ≤ at_ ∧ at_ ≤ 1048576) ∧ (0 ≤ k ∧ k ≤ 1048576) ∧ at_ + k ≤ 1048576)) :
    Calls Tryz.prog 87 #[.slice a n cap, .int .i64 at_, .int .i64 k] w fun e w' => e = .returned (.tuple #[.slice none 0 0, .slice none 0 0, .int .i64 12]) ∧ Below w.heap.size w w' := by
  have HA := check_any h
  rw [hl.check] at HA
  simp only at HA
  clear h hl
  have hgap := isGap_yes
  have hgan := isGap_no
  by_cases h1 : 0 ≤ at_ ∧ at_ ≤ 1048576
  · have HG1 : Hid (∀ w, Calls Tryz.prog 88 #[.int .i64 at_] w fun e w' => e = .returned (.bool true) ∧ w' = w) := hgap at_ h1
    by_cases h2 : 0 ≤ k ∧ k ≤ 1048576
    · have HG2 : Hid (∀ w, Calls Tryz.prog 88 #[.int .i64 k] w fun e w' => e = .returned (.bool true) ∧ w' = w) := hgap k h2
      have HG3 : Hid (∀ w, Calls Tryz.prog 88 #[.int .i64 (at_ + k)] w fun e w' => e = .returned (.bool false) ∧ w' = w) := hgan (at_ + k) (by omega)
      obtain ⟨a1, a2⟩ := h1
      obtain ⟨b1, b2⟩ := h2
      clear hp hgap hgan
      go_enter Tryz.func87, Tryz.ntmps87
      go_wp2_with fail
      refine HA.mono ?_
      rintro e w1 ⟨rfl, hb1⟩
      go_wp2_with fail
      refine (HG1.out _).mono ?_
      rintro e w2 ⟨rfl, rfl⟩
      go_wp2_with fail
      refine (HG2.out _).mono ?_
      rintro e w3 ⟨rfl, rfl⟩
      go_wp2_with fail
      refine (HG3.out _).mono ?_
      rintro e w4 ⟨rfl, rfl⟩
      go_wp2_with fail
      go_ret3
      exact ⟨rfl, hb1⟩
    · have HG2 : Hid (∀ w, Calls Tryz.prog 88 #[.int .i64 k] w fun e w' => e = .returned (.bool false) ∧ w' = w) := hgan k h2
      clear h1 h2 hp hgap hgan
      go_enter Tryz.func87, Tryz.ntmps87
      go_wp2_with fail
      refine HA.mono ?_
      rintro e w1 ⟨rfl, hb1⟩
      go_wp2_with fail
      refine (HG1.out _).mono ?_
      rintro e w2 ⟨rfl, rfl⟩
      go_wp2_with fail
      refine (HG2.out _).mono ?_
      rintro e w3 ⟨rfl, rfl⟩
      go_wp2_with fail
      go_ret3
      exact ⟨rfl, hb1⟩
  · have HG1 : Hid (∀ w, Calls Tryz.prog 88 #[.int .i64 at_] w fun e w' => e = .returned (.bool false) ∧ w' = w) := hgan at_ h1
    clear h1 hp hgap hgan
    go_enter Tryz.func87, Tryz.ntmps87
    go_wp2_with fail
    refine HA.mono ?_
    rintro e w1 ⟨rfl, hb1⟩
    go_wp2_with fail
    refine (HG1.out _).mono ?_
    rintro e w2 ⟨rfl, rfl⟩
    go_wp2_with fail
    go_ret3
    exact ⟨rfl, hb1⟩
set_option maxHeartbeats 2000000 in
theorem back_ok {w : World} {a : Option Addr} {n cap : Nat} {l : List (Int × Int)} (h : Rng w a n cap l) (hl : Lst l) {at_ k : Int} (hp : (0 ≤ at_ ∧ at_ ≤ 1048576) ∧ (0 ≤ k ∧ k ≤ 1048576) ∧ at_ + k ≤ 1048576) :
    Calls Tryz.prog 87 #[.slice a n cap, .int .i64 at_, .int .i64 k] w fun e w' => ∃ o no co i ni ci, e = .returned (.tuple #[.slice o no co, .slice i ni ci, .int .i64 0]) ∧ Own w' w.heap.size (.slice o no co) (backOldL l at_ k) ∧ Own w' w.heap.size (.slice i ni ci) (backInL l at_ k) ∧
      (∀ g, (Value.slice o no co).ownBlock = some g → (Value.slice i ni ci).ownBlock ≠ some g) ∧ Below w.heap.size w w' := by
  have HA := check_any h
  rw [hl.check] at HA
  simp only at HA
  have hlen := h.len
  have hfew := hl.few
  have HG1 : Hid (∀ w, Calls Tryz.prog 88 #[.int .i64 at_] w fun e w' => e = .returned (.bool true) ∧ w' = w) := isGap_yes at_ hp.1
  have HG2 : Hid (∀ w, Calls Tryz.prog 88 #[.int .i64 k] w fun e w' => e = .returned (.bool true) ∧ w' = w) := isGap_yes k hp.2.1
  have HG3 : Hid (∀ w, Calls Tryz.prog 88 #[.int .i64 (at_ + k)] w fun e w' => e = .returned (.bool true) ∧ w' = w) := isGap_yes (at_ + k) (by omega)
  have HT1 : Hid (∀ (W : World), Below w.heap.size w W → Calls Tryz.prog 90 #[.slice none 0 0, .slice a n cap, .int .i64 0, .int .i64 at_, .int .i64 0] W _) :=
    fun W hBW => taken_any (B := w.heap.size) (own_nil W _) hBW.size (h.below hBW) h.under 0 at_ 0 (by omega) (by omega) hl.wide (by omega) (by omega) (by omega)
  have HT2 : Hid (∀ (W : World) (o' : Option Addr) (no' capo' : Nat), Below w.heap.size w W → Own W w.heap.size (.slice o' no' capo') (takenL [] l 0 at_ 0) → Calls Tryz.prog 90 #[.slice o' no' capo', .slice a n cap, .int .i64 (at_ + k), .int .i64 1048576, .int .i64 (-k)] W _) :=
    fun W o' no' capo' hBW hoW => taken_any (B := w.heap.size) hoW hBW.size (h.below hBW) h.under (at_ + k) 1048576 (-k) (by have := hoW.rng.len; have := takenL_length [] l 0 at_ 0; simp only [List.length_nil] at this; omega) (by omega) hl.wide (by omega) (by omega) (by omega)
  have HT3 : Hid (∀ (W : World), Below w.heap.size w W → Calls Tryz.prog 90 #[.slice none 0 0, .slice a n cap, .int .i64 at_, .int .i64 (at_ + k), .int .i64 (-at_)] W _) :=
    fun W hBW => taken_any (B := W.heap.size) (own_nil W _) (Nat.le_refl _) (h.below hBW) (h.under.mono hBW.size) at_ (at_ + k) (-at_) (by omega) (by omega) hl.wide (by omega) (by omega) (by omega)
  obtain ⟨⟨a1, a2⟩, ⟨b1, b2⟩, b3⟩ := hp
  clear h hl hlen hfew
  go_enter Tryz.func87, Tryz.ntmps87
  go_wp2_with fail
  refine HA.mono ?_
  rintro e w1 ⟨rfl, hb1⟩
  go_wp2_with fail
  refine (HG1.out _).mono ?_
  rintro e w2 ⟨rfl, rfl⟩
  go_wp2_with fail
  refine (HG2.out _).mono ?_
  rintro e w3 ⟨rfl, rfl⟩
  go_wp2_with fail
  refine (HG3.out _).mono ?_
  rintro e w4 ⟨rfl, rfl⟩
  go_wp2_with fail
  refine (HT1.out _ hb1).mono ?_
  rintro e w5 ⟨o2, no2, capo2, rfl, ho2, hb5⟩
  have hB5 := hb1.trans hb5
  go_wp2_with fail
  refine (HT2.out _ o2 no2 capo2 hB5 ho2).mono ?_
  rintro e w6 ⟨o3, no3, capo3, rfl, ho3, hb6⟩
  have hB6 := hB5.trans hb6
  go_wp2_with fail
  refine (HT3.out _ hB6).mono ?_
  rintro e w7 ⟨o4, no4, capo4, rfl, ho4, hb7⟩
  have hB7 := hB6.trans (hb7.mono hB6.size)
  have HO3 : Hid (Own w7 w.heap.size (.slice o3 no3 capo3) (backOldL l at_ k)) := ho3.below hb7
  have HO4 : Hid (Own w7 w.heap.size (.slice o4 no4 capo4) (backInL l at_ k)) := ho4.mono hB6.size
  have HD : Hid (∀ g, (Value.slice o3 no3 capo3).ownBlock = some g → (Value.slice o4 no4 capo4).ownBlock ≠ some g) := fun g h1 h2 => by
    have e1 := (World.ownsRow.lt ho3 g h1).2
    have e2 := (World.ownsRow.lt ho4 g h2).1
    omega
  clear ho2 ho3 ho4 hb5 hb6 hb7
  go_wp2_with fail
  go_ret3
  exact ⟨_, _, _, _, _, _, rfl, HO3.out, HO4.out, HD.out, hB7⟩
end Go.Proofs.YtmeciikfnbbllaaGreatDoor.Sp
