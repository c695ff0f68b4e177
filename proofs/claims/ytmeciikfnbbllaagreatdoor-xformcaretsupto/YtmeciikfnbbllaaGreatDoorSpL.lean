import Derived.Test.YtmeciikfnbbllaaGreatDoorSpK
namespace Go.Proofs.YtmeciikfnbbllaaGreatDoor.Sp
open Go.RowKit Go.Lib
set_option maxRecDepth 100000
theorem Lst.wide {l : List (Int × Int)} (h : Lst l) : ∀ r ∈ l, -4611686018427387904 ≤ r.1 ∧ r.1 ≤ 4611686018427387903 ∧ -4611686018427387904 ≤ r.2 ∧ r.2 ≤ 4611686018427387903 := fun r hr => by
  have := h.nonneg r hr
  omega
theorem through_bad {w : World} {a : Option Addr} {n cap : Nat} {l : List (Int × Int)} (h : Rng w a n cap l) {i c : Int} (hc : checkL l = (i, c)) (h0 : c ≠ 0) (at_ k : Int) :
    Calls Tryz.prog 69 #[.slice a n cap, .int .i64 at_, .int .i64 k] w fun e w' => e = .returned (.tuple #[.slice none 0 0, .int .i64 c]) ∧ Below w.heap.size w w' := by
  have HA := check_any h
  rw [hc] at HA
  simp only at HA
  have t1 : (c == 0) = false := by simp [h0]
  clear hc h0 h
  go_enter Tryz.func69, Tryz.ntmps69
  go_wp2_with fail
  refine HA.mono ?_
  rintro e w1 ⟨rfl, hb1⟩
  go_wp2_with fail
  go_ret2
  exact ⟨rfl, hb1⟩
set_option maxHeartbeats 1000000 in
theorem through_place {w : World} {a : Option Addr} {n cap : Nat} {l : List (Int × Int)} (h : Rng w a n cap l) (hl : Lst l) {at_ k : Int} (hp : ¬ ((0 ≤ at_ ∧ at_ ≤ 1048576) ∧ 0 ≤ k ∧ k ≤ 1048576)) :
    Calls Tryz.prog 69 #[.slice a n cap, .int .i64 at_, .int .i64 k] w fun e w' => e = .returned (.tuple #[.slice none 0 0, .int .i64 12]) ∧ Below w.heap.size w w' := by
  have HA := check_any h
  rw [hl.check] at HA
  simp only at HA
  clear h hl
  by_cases h1 : 0 ≤ at_ ∧ at_ ≤ 1048576
  · have HG1 : Hid (∀ w, Calls Tryz.prog 88 #[.int .i64 at_] w fun e w' => e = .returned (.bool true) ∧ w' = w) := isGap_yes at_ h1
    have HG2 : Hid (∀ w, Calls Tryz.prog 88 #[.int .i64 k] w fun e w' => e = .returned (.bool false) ∧ w' = w) := isGap_no k (fun h => hp ⟨h1, h⟩)
    clear h1 hp
    go_enter Tryz.func69, Tryz.ntmps69
    go_wp2_with fail
    refine HA.mono ?_
    rintro e w1 ⟨rfl, hb1⟩
    go_wp2_with fail
    refine (HG1.out _).mono ?_
    rintro e w2 ⟨rfl, rfl⟩
    go_wp2_with fail
    refine (HG2.out _).mono ?_
    rintro e w3 ⟨rfl, rfl⟩
    go_wp2_with fail
    go_ret2
    exact ⟨rfl, hb1⟩
  · have HG1 : Hid (∀ w, Calls Tryz.prog 88 #[.int .i64 at_] w fun e w' => e = .returned (.bool false) ∧ w' = w) := isGap_no at_ h1
    clear h1 hp
    go_enter Tryz.func69, Tryz.ntmps69
    go_wp2_with fail
    refine HA.mono ?_
    rintro e w1 ⟨rfl, hb1⟩
    go_wp2_with fail
    refine (HG1.out _).mono ?_
    rintro e w2 ⟨rfl, rfl⟩
    go_wp2_with fail
    go_ret2
    exact ⟨rfl, hb1⟩
set_option maxHeartbeats 1000000 in
theorem through_grow {w : World} {a : Option Addr} {n cap : Nat} {l : List (Int × Int)} (h : Rng w a n cap l) (hl : Lst l) {at_ k : Int} (hp : (0 ≤ at_ ∧ at_ ≤ 1048576) ∧ 0 ≤ k ∧ k ≤ 1048576) (hg : grows l at_ k) :
    Calls Tryz.prog 69 #[.slice a n cap, .int .i64 at_, .int .i64 k] w fun e w' => e = .returned (.tuple #[.slice none 0 0, .int .i64 24]) ∧ Below w.heap.size w w' := by
  have HA := check_any h
  rw [hl.check] at HA
  simp only at HA
  have HG1 : Hid (∀ w, Calls Tryz.prog 88 #[.int .i64 at_] w fun e w' => e = .returned (.bool true) ∧ w' = w) := isGap_yes at_ hp.1
  have HG2 : Hid (∀ w, Calls Tryz.prog 88 #[.int .i64 k] w fun e w' => e = .returned (.bool true) ∧ w' = w) := isGap_yes k hp.2
  have HP : Hid (∀ w', Below w.heap.size w w' → Calls Tryz.prog 89 #[.slice a n cap, .int .i64 at_, .int .i64 k] w' _) := fun w' hb => passesEnd_yes (h.below hb) hl hp.1 hp.2 hg
  clear h hl hp hg
  go_enter Tryz.func69, Tryz.ntmps69
  go_wp2_with fail
  refine HA.mono ?_
  rintro e w1 ⟨rfl, hb1⟩
  go_wp2_with fail
  refine (HG1.out _).mono ?_
  rintro e w2 ⟨rfl, rfl⟩
  go_wp2_with fail
  refine (HG2.out _).mono ?_
  rintro e w3 ⟨rfl, rfl⟩
  go_wp2_with fail
  refine (HP.out _ hb1).mono ?_
  rintro e w4 ⟨rfl, hb4⟩
  have hB4 := hb1.trans (hb4.mono hb1.size)
  go_wp2_with fail
  go_ret2
  exact ⟨rfl, hB4⟩
set_option maxHeartbeats 1000000 in
theorem through_ok {w : World} {a : Option Addr} {n cap : Nat} {l : List (Int × Int)} (h : Rng w a n cap l) (hl : Lst l) {at_ k : Int} (hp : (0 ≤ at_ ∧ at_ ≤ 1048576) ∧ 0 ≤ k ∧ k ≤ 1048576) (hg : ¬ grows l at_ k) :
    Calls Tryz.prog 69 #[.slice a n cap, .int .i64 at_, .int .i64 k] w fun e w' => Answer w.heap.size e w' (throughL l at_ k) ∧ Below w.heap.size w w' := by
  have HA := check_any h
  rw [hl.check] at HA
  simp only at HA
  have hlen := h.len
  have hfew := hl.few
  have HG1 : Hid (∀ w, Calls Tryz.prog 88 #[.int .i64 at_] w fun e w' => e = .returned (.bool true) ∧ w' = w) := isGap_yes at_ hp.1
  have HG2 : Hid (∀ w, Calls Tryz.prog 88 #[.int .i64 k] w fun e w' => e = .returned (.bool true) ∧ w' = w) := isGap_yes k hp.2
  have HP : Hid (∀ w', Below w.heap.size w w' → Calls Tryz.prog 89 #[.slice a n cap, .int .i64 at_, .int .i64 k] w' _) := fun w' hb => passesEnd_no (h.below hb) hl hp.1 hp.2 hg
  have HT1 : Hid (∀ (W : World), Below w.heap.size w W → Calls Tryz.prog 90 #[.slice none 0 0, .slice a n cap, .int .i64 0, .int .i64 at_, .int .i64 0] W _) :=
    fun W hBW => taken_any (B := w.heap.size) (own_nil W _) hBW.size (h.below hBW) h.under 0 at_ 0 (by omega) (by omega) hl.wide (by omega) (by omega) (by omega)
  have HT2 : Hid (∀ (W : World) (o' : Option Addr) (no' capo' : Nat), Below w.heap.size w W → Own W w.heap.size (.slice o' no' capo') (takenL [] l 0 at_ 0) → Calls Tryz.prog 90 #[.slice o' no' capo', .slice a n cap, .int .i64 at_, .int .i64 1048576, .int .i64 k] W _) :=
    fun W o' no' capo' hBW hoW => taken_any (B := w.heap.size) hoW hBW.size (h.below hBW) h.under at_ 1048576 k (by have := hoW.rng.len; have := takenL_length [] l 0 at_ 0; simp only [List.length_nil] at this; omega) (by omega) hl.wide (by omega) (by omega) (by omega)
  clear h hl hp hg hlen hfew
  go_enter Tryz.func69, Tryz.ntmps69
  go_wp2_with fail
  refine HA.mono ?_
  rintro e w1 ⟨rfl, hb1⟩
  go_wp2_with fail
  refine (HG1.out _).mono ?_
  rintro e w2 ⟨rfl, rfl⟩
  go_wp2_with fail
  refine (HG2.out _).mono ?_
  rintro e w3 ⟨rfl, rfl⟩
  go_wp2_with fail
  refine (HP.out _ hb1).mono ?_
  rintro e w4 ⟨rfl, hb4⟩
  have hB4 := hb1.trans (hb4.mono hb1.size)
  go_wp2_with fail
  refine (HT1.out _ hB4).mono ?_
  rintro e w5 ⟨o2, no2, capo2, rfl, ho2, hb5⟩
  have hB5 := hB4.trans hb5
  go_wp2_with fail
  refine (HT2.out _ o2 no2 capo2 hB5 ho2).mono ?_
  rintro e w6 ⟨o3, no3, capo3, rfl, ho3, hb6⟩
  have hB6 := hB5.trans hb6
  go_wp2_with fail
  refine bounded_any.mono ?_
  rintro e w7 ⟨rfl, rfl⟩
  have hl3 : (throughL l at_ k).length = no3 := ho3.rng.len
  have HO : Hid (Own w7 w.heap.size (.slice o3 no3 capo3) (throughL l at_ k)) := ho3
  clear ho3 ho2
  by_cases hfew : 32768 < no3
  · rw [if_pos hfew]
    go_wp2_with fail
    go_ret2
    exact ⟨.inl ⟨by omega, rfl⟩, hB6⟩
  · rw [if_neg hfew]
    go_wp2_with fail
    go_ret2
    exact ⟨.inr ⟨by omega, o3, capo3, (by rw [hl3]; rfl), (by rw [hl3]; exact HO.out)⟩, hB6⟩
end Go.Proofs.YtmeciikfnbbllaaGreatDoor.Sp
