import Derived.Test.YtfakfmmngflbfacGreatDoorRefString
import Derived.Test.YtfakfmmngflbfacGreatDoorAgree
import Derived.Test.YtfakfmmngflbfacGreatDoorClone
import Derived.Test.YtfakfmmngflbfacGreatDoorKinds2
namespace Go.Proofs.YtfakfmmngflbfacGreatDoor
open Go.RowKit Go.Lib

theorem strClone_any (s : ByteArray) (w : World) (hlim : s.size ≤ 281474976710656) :
    Calls Tryz.prog 35 #[.string s] w fun e w' => e = .returned (.string s) ∧ Below w.heap.size w w' := by
  go_enter Tryz.func35, Tryz.ntmps35
  go_wp2_with fail
  refine (Tryz.clone_any s _ hlim).mono ?_
  rintro e w1 ⟨rfl, hb1⟩
  go_wp2_with fail
  go_ret
  exact ⟨rfl, hb1⟩

set_option maxHeartbeats 400000 in
theorem slice_bad {s : ByteArray} {p c : Int} (h : check s = (0, p, c)) (hc : c = 10 ∨ c = 11) (hs : s.size ≤ 9223372036854775807) (lo hi : Int) (w : World) (hw : Bar w) :
    Calls Tryz.prog 18 #[.string s, .int .i64 lo, .int .i64 hi] w fun e w' => e = .returned (.tuple #[.string ⟨#[]⟩, .int .i64 c]) ∧ Below w.heap.size w w' := by
  have t1 : (c != 0) = true := by rcases hc with rfl | rfl <;> rfl
  have HC : Hid (check s = (0, p, c)) := h
  clear h hc
  go_enter Tryz.func18, Tryz.ntmps18
  go_wp2_with fail
  refine (check_bar hs HC.out _ hw).mono ?_
  rintro e w1 ⟨rfl, hb1⟩
  go_wp2_with fail
  go_ret2
  exact ⟨rfl, hb1⟩
set_option maxHeartbeats 1000000 in
theorem slice_out {s : ByteArray} {rs : List Int} (h : IsText s rs) (hs : s.size ≤ 9223372036854775807) (lo hi : Int) (hk : ¬ (0 ≤ lo ∧ lo ≤ hi ∧ hi ≤ rs.length)) (w : World) (hw : Bar w) :
    Calls Tryz.prog 18 #[.string s, .int .i64 lo, .int .i64 hi] w fun e w' => e = .returned (.tuple #[.string ⟨#[]⟩, .int .i64 12]) ∧ Below w.heap.size w w' := by
  by_cases k1 : lo < 0
  · go_enter Tryz.func18, Tryz.ntmps18
    go_wp2_with fail
    refine (check_bar hs h.check _ hw).mono ?_
    rintro e w1 ⟨rfl, hb1⟩
    go_wp2_with fail
    go_ret2
    exact ⟨rfl, hb1⟩
  · by_cases k2 : hi < lo
    · go_enter Tryz.func18, Tryz.ntmps18
      go_wp2_with fail
      refine (check_bar hs h.check _ hw).mono ?_
      rintro e w1 ⟨rfl, hb1⟩
      go_wp2_with fail
      go_ret2
      exact ⟨rfl, hb1⟩
    · have k3 : (rs.length : Int) < hi := by omega
      have k4 : lo ≤ hi := by omega
      go_enter Tryz.func18, Tryz.ntmps18
      go_wp2_with fail
      refine (check_bar hs h.check _ hw).mono ?_
      rintro e w1 ⟨rfl, hb1⟩
      go_wp2_with fail
      go_ret2
      exact ⟨rfl, hb1⟩
set_option maxHeartbeats 1000000 in
theorem slice_in {s : ByteArray} {rs : List Int} (h : IsText s rs) (hs : s.size ≤ 281474976710656) (lo hi : Nat) (h1 : lo ≤ hi) (h2 : hi ≤ rs.length) (w : World) (hw : Bar w) :
    Calls Tryz.prog 18 #[.string s, .int .i64 lo, .int .i64 hi] w fun e w' => e = .returned (.tuple #[.string (s.extract (posOf rs lo) (posOf rs hi)), .int .i64 0]) ∧ Below w.heap.size w w' := by
  have hlen := text_len h
  have hp1 : posOf rs lo ≤ posOf rs hi := posOf_mono rs h1
  have hp2 : posOf rs hi ≤ s.size := by rw [h.size]; exact posOf_mono rs h2
  go_enter Tryz.func18, Tryz.ntmps18
  go_wp2_with fail
  refine (check_bar (by omega) h.check _ hw).mono ?_
  rintro e w1 ⟨rfl, hb1⟩
  go_wp2_with fail
  refine (byteOf_any h (by omega) lo (by omega) _).mono ?_
  rintro e w2 ⟨rfl, hb2⟩
  have hB2 := hb1.trans (hb2.mono hb1.size)
  clear hb1 hb2
  go_wp2_with fail
  refine (byteOf_any h (by omega) hi (by omega) _).mono ?_
  rintro e w3 ⟨rfl, hb3⟩
  have hB3 := hB2.trans (hb3.mono hB2.size)
  clear hB2 hb3
  go_wp2_with fail
  refine (strClone_any _ _ (by rw [ByteArray.size_extract]; omega)).mono ?_
  rintro e w4 ⟨rfl, hb4⟩
  have hB4 := hB3.trans (hb4.mono hB3.size)
  clear hB3 hb4
  go_wp2_with fail
  go_ret2
  exact ⟨rfl, hB4⟩

theorem text_list {s : ByteArray} {l : List UInt8} (h : s.data.toList = l) : s = ⟨l.toArray⟩ := by
  subst h
  simp
theorem slice_text {s : ByteArray} {rs : List Int} (h : IsText s rs) (lo hi : Nat) (h1 : lo ≤ hi) : s.extract (posOf rs lo) (posOf rs hi) = ⟨(encs ((rs.take hi).drop lo)).toArray⟩ := text_list (h.extract lo hi h1).bytes
theorem runes_text2 {s : ByteArray} {rs : List Int} (h : IsText s rs) (hs : s.size ≤ 2097152) (w : World) :
    Calls Tryz.prog 32 #[.string s] w fun e w' => ∃ (a : Option Addr) (cap : Nat), e = .returned (.tuple #[.slice a rs.length cap, .int .i64 0, .int .i64 0]) ∧ Below w.heap.size w w' ∧ Row64 w' a rs.length cap rs ∧ ((a = none ∧ rs.length = 0 ∧ cap = 0) ∨ ∃ g, a = some ⟨g, 0, none⟩) := by
  refine (runes_any (split_of_text h) hs w).mono ?_
  rintro e w' ⟨a, n, cap, p, c, rfl, hb, ⟨_, rfl, rfl, rfl, hown⟩ | ⟨h0, _⟩⟩
  · refine ⟨a, cap, rfl, hb, row64_of_own hown, ?_⟩
    rcases hown.2 with ⟨e, h0⟩ | ⟨g, cap', cur, e, _⟩
    · simp only [Value.slice.injEq] at e
      exact .inl ⟨e.1, h0, e.2.2⟩
    · simp only [Value.slice.injEq] at e
      exact .inr ⟨g, e.1⟩
  · exact absurd rfl h0
theorem row64_nil (w : World) (a : Option Addr) (cap : Nat) (h : cap ≤ maxLen) : Row64 w a 0 cap [] := ⟨rfl, ⟨Nat.zero_le _, h⟩, fun _ hj => absurd hj (Nat.not_lt_zero _)⟩
theorem Row64.sub {w : World} {a : Option Addr} {n cap : Nat} {rs : List Int} {g off : Nat} (h : Row64 w (some ⟨g, off, none⟩) n cap rs) (ha : a = some ⟨g, off, none⟩) (lo hi : Nat) (h1 : lo ≤ hi) (h2 : hi ≤ n) : Row64 w (some ⟨g, off + lo, none⟩) (hi - lo) (cap - lo) ((rs.take hi).drop lo) := by
  have _r := ha
  have hl := h.len
  have hc := h.room
  refine ⟨by simp; omega, ⟨by omega, by omega⟩, fun j hj => ?_⟩
  obtain ⟨g', off', e, hg, hcell⟩ := h.cells (lo + j) (by omega)
  simp only [Option.some.injEq, Addr.mk.injEq, and_true] at e
  obtain ⟨rfl, rfl⟩ := e
  refine ⟨g, off + lo, rfl, hg, ?_⟩
  rw [show off + lo + j = off + (lo + j) by omega, hcell]
  simp only [List.getD_eq_getElem?_getD, List.getElem?_drop, List.getElem?_take]
  rw [if_pos (by omega)]

set_option maxHeartbeats 400000 in
theorem refSlice_bad {s : ByteArray} {p c : Int} (h : check s = (0, p, c)) (hc : c = 10 ∨ c = 11) (hs : s.size ≤ 2097152) (lo hi : Int) (w : World) :
    Calls Tryz.prog 19 #[.string s, .int .i64 lo, .int .i64 hi] w fun e w' => e = .returned (.tuple #[.string ⟨#[]⟩, .int .i64 c]) ∧ Below w.heap.size w w' := by
  have t1 : (c != 0) = true := by rcases hc with rfl | rfl <;> rfl
  have HC : Hid (check s = (0, p, c)) := h
  have HC2 : Hid (c = 10 ∨ c = 11) := hc
  clear h hc
  go_enter Tryz.func19, Tryz.ntmps19
  go_wp2_with fail
  refine (runes_bad HC.out HC2.out hs _).mono ?_
  rintro e w1 ⟨a, cap, rfl, hb1⟩
  go_wp2_with fail
  go_ret2
  exact ⟨rfl, hb1⟩
set_option maxHeartbeats 1000000 in
theorem refSlice_out {s : ByteArray} {rs : List Int} (h : IsText s rs) (hs : s.size ≤ 2097152) (lo hi : Int) (hk : ¬ (0 ≤ lo ∧ lo ≤ hi ∧ hi ≤ rs.length)) (w : World) :
    Calls Tryz.prog 19 #[.string s, .int .i64 lo, .int .i64 hi] w fun e w' => e = .returned (.tuple #[.string ⟨#[]⟩, .int .i64 12]) ∧ Below w.heap.size w w' := by
  by_cases k1 : lo < 0
  · go_enter Tryz.func19, Tryz.ntmps19
    go_wp2_with fail
    refine (runes_text h hs _).mono ?_
    rintro e w1 ⟨a, cap, rfl, hb1, _⟩
    go_wp2_with fail
    go_ret2
    exact ⟨rfl, hb1⟩
  · by_cases k2 : hi < lo
    · go_enter Tryz.func19, Tryz.ntmps19
      go_wp2_with fail
      refine (runes_text h hs _).mono ?_
      rintro e w1 ⟨a, cap, rfl, hb1, _⟩
      go_wp2_with fail
      go_ret2
      exact ⟨rfl, hb1⟩
    · have k3 : (rs.length : Int) < hi := by omega
      have k4 : lo ≤ hi := by omega
      go_enter Tryz.func19, Tryz.ntmps19
      go_wp2_with fail
      refine (runes_text h hs _).mono ?_
      rintro e w1 ⟨a, cap, rfl, hb1, _⟩
      go_wp2_with fail
      go_ret2
      exact ⟨rfl, hb1⟩
set_option maxHeartbeats 1000000 in
theorem refSlice_in {s : ByteArray} {rs : List Int} (h : IsText s rs) (hs : s.size ≤ 2097152) (lo hi : Nat) (h1 : lo ≤ hi) (h2 : hi ≤ rs.length) (w : World) :
    Calls Tryz.prog 19 #[.string s, .int .i64 lo, .int .i64 hi] w fun e w' => e = .returned (.tuple #[.string (s.extract (posOf rs lo) (posOf rs hi)), .int .i64 0]) ∧ Below w.heap.size w w' := by
  have hlen := text_len h
  obtain ⟨tx, htx⟩ : ∃ tx, s.extract (posOf rs lo) (posOf rs hi) = tx := ⟨_, rfl⟩
  have HT : Hid (tx = ⟨(encs ((rs.take hi).drop lo)).toArray⟩) := htx ▸ slice_text h lo hi h1
  have HV : Hid (∀ r ∈ (rs.take hi).drop lo, Utf8.valid r = true) := fun r hr => (h.ok r (List.mem_of_mem_take (List.mem_of_mem_drop hr))).1
  rw [htx]
  clear htx
  have HZ : Hid (hi - lo = 0 → (rs.take hi).drop lo = []) := fun e => List.drop_eq_nil_of_le (by rw [List.length_take]; omega)
  go_enter Tryz.func19, Tryz.ntmps19
  go_wp2_with fail
  refine (runes_text2 h hs _).mono ?_
  rintro e w1 ⟨a, cap, rfl, hb1, hr, hcase⟩
  have hcap := hr.room
  rcases hcase with ⟨rfl, hz, rfl⟩ | ⟨g, rfl⟩
  · obtain rfl : lo = 0 := by omega
    obtain rfl : hi = 0 := by omega
    have HR : Hid (Row64 w1 none 0 0 ((rs.take 0).drop 0)) := by rw [HZ.out rfl]; exact row64_nil w1 none 0 (Nat.zero_le _)
    go_wp2_with fail
    refine (refString_any _ _ _ _ _ HR.out HV.out (by omega)).mono ?_
    rintro e w2 ⟨rfl, hb2⟩
    rw [← HT.out]
    have hB2 := hb1.trans (hb2.mono hb1.size)
    clear hb2 hb1
    go_wp2_with fail
    go_ret2
    exact ⟨rfl, hB2⟩
  · by_cases hlc : lo = cap
    · obtain rfl : hi = cap := by omega
      subst hlc
      have HR : Hid (Row64 w1 (some ⟨g, 0, none⟩) 0 0 ((rs.take lo).drop lo)) := by rw [HZ.out (by omega)]; exact row64_nil w1 _ 0 (Nat.zero_le _)
      go_wp2_with fail
      refine (refString_any _ _ _ _ _ HR.out HV.out (by omega)).mono ?_
      rintro e w2 ⟨rfl, hb2⟩
      rw [← HT.out]
      have hB2 := hb1.trans (hb2.mono hb1.size)
      clear hb2 hb1
      go_wp2_with fail
      go_ret2
      exact ⟨rfl, hB2⟩
    · have hsub := hr.sub rfl lo hi h1 h2
      rw [Nat.zero_add] at hsub
      have HR : Hid (Row64 w1 (some ⟨g, lo, none⟩) (hi - lo) (cap - lo) ((rs.take hi).drop lo)) := hsub
      clear hsub
      have hcz : ¬ (cap - lo = 0) := by omega
      go_wp2_with fail
      refine (refString_any _ _ _ _ _ HR.out HV.out (by omega)).mono ?_
      rintro e w2 ⟨rfl, hb2⟩
      rw [← HT.out]
      have hB2 := hb1.trans (hb2.mono hb1.size)
      clear hb2 hb1
      go_wp2_with fail
      go_ret2
      exact ⟨rfl, hB2⟩
end Go.Proofs.YtfakfmmngflbfacGreatDoor
