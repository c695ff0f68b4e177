import Derived.Test.YtelcjhflopgojaaDoorOpC
namespace Go.Proofs.YtelcjhflopgojaaDoor
open Go.RowKit Go.Lib Sp
set_option maxRecDepth 100000

theorem size_zero_iff (s : ByteArray) : s = ⟨#[]⟩ ↔ s.size = 0 := by
  constructor
  · rintro rfl; rfl
  · intro h
    obtain ⟨⟨x⟩⟩ := s
    cases x with
    | nil => rfl
    | cons a t => exact absurd h (by simp [ByteArray.size])

theorem extra1 (c n p : Int) (s : ByteArray) (l : List (Int × Int)) (tc tn : Int) (on : Bool) : (!eqP ⟨c, n, 1, 0, ⟨#[]⟩, l, tc, tn, on⟩ ⟨c, n, 1, 0, ⟨#[]⟩, [], 0, 0, false⟩) = extra ⟨c, n, 1, p, s, l, tc, tn, on⟩ := by
  simp only [eqP, extra, ext0, extT]
  cases l <;> cases on <;> by_cases h1 : tc = 0 <;> by_cases h2 : tn = 0 <;> simp [h1, h2]
set_option maxHeartbeats 2000000 in
theorem hasExtra_1 {c n p : Int} {s : ByteArray} {l : List (Int × Int)} {tc tn : Int} {on : Bool} {w : World} {a : Option Addr} {m cap : Nat} (h : Rng w a m cap l) :
    Calls Tryd.prog 20 #[opVal ⟨c, n, 1, p, s, l, tc, tn, on⟩ (.slice a m cap)] w fun e w' => e = .returned (.bool (extra ⟨c, n, 1, p, s, l, tc, tn, on⟩)) ∧ Below w.heap.size w w' := by
  rw [← extra1]
  have HE : Hid (∀ w' : World, Below w.heap.size w w' → Calls Tryd.prog 12 #[opVal ⟨c, n, 1, 0, ⟨#[]⟩, l, tc, tn, on⟩ (.slice a m cap), opVal ⟨c, n, 1, 0, ⟨#[]⟩, [], 0, 0, false⟩ (.slice none 0 0)] w' fun e w'' => e = .returned (.bool (eqP ⟨c, n, 1, 0, ⟨#[]⟩, l, tc, tn, on⟩ ⟨c, n, 1, 0, ⟨#[]⟩, [], 0, 0, false⟩)) ∧ Below w'.heap.size w' w'') := fun w' hb => opEqual_any (h.below hb) (rng_nil _)
  clear h
  simp only [opVal] at *
  go_enter Tryd.func20, Tryd.ntmps20
  go_wp2_with fail
  have hw2 := (Below.refl w.heap.size w).alloc (Nat.le_refl _) (Obj.cells #[.int .i64 c, .int .i64 n, .int .i64 1, .int .i64 0, .string ⟨#[]⟩, .slice a m cap, .int .i64 tc, .int .i64 tn, .bool on] 37)
  refine (HE.out _ hw2).mono ?_
  rintro e w1 ⟨rfl, hb1⟩
  have hB := hw2.trans (hb1.mono hw2.size)
  clear hw2 hb1 HE
  go_wp2_with fail
  go_ret
  exact ⟨rfl, hB⟩

theorem extra2 (c n p : Int) (s : ByteArray) (l : List (Int × Int)) (tc tn : Int) (on : Bool) : (!eqP ⟨c, n, 2, p, s, [], tc, tn, on⟩ ⟨c, n, 2, 0, ⟨#[]⟩, [], 0, 0, false⟩) = extra ⟨c, n, 2, p, s, l, tc, tn, on⟩ := by
  simp only [eqP, extra, ext0, extT, extP, ← size_zero_iff]
  by_cases h0 : p = 0 <;> by_cases h3 : s = ⟨#[]⟩ <;> cases on <;> by_cases h1 : tc = 0 <;> by_cases h2 : tn = 0 <;> simp [h0, h1, h2, h3]
set_option maxHeartbeats 2000000 in
theorem hasExtra_2 {c n p : Int} {s : ByteArray} {l : List (Int × Int)} {tc tn : Int} {on : Bool} {w : World} {a : Option Addr} {m cap : Nat} (_h : Rng w a m cap l) :
    Calls Tryd.prog 20 #[opVal ⟨c, n, 2, p, s, l, tc, tn, on⟩ (.slice a m cap)] w fun e w' => e = .returned (.bool (extra ⟨c, n, 2, p, s, l, tc, tn, on⟩)) ∧ Below w.heap.size w w' := by
  rw [← extra2]
  have HE : Hid (∀ w' : World, Below w.heap.size w w' → Calls Tryd.prog 12 #[opVal ⟨c, n, 2, p, s, [], tc, tn, on⟩ (.slice none 0 0), opVal ⟨c, n, 2, 0, ⟨#[]⟩, [], 0, 0, false⟩ (.slice none 0 0)] w' fun e w'' => e = .returned (.bool (eqP ⟨c, n, 2, p, s, [], tc, tn, on⟩ ⟨c, n, 2, 0, ⟨#[]⟩, [], 0, 0, false⟩)) ∧ Below w'.heap.size w' w'') := fun w' hb => opEqual_any (rng_nil _) (rng_nil _)
  simp only [opVal] at *
  go_enter Tryd.func20, Tryd.ntmps20
  go_wp2_with fail
  have hw2 := (Below.refl w.heap.size w).alloc (Nat.le_refl _) (Obj.cells #[.int .i64 c, .int .i64 n, .int .i64 2, .int .i64 p, .string s, .slice none 0 0, .int .i64 tc, .int .i64 tn, .bool on] 37)
  refine (HE.out _ hw2).mono ?_
  rintro e w1 ⟨rfl, hb1⟩
  have hB := hw2.trans (hb1.mono hw2.size)
  clear hw2 hb1 HE
  go_wp2_with fail
  go_ret
  exact ⟨rfl, hB⟩

theorem extra3 (c n p : Int) (s : ByteArray) (l : List (Int × Int)) (tc tn : Int) (on : Bool) : (!eqP ⟨c, n, 3, p, s, [], tc, tn, on⟩ ⟨c, n, 3, 0, ⟨#[]⟩, [], 0, 0, false⟩) = extra ⟨c, n, 3, p, s, l, tc, tn, on⟩ := by
  simp only [eqP, extra, ext0, extT, extP, ← size_zero_iff]
  by_cases h0 : p = 0 <;> by_cases h3 : s = ⟨#[]⟩ <;> cases on <;> by_cases h1 : tc = 0 <;> by_cases h2 : tn = 0 <;> simp [h0, h1, h2, h3]
set_option maxHeartbeats 2000000 in
theorem hasExtra_3 {c n p : Int} {s : ByteArray} {l : List (Int × Int)} {tc tn : Int} {on : Bool} {w : World} {a : Option Addr} {m cap : Nat} (_h : Rng w a m cap l) :
    Calls Tryd.prog 20 #[opVal ⟨c, n, 3, p, s, l, tc, tn, on⟩ (.slice a m cap)] w fun e w' => e = .returned (.bool (extra ⟨c, n, 3, p, s, l, tc, tn, on⟩)) ∧ Below w.heap.size w w' := by
  rw [← extra3]
  have HE : Hid (∀ w' : World, Below w.heap.size w w' → Calls Tryd.prog 12 #[opVal ⟨c, n, 3, p, s, [], tc, tn, on⟩ (.slice none 0 0), opVal ⟨c, n, 3, 0, ⟨#[]⟩, [], 0, 0, false⟩ (.slice none 0 0)] w' fun e w'' => e = .returned (.bool (eqP ⟨c, n, 3, p, s, [], tc, tn, on⟩ ⟨c, n, 3, 0, ⟨#[]⟩, [], 0, 0, false⟩)) ∧ Below w'.heap.size w' w'') := fun w' hb => opEqual_any (rng_nil _) (rng_nil _)
  simp only [opVal] at *
  go_enter Tryd.func20, Tryd.ntmps20
  go_wp2_with fail
  have hw2 := (Below.refl w.heap.size w).alloc (Nat.le_refl _) (Obj.cells #[.int .i64 c, .int .i64 n, .int .i64 3, .int .i64 p, .string s, .slice none 0 0, .int .i64 tc, .int .i64 tn, .bool on] 37)
  refine (HE.out _ hw2).mono ?_
  rintro e w1 ⟨rfl, hb1⟩
  have hB := hw2.trans (hb1.mono hw2.size)
  clear hw2 hb1 HE
  go_wp2_with fail
  go_ret
  exact ⟨rfl, hB⟩

theorem extra4 (c n p : Int) (s : ByteArray) (l : List (Int × Int)) (tc tn : Int) (on : Bool) : (!eqP ⟨c, n, 4, p, s, l, 0, 0, false⟩ ⟨c, n, 4, 0, ⟨#[]⟩, [], 0, 0, false⟩) = extra ⟨c, n, 4, p, s, l, tc, tn, on⟩ := by
  simp only [eqP, extra, ext0, extT, extP, ← size_zero_iff]
  by_cases h0 : p = 0 <;> by_cases h3 : s = ⟨#[]⟩ <;> cases l <;> simp [h0, h3]
set_option maxHeartbeats 2000000 in
theorem hasExtra_4 {c n p : Int} {s : ByteArray} {l : List (Int × Int)} {tc tn : Int} {on : Bool} {w : World} {a : Option Addr} {m cap : Nat} (h : Rng w a m cap l) :
    Calls Tryd.prog 20 #[opVal ⟨c, n, 4, p, s, l, tc, tn, on⟩ (.slice a m cap)] w fun e w' => e = .returned (.bool (extra ⟨c, n, 4, p, s, l, tc, tn, on⟩)) ∧ Below w.heap.size w w' := by
  rw [← extra4]
  have HE : Hid (∀ w' : World, Below w.heap.size w w' → Calls Tryd.prog 12 #[opVal ⟨c, n, 4, p, s, l, 0, 0, false⟩ (.slice a m cap), opVal ⟨c, n, 4, 0, ⟨#[]⟩, [], 0, 0, false⟩ (.slice none 0 0)] w' fun e w'' => e = .returned (.bool (eqP ⟨c, n, 4, p, s, l, 0, 0, false⟩ ⟨c, n, 4, 0, ⟨#[]⟩, [], 0, 0, false⟩)) ∧ Below w'.heap.size w' w'') := fun w' hb => opEqual_any (h.below hb) (rng_nil _)
  clear h
  simp only [opVal] at *
  go_enter Tryd.func20, Tryd.ntmps20
  go_wp2_with fail
  have hw2 := (Below.refl w.heap.size w).alloc (Nat.le_refl _) (Obj.cells #[.int .i64 c, .int .i64 n, .int .i64 4, .int .i64 p, .string s, .slice a m cap, .int .i64 0, .int .i64 0, .bool false] 37)
  refine (HE.out _ hw2).mono ?_
  rintro e w1 ⟨rfl, hb1⟩
  have hB := hw2.trans (hb1.mono hw2.size)
  clear hw2 hb1 HE
  go_wp2_with fail
  go_ret
  exact ⟨rfl, hB⟩

theorem hasExtra_any {o : OpV} {w : World} {a : Option Addr} {m cap : Nat} (h : Rng w a m cap o.l) (h1 : 1 ≤ o.k) (h4 : o.k ≤ 4) :
    Calls Tryd.prog 20 #[opVal o (.slice a m cap)] w fun e w' => e = .returned (.bool (extra o)) ∧ Below w.heap.size w w' := by
  obtain ⟨c, n, k, p, s, l, tc, tn, on⟩ := o
  simp only at h h1 h4
  have : k = 1 ∨ k = 2 ∨ k = 3 ∨ k = 4 := by omega
  rcases this with rfl | rfl | rfl | rfl
  · exact hasExtra_1 h
  · exact hasExtra_2 h
  · exact hasExtra_3 h
  · exact hasExtra_4 h
end Go.Proofs.YtelcjhflopgojaaDoor
