import Derived.Test.YtnbedohlgghhdaaDoorCtt
import Derived.Test.YtnbedohlgghhdaaDoorOpN
import Derived.Test.YtnbedohlgghhdaaDoorEscX
namespace Go.Proofs.YtnbedohlgghhdaaDoor
open Go.RowKit Go.Lib Sp
set_option maxRecDepth 100000

theorem index1_any (s : ByteArray) (c : UInt8) (w : World) : Calls Tryd.prog 56 #[.string s, .string ⟨#[c]⟩] w fun e w' => e = .returned (.int .i64 (Lib.indexByte s.data.toList c)) ∧ w' = w := Any.stringslite_Index_one Tryd.lays219 s c w
/-- strings.Cut at a sign of one byte. -/
def cut1 (l : List UInt8) (c : UInt8) : List UInt8 × List UInt8 × Bool :=
  if Lib.indexByte l c < 0 then (l, [], false) else (l.take (Lib.indexByte l c).toNat, l.drop ((Lib.indexByte l c).toNat + 1), true)
theorem cut1_le (l : List UInt8) (c : UInt8) : (cut1 l c).1.length ≤ l.length ∧ (cut1 l c).2.1.length ≤ l.length := by
  unfold cut1
  split
  · simp
  · simp only [List.length_take, List.length_drop]; omega
theorem cut1_more {l : List UInt8} {c : UInt8} (h : (cut1 l c).2.2 = true) : (cut1 l c).2.1.length < l.length := by
  unfold cut1 at h ⊢
  split at h
  · cases h
  · rename_i h2
    rw [if_neg h2]
    rcases index_lt l c with h3 | h3
    · simp only [List.length_drop]; omega
    · omega
theorem bs_id (s : ByteArray) : bs s.data.toList = s := by cases s; simp [bs]
theorem bs_list (l : List UInt8) : (bs l).data.toList = l := by simp [bs]
theorem bs_take (l : List UInt8) (n : Nat) : (bs l).extract 0 n = bs (l.take n) := by
  rw [← bs_id ((bs l).extract 0 n), extract_list, bs_list]; rfl
theorem bs_drop (l : List UInt8) (n : Nat) : (bs l).extract n (bs l).size = bs (l.drop n) := by
  rw [← bs_id ((bs l).extract n (bs l).size), extract_list, bs_list, bs_size, List.take_length]

set_option maxHeartbeats 1000000 in
theorem cutIn_any (l : List UInt8) (c : UInt8) (hl : l.length ≤ 4294967296) (w : World) : Calls Tryd.prog 46 #[.string (bs l), .string ⟨#[c]⟩] w fun e w' => e = .returned (.tuple #[.string (bs (cut1 l c).1), .string (bs (cut1 l c).2.1), .bool (cut1 l c).2.2]) ∧ Below w.heap.size w w' := by
  have HI : Hid (∀ w : World, Calls Tryd.prog 56 #[.string (bs l), .string ⟨#[c]⟩] w fun e w' => e = .returned (.int .i64 (Lib.indexByte l c)) ∧ w' = w) := fun w => by
    have := index1_any (bs l) c w
    rw [bs_list] at this
    exact this
  obtain ⟨x, y, z, hc⟩ : ∃ x y z, cut1 l c = (x, y, z) := ⟨_, _, _, rfl⟩
  rw [hc]
  unfold cut1 at hc
  have hsz := bs_size l
  rcases index_lt l c with hi | hi
  · by_cases h0 : Lib.indexByte l c < 0
    · rw [if_pos h0] at hc
      simp only [Prod.mk.injEq] at hc
      obtain ⟨rfl, rfl, rfl⟩ := hc
      generalize Lib.indexByte l c = i at *
      go_enter Tryd.func46, Tryd.ntmps46
      go_wp2_with fail
      refine (HI.out _).mono ?_
      rintro e w1 ⟨rfl, rfl⟩
      go_wp2_with fail
      go_ret3
      exact ⟨rfl, Below.refl _ _⟩
    · rw [if_neg h0] at hc
      simp only [Prod.mk.injEq] at hc
      obtain ⟨hx, hy, rfl⟩ := hc
      generalize Lib.indexByte l c = i at *
      obtain ⟨k, rfl⟩ := Int.eq_ofNat_of_zero_le (show 0 ≤ i by omega)
      simp only [Int.toNat_natCast] at hx hy
      have c1 : (0 : Int) ≤ (k : Int) := by omega
      have c2 : (k : Int) ≤ ((bs l).size : Int) := by omega
      have c3 : (0 : Int) ≤ (k : Int) + 1 := by omega
      have c4 : ((k : Int) + 1) ≤ ((bs l).size : Int) := by omega
      have e1 : (bs l).extract 0 k = bs x := by rw [bs_take, hx]
      have e2 : (bs l).extract (k + 1) (bs l).size = bs y := by rw [bs_drop, hy]
      have hS : (bs l).size ≤ 4294967296 := by omega
      clear hx hy hsz hi
      generalize bs l = S at *
      go_enter Tryd.func46, Tryd.ntmps46
      go_wp2_with fail
      refine (HI.out _).mono ?_
      rintro e w1 ⟨rfl, rfl⟩
      go_wp2_with fail
      go_quiet (fail)
      go_wp2_with fail
      go_ret3
      exact ⟨rfl, below_drewN (Below.refl _ _) _⟩
  · have h0 : Lib.indexByte l c < 0 := by omega
    rw [if_pos h0] at hc
    simp only [Prod.mk.injEq] at hc
    obtain ⟨rfl, rfl, rfl⟩ := hc
    generalize Lib.indexByte l c = i at *
    go_enter Tryd.func46, Tryd.ntmps46
    go_wp2_with fail
    refine (HI.out _).mono ?_
    rintro e w1 ⟨rfl, rfl⟩
    go_wp2_with fail
    go_ret3
    exact ⟨rfl, Below.refl _ _⟩

set_option maxHeartbeats 400000 in
theorem cut_any (l : List UInt8) (c : UInt8) (hl : l.length ≤ 4294967296) (w : World) : Calls Tryd.prog 28 #[.string (bs l), .string ⟨#[c]⟩] w fun e w' => e = .returned (.tuple #[.string (bs (cut1 l c).1), .string (bs (cut1 l c).2.1), .bool (cut1 l c).2.2]) ∧ Below w.heap.size w w' := by
  have HI : Hid (∀ w : World, Calls Tryd.prog 46 #[.string (bs l), .string ⟨#[c]⟩] w fun e w' => e = .returned (.tuple #[.string (bs (cut1 l c).1), .string (bs (cut1 l c).2.1), .bool (cut1 l c).2.2]) ∧ Below w.heap.size w w') := cutIn_any l c hl
  generalize bs (cut1 l c).1 = x at *
  generalize bs (cut1 l c).2.1 = y at *
  generalize (cut1 l c).2.2 = z at *
  go_enter Tryd.func28, Tryd.ntmps28
  go_wp2_with fail
  refine (HI.out _).mono ?_
  rintro e w1 ⟨rfl, hb1⟩
  go_wp2_with fail
  go_ret3
  exact ⟨rfl, hb1⟩

/-- What readNumber reads. -/
def numP (l : List UInt8) : Int := match Lib.atoiAll l with
  | .ok v => v
  | _ => -1
theorem atoi_any (l : List UInt8) (hl : l.length ≤ 281474976710656) (w : World) (he : Errs w) :
    Calls Tryd.prog 47 #[.string (bs l)] w fun e w' => (∃ v, numP l = v ∧ e = .returned (.tuple #[.int .i64 v, .nilIface])) ∧ Below w.heap.size w w' ∨ ((∃ v T u, (numP l = -1) ∧ e = .returned (.tuple #[.int .i64 v, .iface T u])) ∧ Below w.heap.size w w') := by
  obtain ⟨T, u, hs1, hs2⟩ := he.syn
  obtain ⟨T2, u2, hr1, hr2⟩ := he.rng
  cases ha : Lib.atoiAll l with
  | ok v =>
    refine (Any.strconv_Atoi_ok Tryd.lays172 (bs l) (by rw [bs_size]; omega) v (by rw [bs_list]; exact ha) w).mono ?_
    rintro e w' ⟨rfl, h⟩
    refine .inl ⟨⟨v, by unfold numP; rw [ha], rfl⟩, ?_⟩
    rcases h with rfl | ⟨t, rfl⟩
    · exact Below.refl _ _
    · exact Lib.bytesWorld_below w _ t
  | «syntax» =>
    refine (Any.strconv_Atoi_syntax Tryd.lays172 (bs l) (by rw [bs_size]; omega) (by rw [bs_list]; exact ha) _ w hs1 (.inr ⟨T, u, rfl⟩)).mono ?_
    rintro e w' ⟨N, rfl, _, _, hb⟩
    exact .inr ⟨⟨_, _, _, by unfold numP; rw [ha], rfl⟩, hb⟩
  | range =>
    refine (Any.strconv_Atoi_range Tryd.lays172 (bs l) (by rw [bs_size]; omega) (by rw [bs_list]; exact ha) _ w hr1 (.inr ⟨T2, u2, rfl⟩)).mono ?_
    rintro e w' ⟨N, rfl, _, _, hb⟩
    exact .inr ⟨⟨_, _, _, by unfold numP; rw [ha], rfl⟩, hb⟩

set_option maxHeartbeats 400000 in
theorem readNumber_any (l : List UInt8) (hl : l.length ≤ 281474976710656) (w : World) (he : Errs w) :
    Calls Tryd.prog 30 #[.string (bs l)] w fun e w' => e = .returned (.int .i64 (numP l)) ∧ Below w.heap.size w w' := by
  have HA : Hid (∀ w' : World, Below w.heap.size w w' → Calls Tryd.prog 47 #[.string (bs l)] w' fun e w'' => (∃ v, numP l = v ∧ e = .returned (.tuple #[.int .i64 v, .nilIface])) ∧ Below w'.heap.size w' w'' ∨ ((∃ v T u, (numP l = -1) ∧ e = .returned (.tuple #[.int .i64 v, .iface T u])) ∧ Below w'.heap.size w' w'')) := fun w' hb => atoi_any l hl w' (he.below hb)
  clear hl he
  generalize numP l = r at *
  go_enter Tryd.func30, Tryd.ntmps30
  go_wp2_with fail
  refine (HA.out _ (Below.refl _ _)).mono ?_
  rintro e w1 (⟨⟨v, rfl, rfl⟩, hb1⟩ | ⟨⟨v, T, u, rfl, rfl⟩, hb1⟩)
  · go_wp2_with fail
    go_ret
    exact ⟨rfl, hb1⟩
  · go_wp2_with fail
    go_ret
    exact ⟨rfl, hb1⟩

def idP (l : List UInt8) : Int × Int := if l = [45] then (0, 0) else (numP (cut1 l 46).1, numP (cut1 l 46).2.1)
set_option maxHeartbeats 1000000 in
theorem readID_any (l : List UInt8) (hl : l.length ≤ 4294967296) (w : World) (he : Errs w) :
    Calls Tryd.prog 29 #[.string (bs l)] w fun e w' => e = .returned (.agg #[.int .i64 (idP l).1, .int .i64 (idP l).2]) ∧ Below w.heap.size w w' := by
  have hlist : (bs l).toList = l := list_of l
  by_cases h45 : l = [45]
  · subst h45
    go_enter Tryd.func29, Tryd.ntmps29
    go_wp2_with fail
    refine bodyPost_ret (v := .agg #[.int .i64 0, .int .i64 0]) (by simp [results, Tryd.results29, go_sem]) rfl ⟨rfl, (Below.refl _ _).alloc (Nat.le_refl _) _⟩
  · obtain ⟨x, y, hxy⟩ : ∃ x y, idP l = (x, y) := ⟨_, _, rfl⟩
    rw [hxy]
    unfold idP at hxy
    rw [if_neg h45] at hxy
    simp only [Prod.mk.injEq] at hxy
    obtain ⟨hx, hy⟩ := hxy
    have hle := cut1_le l 46
    have HC : Hid (∀ w : World, Calls Tryd.prog 28 #[.string (bs l), .string ⟨#[46]⟩] w fun e w' => e = .returned (.tuple #[.string (bs (cut1 l 46).1), .string (bs (cut1 l 46).2.1), .bool (cut1 l 46).2.2]) ∧ Below w.heap.size w w') := cut_any l 46 hl
    have HX : Hid (∀ w' : World, Below w.heap.size w w' → Calls Tryd.prog 30 #[.string (bs (cut1 l 46).1)] w' fun e w'' => e = .returned (.int .i64 x) ∧ Below w'.heap.size w' w'') := fun w' hb => hx ▸ readNumber_any _ (by omega) w' (he.below hb)
    have HY : Hid (∀ w' : World, Below w.heap.size w w' → Calls Tryd.prog 30 #[.string (bs (cut1 l 46).2.1)] w' fun e w'' => e = .returned (.int .i64 y) ∧ Below w'.heap.size w' w'') := fun w' hb => hy ▸ readNumber_any _ (by omega) w' (he.below hb)
    have t1 : ((bs l).toList == [45]) = false := by rw [hlist]; exact beq_eq_false_iff_ne.2 h45
    have t2 : ((bs l).toList == (⟨#[45]⟩ : ByteArray).toList) = false := by rw [hlist]; exact beq_eq_false_iff_ne.2 (by rw [show (⟨#[45]⟩ : ByteArray).toList = [45] from list_of [45]]; exact h45)
    clear hx hy hle he h45 hlist
    generalize bs (cut1 l 46).1 = u at *
    generalize bs (cut1 l 46).2.1 = v at *
    generalize (cut1 l 46).2.2 = z at *
    generalize bs l = S at *
    have hw2 := (Below.refl w.heap.size w).alloc (Nat.le_refl _) (Obj.cells #[.int .i64 0, .int .i64 0] 32)
    go_enter Tryd.func29, Tryd.ntmps29
    go_wp2_with fail
    refine (HC.out _).mono ?_
    rintro e w1 ⟨rfl, hb1⟩
    have hB1 := hw2.trans (hb1.mono hw2.size)
    have x1 : w1.heap[w.heap.size]? = some (Obj.cells #[.int .i64 0, .int .i64 0] 32) := (hb1.block _ (by simp)).trans (by show (w.heap.push _)[w.heap.size]? = _; simp)
    clear hw2 hb1
    go_wp2_with fail
    refine (HX.out _ hB1).mono ?_
    rintro e w2 ⟨rfl, hb2⟩
    have hB2 := hB1.trans (hb2.mono hB1.size)
    have x2 := (hb2.block _ (Array.getElem?_eq_some_iff.1 x1).1).trans x1
    clear hB1 hb2 x1
    go_wp2_with fail
    refine (HY.out _ hB2).mono ?_
    rintro e w3 ⟨rfl, hb3⟩
    have hB3 := hB2.trans (hb3.mono hB2.size)
    have x3 := (hb3.block _ (Array.getElem?_eq_some_iff.1 x2).1).trans x2
    clear hB2 hb3 x2
    have d0 : w3.cell? ⟨w.heap.size, 0, none⟩ = some (.int .i64 0) := by rw [Lib.cell_of_heap x3]; rfl
    have d1 : w3.cell? ⟨w.heap.size, 1, none⟩ = some (.int .i64 0) := by rw [Lib.cell_of_heap x3]; rfl
    have z0 : w3.frozen? ⟨w.heap.size, 0, none⟩ = false := Lib.frozen_of_heap x3 0
    have z1 : w3.frozen? ⟨w.heap.size, 1, none⟩ = false := Lib.frozen_of_heap x3 1
    have x4 := (heap_setCell_same _ w.heap.size 0 _ _ (.int .i64 x) x3).trans (by simp; rfl)
    have x5 := (heap_setCell_same _ w.heap.size 1 _ _ (.int .i64 y) x4).trans (by simp; rfl)
    have r0 : ((w3.setCell ⟨w.heap.size, 0, none⟩ (.int .i64 x)).setCell ⟨w.heap.size, 1, none⟩ (.int .i64 y)).cell? ⟨w.heap.size, 0, none⟩ = some (.int .i64 x) := by rw [Lib.cell_of_heap x5]; rfl
    have r1 : ((w3.setCell ⟨w.heap.size, 0, none⟩ (.int .i64 x)).setCell ⟨w.heap.size, 1, none⟩ (.int .i64 y)).cell? ⟨w.heap.size, 1, none⟩ = some (.int .i64 y) := by rw [Lib.cell_of_heap x5]; rfl
    have hB5 := (hB3.setCell (p := ⟨w.heap.size, 0, none⟩) (Nat.le_refl _) (.int .i64 x)).setCell (p := ⟨w.heap.size, 1, none⟩) (Nat.le_refl _) (.int .i64 y)
    clear x4 x5 x3
    go_wp2_with fail
    refine bodyPost_ret (v := .agg #[.int .i64 x, .int .i64 y]) (by simp [results, Tryd.results29, go_sem, r0, r1]) rfl ⟨rfl, hB5⟩
end Go.Proofs.YtnbedohlgghhdaaDoor
