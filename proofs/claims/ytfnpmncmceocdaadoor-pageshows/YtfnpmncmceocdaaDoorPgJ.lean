import Derived.Test.YtfnpmncmceocdaaDoorPgI
import Derived.Laws.IdiomStrings
import Derived.Laws.Cover4
/-! The sentences' own functions: rest, made, cols, blank, laid. -/
namespace Go.Proofs.YtfnpmncmceocdaaDoor
open Go.RowKit Go.Lib
set_option maxRecDepth 100000

def strOf (rs : List Int) : ByteArray := ⟨(encs rs).toArray⟩
def rune1 (x : Int) : List Value := [.int .i32 x]
theorem layRu : Lay rune1 1 := ⟨fun _ => rfl, by decide, fun x u hu => by simp [rune1] at hu; subst hu; rfl⟩
theorem kindRu : Kind Tryd.prog 23 21 1 4 := kind_of Tryd.underlying23 (z := .int .i32 0) (by kernel_rfl) rfl
theorem runesS_from (ns : List Int) : ∀ s : ByteArray, (ns.foldl (fun r n => r ++ Utf8.encode n) s).data.toList = s.data.toList ++ encs ns := by
  induction ns with
  | nil => intro s; simp [encs]
  | cons n ns ih =>
    intro s
    rw [List.foldl_cons, ih, encs_cons, ByteArray.data_append, Array.toList_append, List.append_assoc]
    rfl
theorem runesS (ns : List Int) : runesBytes ns = strOf ns := by
  have := runesS_from ns ByteArray.empty
  unfold runesBytes strOf
  cases hh : (List.foldl (fun r n => r ++ Utf8.encode n) ByteArray.empty ns) with
  | mk d =>
    rw [hh] at this
    have h2 : d.toList = encs ns := by simpa using this
    rw [← h2]
/-- 'string(l)' of a row of runes. -/
theorem conv_rw {W : World} {a : Option Addr} {n cap : Nat} {rs : List Int} (hr : Rw rune1 1 W a n cap rs) : (convert 23 9 (.slice a n cap)).run Tryd.prog W = .ok (.string (strOf rs)) W := by
  have hl := hr.len
  by_cases hn : 0 < n
  · obtain ⟨g, off, rfl, hg, hc⟩ := hr.cells hn
    have := run_convert_runes (P := Tryd.prog) W 23 9 21 ⟨g, off, none⟩ n cap rs (by omega) Tryd.underlying23 Tryd.underlying21 Tryd.underlying9 (fun j hj => by
      have hx : rs[j]? = some rs[j] := List.getElem?_eq_getElem (by omega)
      have := hc j _ hx 0 _ rfl
      rw [addr_add']
      simpa [List.getD_eq_getElem?_getD, hx] using this)
    rw [this, ← hl, List.take_length, runesS]
  · obtain rfl : n = 0 := by omega
    obtain rfl : rs = [] := List.length_eq_zero_iff.1 hl
    cases a with
    | none => rw [run_convert_runes_nil (P := Tryd.prog) W 23 9 21 0 cap Tryd.underlying23 Tryd.underlying21 Tryd.underlying9]; rfl
    | some p =>
      have := run_convert_runes (P := Tryd.prog) W 23 9 21 p 0 cap [] (Nat.le_refl _) Tryd.underlying23 Tryd.underlying21 Tryd.underlying9 (fun j hj => by simp at hj)
      rw [this, List.take_nil, runesS]
theorem strOf_text {rs : List Int} (h : ∀ r ∈ rs, okR r) : IsText (strOf rs) rs := ⟨by simp [strOf], h⟩

def int1 (x : Int) : List Value := [.int .i64 x]
theorem layI1 : Lay int1 1 := ⟨fun _ => rfl, by decide, fun x u hu => by simp [int1] at hu; subst hu; rfl⟩
theorem rest_any (n m : Int) (hm : 0 < m) (hm2 : m ≤ 1099511627776) (w : World) :
    Calls Tryd.prog 5 #[.int .i64 n, .int .i64 m] w fun e w' => e = .returned (.int .i64 (n % m)) ∧ w' = w := by
  have hz : (m == 0) = false := by simp; omega
  have hb := tmod_bd n m hm
  go_enter Tryd.func5, Tryd.ntmps5
  go_wp2_with fail
  go_ret
  exact ⟨ret_i64 (rest_eq2 n m hm), rfl⟩
/-- The rune that a number tells. -/
def pickR (n : Int) : Int :=
  if n % 24 < 5 then 32 else if n % 24 = 5 then 9 else if n % 24 < 8 then 10 else if n % 24 = 8 then 20013 else if n % 24 = 9 then 128512 else if n % 24 = 10 then 769 else if n % 24 = 11 then 233 else 97 + n % 24
def madeR (l : List Int) : List Int := (l.take 200).map pickR
theorem pickR_ok (n : Int) : okR (pickR n) := by
  have h1 : 0 ≤ n % 24 := Int.emod_nonneg _ (by decide)
  have h2 : n % 24 < 24 := Int.emod_lt_of_pos _ (by decide)
  unfold pickR
  generalize n % 24 = k at *
  repeat' split
  all_goals (first | exact ⟨by decide, by decide⟩ | skip)
  have hk : k = 12 ∨ k = 13 ∨ k = 14 ∨ k = 15 ∨ k = 16 ∨ k = 17 ∨ k = 18 ∨ k = 19 ∨ k = 20 ∨ k = 21 ∨ k = 22 ∨ k = 23 := by omega
  rcases hk with rfl | rfl | rfl | rfl | rfl | rfl | rfl | rfl | rfl | rfl | rfl | rfl <;> exact ⟨by decide, by decide⟩
theorem madeR_ok (l : List Int) : ∀ r ∈ madeR l, okR r := fun r hr => by
  obtain ⟨n, _, rfl⟩ := List.mem_map.1 hr
  exact pickR_ok n
theorem madeR_len (l : List Int) : (madeR l).length ≤ 200 := by
  unfold madeR
  rw [List.length_map, List.length_take]
  omega
set_option maxHeartbeats 8000000 in
theorem made_any {w : World} {a : Option Addr} {n cap : Nat} {l : List Int} (h : Rw int1 1 w a n cap l) :
    Calls Tryd.prog 4 #[.slice a n cap] w fun e w' => ∃ v, e = .returned v ∧ OwnF rune1 1 21 w' w.heap.size v (madeR l) ∧ Below w.heap.size w w' := by
  have hlen := h.len
  have hroom := h.room
  have hn : n ≤ 9223372036854775807 := by simp only [maxLen] at hroom; omega
  clear hroom
  go_enter Tryd.func4, Tryd.ntmps4
  go_wp2_with fail
  go_loopw [3, 4] (fun v vi w' => ∃ i : Nat, vi = .int .i64 (i : Int) ∧ i ≤ n ∧ i ≤ 200 ∧ OwnF rune1 1 21 w' w.heap.size v ((l.take i).map pickR) ∧ Below w.heap.size w w') (fun _ i _ => n - (intOf i).toNat)
  case atStart => exact ⟨0, rfl, Nat.zero_le _, Nat.zero_le _, ownF_nil _ _, Below.refl _ _⟩
  case round =>
    obtain ⟨i, rfl, hin, hi2, ho, hb⟩ := hrel
    by_cases hi : i < n
    · by_cases hi3 : i < 200
      · obtain ⟨g, off, x, rfl, hg, hx, hc⟩ := h.at i hi
        have c0 : wr.cell? ⟨g, off + i, none⟩ = some (.int .i64 x) := (hb.cell (p := ⟨g, off + i, none⟩) hg).trans (by have := hc 0 _ rfl; simpa using this)
        have HRe := rest_any x 24 (by decide) (by decide) wr
        have HT : Hid ((l.take (i + 1)).map pickR = (l.take i).map pickR ++ [pickR x]) := by
          obtain ⟨hi4, rfl⟩ := List.getElem?_eq_some_iff.1 hx
          show _ = _
          rw [List.take_succ_eq_append_getElem hi4, List.map_append]
          rfl
        have HP : Hid (pickR x = if x % 24 < 5 then 32 else if x % 24 = 5 then 9 else if x % 24 < 8 then 10 else if x % 24 = 8 then 20013 else if x % 24 = 9 then 128512 else if x % 24 = 10 then 769 else if x % 24 = 11 then 233 else 97 + x % 24) := rfl
        have q1 : 0 ≤ x % 24 := Int.emod_nonneg _ (by decide)
        have q2 : x % 24 < 24 := Int.emod_lt_of_pos _ (by decide)
        have hsz := hb.size
        have HApp : Hid (∀ y, pickR x = y → ∃ g5 cap5 w6 b2 k2 cap2, u3 = .slice b2 k2 cap2 ∧ (Builtin.append_ #[23, 23] 23 #[.slice b2 k2 cap2, .slice (some ⟨wr.heap.size, 0, none⟩) 1 1]).run Tryd.prog (wr.alloc (.cells #[.int .i32 y] 21)) = .ok (.slice (some ⟨g5, 0, none⟩) (k2 + 1) cap5) w6 ∧ Hid (OwnF rune1 1 21 w6 w.heap.size (.slice (some ⟨g5, 0, none⟩) (k2 + 1) cap5) ((l.take (i + 1)).map pickR) ∧ Below w.heap.size w w6)) := fun y hy => by
          have hll : ((l.take i).map pickR).length ≤ 200 := by rw [List.length_map, List.length_take]; omega
          obtain ⟨g5, cap5, w6, hr, ho6, hb6, hkp, hgt, hat⟩ := appendF_one kindRu layRu ho hsz y #[.int .i32 y] rfl 21 (by omega) (by omega) 23
          obtain ⟨b2, cap2, ev⟩ := ho.shape
          rw [ev] at hr
          refine ⟨g5, cap5, w6, b2, _, cap2, ev, hr, ?_, hb.trans hb6⟩
          rw [HT.out, hy]
          exact ho6
        generalize x % 24 = k at *
        have hw : IntKind.i32.wrap (97 + k) = 97 + k := IntWalk.i32_in _ (by omega)
        have HY : Hid (∀ y, (if k < 5 then 32 else if k = 5 then 9 else if k < 8 then 10 else if k = 8 then 20013 else if k = 9 then 128512 else if k = 10 then 769 else if k = 11 then 233 else 97 + k) = y → ∃ g5 cap5 w6 b2 k2 cap2, u3 = .slice b2 k2 cap2 ∧ (Builtin.append_ #[23, 23] 23 #[.slice b2 k2 cap2, .slice (some ⟨wr.heap.size, 0, none⟩) 1 1]).run Tryd.prog (wr.alloc (.cells #[.int .i32 y] 21)) = .ok (.slice (some ⟨g5, 0, none⟩) (k2 + 1) cap5) w6 ∧ Hid (OwnF rune1 1 21 w6 w.heap.size (.slice (some ⟨g5, 0, none⟩) (k2 + 1) cap5) ((l.take (i + 1)).map pickR) ∧ Below w.heap.size w w6)) := fun y hy => HApp.out y (HP.out.trans hy)
        clear hx hc HT ho HApp HP hb
        have hk : k < 5 ∨ k = 5 ∨ (5 < k ∧ k < 8) ∨ k = 8 ∨ k = 9 ∨ k = 10 ∨ k = 11 ∨ 11 < k := by omega
        have HK : Hid (k < 24) := q2
        rcases hk with hk | hk | hk | hk | hk | hk | hk | hk
        · obtain ⟨g5, cap5, w6, b2, k2, cap2, ev, hr, HN⟩ := HY.out 32 (by (repeat' split) <;> omega)
          clear HY
          go_wp2_with (first | (refine HRe.mono ?_; rintro e w' ⟨rfl, hwe⟩; obtain rfl := hwe.symm) | (at_builtin; refine wpList_append_hr rfl _ _ 23 rfl _ _ rfl rfl hr ?_))
          exact ⟨⟨i + 1, by go_num, by omega, by omega, HN.out.1, HN.out.2⟩, by simp [intOf]; omega⟩
        · obtain ⟨g5, cap5, w6, b2, k2, cap2, ev, hr, HN⟩ := HY.out 9 (by (repeat' split) <;> omega)
          clear HY
          go_wp2_with (first | (refine HRe.mono ?_; rintro e w' ⟨rfl, hwe⟩; obtain rfl := hwe.symm) | (at_builtin; refine wpList_append_hr rfl _ _ 23 rfl _ _ rfl rfl hr ?_))
          exact ⟨⟨i + 1, by go_num, by omega, by omega, HN.out.1, HN.out.2⟩, by simp [intOf]; omega⟩
        · obtain ⟨g5, cap5, w6, b2, k2, cap2, ev, hr, HN⟩ := HY.out 10 (by (repeat' split) <;> omega)
          clear HY
          go_wp2_with (first | (refine HRe.mono ?_; rintro e w' ⟨rfl, hwe⟩; obtain rfl := hwe.symm) | (at_builtin; refine wpList_append_hr rfl _ _ 23 rfl _ _ rfl rfl hr ?_))
          exact ⟨⟨i + 1, by go_num, by omega, by omega, HN.out.1, HN.out.2⟩, by simp [intOf]; omega⟩
        · obtain ⟨g5, cap5, w6, b2, k2, cap2, ev, hr, HN⟩ := HY.out 20013 (by (repeat' split) <;> omega)
          clear HY
          go_wp2_with (first | (refine HRe.mono ?_; rintro e w' ⟨rfl, hwe⟩; obtain rfl := hwe.symm) | (at_builtin; refine wpList_append_hr rfl _ _ 23 rfl _ _ rfl rfl hr ?_))
          exact ⟨⟨i + 1, by go_num, by omega, by omega, HN.out.1, HN.out.2⟩, by simp [intOf]; omega⟩
        · obtain ⟨g5, cap5, w6, b2, k2, cap2, ev, hr, HN⟩ := HY.out 128512 (by (repeat' split) <;> omega)
          clear HY
          go_wp2_with (first | (refine HRe.mono ?_; rintro e w' ⟨rfl, hwe⟩; obtain rfl := hwe.symm) | (at_builtin; refine wpList_append_hr rfl _ _ 23 rfl _ _ rfl rfl hr ?_))
          exact ⟨⟨i + 1, by go_num, by omega, by omega, HN.out.1, HN.out.2⟩, by simp [intOf]; omega⟩
        · obtain ⟨g5, cap5, w6, b2, k2, cap2, ev, hr, HN⟩ := HY.out 769 (by (repeat' split) <;> omega)
          clear HY
          go_wp2_with (first | (refine HRe.mono ?_; rintro e w' ⟨rfl, hwe⟩; obtain rfl := hwe.symm) | (at_builtin; refine wpList_append_hr rfl _ _ 23 rfl _ _ rfl rfl hr ?_))
          exact ⟨⟨i + 1, by go_num, by omega, by omega, HN.out.1, HN.out.2⟩, by simp [intOf]; omega⟩
        · obtain ⟨g5, cap5, w6, b2, k2, cap2, ev, hr, HN⟩ := HY.out 233 (by (repeat' split) <;> omega)
          clear HY
          go_wp2_with (first | (refine HRe.mono ?_; rintro e w' ⟨rfl, hwe⟩; obtain rfl := hwe.symm) | (at_builtin; refine wpList_append_hr rfl _ _ 23 rfl _ _ rfl rfl hr ?_))
          exact ⟨⟨i + 1, by go_num, by omega, by omega, HN.out.1, HN.out.2⟩, by simp [intOf]; omega⟩
        · obtain ⟨g5, cap5, w6, b2, k2, cap2, ev, hr, HN⟩ := HY.out (97 + k) (by (repeat' split) <;> omega)
          clear HY
          go_wp2_with (first | (refine HRe.mono ?_; rintro e w' ⟨rfl, hwe⟩; obtain rfl := hwe.symm) | (at_builtin; refine wpList_append_hr rfl _ _ 23 rfl _ _ rfl rfl hr ?_))
          exact ⟨⟨i + 1, by go_num, by omega, by omega, HN.out.1, HN.out.2⟩, by simp [intOf]; omega⟩
      · obtain rfl : i = 200 := by omega
        go_wp2_with fail
        go_ret
        exact ⟨_, rfl, ho, hb⟩
    · have HM : Hid (madeR l = (l.take i).map pickR) := by
        show _ = _
        unfold madeR
        rw [List.take_of_length_le (by omega : l.length ≤ 200), List.take_of_length_le (by omega : l.length ≤ i)]
      go_wp2_with fail
      go_ret
      exact ⟨_, rfl, by rw [HM.out]; exact ho, hb⟩
set_option maxHeartbeats 4000000 in
/-- How many columns runes fill. -/
theorem cols_any {w : World} {a : Option Addr} {n cap : Nat} {l : List Int} (h : Rw rune1 1 w a n cap l) (hn : n ≤ 274877906944) (hP : PTab w) :
    Calls Tryd.prog 12 #[.slice a n cap] w fun e w' => e = .returned (.int .i64 (wideN 0 l : Nat)) ∧ Below w.heap.size w w' := by
  have hlen := h.len
  have HP : Hid (PTab w) := hP
  clear hP
  go_enter Tryd.func12, Tryd.ntmps12
  go_wp2_with fail
  go_loopw [3, 4] (fun v vi w' => ∃ i : Nat, vi = .int .i64 (i : Int) ∧ i ≤ n ∧ v = .int .i64 (wideN 0 (l.take i) : Nat) ∧ Below w.heap.size w w') (fun _ i _ => n - (intOf i).toNat)
  case atStart => exact ⟨0, rfl, Nat.zero_le _, rfl, Below.refl _ _⟩
  case round =>
    obtain ⟨i, rfl, hin, rfl, hb⟩ := hrel
    by_cases hi : i < n
    · obtain ⟨g, off, x, rfl, hg, hx, hc⟩ := h.at i hi
      have c0 : wr.cell? ⟨g, off + i, none⟩ = some (.int .i32 x) := (hb.cell (p := ⟨g, off + i, none⟩) hg).trans (by have := hc 0 _ rfl; simpa using this)
      have HT : Hid (wideN 0 (l.take (i + 1)) = wideN 0 (l.take i) + colN x (wideN 0 (l.take i))) := by
        obtain ⟨hi4, rfl⟩ := List.getElem?_eq_some_iff.1 hx
        show _ = _
        rw [List.take_succ_eq_append_getElem hi4, wideN_append]
        rfl
      have hwl : wideN 0 (l.take i) ≤ 1099511627776 := by
        have := wideN_le (l.take i) 0
        rw [List.length_take] at this
        omega
      generalize wideN 0 (l.take i) = m at *
      have HC : Calls Tryd.prog 11 #[.int .i32 x, .int .i64 (m : Int)] wr fun e w' => e = .returned (.int .i64 (colN x m : Nat)) ∧ Below wr.heap.size wr w' := by
        have := Cols_any (HP.out.below hb) x (m : Int)
        rw [show (max (m : Int) 0).toNat = m by omega] at this
        exact this
      have hcl := colN_le x m
      generalize colN x m = c at *
      have hsz := hb.size
      have HB : Hid (Below w.heap.size w wr) := hb
      clear hx hc hb
      go_wp2_with fail
      refine HC.mono ?_
      rintro e w2 ⟨rfl, hb2⟩
      have HN : Hid (Below w.heap.size w w2) := HB.out.trans (hb2.mono hsz)
      clear hb2 HC
      go_wp2_with fail
      exact ⟨⟨i + 1, by go_num, by omega, by rw [HT.out]; go_num, HN.out⟩, by simp [intOf]; omega⟩
    · have HM : Hid (l.take i = l) := List.take_of_length_le (by omega : l.length ≤ i)
      go_wp2_with fail
      go_ret
      exact ⟨ret_i64 (by rw [HM.out]), hb⟩
end Go.Proofs.YtfnpmncmceocdaaDoor
