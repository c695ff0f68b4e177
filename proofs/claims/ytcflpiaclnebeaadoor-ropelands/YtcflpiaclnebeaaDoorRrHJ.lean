import Derived.Test.YtcflpiaclnebeaaDoorRrG
namespace Go.Proofs.YtcflpiaclnebeaaDoor
open Go.RowKit Go.Lib
set_option maxRecDepth 100000

set_option maxHeartbeats 2000000 in
theorem ropeCell_any {w : World} {q : Nat} {t : Tr} (h : RopeAt w q t) (hR : t.Rp) (j : Nat) (x hid : Int) (hx : t.row[j]? = some (x, hid)) :
    Calls Tryd.prog 19 #[.pointer (some ⟨q, 0, none⟩), .int .i64 (j : Int)] w fun e w' => e = .returned (.tuple #[.agg #[.int .i32 x, .int .i64 hid], .int .i64 0]) ∧ Below w.heap.size w w' := by
  have hjl : j < t.row.length := (List.getElem?_eq_some_iff.1 hx).1
  have hlen := hR.len
  have HT : Hid (∀ W, Below w.heap.size w W → Calls Tryd.prog 13 #[.pointer (some ⟨q, 0, none⟩)] W fun e w' => e = .returned (.int .i64 (t.row.length : Int)) ∧ w' = W) := fun W hW => ropeTotal_any (h.below hW)
  obtain ⟨g, hc, hA⟩ := h.cell
  have hql := h.lt
  have hf : t.Fine := hR.can.resolve_left (by rintro rfl; simp [Tr.row] at hjl)
  have HC : Hid (∀ W, Below w.heap.size w W → Calls Tryd.prog 44 #[.pointer (some ⟨g, 0, none⟩), .int .i64 (j : Int)] W fun e w' => e = .returned (.agg #[.int .i32 x, .int .i64 hid]) ∧ Below W.heap.size W w') := fun W hW =>
    cell_in t.sm.high.toNat j x hid (by omega) (hA.below hW) hf (by omega) hx
  have hcur : Below w.heap.size w (w.alloc (.cells #[.int .i32 0, .int .i64 0] 36)) := (Below.refl _ _).alloc (Nat.le_refl _) _
  have hnew := World.alloc_heap_new w (.cells #[.int .i32 0, .int .i64 0] 36)
  have hszb : (w.alloc (.cells #[.int .i32 0, .int .i64 0] 36)).heap.size = w.heap.size + 1 := World.size_alloc _ _
  have hj2 : (j : Int) < (t.row.length : Int) := by omega
  clear h hR hA hf hx
  generalize (t.row.length : Int) = TL at *
  go_enter Tryd.func19, Tryd.ntmps19
  go_wp2_with fail
  refine (HT.out _ hcur).mono ?_
  rintro e w1 ⟨rfl, rfl⟩
  go_wp2_with fail
  refine (HC.out _ hcur).mono ?_
  rintro e w4 ⟨rfl, hb4⟩
  have hB4 : Below w.heap.size w w4 := hcur.trans (hb4.mono (by omega))
  have hbox4 : w4.heap[w.heap.size]? = some (.cells #[.int .i32 0, .int .i64 0] 36) := (hb4.block _ (by omega)).trans hnew
  have n0 : w4.cell? ⟨w.heap.size, 0, none⟩ = some (.int .i32 0) := by rw [Lib.cell_of_heap hbox4]; rfl
  have n1 : w4.cell? ⟨w.heap.size, 1, none⟩ = some (.int .i64 0) := by rw [Lib.cell_of_heap hbox4]; rfl
  have n2 : w4.frozen? ⟨w.heap.size, 0, none⟩ = false := Lib.frozen_of_heap hbox4 0
  have n3 : w4.frozen? ⟨w.heap.size, 1, none⟩ = false := Lib.frozen_of_heap hbox4 1
  have hbox5 := two_get (u := .int .i32 x) (v := .int .i64 hid) hbox4
  have r0 : ((w4.setCell ⟨w.heap.size, 0, none⟩ (.int .i32 x)).setCell ⟨w.heap.size, 1, none⟩ (.int .i64 hid)).cell? ⟨w.heap.size, 0, none⟩ = some (.int .i32 x) := by rw [Lib.cell_of_heap hbox5]; rfl
  have r1 : ((w4.setCell ⟨w.heap.size, 0, none⟩ (.int .i32 x)).setCell ⟨w.heap.size, 1, none⟩ (.int .i64 hid)).cell? ⟨w.heap.size, 1, none⟩ = some (.int .i64 hid) := by rw [Lib.cell_of_heap hbox5]; rfl
  have hB5 : Below w.heap.size w ((w4.setCell ⟨w.heap.size, 0, none⟩ (.int .i32 x)).setCell ⟨w.heap.size, 1, none⟩ (.int .i64 hid)) := (hB4.setCell (p := ⟨w.heap.size, 0, none⟩) (Nat.le_refl _) _).setCell (p := ⟨w.heap.size, 1, none⟩) (Nat.le_refl _) _
  go_wp2_with fail
  refine bodyPost_ret (v := .tuple #[.agg #[.int .i32 x, .int .i64 hid], .int .i64 0]) (by simp [results, Tryd.results19, go_sem, r0, r1]) rfl ⟨rfl, hB5⟩
end Go.Proofs.YtcflpiaclnebeaaDoor

namespace Go.Proofs.YtcflpiaclnebeaaDoor
open Go.RowKit Go.Lib
set_option maxRecDepth 100000

theorem visR_take_succ (l : List (Int × Int)) (i : Nat) (x : Int × Int) (hx : l[i]? = some x) : visR (l.take (i + 1)) = visR (l.take i) ++ if x.2 ≤ 0 then [x.1] else [] := by
  obtain ⟨hi, rfl⟩ := List.getElem?_eq_some_iff.1 hx
  rw [List.take_succ_eq_append_getElem hi, visR_append, visR_cons]
  by_cases h : l[i].2 ≤ 0
  · rw [if_pos h, if_pos h]; rfl
  · rw [if_neg h, if_neg h]; rfl
set_option maxHeartbeats 1000000 in
/-- The statement's own text of a row. -/
theorem lawText_any {w : World} {a : Option Addr} {n cap : Nat} {l : List (Int × Int)} (h : Rw cellV 2 w a n cap l) (hn : n ≤ 1048576) (hl : Nonneg l) (ho : ∀ c ∈ l, okR c.1) :
    Calls Tryd.prog 24 #[.slice a n cap, .int .i64 0, .int .i64 (n : Int)] w fun e w' => ∃ s, e = .returned (.string s) ∧ IsText s (visR l) ∧ w' = w := by
  have hlen := h.len
  have HL : Hid (Nonneg l) := hl
  have HO : Hid (∀ c ∈ l, okR c.1) := ho
  clear hl ho
  go_enter Tryd.func24, Tryd.ntmps24
  go_wp2_with fail
  go_loop [7, 8] (fun vs vi => ∃ i s, i ≤ n ∧ vi = .int .i64 (i : Int) ∧ vs = .string s ∧ IsText s (visR (l.take i))) (fun _ i => n - (RowKit.intOf i).toNat)
  case atStart => exact ⟨0, _, Nat.zero_le _, rfl, rfl, isText_nil⟩
  case round =>
    obtain ⟨i, s, him, rfl, rfl, ht⟩ := hrel
    by_cases hi : i < n
    · obtain ⟨g, off, x, rfl, hg, hx, hc⟩ := h.at i hi
      have c0 := hc 0 _ rfl
      have c1 := hc 1 _ rfl
      have hmem : x ∈ l := List.mem_of_getElem? hx
      have hx0 := HL.out x hmem
      have hxo := HO.out x hmem
      have HS : Hid (visR (l.take (i + 1)) = visR (l.take i) ++ if x.2 ≤ 0 then [x.1] else []) := visR_take_succ l i x hx
      have hb := ht.small
      have hvl := visR_len (l.take i)
      rw [List.length_take] at hvl
      have hz : (Utf8.encode x.1).size ≤ 4 := by have := encB_le x.1 hxo; rw [size_data]; exact this
      clear hc hx hmem
      obtain ⟨x1, x2⟩ := x
      simp only [Nat.add_zero] at c0 c1 HS hx0 hxo hz
      generalize hV : visR (l.take i) = V at *
      clear hV
      by_cases h0 : x2 = 0
      · subst h0
        go_wp2_with fail
        refine ⟨⟨i + 1, _, by omega, by go_num, rfl, by rw [HS.out, if_pos (by omega)]; exact ht.snoc hxo⟩, by simp [RowKit.intOf]; omega⟩
      · have hzz : (x2 == 0) = false := by simpa using h0
        go_wp2_with fail
        refine ⟨⟨i + 1, _, by omega, by go_num, rfl, by rw [HS.out, if_neg (by omega), List.append_nil]; exact ht⟩, by simp [RowKit.intOf]; omega⟩
    · obtain rfl : i = n := by omega
      rw [show l.take i = l from List.take_of_length_le (by omega)] at ht
      go_wp2_with fail
      go_ret
      exact ⟨s, rfl, ht, rfl⟩
end Go.Proofs.YtcflpiaclnebeaaDoor

namespace Go.Proofs.YtcflpiaclnebeaaDoor
open Go.RowKit Go.Lib
set_option maxRecDepth 100000

/-- The string of runes. -/
def strOf (rs : List Int) : ByteArray := ⟨(encs rs).toArray⟩
theorem tx_eq {s : ByteArray} {rs : List Int} (h : s.data.toList = encs rs) : s = strOf rs := by
  cases s with | mk d => simp only at h; unfold strOf; rw [← h]
theorem strOf_append (a b : List Int) : strOf a ++ strOf b = strOf (a ++ b) := by
  apply tx_eq
  rw [ByteArray.data_append, Array.toList_append, encs_append]
  rfl
theorem strOf_size {rs : List Int} (h : ∀ r ∈ rs, okR r) : (strOf rs).size ≤ rs.length * 4 := IsText.small (s := strOf rs) ⟨by simp [strOf], h⟩
/-- A rope that holds a row. -/
def Holds (w2 : World) (q : Nat) (R : List (Int × Int)) (W : World) : Prop := ∃ t, RopeAt W q t ∧ t.Rp ∧ t.row = R ∧ Below w2.heap.size w2 W
theorem okl_row {t : Tr} (h : ∀ c ∈ t.row, okR c.1) : Okl t.lv := fun p hp r hr => h (r, p.2) (by
  rw [Tr.row_lv]
  unfold rowOf
  exact List.mem_flatMap.2 ⟨p, hp, List.mem_map.2 ⟨r, hr, rfl⟩⟩)
section
variable {w2 : World} {q : Nat} {R : List (Int × Int)} {W : World}
theorem Holds.nonneg (h : Holds w2 q R W) : Nonneg R := by obtain ⟨t, h1, h2, rfl, h3⟩ := h; exact h2.lo
theorem Holds.below (h : Holds w2 q R W) : Below w2.heap.size w2 W := by obtain ⟨t, h1, h2, rfl, h3⟩ := h; exact h3
theorem Holds.still {W' : World} (h : Holds w2 q R W) (hb : Below W.heap.size W W') : Holds w2 q R W' := by
  obtain ⟨t, h1, h2, e, h3⟩ := h
  exact ⟨t, h1.below hb, h2, e, h3.trans (hb.mono h3.size)⟩
theorem Holds.total (h : Holds w2 q R W) : Calls Tryd.prog 13 #[.pointer (some ⟨q, 0, none⟩)] W fun e W' => e = .returned (.int .i64 (R.length : Int)) ∧ Holds w2 q R W' := by
  have h' := h
  obtain ⟨t, h1, h2, rfl, h3⟩ := h
  exact (ropeTotal_any h1).mono fun e W' ⟨he, hw⟩ => ⟨he, hw ▸ h'⟩
theorem Holds.shown (h : Holds w2 q R W) : Calls Tryd.prog 14 #[.pointer (some ⟨q, 0, none⟩)] W fun e W' => e = .returned (.int .i64 (vis R : Int)) ∧ Holds w2 q R W' := by
  have h' := h
  obtain ⟨t, h1, h2, rfl, h3⟩ := h
  exact (ropeShownR_any h1 h2.good).mono fun e W' ⟨he, hw⟩ => ⟨he, h'.still hw⟩
theorem Holds.totalOf (h : Holds w2 q R W) (p : Nat) (hp : p ≤ vis R) : Calls Tryd.prog 15 #[.pointer (some ⟨q, 0, none⟩), .int .i64 (p : Int)] W fun e W' => e = .returned (.tuple #[.int .i64 (place R p : Int), .int .i64 0]) ∧ Holds w2 q R W' := by
  have h' := h
  obtain ⟨t, h1, h2, rfl, h3⟩ := h
  exact (ropeTotalOf_any h1 h2.good p hp).mono fun e W' ⟨he, hw⟩ => ⟨he, h'.still hw⟩
theorem Holds.shownBefore (h : Holds w2 q R W) (c : Nat) (hc : c ≤ R.length) : Calls Tryd.prog 16 #[.pointer (some ⟨q, 0, none⟩), .int .i64 (c : Int)] W fun e W' => e = .returned (.tuple #[.int .i64 (vis (R.take c) : Int), .int .i64 0]) ∧ Holds w2 q R W' := by
  have h' := h
  obtain ⟨t, h1, h2, rfl, h3⟩ := h
  exact (ropeShownBefore_any h1 h2.good c hc).mono fun e W' ⟨he, hw⟩ => ⟨he, h'.still hw⟩
theorem Holds.text (h : Holds w2 q R W) (ho : ∀ c ∈ R, okR c.1) : Calls Tryd.prog 18 #[.pointer (some ⟨q, 0, none⟩)] W fun e W' => e = .returned (.string (strOf (visR R))) ∧ Holds w2 q R W' := by
  have h' := h
  obtain ⟨t, h1, h2, rfl, h3⟩ := h
  exact (ropeText_any h1 h2 (okl_row ho)).mono fun e W' ⟨s, he, hs, hw⟩ => ⟨by rw [he, tx_eq hs], h'.still hw⟩
theorem Holds.slice (h : Holds w2 q R W) (ho : ∀ c ∈ R, okR c.1) (lo hi : Nat) (h1 : lo ≤ hi) (h2 : hi ≤ vis R) : Calls Tryd.prog 23 #[.pointer (some ⟨q, 0, none⟩), .int .i64 (lo : Int), .int .i64 (hi : Int)] W fun e W' => e = .returned (.tuple #[.string (strOf (((visR R).take hi).drop lo)), .int .i64 0]) ∧ Holds w2 q R W' := by
  have h' := h
  obtain ⟨t, k1, k2, rfl, k3⟩ := h
  exact (ropeSlice_any k1 k2 (okl_row ho) lo hi h1 h2).mono fun e W' ⟨s, he, hs, hw⟩ => ⟨by rw [he, tx_eq hs], h'.still hw⟩
theorem Holds.cell (h : Holds w2 q R W) (j : Nat) (x hid : Int) (hx : R[j]? = some (x, hid)) : Calls Tryd.prog 19 #[.pointer (some ⟨q, 0, none⟩), .int .i64 (j : Int)] W fun e W' => e = .returned (.tuple #[.agg #[.int .i32 x, .int .i64 hid], .int .i64 0]) ∧ Holds w2 q R W' := by
  have h' := h
  obtain ⟨t, k1, k2, rfl, k3⟩ := h
  exact (ropeCell_any k1 k2 j x hid hx).mono fun e W' ⟨he, hw⟩ => ⟨he, h'.still hw⟩
/-- The row with runes put in. -/
def putL (R : List (Int × Int)) (m : Nat) (rs : List Int) (hid : Int) : List (Int × Int) := R.take m ++ (rs.map fun c => (c, hid)) ++ R.drop m
theorem putL_len (R : List (Int × Int)) (m : Nat) (rs : List Int) (hid : Int) : (putL R m rs hid).length = R.length + rs.length := by
  unfold putL
  simp only [List.length_append, List.length_take, List.length_drop, List.length_map]
  omega
theorem putL_ok {R : List (Int × Int)} {m : Nat} {rs : List Int} {hid : Int} (h : ∀ c ∈ R, okR c.1) (hr : ∀ r ∈ rs, okR r) : ∀ c ∈ putL R m rs hid, okR c.1 := fun c hc => by
  unfold putL at hc
  rcases List.mem_append.1 hc with hc | hc
  · rcases List.mem_append.1 hc with hc | hc
    · exact h c (List.mem_of_mem_take hc)
    · obtain ⟨r, hr2, rfl⟩ := List.mem_map.1 hc
      exact hr r hr2
  · exact h c (List.mem_of_mem_drop hc)
theorem Holds.insert (h : Holds w2 q R W) (hq : w2.heap.size ≤ q) (m : Nat) (hm : m ≤ R.length) {s : ByteArray} {rs : List Int} (ht : IsText s rs) (hne : rs ≠ []) (hid : Int) (h0 : 0 ≤ hid) (h1 : hid ≤ 1048576) (hn : R.length + rs.length ≤ 1048576) (hBar : Bar w2) :
    Calls Tryd.prog 17 #[.pointer (some ⟨q, 0, none⟩), .int .i64 (m : Int), .string s, .int .i64 hid] W fun e W' => e = .returned (.int .i64 0) ∧ Holds w2 q (putL R m rs hid) W' := by
  obtain ⟨t, k1, k2, rfl, k3⟩ := h
  exact (insert_any k1 k2 m hm ht hne hid h0 h1 hn (hBar.below k3)).mono fun e W' ⟨he, ⟨t', g1, g2, g3⟩, hu⟩ => ⟨he, t', g1, g2, g3, Upd.below k3 hu hq k3.size⟩
end
theorem visR_split {R : List (Int × Int)} (h : Nonneg R) (m : Nat) : (visR R).take (vis (R.take m)) = visR (R.take m) ∧ (visR R).drop (vis (R.take m)) = visR (R.drop m) := by
  have e : visR R = visR (R.take m) ++ visR (R.drop m) := by rw [← visR_append, List.take_append_drop]
  have hl : (visR (R.take m)).length = vis (R.take m) := visR_vis (fun x hx => h x (List.mem_of_mem_take hx))
  rw [e]
  exact ⟨List.take_left' hl, List.drop_left' hl⟩
theorem visR_putL (R : List (Int × Int)) (m : Nat) (rs : List Int) (hid : Int) : visR (putL R m rs hid) = visR (R.take m) ++ (if hid ≤ 0 then rs else []) ++ visR (R.drop m) := by
  unfold putL
  rw [visR_append, visR_append, visR_one]
theorem putL_take (R : List (Int × Int)) {m : Nat} (hm : m ≤ R.length) (rs : List Int) (hid : Int) : (putL R m rs hid).take m = R.take m ∧ (putL R m rs hid).drop m = (rs.map fun c => (c, hid)) ++ R.drop m := by
  unfold putL
  rw [List.append_assoc]
  have hl : (R.take m).length = m := by rw [List.length_take]; omega
  exact ⟨List.take_left' hl, List.drop_left' hl⟩
theorem putL_get (R : List (Int × Int)) {m : Nat} (hm : m ≤ R.length) (r hid : Int) : (putL R m [r] hid)[m]? = some (r, hid) := by
  have h := (putL_take R hm [r] hid).2
  have h2 : ((putL R m [r] hid).drop m)[0]? = some (r, hid) := by rw [h]; rfl
  rw [List.getElem?_drop] at h2
  simpa using h2
theorem vis_putL (R : List (Int × Int)) (m : Nat) (rs : List Int) : vis (putL R m rs 0) = vis R + rs.length := by
  unfold putL
  rw [vis_append, vis_append, vis_piece, if_pos rfl]
  have : vis R = vis (R.take m) + vis (R.drop m) := by rw [← vis_append, List.take_append_drop]
  omega
theorem vis_putL2 (R : List (Int × Int)) (m : Nat) (rs : List Int) (hid : Int) (h : hid ≠ 0) : vis (putL R m rs hid) = vis R := by
  unfold putL
  rw [vis_append, vis_append, vis_piece, if_neg h]
  have : vis R = vis (R.take m) + vis (R.drop m) := by rw [← vis_append, List.take_append_drop]
  omega
/-- What is put in where the p-th visible cell stands is followed by it. -/
theorem place_putL (R : List (Int × Int)) (p : Nat) (hp : p ≤ vis R) (r : Int) : place (putL R (place R p) [r] 0) (p + 1) = place R p + 1 := by
  have hv := place_vis R p hp
  have hle := place_le R p
  have hb : place (R.drop (place R p)) 0 = 0 := by
    by_cases e : p < vis R
    · have hz := place_zero R p e
      have hlt := place_lt R p e
      rw [List.getD_eq_getElem?_getD, List.getElem?_eq_getElem hlt] at hz
      simp only [Option.getD_some] at hz
      rw [List.drop_eq_getElem_cons hlt]
      simp [place, hz]
    · rw [place_end R p (by omega), List.drop_length]
      rfl
  unfold putL
  rw [List.append_assoc, place_append, if_neg (by omega), hv, List.length_take]
  have e1 : p + 1 - p = 1 := by omega
  rw [e1]
  show _ + place ((r, 0) :: R.drop (place R p)) 1 = _
  simp only [place, if_true, hb]
  omega
end Go.Proofs.YtcflpiaclnebeaaDoor
