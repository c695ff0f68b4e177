import Derived.Test.YtfnpmncmceocdaaDoorPgH
/-! lay, Lay, where they take the text. -/
namespace Go.Proofs.YtfnpmncmceocdaaDoor
open Go.RowKit Go.Lib
set_option maxRecDepth 100000

theorem Glob.mono {a b : Nat} (h : Glob a) (hb : a ≤ b) : Glob b := by
  obtain ⟨x, y, z⟩ := h
  exact ⟨by omega, by omega, by omega⟩
def sheetVal (s : ByteArray) (n : Nat) (v : Value) : Value := .agg #[.string s, .int .i64 (n : Int), v]
theorem three_cells {T : TypeId} {b : Nat} {w : World} {v0 v1 v2 : Value} (h : w.heap[b]? = some (.cells #[v0, v1, v2] T)) : (w.cell? ⟨b, 0, none⟩ = some v0 ∧ w.cell? ⟨b, 1, none⟩ = some v1 ∧ w.cell? ⟨b, 2, none⟩ = some v2) ∧ w.frozen? ⟨b, 0, none⟩ = false ∧ w.frozen? ⟨b, 1, none⟩ = false ∧ w.frozen? ⟨b, 2, none⟩ = false :=
  ⟨box3 h, Lib.frozen_of_heap h 0, Lib.frozen_of_heap h 1, Lib.frozen_of_heap h 2⟩
theorem store3 {W : World} {b : Nat} {T : TypeId} {u0 u1 u2 : Value} (h : W.heap[b]? = some (.cells #[u0, u1, u2] T)) (v0 v1 v2 : Value) :
    ∃ W3, (((W.setCell ⟨b, 0, none⟩ v0).setCell ⟨b, 1, none⟩ v1).setCell ⟨b, 2, none⟩ v2) = W3 ∧ W3.heap[b]? = some (.cells #[v0, v1, v2] T) ∧ But b W W3 :=
  ⟨_, rfl, (heap_setCell_cells (heap_setCell_cells (heap_setCell_cells h 0 v0) 1 v1) 2 v2), ((But.set _ _ _ _).trans (But.set _ _ _ _)).trans (But.set _ _ _ _)⟩
set_option maxHeartbeats 4000000 in
theorem lay_ok {s : ByteArray} {rs : List Int} (ht : IsText s rs) (W H : Nat) (hW : 1 ≤ W ∧ W ≤ 1024) (hH : 1 ≤ H ∧ H ≤ 1024) (hn : rs.length ≤ 274877906944) {w : World} (hP : PTab w) (hG : Glob w.heap.size) :
    Calls Tryd.prog 14 #[.string s, .int .i64 (W : Int), .int .i64 (H : Int)] w fun e w' => ∃ v, e = .returned (.tuple #[sheetVal s rs.length v, .int .i64 0]) ∧ OwnF r6V 6 56 w' w.heap.size v ((rowsP rs W).map (r6 rs)) ∧ Below w.heap.size w w' := by
  have hsm := ht.small
  obtain ⟨w0, hw0⟩ : ∃ V, w.alloc (.cells #[.string ⟨#[]⟩, .int .i64 0, .slice none 0 0] 48) = V := ⟨_, rfl⟩
  have hb0 : Below w.heap.size w w0 := by rw [← hw0]; exact (Below.refl _ _).alloc (Nat.le_refl _) _
  have hx0 : w0.heap[w.heap.size]? = some (.cells #[.string ⟨#[]⟩, .int .i64 0, .slice none 0 0] 48) := by rw [← hw0]; exact heap_alloc_new _ _
  have hs0 : w0.heap.size = w.heap.size + 1 := by rw [← hw0]; exact World.size_alloc ..
  have HC : Calls Tryd.prog 22 #[.string s] w0 fun e w' => e = .returned (.tuple #[.int .i64 (rs.length : Int), .int .i64 0, .int .i64 0]) ∧ Below w0.heap.size w0 w' := by
    obtain ⟨t, fr, hg⟩ := (hP.below hb0).bar
    have := check_any s (by unfold maxLen; omega) w0 fr t hg
    rw [ht.check] at this
    exact this
  have HR : Hid (∀ V, Below w0.heap.size w0 V → Calls Tryd.prog 23 #[.string s, .int .i64 (W : Int)] V fun e w' => ∃ v, e = .returned v ∧ OwnF r6V 6 56 w' V.heap.size v ((rowsP rs W).map (r6 rs)) ∧ Below V.heap.size V w') := fun V hV =>
    rowsOf_any ht W hn ((hP.below hb0).below hV) (hG.mono (by have := hV.size; omega))
  have HX : Hid (w0.heap[w.heap.size]? = some (.cells #[.string ⟨#[]⟩, .int .i64 0, .slice none 0 0] 48) ∧ Below w.heap.size w w0 ∧ w0.heap.size = w.heap.size + 1) := ⟨hx0, hb0, hs0⟩
  have d1 : decide ((W : Int) < 1) = false := decide_eq_false (by omega)
  have d2 : decide ((W : Int) > 1024) = false := decide_eq_false (by omega)
  have d3 : decide ((H : Int) < 1) = false := decide_eq_false (by omega)
  have d4 : decide ((H : Int) > 1024) = false := decide_eq_false (by omega)
  clear ht hW hH hn hP hG hsm hx0 hb0 hs0
  generalize rowsP rs W = R at *
  generalize List.map (r6 rs) R = L at *
  generalize hm : rs.length = m at *
  clear hm
  go_enter Tryd.func14, Tryd.ntmps14
  go_wp2_with fail
  refine HC.mono ?_
  rintro e w1 ⟨rfl, hb1⟩
  have HR1 := HR.out w1 hb1
  have HB1 : Hid (Below w0.heap.size w0 w1) := hb1
  clear HC HR hb1
  go_wp2_with fail
  refine HR1.mono ?_
  rintro e w2 ⟨v, rfl, ho, hb2⟩
  have hx2 : w2.heap[w.heap.size]? = some (.cells #[.string ⟨#[]⟩, .int .i64 0, .slice none 0 0] 48) := (hb2.block _ (by have := HB1.out.size; have := HX.out.2.2; omega)).trans ((HB1.out.block _ (by have := HX.out.2.2; omega)).trans HX.out.1)
  have HB2 : Hid (Below w.heap.size w w2) := (HX.out.2.1.trans (HB1.out.mono (by have := HX.out.2.2; omega))).trans (hb2.mono (by have := HB1.out.size; have := HX.out.2.2; omega))
  have HO : Hid (OwnF r6V 6 56 w2 w1.heap.size v L) := ho
  have hlt : Hid (w.heap.size < w1.heap.size) := by have := HB1.out.size; have := HX.out.2.2; show _ < _; omega
  obtain ⟨a, cap, ev⟩ := ho.shape
  obtain ⟨k, hk⟩ : ∃ k, L.length = k := ⟨_, rfl⟩
  rw [hk] at ev
  subst ev
  obtain ⟨⟨c0, c1, c2⟩, z0, z1, z2⟩ := three_cells hx2
  obtain ⟨w3, hw3, e3, k3⟩ := store3 hx2 (.string s) (.int .i64 (m : Int)) (.slice a k cap)
  obtain ⟨r0, r1, r2⟩ := box3 e3
  have HF : Hid (OwnF r6V 6 56 w3 w.heap.size (.slice a k cap) L ∧ Below w.heap.size w w3) := by
    refine ⟨(ho.chg (k3.chg (D := fun g => g = w.heap.size) rfl) (fun g hg e => ?_)).mono (by have := hlt.out; omega), HB2.out.trans (?_ : Below w.heap.size w2 w3)⟩
    · have := ho.ge hg
      have := hlt.out
      omega
    · exact Chg.below (k3.chg (D := fun g => g = w.heap.size) rfl) (fun g e => by omega) HB2.out.size
  clear HR1 ho hb2 HB1 HX HB2 HO hx2 e3 k3 hk hlt
  go_wp2_with fail
  try simp only [hw3]
  refine bodyPost_ret (v := .tuple #[sheetVal s m (.slice a k cap), .int .i64 0]) (by simp [results, Tryd.results14, go_sem, sheetVal, r0, r1, r2]) rfl ?_
  exact ⟨_, rfl, HF.out⟩

/-- A line as it is handed out. -/
structure L4 where
  lo : Int
  hi : Int
  cols : Int
  hard : Bool
def l4V (x : L4) : List Value := [.int .i64 x.lo, .int .i64 x.hi, .int .i64 x.cols, .bool x.hard]
theorem layL4 : Lay l4V 4 := ⟨fun _ => rfl, by decide, fun x u hu => by
  simp only [l4V, List.mem_cons, List.not_mem_nil, or_false] at hu
  rcases hu with rfl | rfl | rfl | rfl <;> rfl⟩
theorem kindL4 : Kind Tryd.prog 26 40 4 32 := kind_of Tryd.underlying26 (z := .agg #[.int .i64 0, .int .i64 0, .int .i64 0, .bool false]) (by kernel_rfl) rfl
def R6.line (x : R6) : L4 := ⟨x.lo, x.hi, x.cols, x.hard⟩
set_option maxHeartbeats 8000000 in
theorem Lay_ok {s : ByteArray} {rs : List Int} (ht : IsText s rs) (W : Nat) (hW : 1 ≤ W ∧ W ≤ 1024) (hn : rs.length ≤ 274877906944) {w : World} (hP : PTab w) (hG : Glob w.heap.size) :
    Calls Tryd.prog 13 #[.string s, .int .i64 (W : Int)] w fun e w' => ∃ v, e = .returned (.tuple #[v, .int .i64 0]) ∧ OwnF l4V 4 40 w' w.heap.size v (((rowsP rs W).map (r6 rs)).map R6.line) ∧ Below w.heap.size w w' := by
  have hlen : (rowsP rs W).length ≤ rs.length + 1 := by
    have := rowsP_ok rs W
    have h1 := ch_len this.2 (fun x hx => ⟨(this.1 x hx).le, fun e => ((this.1 x hx).soft e).1⟩)
    omega
  have HL := lay_ok ht W 1 hW ⟨by omega, by omega⟩ hn hP hG
  have hl2 : ((rowsP rs W).map (r6 rs)).length ≤ 274877906945 := by rw [List.length_map]; omega
  clear ht hn hP hG hlen
  generalize (rowsP rs W).map (r6 rs) = L at *
  generalize rs.length = m at *
  go_enter Tryd.func13, Tryd.ntmps13
  go_wp2_with fail
  refine HL.mono ?_
  rintro e w1 ⟨v, rfl, ho, hb1⟩
  obtain ⟨a, cap, ev⟩ := ho.shape
  obtain ⟨k, hk⟩ : ∃ k, L.length = k := ⟨_, rfl⟩
  rw [hk] at ev hl2
  subst ev
  have hRw := ho.rw_ layR6
  have HB1 : Hid (Below w.heap.size w w1) := hb1
  have HK : Hid (L.length = k) := hk
  clear HL ho hb1 hk
  unfold sheetVal
  go_wp2_with fail
  go_loopw [8, 23] (fun v vi w' => ∃ i : Nat, vi = .int .i64 (i : Int) ∧ i ≤ k ∧ OwnF l4V 4 40 w' w1.heap.size v ((L.take i).map R6.line) ∧ Below w1.heap.size w1 w') (fun _ i _ => k - (intOf i).toNat)
  case atStart =>
    refine ⟨0, rfl, Nat.zero_le _, ownF_nil _ _, ?_⟩
    exact (Below.refl _ _).alloc (Nat.le_refl _) _
  case round =>
    obtain ⟨i, rfl, hik, ho, hb⟩ := hrel
    by_cases hi : i < k
    · obtain ⟨g, off, x, rfl, hg, hx, hc⟩ := hRw.at i hi
      have HC : Hid (∀ j v, (r6V x)[j]? = some v → wr.cell? ⟨g, off + i * 6 + j, none⟩ = some v) := fun j v hj => (hb.cell (p := ⟨g, off + i * 6 + j, none⟩) hg).trans (hc j v hj)
      have HT : Hid ((L.take (i + 1)).map R6.line = (L.take i).map R6.line ++ [x.line]) := by
        obtain ⟨hi2, rfl⟩ := List.getElem?_eq_some_iff.1 hx
        show _ = _
        rw [List.take_succ_eq_append_getElem hi2, List.map_append]
        rfl
      clear hx hc
      obtain ⟨xlo, xhi, xcols, xhard, xfr, xtt⟩ := x
      have c0 : wr.cell? ⟨g, off + i * 6, none⟩ = some (.int .i64 xlo) := HC.out 0 _ rfl
      have c1 : wr.cell? ⟨g, off + i * 6 + 1, none⟩ = some (.int .i64 xhi) := HC.out 1 _ rfl
      have c2 : wr.cell? ⟨g, off + i * 6 + 2, none⟩ = some (.int .i64 xcols) := HC.out 2 _ rfl
      have c3 : wr.cell? ⟨g, off + i * 6 + 3, none⟩ = some (.bool xhard) := HC.out 3 _ rfl
      have c4 : wr.cell? ⟨g, off + i * 6 + 4, none⟩ = some (.int .i64 xfr) := HC.out 4 _ rfl
      have c5 : wr.cell? ⟨g, off + i * 6 + 5, none⟩ = some (.int .i64 xtt) := HC.out 5 _ rfl
      obtain ⟨V, hV⟩ : ∃ V, wr.alloc (.cells #[.int .i64 xlo, .int .i64 xhi, .int .i64 xcols, .bool xhard, .int .i64 xfr, .int .i64 xtt] 56) = V := ⟨_, rfl⟩
      have hbV : Below wr.heap.size wr V := by rw [← hV]; exact (Below.refl _ _).alloc (Nat.le_refl _) _
      have hll : ((L.take i).map R6.line).length ≤ 274877906945 := by rw [List.length_map, List.length_take]; omega
      have hsz := hb.size
      obtain ⟨g5, cap5, w6, hr, ho6, hb6, hkp, hgt, hat⟩ := appendF_one kindL4 layL4 (ho.below hbV) (by have := hbV.size; omega) ⟨xlo, xhi, xcols, xhard⟩ #[.int .i64 xlo, .int .i64 xhi, .int .i64 xcols, .bool xhard] rfl 40 (by omega) (by omega) 26
      rw [show V.heap.size = wr.heap.size + 1 by rw [← hV]; exact World.size_alloc .., ← hV] at hr
      obtain ⟨b2, cap2, ev⟩ := ho.shape
      obtain ⟨k2, hk2⟩ : ∃ k2, ((L.take i).map R6.line).length = k2 := ⟨_, rfl⟩
      rw [hk2] at ev hr ho6
      subst ev
      have HN : Hid (OwnF l4V 4 40 w6 w1.heap.size (.slice (some ⟨g5, 0, none⟩) (k2 + 1) cap5) ((L.take (i + 1)).map R6.line) ∧ Below w1.heap.size w1 w6) := ⟨by rw [HT.out]; exact ho6, (hb.trans (hbV.mono hsz)).trans hb6⟩
      clear HC HT ho ho6 hb6 hkp hgt hat hbV hV hll hk2 hb
      go_wp2_with (at_builtin; refine wpList_append_hr rfl _ _ 26 rfl _ _ rfl rfl hr ?_)
      exact ⟨⟨i + 1, by go_num, by omega, HN.out.1, HN.out.2⟩, by simp [intOf]; omega⟩
    · obtain rfl : i = k := by omega
      have HN : Hid (OwnF l4V 4 40 wr w.heap.size u8 (L.map R6.line) ∧ Below w.heap.size w wr) := by
        rw [List.take_of_length_le (by rw [HK.out]; exact Nat.le_refl _)] at ho
        exact ⟨ho.mono HB1.out.size, HB1.out.trans (hb.mono HB1.out.size)⟩
      clear ho hb
      go_wp2_with fail
      refine bodyPost_ret (v := .tuple #[u8, .int .i64 0]) (by simp [results, Tryd.results13, go_sem]) rfl ?_
      exact ⟨_, rfl, HN.out⟩
end Go.Proofs.YtfnpmncmceocdaaDoor
