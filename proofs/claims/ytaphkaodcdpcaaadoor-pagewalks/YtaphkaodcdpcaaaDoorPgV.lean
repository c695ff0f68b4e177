import Derived.Test.YtaphkaodcdpcaaaDoorPgT
import Derived.Test.YtaphkaodcdpcaaaDoorStepAll
/-! A walker's methods. -/
namespace Go.Proofs.YtaphkaodcdpcaaaDoor
open Go.RowKit Go.Lib Go.Shelf
set_option maxRecDepth 100000

/-- The column that a caret wants. -/
def WishP (rs : List Int) (W at' : Nat) (want c : Int) : Prop := (want < 0 ∧ ∃ n : Nat, c = (n : Int) ∧ ColP rs W at' n) ∨ (0 ≤ want ∧ c = want)
theorem WishP.pos {rs : List Int} {W at' : Nat} {want c : Int} (h : WishP rs W at' want c) : 0 ≤ c := by
  rcases h with ⟨_, n, rfl, _⟩ | ⟨h1, rfl⟩
  · omega
  · exact h1
def HomeP (rs : List Int) (W at' q : Nat) : Prop := ∃ r hi hard, Stands rs W at' r q hi hard
def EndP (rs : List Int) (W at' q : Nat) : Prop := ∃ r lo hi hard, Stands rs W at' r lo hi hard ∧ q = lastP hi hard
def UpP (rs : List Int) (W at' : Nat) (want : Int) (q : Nat) (c : Int) : Prop := WishP rs W at' want c ∧ ∃ r lo hi hard, Stands rs W at' r lo hi hard ∧ ((r = 0 ∧ q = 0) ∨ (0 < r ∧ ∃ lo' hi' hard', (rowsP rs W)[r - 1]? = some ⟨lo', hi', hard'⟩ ∧ FindP rs lo' hi' hard' c q))
def DownP (rs : List Int) (W at' : Nat) (want : Int) (q : Nat) (c : Int) : Prop := WishP rs W at' want c ∧ ∃ r lo hi hard, Stands rs W at' r lo hi hard ∧ (((rowsP rs W)[r + 1]? = none ∧ q = rs.length) ∨ (∃ lo' hi' hard', (rowsP rs W)[r + 1]? = some ⟨lo', hi', hard'⟩ ∧ FindP rs lo' hi' hard' c q))
set_option maxHeartbeats 4000000 in
theorem wish_any {s : ByteArray} {rs : List Int} (ht : IsText s rs) {W : Nat} {w : World} {a : Option Addr} {k cap : Nat} (h : Sheet rs W w a k cap) (hP : PTab w) (m : Nat) (at' : Nat) (hat : at' ≤ rs.length) (want how : Int) :
    Calls Tryd.prog 45 #[.agg #[.string s, .int .i64 (m : Int), .slice a k cap, .int .i64 (at' : Int), .int .i64 want, .int .i64 how]] w fun e w' => ∃ c : Int, e = .returned (.int .i64 c) ∧ WishP rs W at' want c ∧ Below w.heap.size w w' := by
  obtain ⟨w0, hw0⟩ : ∃ V, w.alloc (.cells #[.string s, .int .i64 (m : Int), .slice a k cap, .int .i64 (at' : Int), .int .i64 want, .int .i64 how] 62) = V := ⟨_, rfl⟩
  have hb0 : Below w.heap.size w w0 := by rw [← hw0]; exact (Below.refl _ _).alloc (Nat.le_refl _) _
  have hx0 : w0.heap[w.heap.size]? = some (.cells #[.string s, .int .i64 (m : Int), .slice a k cap, .int .i64 (at' : Int), .int .i64 want, .int .i64 how] 62) := by rw [← hw0]; exact heap_alloc_new _ _
  obtain ⟨c0, c1, c2, c3, c4, c5⟩ := box6 hx0
  have HB0 : Hid (Below w.heap.size w w0) := hb0
  by_cases hw : want < 0
  · have hz : decide (want < 0) = true := decide_eq_true hw
    have HC := column_any ht (h.below hb0) (hP.below hb0) m at' hat
    clear ht h hP hat hx0 hb0
    go_enter Tryd.func45, Tryd.ntmps45
    go_wp2_with fail
    refine HC.mono ?_
    rintro e w1 ⟨c, rfl, hc, hb1⟩
    have HN : Hid (WishP rs W at' want (c : Int) ∧ Below w.heap.size w w1) := ⟨.inl ⟨hw, c, rfl, hc⟩, HB0.out.trans (hb1.mono HB0.out.size)⟩
    clear hc hb1 HC
    go_wp2_with fail
    go_ret
    exact ⟨_, rfl, HN.out⟩
  · have hz : decide (want < 0) = false := decide_eq_false hw
    clear ht h hP hat hx0 hb0
    go_enter Tryd.func45, Tryd.ntmps45
    go_wp2_with fail
    go_ret
    exact ⟨_, rfl, .inr ⟨by omega, rfl⟩, HB0.out⟩
set_option maxHeartbeats 4000000 in
theorem wstep_any (s : ByteArray) (m : Nat) (a : Option Addr) (k cap : Nat) (at' : Nat) (want how : Int) (w : World) (q : Nat) (hS : ∀ V, Below w.heap.size w V → Calls Tryd.prog 15 #[.string s, .int .i64 (at' : Int), .int .i64 how] V fun e w' => e = .returned (.tuple #[.int .i64 (q : Int), .int .i64 0]) ∧ Below V.heap.size V w') :
    Calls Tryd.prog 26 #[.agg #[.string s, .int .i64 (m : Int), .slice a k cap, .int .i64 (at' : Int), .int .i64 want, .int .i64 how]] w fun e w' => e = .returned (.tuple #[.int .i64 (q : Int), .int .i64 (-1)]) ∧ Below w.heap.size w w' := by
  obtain ⟨w0, hw0⟩ : ∃ V, w.alloc (.cells #[.string s, .int .i64 (m : Int), .slice a k cap, .int .i64 (at' : Int), .int .i64 want, .int .i64 how] 62) = V := ⟨_, rfl⟩
  have hb0 : Below w.heap.size w w0 := by rw [← hw0]; exact (Below.refl _ _).alloc (Nat.le_refl _) _
  have hx0 : w0.heap[w.heap.size]? = some (.cells #[.string s, .int .i64 (m : Int), .slice a k cap, .int .i64 (at' : Int), .int .i64 want, .int .i64 how] 62) := by rw [← hw0]; exact heap_alloc_new _ _
  obtain ⟨c0, c1, c2, c3, c4, c5⟩ := box6 hx0
  have HB0 : Hid (Below w.heap.size w w0) := hb0
  have HC := hS w0 hb0
  clear hS hx0 hb0
  go_enter Tryd.func26, Tryd.ntmps26
  go_wp2_with fail
  refine HC.mono ?_
  rintro e w1 ⟨rfl, hb1⟩
  have HN : Hid (Below w.heap.size w w1) := HB0.out.trans (hb1.mono HB0.out.size)
  clear hb1 HC
  go_wp2_with fail
  refine bodyPost_ret (v := .tuple #[.int .i64 (q : Int), .int .i64 (-1)]) (by simp [results, Tryd.results26, go_sem]) rfl ?_
  exact ⟨rfl, HN.out⟩
set_option maxHeartbeats 8000000 in
theorem up_any {s : ByteArray} {rs : List Int} (ht : IsText s rs) {W : Nat} {w : World} {a : Option Addr} {k cap : Nat} (h : Sheet rs W w a k cap) (hP : PTab w) {m : Nat} (hm : rs.length = m) (at' : Nat) (hat : at' ≤ rs.length) (want how : Int) :
    Calls Tryd.prog 29 #[.agg #[.string s, .int .i64 (m : Int), .slice a k cap, .int .i64 (at' : Int), .int .i64 want, .int .i64 how]] w fun e w' => ∃ q : Nat, ∃ c : Int, e = .returned (.tuple #[.int .i64 (q : Int), .int .i64 c]) ∧ UpP rs W at' want q c ∧ Below w.heap.size w w' := by
  obtain ⟨w0, hw0⟩ : ∃ V, w.alloc (.cells #[.string s, .int .i64 (m : Int), .slice a k cap, .int .i64 (at' : Int), .int .i64 want, .int .i64 how] 62) = V := ⟨_, rfl⟩
  have hb0 : Below w.heap.size w w0 := by rw [← hw0]; exact (Below.refl _ _).alloc (Nat.le_refl _) _
  have hx0 : w0.heap[w.heap.size]? = some (.cells #[.string s, .int .i64 (m : Int), .slice a k cap, .int .i64 (at' : Int), .int .i64 want, .int .i64 how] 62) := by rw [← hw0]; exact heap_alloc_new _ _
  obtain ⟨c0, c1, c2, c3, c4, c5⟩ := box6 hx0
  have HT : Hid (IsText s rs ∧ PTab w) := ⟨ht, hP⟩
  have HSh : Hid (∀ V, Below w.heap.size w V → Sheet rs W V a k cap) := fun V hV => h.below hV
  have HM : Hid (rs.length = m ∧ at' ≤ rs.length ∧ (rowsP rs W).length = k) := ⟨hm, hat, h.len⟩
  have hkf : k ≤ 4294967001 := by have := rowsP_few rs W; have := h.few; have := h.len; omega
  have HW := wish_any ht (h.below hb0) (hP.below hb0) m at' hat want how
  have HB0 : Hid (Below w.heap.size w w0 ∧ w0.heap[w.heap.size]? = some (.cells #[.string s, .int .i64 (m : Int), .slice a k cap, .int .i64 (at' : Int), .int .i64 want, .int .i64 how] 62) ∧ w.heap.size < w0.heap.size) := ⟨hb0, hx0, (Array.getElem?_eq_some_iff.1 hx0).1⟩
  clear ht h hP hat hx0 hb0 hm
  go_enter Tryd.func29, Tryd.ntmps29
  go_wp2_with fail
  refine HW.mono ?_
  rintro e w1 ⟨c, rfl, hwi, hb1⟩
  have hbw1 := HB0.out.1.trans (hb1.mono HB0.out.1.size)
  have hx1 := (hb1.block _ HB0.out.2.2).trans HB0.out.2.1
  have HWi : Hid (WishP rs W at' want c) := hwi
  have HRo := rowOf_any (HSh.out w1 hbw1) s m at'
  obtain ⟨d0, d1, d2, d3, d4, d5⟩ := box6 hx1
  have HB1 : Hid (Below w.heap.size w w1 ∧ w1.heap[w.heap.size]? = some (.cells #[.string s, .int .i64 (m : Int), .slice a k cap, .int .i64 (at' : Int), .int .i64 want, .int .i64 how] 62) ∧ w.heap.size < w1.heap.size) := ⟨hbw1, hx1, (Array.getElem?_eq_some_iff.1 hx1).1⟩
  clear hwi hb1 hbw1 hx1 HW HB0 c0 c1 c2 c3 c4 c5
  go_wp2_with fail
  refine HRo.mono ?_
  rintro e w2 ⟨r, lo, hi, hard, rfl, hst, hb2⟩
  have hbw2 := HB1.out.1.trans (hb2.mono HB1.out.1.size)
  have hx2 := (hb2.block _ HB1.out.2.2).trans HB1.out.2.1
  obtain ⟨e0, e1, e2, e3, e4, e5⟩ := box6 hx2
  have hrk : r < k := by rw [← HM.out.2.2]; exact (List.getElem?_eq_some_iff.1 hst.get).1
  have HSt : Hid (Stands rs W at' r lo hi hard) := hst
  clear HRo d0 d1 d2 d3 d4 d5 HB1 hst hb2
  by_cases hr0 : 0 < r
  · have z0 : decide ((r : Int) > 0) = true := decide_eq_true (by omega)
    obtain ⟨x, hR⟩ : ∃ x, (rowsP rs W)[r - 1]? = some x := ⟨_, List.getElem?_eq_getElem (by have := HM.out.2.2; omega)⟩
    obtain ⟨lo', hi', hard'⟩ := x
    obtain ⟨r1, hr1⟩ : ∃ r1, r - 1 = r1 := ⟨_, rfl⟩
    rw [hr1] at hR
    have y1 : IntKind.i64.wrap ((r : Int) - 1) = (r1 : Int) := by rw [IntWalk.i64_in _ (by omega)]; omega
    have HF := find_any HT.out.1 (HSh.out w2 hbw2) (HT.out.2.below hbw2) m hR c HWi.out.pos
    have HB2 : Hid (Below w.heap.size w w2) := hbw2
    have HP : Hid (∀ q, FindP rs lo' hi' hard' c q → UpP rs W at' want q c) := fun q hq => ⟨HWi.out, r, lo, hi, hard, HSt.out, .inr ⟨hr0, lo', hi', hard', by rw [hr1]; exact hR, hq⟩⟩
    clear hR hx2 hbw2 hr1
    go_wp2_with fail
    refine HF.mono ?_
    rintro e w3 ⟨q, rfl, hq, hb3⟩
    have HN : Hid (UpP rs W at' want q c ∧ Below w.heap.size w w3) := ⟨HP.out q hq, HB2.out.trans (hb3.mono HB2.out.size)⟩
    clear hq hb3 HF HP HB2
    go_wp2_with fail
    refine bodyPost_ret (v := .tuple #[.int .i64 (q : Int), .int .i64 c]) (by simp [results, Tryd.results29, go_sem]) rfl ?_
    exact ⟨q, c, rfl, HN.out⟩
  · have hz0 : r = 0 := by omega
    have z0 : decide ((r : Int) > 0) = false := decide_eq_false (by omega)
    have HN : Hid (UpP rs W at' want 0 c ∧ Below w.heap.size w w2) := ⟨⟨HWi.out, r, lo, hi, hard, HSt.out, .inl ⟨hz0, rfl⟩⟩, hbw2⟩
    clear hz0 hx2 hbw2
    go_wp2_with fail
    refine bodyPost_ret (v := .tuple #[.int .i64 0, .int .i64 c]) (by simp [results, Tryd.results29, go_sem]) rfl ?_
    exact ⟨0, c, rfl, HN.out⟩
set_option maxHeartbeats 8000000 in
theorem down_any {s : ByteArray} {rs : List Int} (ht : IsText s rs) {W : Nat} {w : World} {a : Option Addr} {k cap : Nat} (h : Sheet rs W w a k cap) (hP : PTab w) {m : Nat} (hm : rs.length = m) (at' : Nat) (hat : at' ≤ rs.length) (want how : Int) :
    Calls Tryd.prog 30 #[.agg #[.string s, .int .i64 (m : Int), .slice a k cap, .int .i64 (at' : Int), .int .i64 want, .int .i64 how]] w fun e w' => ∃ q : Nat, ∃ c : Int, e = .returned (.tuple #[.int .i64 (q : Int), .int .i64 c]) ∧ DownP rs W at' want q c ∧ Below w.heap.size w w' := by
  obtain ⟨w0, hw0⟩ : ∃ V, w.alloc (.cells #[.string s, .int .i64 (m : Int), .slice a k cap, .int .i64 (at' : Int), .int .i64 want, .int .i64 how] 62) = V := ⟨_, rfl⟩
  have hb0 : Below w.heap.size w w0 := by rw [← hw0]; exact (Below.refl _ _).alloc (Nat.le_refl _) _
  have hx0 : w0.heap[w.heap.size]? = some (.cells #[.string s, .int .i64 (m : Int), .slice a k cap, .int .i64 (at' : Int), .int .i64 want, .int .i64 how] 62) := by rw [← hw0]; exact heap_alloc_new _ _
  obtain ⟨c0, c1, c2, c3, c4, c5⟩ := box6 hx0
  have HT : Hid (IsText s rs ∧ PTab w) := ⟨ht, hP⟩
  have HSh : Hid (∀ V, Below w.heap.size w V → Sheet rs W V a k cap) := fun V hV => h.below hV
  have HM : Hid (rs.length = m ∧ at' ≤ rs.length ∧ (rowsP rs W).length = k) := ⟨hm, hat, h.len⟩
  have hkf : k ≤ 4294967001 := by have := rowsP_few rs W; have := h.few; have := h.len; omega
  have HW := wish_any ht (h.below hb0) (hP.below hb0) m at' hat want how
  have HB0 : Hid (Below w.heap.size w w0 ∧ w0.heap[w.heap.size]? = some (.cells #[.string s, .int .i64 (m : Int), .slice a k cap, .int .i64 (at' : Int), .int .i64 want, .int .i64 how] 62) ∧ w.heap.size < w0.heap.size) := ⟨hb0, hx0, (Array.getElem?_eq_some_iff.1 hx0).1⟩
  clear ht h hP hat hx0 hb0 hm
  go_enter Tryd.func30, Tryd.ntmps30
  go_wp2_with fail
  refine HW.mono ?_
  rintro e w1 ⟨c, rfl, hwi, hb1⟩
  have hbw1 := HB0.out.1.trans (hb1.mono HB0.out.1.size)
  have hx1 := (hb1.block _ HB0.out.2.2).trans HB0.out.2.1
  have HWi : Hid (WishP rs W at' want c) := hwi
  have HRo := rowOf_any (HSh.out w1 hbw1) s m at'
  obtain ⟨d0, d1, d2, d3, d4, d5⟩ := box6 hx1
  have HB1 : Hid (Below w.heap.size w w1 ∧ w1.heap[w.heap.size]? = some (.cells #[.string s, .int .i64 (m : Int), .slice a k cap, .int .i64 (at' : Int), .int .i64 want, .int .i64 how] 62) ∧ w.heap.size < w1.heap.size) := ⟨hbw1, hx1, (Array.getElem?_eq_some_iff.1 hx1).1⟩
  clear hwi hb1 hbw1 hx1 HW HB0 c0 c1 c2 c3 c4 c5
  go_wp2_with fail
  refine HRo.mono ?_
  rintro e w2 ⟨r, lo, hi, hard, rfl, hst, hb2⟩
  have hbw2 := HB1.out.1.trans (hb2.mono HB1.out.1.size)
  have hx2 := (hb2.block _ HB1.out.2.2).trans HB1.out.2.1
  obtain ⟨e0, e1, e2, e3, e4, e5⟩ := box6 hx2
  have hrk : r < k := by rw [← HM.out.2.2]; exact (List.getElem?_eq_some_iff.1 hst.get).1
  have HSt : Hid (Stands rs W at' r lo hi hard) := hst
  clear HRo d0 d1 d2 d3 d4 d5 HB1 hst hb2
  obtain ⟨r1, hr1⟩ : ∃ r1, r + 1 = r1 := ⟨_, rfl⟩
  have y1 : IntKind.i64.wrap ((r : Int) + 1) = (r1 : Int) := by rw [IntWalk.i64_in _ (by omega)]; omega
  have hha := hasRow_any s m a k cap (r1 : Int) w2
  have HX2 : Hid (w2.heap[w.heap.size]? = some (.cells #[.string s, .int .i64 (m : Int), .slice a k cap, .int .i64 (at' : Int), .int .i64 want, .int .i64 how] 62) ∧ w.heap.size < w2.heap.size ∧ Below w.heap.size w w2) := ⟨hx2, (Array.getElem?_eq_some_iff.1 hx2).1, hbw2⟩
  clear hx2 hbw2
  by_cases hrn : r1 < k
  · rw [show decide (0 ≤ (r1 : Int) ∧ (r1 : Int) < (k : Int)) = true from decide_eq_true ⟨by omega, by omega⟩] at hha
    obtain ⟨x, hR⟩ : ∃ x, (rowsP rs W)[r1]? = some x := ⟨_, List.getElem?_eq_getElem (by have := HM.out.2.2; omega)⟩
    obtain ⟨lo', hi', hard'⟩ := x
    have HP : Hid (∀ q, FindP rs lo' hi' hard' c q → DownP rs W at' want q c) := fun q hq => ⟨HWi.out, r, lo, hi, hard, HSt.out, .inr ⟨lo', hi', hard', by rw [hr1]; exact hR, hq⟩⟩
    have HRn : Hid ((rowsP rs W)[r1]? = some ⟨lo', hi', hard'⟩) := hR
    clear hR hr1
    go_wp2_with fail
    refine hha.mono ?_
    rintro e w3 ⟨rfl, hb3⟩
    have hbw3 := HX2.out.2.2.trans (hb3.mono HX2.out.2.2.size)
    have hx3 := (hb3.block _ HX2.out.2.1).trans HX2.out.1
    obtain ⟨f0, f1, f2, f3, f4, f5⟩ := box6 hx3
    have HF := find_any HT.out.1 (HSh.out w3 hbw3) (HT.out.2.below hbw3) m HRn.out c HWi.out.pos
    have HB3 : Hid (Below w.heap.size w w3) := hbw3
    clear hha hb3 hbw3 hx3 HX2 e0 e1 e2 e3 e4 e5
    go_wp2_with fail
    refine HF.mono ?_
    rintro e w4 ⟨q, rfl, hq, hb4⟩
    have HN : Hid (DownP rs W at' want q c ∧ Below w.heap.size w w4) := ⟨HP.out q hq, HB3.out.trans (hb4.mono HB3.out.size)⟩
    clear hq hb4 HF HP HB3
    go_wp2_with fail
    refine bodyPost_ret (v := .tuple #[.int .i64 (q : Int), .int .i64 c]) (by simp [results, Tryd.results30, go_sem]) rfl ?_
    exact ⟨q, c, rfl, HN.out⟩
  · rw [show decide (0 ≤ (r1 : Int) ∧ (r1 : Int) < (k : Int)) = false from decide_eq_false (fun h => by omega)] at hha
    have HP : Hid (DownP rs W at' want m c) := ⟨HWi.out, r, lo, hi, hard, HSt.out, .inl ⟨List.getElem?_eq_none (by have := HM.out.2.2; omega), HM.out.1.symm⟩⟩
    clear hr1
    go_wp2_with fail
    refine hha.mono ?_
    rintro e w3 ⟨rfl, hb3⟩
    have hx3 := (hb3.block _ HX2.out.2.1).trans HX2.out.1
    obtain ⟨f0, f1, f2, f3, f4, f5⟩ := box6 hx3
    have HN : Hid (Below w.heap.size w w3) := HX2.out.2.2.trans (hb3.mono HX2.out.2.2.size)
    clear hha hb3 hx3 HX2 e0 e1 e2 e3 e4 e5
    go_wp2_with fail
    refine bodyPost_ret (v := .tuple #[.int .i64 (m : Int), .int .i64 c]) (by simp [results, Tryd.results30, go_sem]) rfl ?_
    exact ⟨m, c, rfl, HP.out, HN.out⟩
set_option maxHeartbeats 8000000 in
theorem homeW_any {s : ByteArray} {rs : List Int} {W : Nat} {w : World} {a : Option Addr} {k cap : Nat} (h : Sheet rs W w a k cap) (m at' : Nat) (want how : Int) :
    Calls Tryd.prog 27 #[.agg #[.string s, .int .i64 (m : Int), .slice a k cap, .int .i64 (at' : Int), .int .i64 want, .int .i64 how]] w fun e w' => ∃ q : Nat, e = .returned (.tuple #[.int .i64 (q : Int), .int .i64 (-1)]) ∧ HomeP rs W at' q ∧ Below w.heap.size w w' := by
  obtain ⟨g, off, x0, rfl, hg, -⟩ := h.at (i := 0) (by have := h.len; have := List.length_pos_iff.2 (rowsP_ne rs W); omega)
  obtain ⟨w0, hw0⟩ : ∃ V, w.alloc (.cells #[.string s, .int .i64 (m : Int), .slice (some ⟨g, off, none⟩) k cap, .int .i64 (at' : Int), .int .i64 want, .int .i64 how] 62) = V := ⟨_, rfl⟩
  have hb0 : Below w.heap.size w w0 := by rw [← hw0]; exact (Below.refl _ _).alloc (Nat.le_refl _) _
  have hx0 : w0.heap[w.heap.size]? = some (.cells #[.string s, .int .i64 (m : Int), .slice (some ⟨g, off, none⟩) k cap, .int .i64 (at' : Int), .int .i64 want, .int .i64 how] 62) := by rw [← hw0]; exact heap_alloc_new _ _
  have HL : Hid ((rowsP rs W).length = k) := h.len
  obtain ⟨w1, hw1⟩ : ∃ V, w0.drew = V := ⟨_, rfl⟩
  have hb1 : Below w0.heap.size w0 w1 := by rw [← hw1]; exact (Below.refl _ _).drew
  have hx1 := (hb1.block _ (Array.getElem?_eq_some_iff.1 hx0).1).trans hx0
  have hbw1 := hb0.trans (hb1.mono hb0.size)
  have hsh1 := h.below hbw1
  have HRo := rowOf_any hsh1 s m at'
  clear h hg hx0 hb0 hb1
  go_enter Tryd.func27, Tryd.ntmps27
  go_wp2_with fail
  refine wp_region_held_drew (S := (fun v => v.heap[w.heap.size]? = some (.cells #[.string s, .int .i64 (m : Int), .slice (some ⟨g, off, none⟩) k cap, .int .i64 (at' : Int), .int .i64 want, .int .i64 how] 62) ∧ Sheet rs W v (some ⟨g, off, none⟩) k cap)) (by kernel_rfl) ?hShome (fun hHeld => ?resthome)
  case hShome => (rw [hw1]; exact ⟨hx1, hsh1⟩)
  rw [hw1] at hHeld ⊢
  clear hw1
  refine takeD (i := 0) (d := some 4) (v := ?vT39) rfl rfl (by kernel_rfl) (by kernel_rfl) (by kernel_rfl) (fun _ _ _ h => h) (Or.inl ⟨by rfl, ?hyT39⟩) (by assumption) ?rstT39
  case hyT39 => (intro v hSw; obtain ⟨s0, s1, s2, s3, s4, s5⟩ := box6 hSw.1; go_simp; (try with_reducible rfl))
  try simp only [Act.put, List.setIfInBounds_toArray, List.set_cons_zero, List.set_cons_succ]
  refine takeD (i := 1) (d := some 5) (v := ?vT40) rfl rfl (by kernel_rfl) (by kernel_rfl) (by kernel_rfl) (fun _ _ _ h => h) (Or.inl ⟨by rfl, ?hyT40⟩) (by assumption) ?rstT40
  case hyT40 => (intro v hSw; obtain ⟨s0, s1, s2, s3, s4, s5⟩ := box6 hSw.1; go_simp; (try with_reducible rfl))
  try simp only [Act.put, List.setIfInBounds_toArray, List.set_cons_zero, List.set_cons_succ]
  refine takeD (i := 2) (d := some 6) (v := ?vT41) rfl rfl (by kernel_rfl) (by kernel_rfl) (by kernel_rfl) (fun _ _ _ h => h) (Or.inl ⟨by rfl, ?hyT41⟩) (by assumption) ?rstT41
  case hyT41 => (intro v hSw; obtain ⟨s0, s1, s2, s3, s4, s5⟩ := box6 hSw.1; go_simp; (try with_reducible rfl))
  try simp only [Act.put, List.setIfInBounds_toArray, List.set_cons_zero, List.set_cons_succ]
  refine takeD (i := 3) (d := some 7) (v := ?vT42) rfl rfl (by kernel_rfl) (by kernel_rfl) (by kernel_rfl) (fun _ _ _ h => h) (Or.inl ⟨by rfl, ?hyT42⟩) (by assumption) ?rstT42
  case hyT42 => (intro v hSw; obtain ⟨s0, s1, s2, s3, s4, s5⟩ := box6 hSw.1; go_simp; (try with_reducible rfl))
  try simp only [Act.put, List.setIfInBounds_toArray, List.set_cons_zero, List.set_cons_succ]
  refine takeD (i := 4) (d := some 8) (v := ?vT43) rfl rfl (by kernel_rfl) (by kernel_rfl) (by kernel_rfl) (fun _ _ _ h => h) (Or.inl ⟨by rfl, ?hyT43⟩) (by assumption) ?rstT43
  case hyT43 => (intro v hSw; obtain ⟨s0, s1, s2, s3, s4, s5⟩ := box6 hSw.1; go_simp; (try with_reducible rfl))
  try simp only [Act.put, List.setIfInBounds_toArray, List.set_cons_zero, List.set_cons_succ]
  refine takeD (i := 5) (d := some 9) (v := ?vT44) rfl rfl (by kernel_rfl) (by kernel_rfl) (by kernel_rfl) (fun _ _ _ h => h) (Or.inl ⟨by rfl, ?hyT44⟩) (by assumption) ?rstT44
  case hyT44 => (intro v hSw; obtain ⟨s0, s1, s2, s3, s4, s5⟩ := box6 hSw.1; go_simp; (try with_reducible rfl))
  try simp only [Act.put, List.setIfInBounds_toArray, List.set_cons_zero, List.set_cons_succ]
  refine takeD (i := 6) (d := some 10) (v := ?vT45) rfl rfl (by kernel_rfl) (by kernel_rfl) (by kernel_rfl) (fun _ _ _ h => h) (Or.inl ⟨by rfl, ?hyT45⟩) (by assumption) ?rstT45
  case hyT45 => (intro v hSw; obtain ⟨s0, s1, s2, s3, s4, s5⟩ := box6 hSw.1; go_simp; (try with_reducible rfl))
  try simp only [Act.put, List.setIfInBounds_toArray, List.set_cons_zero, List.set_cons_succ]
  refine wpAnyH_ready (rs := [7]) (by kernel_rfl) (by simp) ?_
  refine AllReadyH.cons rfl (fun K hK => ?_) AllReadyH.nil
  go_simp
  refine HRo.mono ?_
  rintro e u2 ⟨r, lo, hi, hard, rfl, hst, hb2⟩
  have hgr := hst.get
  have hx2 := (hb2.block _ (Array.getElem?_eq_some_iff.1 hx1).1).trans hx1
  have hsh2 := hsh1.below hb2
  have hbw2 := hbw1.trans (hb2.mono hbw1.size)
  have hrk : r < k := by rw [← HL.out]; exact (List.getElem?_eq_some_iff.1 hgr).1
  clear hb2 hx1 hsh1 hbw1 HRo
  dsimp only
  clear hHeld
  refine hK.out _ _ ?hS46 (fun hHeld => ?rest46)
  case hS46 => exact ⟨hx2, hsh2⟩
  clear hK K
  try simp only [Act.put, List.setIfInBounds_toArray, List.set_cons_zero, List.set_cons_succ]
  refine takeD (i := 8) (d := some 12) (v := ?vT47) rfl rfl (by kernel_rfl) (by kernel_rfl) (by kernel_rfl) (fun _ _ _ h => h) (Or.inl ⟨by rfl, ?hyT47⟩) (by assumption) ?rstT47
  case hyT47 => (intro v hSw; go_simp; (try with_reducible rfl))
  try simp only [Act.put, List.setIfInBounds_toArray, List.set_cons_zero, List.set_cons_succ]
  refine takeD (i := 9) (d := some 13) (v := ?vT48) rfl rfl (by kernel_rfl) (by kernel_rfl) (by kernel_rfl) (fun _ _ _ h => h) (Or.inl ⟨by rfl, ?hyT48⟩) (by assumption) ?rstT48
  case hyT48 => (intro v hSw; go_simp; (try with_reducible rfl))
  try simp only [Act.put, List.setIfInBounds_toArray, List.set_cons_zero, List.set_cons_succ]
  refine takeD (i := 10) (d := some 14) (v := ?vT49) rfl rfl (by kernel_rfl) (by kernel_rfl) (by kernel_rfl) (fun _ _ _ h => h) (Or.inl ⟨by rfl, ?hyT49⟩) (by assumption) ?rstT49
  case hyT49 => (intro v hSw; go_simp; (try with_reducible rfl))
  try simp only [Act.put, List.setIfInBounds_toArray, List.set_cons_zero, List.set_cons_succ]
  refine takeD (i := 11) (d := some 15) (v := ?vT50) rfl rfl (by kernel_rfl) (by kernel_rfl) (by kernel_rfl) (fun _ _ _ h => h) (Or.inl ⟨by rfl, ?hyT50⟩) (by assumption) ?rstT50
  case hyT50 => (intro v hSw; obtain ⟨g', off', ea, hrk', e0, e1, e2, e3, e4, e5⟩ := hSw.2.cells hgr; simp only [Option.some.injEq, Addr.mk.injEq, and_true] at ea; obtain ⟨rfl, rfl⟩ := ea; go_simp; (try with_reducible rfl))
  try simp only [Act.put, List.setIfInBounds_toArray, List.set_cons_zero, List.set_cons_succ]
  refine takeD (i := 12) (d := some 2) (v := ?vT51) rfl rfl (by kernel_rfl) (by kernel_rfl) (by kernel_rfl) (fun _ _ _ h => h) (Or.inl ⟨by rfl, ?hyT51⟩) (by assumption) ?rstT51
  case hyT51 => (intro v hSw; go_simp; (try with_reducible rfl))
  try simp only [Act.put, List.setIfInBounds_toArray, List.set_cons_zero, List.set_cons_succ]
  refine takeD (i := 13) (d := some 3) (v := ?vT52) rfl rfl (by kernel_rfl) (by kernel_rfl) (by kernel_rfl) (fun _ _ _ h => h) (Or.inl ⟨by rfl, ?hyT52⟩) (by assumption) ?rstT52
  case hyT52 => (intro v hSw; go_simp; (try with_reducible rfl))
  try simp only [Act.put, List.setIfInBounds_toArray, List.set_cons_zero, List.set_cons_succ]
  refine wpAnyH_done (by kernel_rfl) ?_ _
  clear hHeld
  go_wp2_with fail
  refine bodyPost_ret (v := .tuple #[.int .i64 (lo : Int), .int .i64 (-1)]) (by simp [results, Tryd.results27, go_sem]) rfl ?_
  exact ⟨lo, rfl, ⟨r, hi, hard, hst⟩, hbw2⟩
set_option maxHeartbeats 8000000 in
theorem endW_any {s : ByteArray} {rs : List Int} {W : Nat} {w : World} {a : Option Addr} {k cap : Nat} (h : Sheet rs W w a k cap) (m at' : Nat) (want how : Int) :
    Calls Tryd.prog 28 #[.agg #[.string s, .int .i64 (m : Int), .slice a k cap, .int .i64 (at' : Int), .int .i64 want, .int .i64 how]] w fun e w' => ∃ q : Nat, e = .returned (.tuple #[.int .i64 (q : Int), .int .i64 (-1)]) ∧ EndP rs W at' q ∧ Below w.heap.size w w' := by
  obtain ⟨g, off, x0, rfl, hg, -⟩ := h.at (i := 0) (by have := h.len; have := List.length_pos_iff.2 (rowsP_ne rs W); omega)
  obtain ⟨w0, hw0⟩ : ∃ V, w.alloc (.cells #[.string s, .int .i64 (m : Int), .slice (some ⟨g, off, none⟩) k cap, .int .i64 (at' : Int), .int .i64 want, .int .i64 how] 62) = V := ⟨_, rfl⟩
  have hb0 : Below w.heap.size w w0 := by rw [← hw0]; exact (Below.refl _ _).alloc (Nat.le_refl _) _
  have hx0 : w0.heap[w.heap.size]? = some (.cells #[.string s, .int .i64 (m : Int), .slice (some ⟨g, off, none⟩) k cap, .int .i64 (at' : Int), .int .i64 want, .int .i64 how] 62) := by rw [← hw0]; exact heap_alloc_new _ _
  have HL : Hid ((rowsP rs W).length = k) := h.len
  obtain ⟨w1, hw1⟩ : ∃ V, w0.drew = V := ⟨_, rfl⟩
  have hb1 : Below w0.heap.size w0 w1 := by rw [← hw1]; exact (Below.refl _ _).drew
  have hx1 := (hb1.block _ (Array.getElem?_eq_some_iff.1 hx0).1).trans hx0
  have hbw1 := hb0.trans (hb1.mono hb0.size)
  have hsh1 := h.below hbw1
  have HRo := rowOf_any hsh1 s m at'
  clear h hg hx0 hb0 hb1
  go_enter Tryd.func28, Tryd.ntmps28
  go_wp2_with fail
  refine wp_region_held_drew (S := (fun v => v.heap[w.heap.size]? = some (.cells #[.string s, .int .i64 (m : Int), .slice (some ⟨g, off, none⟩) k cap, .int .i64 (at' : Int), .int .i64 want, .int .i64 how] 62) ∧ Sheet rs W v (some ⟨g, off, none⟩) k cap)) (by kernel_rfl) ?hSend (fun hHeld => ?restend)
  case hSend => (rw [hw1]; exact ⟨hx1, hsh1⟩)
  rw [hw1] at hHeld ⊢
  clear hw1
  refine takeD (i := 0) (d := some 4) (v := ?vT53) rfl rfl (by kernel_rfl) (by kernel_rfl) (by kernel_rfl) (fun _ _ _ h => h) (Or.inl ⟨by rfl, ?hyT53⟩) (by assumption) ?rstT53
  case hyT53 => (intro v hSw; obtain ⟨s0, s1, s2, s3, s4, s5⟩ := box6 hSw.1; go_simp; (try with_reducible rfl))
  try simp only [Act.put, List.setIfInBounds_toArray, List.set_cons_zero, List.set_cons_succ]
  refine takeD (i := 1) (d := some 5) (v := ?vT54) rfl rfl (by kernel_rfl) (by kernel_rfl) (by kernel_rfl) (fun _ _ _ h => h) (Or.inl ⟨by rfl, ?hyT54⟩) (by assumption) ?rstT54
  case hyT54 => (intro v hSw; obtain ⟨s0, s1, s2, s3, s4, s5⟩ := box6 hSw.1; go_simp; (try with_reducible rfl))
  try simp only [Act.put, List.setIfInBounds_toArray, List.set_cons_zero, List.set_cons_succ]
  refine takeD (i := 2) (d := some 6) (v := ?vT55) rfl rfl (by kernel_rfl) (by kernel_rfl) (by kernel_rfl) (fun _ _ _ h => h) (Or.inl ⟨by rfl, ?hyT55⟩) (by assumption) ?rstT55
  case hyT55 => (intro v hSw; obtain ⟨s0, s1, s2, s3, s4, s5⟩ := box6 hSw.1; go_simp; (try with_reducible rfl))
  try simp only [Act.put, List.setIfInBounds_toArray, List.set_cons_zero, List.set_cons_succ]
  refine takeD (i := 3) (d := some 7) (v := ?vT56) rfl rfl (by kernel_rfl) (by kernel_rfl) (by kernel_rfl) (fun _ _ _ h => h) (Or.inl ⟨by rfl, ?hyT56⟩) (by assumption) ?rstT56
  case hyT56 => (intro v hSw; obtain ⟨s0, s1, s2, s3, s4, s5⟩ := box6 hSw.1; go_simp; (try with_reducible rfl))
  try simp only [Act.put, List.setIfInBounds_toArray, List.set_cons_zero, List.set_cons_succ]
  refine takeD (i := 4) (d := some 8) (v := ?vT57) rfl rfl (by kernel_rfl) (by kernel_rfl) (by kernel_rfl) (fun _ _ _ h => h) (Or.inl ⟨by rfl, ?hyT57⟩) (by assumption) ?rstT57
  case hyT57 => (intro v hSw; obtain ⟨s0, s1, s2, s3, s4, s5⟩ := box6 hSw.1; go_simp; (try with_reducible rfl))
  try simp only [Act.put, List.setIfInBounds_toArray, List.set_cons_zero, List.set_cons_succ]
  refine takeD (i := 5) (d := some 9) (v := ?vT58) rfl rfl (by kernel_rfl) (by kernel_rfl) (by kernel_rfl) (fun _ _ _ h => h) (Or.inl ⟨by rfl, ?hyT58⟩) (by assumption) ?rstT58
  case hyT58 => (intro v hSw; obtain ⟨s0, s1, s2, s3, s4, s5⟩ := box6 hSw.1; go_simp; (try with_reducible rfl))
  try simp only [Act.put, List.setIfInBounds_toArray, List.set_cons_zero, List.set_cons_succ]
  refine takeD (i := 6) (d := some 10) (v := ?vT59) rfl rfl (by kernel_rfl) (by kernel_rfl) (by kernel_rfl) (fun _ _ _ h => h) (Or.inl ⟨by rfl, ?hyT59⟩) (by assumption) ?rstT59
  case hyT59 => (intro v hSw; obtain ⟨s0, s1, s2, s3, s4, s5⟩ := box6 hSw.1; go_simp; (try with_reducible rfl))
  try simp only [Act.put, List.setIfInBounds_toArray, List.set_cons_zero, List.set_cons_succ]
  refine wpAnyH_ready (rs := [7]) (by kernel_rfl) (by simp) ?_
  refine AllReadyH.cons rfl (fun K hK => ?_) AllReadyH.nil
  go_simp
  refine HRo.mono ?_
  rintro e u2 ⟨r, lo, hi, hard, rfl, hst, hb2⟩
  have hgr := hst.get
  have hx2 := (hb2.block _ (Array.getElem?_eq_some_iff.1 hx1).1).trans hx1
  have hsh2 := hsh1.below hb2
  have hbw2 := hbw1.trans (hb2.mono hbw1.size)
  have hrk : r < k := by rw [← HL.out]; exact (List.getElem?_eq_some_iff.1 hgr).1
  clear hb2 hx1 hsh1 hbw1 HRo
  dsimp only
  clear hHeld
  refine hK.out _ _ ?hS60 (fun hHeld => ?rest60)
  case hS60 => exact ⟨hx2, hsh2⟩
  clear hK K
  try simp only [Act.put, List.setIfInBounds_toArray, List.set_cons_zero, List.set_cons_succ]
  refine takeD (i := 8) (d := some 12) (v := ?vT61) rfl rfl (by kernel_rfl) (by kernel_rfl) (by kernel_rfl) (fun _ _ _ h => h) (Or.inl ⟨by rfl, ?hyT61⟩) (by assumption) ?rstT61
  case hyT61 => (intro v hSw; go_simp; (try with_reducible rfl))
  try simp only [Act.put, List.setIfInBounds_toArray, List.set_cons_zero, List.set_cons_succ]
  refine takeD (i := 9) (d := some 13) (v := ?vT62) rfl rfl (by kernel_rfl) (by kernel_rfl) (by kernel_rfl) (fun _ _ _ h => h) (Or.inl ⟨by rfl, ?hyT62⟩) (by assumption) ?rstT62
  case hyT62 => (intro v hSw; obtain ⟨g', off', ea, hrk', e0, e1, e2, e3, e4, e5⟩ := hSw.2.cells hgr; simp only [Option.some.injEq, Addr.mk.injEq, and_true] at ea; obtain ⟨rfl, rfl⟩ := ea; go_simp; (try with_reducible rfl))
  try simp only [Act.put, List.setIfInBounds_toArray, List.set_cons_zero, List.set_cons_succ]
  refine wpAnyH_ready (rs := [10]) (by kernel_rfl) (by simp) ?_
  refine AllReadyH.cons rfl (fun K hK => ?_) AllReadyH.nil
  go_simp
  have hok := rowP_ok hgr
  refine (last_any rs lo hi hard (fun e => by have := hok.2.2.1 e; omega) (by have := hok.2.1; have := hsh2.few; omega) u2).mono ?_
  rintro e u3 ⟨rfl, hb3⟩
  have hx3 := (hb3.block _ (Array.getElem?_eq_some_iff.1 hx2).1).trans hx2
  have hsh3 := hsh2.below hb3
  have hbw3 := hbw2.trans (hb3.mono hbw2.size)
  clear hb3 hx2 hsh2 hbw2
  dsimp only
  clear hHeld
  refine hK.out _ _ ?hS63 (fun hHeld => ?rest63)
  case hS63 => exact ⟨hx3, hsh3⟩
  clear hK K
  try simp only [Act.put, List.setIfInBounds_toArray, List.set_cons_zero, List.set_cons_succ]
  refine takeD (i := 11) (d := some 2) (v := ?vT64) rfl rfl (by kernel_rfl) (by kernel_rfl) (by kernel_rfl) (fun _ _ _ h => h) (Or.inl ⟨by rfl, ?hyT64⟩) (by assumption) ?rstT64
  case hyT64 => (intro v hSw; go_simp; (try with_reducible rfl))
  try simp only [Act.put, List.setIfInBounds_toArray, List.set_cons_zero, List.set_cons_succ]
  refine takeD (i := 12) (d := some 3) (v := ?vT65) rfl rfl (by kernel_rfl) (by kernel_rfl) (by kernel_rfl) (fun _ _ _ h => h) (Or.inl ⟨by rfl, ?hyT65⟩) (by assumption) ?rstT65
  case hyT65 => (intro v hSw; go_simp; (try with_reducible rfl))
  try simp only [Act.put, List.setIfInBounds_toArray, List.set_cons_zero, List.set_cons_succ]
  refine wpAnyH_done (by kernel_rfl) ?_ _
  clear hHeld
  go_wp2_with fail
  refine bodyPost_ret (v := .tuple #[.int .i64 ((lastP hi hard : Nat) : Int), .int .i64 (-1)]) (by simp [results, Tryd.results28, go_sem]) rfl ?_
  exact ⟨_, rfl, ⟨r, lo, hi, hard, hst, rfl⟩, hbw3⟩
end Go.Proofs.YtaphkaodcdpcaaaDoor
