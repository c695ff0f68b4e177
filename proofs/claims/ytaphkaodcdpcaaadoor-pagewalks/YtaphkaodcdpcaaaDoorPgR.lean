import Derived.Test.YtaphkaodcdpcaaaDoorPgQ
/-! The column of a place; the place at a column. -/
namespace Go.Proofs.YtaphkaodcdpcaaaDoor
open Go.RowKit Go.Lib Go.Shelf
set_option maxRecDepth 100000

/-- A place stands at or ahead of its row's last one. -/
theorem Stands.last {rs : List Int} {W at' r lo hi : Nat} {hard : Bool} (h : Stands rs W at' r lo hi hard) (hat : at' ≤ rs.length) : at' ≤ lastP hi hard := by
  have hlt := (List.getElem?_eq_some_iff.1 h.get).1
  rcases Nat.lt_or_ge (r + 1) (rowsP rs W).length with h1 | h1
  · obtain ⟨y, hy⟩ : ∃ y, (rowsP rs W)[r + 1]? = some y := ⟨_, List.getElem?_eq_getElem h1⟩
    have h2 := h.next y hy
    have h3 := (lo_next h.get hy).1
    rw [h3] at h2
    unfold nxt at h2
    unfold lastP
    cases hard with
    | true => simp at h2 ⊢; omega
    | false => simp at h2 ⊢; omega
  · obtain ⟨lo', hi', hard', hI⟩ := rowI rs W hlt
    have h2 := hI.get
    rw [h.get] at h2
    simp only [Option.some.injEq, Rv.mk.injEq] at h2
    obtain ⟨rfl, rfl, rfl⟩ := h2
    obtain ⟨h3, h4⟩ := hI.last (by omega)
    unfold lastP
    rw [h3]
    simp
    omega
theorem Stands.of {rs : List Int} {W r lo hi : Nat} {hard : Bool} (h : (rowsP rs W)[r]? = some ⟨lo, hi, hard⟩) {q : Nat} (h1 : lo ≤ q) (h2 : q ≤ lastP hi hard) : Stands rs W q r lo hi hard := by
  refine ⟨h, h1, fun y hy => ?_⟩
  have h3 := (lo_next h hy).1
  rw [h3]
  have hr := (rowsP_ok rs W).1 _ (List.mem_of_getElem? h)
  unfold nxt
  unfold lastP at h2
  cases hard with
  | true => simp at h2 ⊢; omega
  | false =>
    have := (hr.soft rfl).1
    have this : lo < hi := this
    simp at h2 ⊢
    omega
theorem rowP_ok {rs : List Int} {W r lo hi : Nat} {hard : Bool} (h : (rowsP rs W)[r]? = some ⟨lo, hi, hard⟩) : lo ≤ hi ∧ hi ≤ rs.length ∧ (hard = false → lo < hi) ∧ lo ≤ lastP hi hard := by
  have hr := (rowsP_ok rs W).1 _ (List.mem_of_getElem? h)
  have h1 : lo ≤ hi := hr.le
  have h2 : hi ≤ rs.length := hr.len
  have h3 : hard = false → lo < hi := fun e => (hr.soft e).1
  refine ⟨h1, h2, h3, ?_⟩
  unfold lastP
  cases hard with
  | true => simp; omega
  | false => have := h3 rfl; simp; omega
theorem Sheet.cells {rs : List Int} {W : Nat} {w : World} {a : Option Addr} {k cap : Nat} (h : Sheet rs W w a k cap) {r lo hi : Nat} {hard : Bool} (hr : (rowsP rs W)[r]? = some ⟨lo, hi, hard⟩) : ∃ g off, a = some ⟨g, off, none⟩ ∧ r < k ∧ w.cell? ⟨g, off + r * 6, none⟩ = some (.int .i64 (lo : Int)) ∧ w.cell? ⟨g, off + r * 6 + 1, none⟩ = some (.int .i64 (hi : Int)) ∧ w.cell? ⟨g, off + r * 6 + 2, none⟩ = some (.int .i64 ((wd rs lo hi : Nat) : Int)) ∧ w.cell? ⟨g, off + r * 6 + 3, none⟩ = some (.bool hard) ∧ w.cell? ⟨g, off + r * 6 + 4, none⟩ = some (.int .i64 ((posOf rs lo : Nat) : Int)) ∧ w.cell? ⟨g, off + r * 6 + 5, none⟩ = some (.int .i64 ((posOf rs hi : Nat) : Int)) := by
  have hrk : r < k := by rw [← h.len]; exact (List.getElem?_eq_some_iff.1 hr).1
  obtain ⟨g, off, x, rfl, hg, hx, hc⟩ := h.at hrk
  rw [hr] at hx
  obtain rfl := Option.some.inj hx
  exact ⟨g, off, rfl, hrk, hc 0 _ rfl, hc 1 _ rfl, hc 2 _ rfl, hc 3 _ rfl, hc 4 _ rfl, hc 5 _ rfl⟩
set_option maxHeartbeats 2000000 in
theorem has_any (s : ByteArray) (n : Int) (v : Option Addr) (k cap : Nat) (at' : Int) (w : World) :
    Calls Tryd.prog 23 #[.agg #[.string s, .int .i64 n, .slice v k cap], .int .i64 at'] w fun e w' => e = .returned (.bool (decide (0 ≤ at' ∧ at' ≤ n))) ∧ Below w.heap.size w w' := by
  by_cases h0 : 0 ≤ at'
  · have hz : decide (0 ≤ at') = true := decide_eq_true h0
    have HE : Hid (decide (0 ≤ at' ∧ at' ≤ n) = decide (at' ≤ n)) := by show _ = _; congr 1; simp [h0]
    go_enter Tryd.func23, Tryd.ntmps23
    go_wp2_with fail
    go_ret
    exact ⟨congrArg (fun b => Ending.returned (.bool b)) HE.out.symm, (Below.refl _ _).alloc (Nat.le_refl _) _⟩
  · have hz : decide (0 ≤ at') = false := decide_eq_false h0
    have HE : Hid (decide (0 ≤ at' ∧ at' ≤ n) = false) := decide_eq_false (fun h => h0 h.1)
    go_enter Tryd.func23, Tryd.ntmps23
    go_wp2_with fail
    go_ret
    exact ⟨by first | rfl | exact congrArg (fun b => Ending.returned (.bool b)) HE.out.symm, (Below.refl _ _).alloc (Nat.le_refl _) _⟩
set_option maxHeartbeats 2000000 in
theorem hasRow_any (s : ByteArray) (n : Int) (v : Option Addr) (k cap : Nat) (r : Int) (w : World) :
    Calls Tryd.prog 34 #[.agg #[.string s, .int .i64 n, .slice v k cap], .int .i64 r] w fun e w' => e = .returned (.bool (decide (0 ≤ r ∧ r < k))) ∧ Below w.heap.size w w' := by
  by_cases h0 : 0 ≤ r
  · have hz : decide (0 ≤ r) = true := decide_eq_true h0
    have HE : Hid (decide (0 ≤ r ∧ r < k) = decide (r < k)) := by show _ = _; congr 1; simp [h0]
    go_enter Tryd.func34, Tryd.ntmps34
    go_wp2_with fail
    go_ret
    exact ⟨congrArg (fun b => Ending.returned (.bool b)) HE.out.symm, (Below.refl _ _).alloc (Nat.le_refl _) _⟩
  · have hz : decide (0 ≤ r) = false := decide_eq_false h0
    have HE : Hid (decide (0 ≤ r ∧ r < k) = false) := decide_eq_false (fun h => h0 h.1)
    go_enter Tryd.func34, Tryd.ntmps34
    go_wp2_with fail
    go_ret
    exact ⟨by first | rfl | exact congrArg (fun b => Ending.returned (.bool b)) HE.out.symm, (Below.refl _ _).alloc (Nat.le_refl _) _⟩
set_option maxHeartbeats 4000000 in
theorem find1_any {w : World} {a : Option Addr} {n cap : Nat} {l : List Int} (h : Rw int1 1 w a n cap l) {bs bp : Nat} {col : Int} (hs : w.heap[bs]? = some (.cells #[.slice a n cap] 22)) (hp : w.heap[bp]? = some (.cells #[.int .i64 col] 3)) (i : Nat) (hi : i < n) :
    Calls Tryd.prog 54 #[.int .i64 (i : Int), .pointer (some ⟨bs, 0, none⟩), .pointer (some ⟨bp, 0, none⟩)] w fun e w' => e = .returned (.bool (decide (l.getD i 0 > col))) ∧ Below w.heap.size w w' := by
  obtain ⟨g, off, x, rfl, hg, hx, hc⟩ := h.at i hi
  have e : l.getD i 0 = x := by rw [List.getD_eq_getElem?_getD, hx]; rfl
  rw [e]
  have c0 : w.cell? ⟨g, off + i, none⟩ = some (.int .i64 x) := by have := hc 0 _ rfl; simpa using this
  have k2 : w.cell? ⟨bs, 0, none⟩ = some (.slice (some ⟨g, off, none⟩) n cap) := by rw [Lib.cell_of_heap hs]; rfl
  have k0 : w.cell? ⟨bp, 0, none⟩ = some (.int .i64 col) := by rw [Lib.cell_of_heap hp]; rfl
  clear h hc hx hs hp e
  go_enter Tryd.func54, Tryd.ntmps54
  go_wp2_with fail
  go_quiet (fail)
  go_wp2_with fail
  go_ret
  exact ⟨rfl, below_drewN (Below.refl _ _) _⟩
/-- The place that find answers. -/
structure FindP (rs : List Int) (lo hi : Nat) (hard : Bool) (col : Int) (q : Nat) : Prop where
  ge : lo ≤ q
  last : q ≤ lastP hi hard
  at_ : ((wd rs lo q : Nat) : Int) ≤ col
  next : q < lastP hi hard → col < ((wd rs lo (q + 1) : Nat) : Int)
set_option maxHeartbeats 8000000 in
theorem find_any {s : ByteArray} {rs : List Int} (ht : IsText s rs) {W : Nat} {w : World} {a : Option Addr} {k cap : Nat} (h : Sheet rs W w a k cap) (hP : PTab w) (n : Int) {r lo hi : Nat} {hard : Bool} (hr : (rowsP rs W)[r]? = some ⟨lo, hi, hard⟩) (col : Int) (hcol : 0 ≤ col) :
    Calls Tryd.prog 35 #[.agg #[.string s, .int .i64 n, .slice a k cap], .int .i64 (r : Int), .int .i64 col] w fun e w' => ∃ q : Nat, e = .returned (.int .i64 (q : Int)) ∧ FindP rs lo hi hard col q ∧ Below w.heap.size w w' := by
  obtain ⟨hle, hhi, hh, hlp⟩ := rowP_ok hr
  have hfew := h.few
  obtain ⟨g, off, rfl, hrk, d0, d1, d2, d3, d4, d5⟩ := h.cells hr
  obtain ⟨w0, hw0⟩ : ∃ V, (w.alloc (.cells #[.string s, .int .i64 n, .slice (some ⟨g, off, none⟩) k cap] 54)).alloc (.cells #[.int .i64 col] 3) = V := ⟨_, rfl⟩
  have hb0 : Below w.heap.size w w0 := hw0 ▸ (((Below.refl _ w).alloc (Nat.le_refl _) _).alloc (by simp) _)
  have hs0 : w0.heap.size = w.heap.size + 2 := by rw [← hw0]; simp
  have hx0 : w0.heap[w.heap.size]? = some (.cells #[.string s, .int .i64 n, .slice (some ⟨g, off, none⟩) k cap] 54) := by
    rw [← hw0]
    simp only [World.alloc, Array.getElem?_push, Array.size_push]
    rw [if_neg (by omega), if_pos trivial]
  have hc0 : w0.heap[w.heap.size + 1]? = some (.cells #[.int .i64 col] 3) := by rw [← hw0]; simp only [World.alloc, Array.getElem?_push, Array.size_push]; simp
  obtain ⟨_, _, _, _, e0, e1, e2, e3, e4, e5⟩ := (h.below hb0).cells hr
  rename_i g' off' ea _
  simp only [Option.some.injEq, Addr.mk.injEq, and_true] at ea
  obtain ⟨rfl, rfl⟩ := ea
  obtain ⟨w1, hw1⟩ : ∃ V, w0.alloc (.cells #[.int .i64 (lo : Int), .int .i64 (hi : Int), .int .i64 ((wd rs lo hi : Nat) : Int), .bool hard, .int .i64 ((posOf rs lo : Nat) : Int), .int .i64 ((posOf rs hi : Nat) : Int)] 74) = V := ⟨_, rfl⟩
  have hb1 : Below w0.heap.size w0 w1 := by rw [← hw1]; exact (Below.refl _ _).alloc (Nat.le_refl _) _
  have hx1 : w1.heap[w0.heap.size]? = some (.cells #[.int .i64 (lo : Int), .int .i64 (hi : Int), .int .i64 ((wd rs lo hi : Nat) : Int), .bool hard, .int .i64 ((posOf rs lo : Nat) : Int), .int .i64 ((posOf rs hi : Nat) : Int)] 74) := by rw [← hw1]; exact heap_alloc_new _ _
  have hbw1 := hb0.trans (hb1.mono hb0.size)
  have HC : Calls Tryd.prog 43 #[.agg #[.string s, .int .i64 n, .slice (some ⟨g, off, none⟩) k cap], rowArg rs lo hi hard] w1 fun e w' => ∃ a' cap', e = .returned (.slice a' (lastP hi hard - lo + 1) cap') ∧ Rw int1 1 w' a' (lastP hi hard - lo + 1) cap' (colsL rs lo (lastP hi hard - lo + 1)) ∧ Below w1.heap.size w1 w' := columns_any ht hfew hle hhi hh (hP.below hbw1) n _ _ _
  unfold rowArg rowVal at HC
  obtain ⟨LP, hLP⟩ : ∃ LP, lastP hi hard = LP := ⟨_, rfl⟩
  rw [hLP] at HC hlp
  obtain ⟨m, hm⟩ : ∃ m, LP - lo + 1 = m := ⟨_, rfl⟩
  rw [hm] at HC
  have hmb : m ≤ 4294967296 := by
    have : LP ≤ hi := by rw [← hLP]; unfold lastP; split <;> omega
    omega
  have hmf : ∀ (fn : Fn) (first cap : Array Value) (w : World), (Instr.makeFunc fn first cap).run Tryd.prog w = .ok (.func fn first cap) w := fun _ _ _ _ => rfl
  have HF : Hid (∀ i, Found (fun j => decide ((colsL rs lo m).getD j 0 > col)) m i → 0 < i ∧ i ≤ m ∧ FindP rs lo hi hard col (lo + i - 1)) := fun i hf => by
    obtain ⟨f1, f2, f3⟩ := hf
    have gd : ∀ j, j < m → (colsL rs lo m).getD j 0 = ((wd rs lo (lo + j) : Nat) : Int) := fun j hj => by rw [List.getD_eq_getElem?_getD, colsL_get rs lo hj]; rfl
    have hi0 : 0 < i := by
      rcases Nat.eq_zero_or_pos i with h0 | h0
      · subst h0
        have h1 := f3 (by omega)
        dsimp only at h1
        rw [gd 0 (by omega), Nat.add_zero, wd_self] at h1
        simp only [decide_eq_true_eq] at h1
        omega
      · exact h0
    refine ⟨hi0, f1, by omega, by rw [hLP]; omega, ?_, fun hq => ?_⟩
    · have h1 := f2 hi0
      dsimp only at h1
      rw [gd (i - 1) (by omega)] at h1
      simp only [decide_eq_false_iff_not] at h1
      rw [show lo + i - 1 = lo + (i - 1) by omega]
      omega
    · rw [hLP] at hq
      have h1 := f3 (by omega)
      dsimp only at h1
      rw [gd i (by omega)] at h1
      simp only [decide_eq_true_eq] at h1
      rw [show lo + i - 1 + 1 = lo + i by omega]
      exact h1
  have HX : Hid (w1.heap[w.heap.size + 1]? = some (.cells #[.int .i64 col] 3) ∧ w1.heap[w0.heap.size]? = some (.cells #[.int .i64 (lo : Int), .int .i64 (hi : Int), .int .i64 ((wd rs lo hi : Nat) : Int), .bool hard, .int .i64 ((posOf rs lo : Nat) : Int), .int .i64 ((posOf rs hi : Nat) : Int)] 74) ∧ Below w.heap.size w w1 ∧ w0.heap.size = w.heap.size + 2 ∧ w0.heap.size < w1.heap.size) := ⟨(hb1.block _ (by omega)).trans hc0, hx1, hbw1, hs0, (Array.getElem?_eq_some_iff.1 hx1).1⟩
  obtain ⟨c0, c1, c2⟩ := box3 hx0
  obtain ⟨b0, b1, b2⟩ := box3 ((hb1.block _ (Array.getElem?_eq_some_iff.1 hx0).1).trans hx0)
  obtain ⟨p0, p1, p2, p3, p4, p5⟩ := box6 hx1
  clear h hP hr hx0 hc0 hb0 hb1 hbw1 hs0 ht d0 d1 d2 d3 d4 d5 hx1
  generalize ((wd rs lo hi : Nat) : Int) = cc at *
  generalize ((posOf rs lo : Nat) : Int) = f at *
  generalize ((posOf rs hi : Nat) : Int) = tt at *
  go_enter Tryd.func35, Tryd.ntmps35
  go_wp2_with fail
  refine HC.mono ?_
  rintro e w2 ⟨a', cap', rfl, hRw, hb2⟩
  obtain ⟨w3, hw3⟩ : ∃ V, w2.alloc (.cells #[.slice a' m cap'] 22) = V := ⟨_, rfl⟩
  have hb3 : Below w2.heap.size w2 w3 := by rw [← hw3]; exact (Below.refl _ _).alloc (Nat.le_refl _) _
  have hx3 : w3.heap[w2.heap.size]? = some (.cells #[.slice a' m cap'] 22) := by rw [← hw3]; exact heap_alloc_new _ _
  have hb13 : Below w1.heap.size w1 w3 := hb2.trans (hb3.mono hb2.size)
  have hs3 := hb13.size
  have hc3 := (hb13.block _ (by have := HX.out.2.2.2.2; have := HX.out.2.2.2.1; omega)).trans HX.out.1
  have hr3 := (hb13.block _ HX.out.2.2.2.2).trans HX.out.2.1
  have hbx : ∀ {V : World} {b : Nat} {T : TypeId} {cs : Array Value}, w3.heap[b]? = some (.cells cs T) → Below w3.heap.size w3 V → V.heap[b]? = some (.cells cs T) := fun hb hV => (hV.block _ (Array.getElem?_eq_some_iff.1 hb).1).trans hb
  have T1 : Calls Tryd.prog 41 #[.int .i64 (m : Int), .func (.func 54) #[] #[.pointer (some ⟨w2.heap.size, 0, none⟩), .pointer (some ⟨w.heap.size + 1, 0, none⟩)]] w3 fun e w' => ∃ i : Nat, e = .returned (.int .i64 (i : Int)) ∧ Found (fun j => decide ((colsL rs lo m).getD j 0 > col)) m i ∧ Below w3.heap.size w3 w' :=
    search_any _ _ m hmb _ w3 (enters_of Tryd.func54 (by kernel_rfl) rfl) (fun j X hj hX => find1_any ((hRw.below hb3).below hX) (hbx hx3 hX) (hbx hc3 hX) j hj)
  have q0 : w3.cell? ⟨w2.heap.size, 0, none⟩ = some (.slice a' m cap') := by rw [Lib.cell_of_heap hx3]; rfl
  have HR3 : Hid (∀ V, Below w3.heap.size w3 V → V.cell? ⟨w0.heap.size, 0, none⟩ = some (.int .i64 (lo : Int))) := fun V hV => (box6 (hbx hr3 hV)).1
  have HB3 : Hid (Below w.heap.size w w3) := HX.out.2.2.1.trans (hb13.mono HX.out.2.2.1.size)
  clear hRw hb2 hb3 hx3 hb13 hs3 hc3 hr3 hbx HC HX b0 b1 b2 p0 p1 p2 p3 p4 p5 c0 c1 c2 e0 e1 e2 e3 e4 e5
  go_wp2_with fail
  refine T1.mono ?_
  rintro e w4 ⟨i, rfl, hf, hb4⟩
  obtain ⟨hi0, him, hFP⟩ := HF.out i hf
  have s0 := HR3.out w4 hb4
  have y1 : IntKind.i64.wrap ((lo : Int) + i) = (lo : Int) + i := IntWalk.i64_in _ (by omega)
  have y2 : IntKind.i64.wrap ((lo : Int) + i - 1) = ((lo + i - 1 : Nat) : Int) := by rw [IntWalk.i64_in _ (by omega)]; omega
  have HN : Hid (FindP rs lo hi hard col (lo + i - 1) ∧ Below w.heap.size w w4) := ⟨hFP, HB3.out.trans (hb4.mono HB3.out.size)⟩
  generalize lo + i - 1 = q at *
  clear T1 hf hb4 hFP HR3 HB3 HF q0
  go_wp2_with fail
  go_ret
  exact ⟨q, rfl, HN.out⟩
end Go.Proofs.YtaphkaodcdpcaaaDoor
