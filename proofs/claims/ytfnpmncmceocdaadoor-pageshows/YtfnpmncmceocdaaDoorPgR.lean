import Derived.Test.YtfnpmncmceocdaaDoorPgQ
/-! The column of a place; the place at a column. -/
namespace Go.Proofs.YtfnpmncmceocdaaDoor
open Go.RowKit Go.Lib Go.Shelf
set_option maxRecDepth 100000

/-- A place stands at or ahead of its row's last one. -/
theorem Stands.last {rs : List Int} {W at' r lo hi : Nat} {hard : Bool} (h : Stands rs W at' r lo hi hard) (hat : at' ≤ rs.length) : at' ≤ lastP hi hard := by
  have hlt := (List.getElem?_eq_some_iff.1 h.get).1
  rcases Nat.lt_or_ge (r + 1) (rowsP rs W).length with h1 | h1
  · obtain ⟨y, hy⟩ : ∃ y, (rowsP rs W)[r + 1]? = some y := ⟨_, List.getElem?_eq_getElem h1⟩
    have h2 := h.next y hy
    have h3 := (lo_next h.get hy).1
    rw [h3] at h2
    unfold nxt at h2
    unfold lastP
    cases hard with
    | true => simp at h2 ⊢; omega
    | false => simp at h2 ⊢; omega
  · obtain ⟨lo', hi', hard', hI⟩ := rowI rs W hlt
    have h2 := hI.get
    rw [h.get] at h2
    simp only [Option.some.injEq, Rv.mk.injEq] at h2
    obtain ⟨rfl, rfl, rfl⟩ := h2
    obtain ⟨h3, h4⟩ := hI.last (by omega)
    unfold lastP
    rw [h3]
    simp
    omega
theorem Stands.of {rs : List Int} {W r lo hi : Nat} {hard : Bool} (h : (rowsP rs W)[r]? = some ⟨lo, hi, hard⟩) {q : Nat} (h1 : lo ≤ q) (h2 : q ≤ lastP hi hard) : Stands rs W q r lo hi hard := by
  refine ⟨h, h1, fun y hy => ?_⟩
  have h3 := (lo_next h hy).1
  rw [h3]
  have hr := (rowsP_ok rs W).1 _ (List.mem_of_getElem? h)
  unfold nxt
  unfold lastP at h2
  cases hard with
  | true => simp at h2 ⊢; omega
  | false =>
    have := (hr.soft rfl).1
    have this : lo < hi := this
    simp at h2 ⊢
    omega
theorem rowP_ok {rs : List Int} {W r lo hi : Nat} {hard : Bool} (h : (rowsP rs W)[r]? = some ⟨lo, hi, hard⟩) : lo ≤ hi ∧ hi ≤ rs.length ∧ (hard = false → lo < hi) ∧ lo ≤ lastP hi hard := by
  have hr := (rowsP_ok rs W).1 _ (List.mem_of_getElem? h)
  have h1 : lo ≤ hi := hr.le
  have h2 : hi ≤ rs.length := hr.len
  have h3 : hard = false → lo < hi := fun e => (hr.soft e).1
  refine ⟨h1, h2, h3, ?_⟩
  unfold lastP
  cases hard with
  | true => simp; omega
  | false => have := h3 rfl; simp; omega
theorem Sheet.cells {rs : List Int} {W : Nat} {w : World} {a : Option Addr} {k cap : Nat} (h : Sheet rs W w a k cap) {r lo hi : Nat} {hard : Bool} (hr : (rowsP rs W)[r]? = some ⟨lo, hi, hard⟩) : ∃ g off, a = some ⟨g, off, none⟩ ∧ r < k ∧ w.cell? ⟨g, off + r * 6, none⟩ = some (.int .i64 (lo : Int)) ∧ w.cell? ⟨g, off + r * 6 + 1, none⟩ = some (.int .i64 (hi : Int)) ∧ w.cell? ⟨g, off + r * 6 + 2, none⟩ = some (.int .i64 ((wd rs lo hi : Nat) : Int)) ∧ w.cell? ⟨g, off + r * 6 + 3, none⟩ = some (.bool hard) ∧ w.cell? ⟨g, off + r * 6 + 4, none⟩ = some (.int .i64 ((posOf rs lo : Nat) : Int)) ∧ w.cell? ⟨g, off + r * 6 + 5, none⟩ = some (.int .i64 ((posOf rs hi : Nat) : Int)) := by
  have hrk : r < k := by rw [← h.len]; exact (List.getElem?_eq_some_iff.1 hr).1
  obtain ⟨g, off, x, rfl, hg, hx, hc⟩ := h.at hrk
  rw [hr] at hx
  obtain rfl := Option.some.inj hx
  exact ⟨g, off, rfl, hrk, hc 0 _ rfl, hc 1 _ rfl, hc 2 _ rfl, hc 3 _ rfl, hc 4 _ rfl, hc 5 _ rfl⟩
set_option maxHeartbeats 2000000 in
theorem has_any (s : ByteArray) (n : Int) (v : Option Addr) (k cap : Nat) (at' : Int) (w : World) :
    Calls Tryd.prog 15 #[.agg #[.string s, .int .i64 n, .slice v k cap], .int .i64 at'] w fun e w' => e = .returned (.bool (decide (0 ≤ at' ∧ at' ≤ n))) ∧ Below w.heap.size w w' := by
  by_cases h0 : 0 ≤ at'
  · have hz : decide (0 ≤ at') = true := decide_eq_true h0
    have HE : Hid (decide (0 ≤ at' ∧ at' ≤ n) = decide (at' ≤ n)) := by show _ = _; congr 1; simp [h0]
    go_enter Tryd.func15, Tryd.ntmps15
    go_wp2_with fail
    go_ret
    exact ⟨congrArg (fun b => Ending.returned (.bool b)) HE.out.symm, (Below.refl _ _).alloc (Nat.le_refl _) _⟩
  · have hz : decide (0 ≤ at') = false := decide_eq_false h0
    have HE : Hid (decide (0 ≤ at' ∧ at' ≤ n) = false) := decide_eq_false (fun h => h0 h.1)
    go_enter Tryd.func15, Tryd.ntmps15
    go_wp2_with fail
    go_ret
    exact ⟨by first | rfl | exact congrArg (fun b => Ending.returned (.bool b)) HE.out.symm, (Below.refl _ _).alloc (Nat.le_refl _) _⟩
set_option maxHeartbeats 2000000 in
theorem hasRow_any (s : ByteArray) (n : Int) (v : Option Addr) (k cap : Nat) (r : Int) (w : World) :
    Calls Tryd.prog 18 #[.agg #[.string s, .int .i64 n, .slice v k cap], .int .i64 r] w fun e w' => e = .returned (.bool (decide (0 ≤ r ∧ r < k))) ∧ Below w.heap.size w w' := by
  by_cases h0 : 0 ≤ r
  · have hz : decide (0 ≤ r) = true := decide_eq_true h0
    have HE : Hid (decide (0 ≤ r ∧ r < k) = decide (r < k)) := by show _ = _; congr 1; simp [h0]
    go_enter Tryd.func18, Tryd.ntmps18
    go_wp2_with fail
    go_ret
    exact ⟨congrArg (fun b => Ending.returned (.bool b)) HE.out.symm, (Below.refl _ _).alloc (Nat.le_refl _) _⟩
  · have hz : decide (0 ≤ r) = false := decide_eq_false h0
    have HE : Hid (decide (0 ≤ r ∧ r < k) = false) := decide_eq_false (fun h => h0 h.1)
    go_enter Tryd.func18, Tryd.ntmps18
    go_wp2_with fail
    go_ret
    exact ⟨by first | rfl | exact congrArg (fun b => Ending.returned (.bool b)) HE.out.symm, (Below.refl _ _).alloc (Nat.le_refl _) _⟩
/-- The place that find answers. -/
structure FindP (rs : List Int) (lo hi : Nat) (hard : Bool) (col : Int) (q : Nat) : Prop where
  ge : lo ≤ q
  last : q ≤ lastP hi hard
  at_ : ((wd rs lo q : Nat) : Int) ≤ col
  next : q < lastP hi hard → col < ((wd rs lo (q + 1) : Nat) : Int)
end Go.Proofs.YtfnpmncmceocdaaDoor
