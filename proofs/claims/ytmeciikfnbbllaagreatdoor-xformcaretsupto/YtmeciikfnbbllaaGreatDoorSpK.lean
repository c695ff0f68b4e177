import Derived.Test.YtmeciikfnbbllaaGreatDoorGr6
namespace Go.Proofs.YtmeciikfnbbllaaGreatDoor.Sp
open Go.RowKit Go.Lib
set_option maxRecDepth 100000
def grows (l : List (Int × Int)) (at_ n : Int) : Prop := ∃ r, l.getLast? = some r ∧ at_ < r.2 ∧ 1048576 < r.2 + n
theorem lst_last {b : Int} {l : List (Int × Int)} (h : Norm b l) {r : Int × Int} (hr : l.getLast? = some r) : ∀ x ∈ l, x.2 ≤ r.2 := by
  induction l generalizing b with
  | nil => simp at hr
  | cons y t ih =>
    intro x hx
    cases t with
    | nil =>
      simp only [List.getLast?_singleton, Option.some.injEq] at hr
      subst hr
      simp only [List.mem_singleton] at hx
      subst hx
      exact Int.le_refl _
    | cons z u =>
      rw [List.getLast?_cons_cons] at hr
      have hz := ih h.2.2 hr
      rcases List.mem_cons.1 hx with rfl | hx
      · have h1 := hz z List.mem_cons_self
        have := h.2.2.1
        have := h.2.2.2.1
        omega
      · exact hz x hx
theorem lies_top {l : List (Int × Int)} (h : Lst l) {q : Int} (hq : Lies l q) : 0 ≤ q ∧ q < 1048576 := by
  obtain ⟨r, hr, h1, h2⟩ := hq
  have := h.nonneg r hr
  omega
def throughL (l : List (Int × Int)) (at_ n : Int) : List (Int × Int) := takenL (takenL [] l 0 at_ 0) l at_ 1048576 n
theorem cutL {l : List (Int × Int)} (h : Lst l) (at_ : Int) : Norm (-1) (takenL [] l 0 at_ 0) ∧ ∀ q, Lies (takenL [] l 0 at_ 0) q ↔ Lies l q ∧ q < at_ := by
  have := takenL_all (l := []) (b := -1) (lo := 0) (hi := at_) (d := 0) (norm_los h.norm) trivial (fun r hr => by cases hr) (fun x hx => by omega)
  refine ⟨this.1, fun q => ?_⟩
  rw [this.2 q, show q - 0 = q by omega]
  constructor
  · rintro (h1 | h1)
    · exact absurd h1 (lies_nil _)
    · exact ⟨h1.1, h1.2.2⟩
  · intro h1
    exact .inr ⟨h1.1, (lies_top h h1.1).1, h1.2⟩
theorem throughL_all {l : List (Int × Int)} (h : Lst l) {at_ n : Int} (ha : 0 ≤ at_ ∧ at_ ≤ 1048576) (hn : 0 ≤ n ∧ n ≤ 1048576) :
    Norm (-1) (throughL l at_ n) ∧ ∀ q, Lies (throughL l at_ n) q ↔ (Lies l q ∧ q < at_) ∨ (Lies l (q - n) ∧ at_ ≤ q - n) := by
  obtain ⟨h1, h2⟩ := cutL h at_
  have := takenL_all (lo := at_) (hi := 1048576) (d := n) (norm_los h.norm) h1 (fun r hr x hx => by
    have := (h2 r.1).1 ⟨r, hr, Int.le_refl _, (norm_lt h1 r hr).2⟩
    omega) (fun x hx => by omega)
  refine ⟨this.1, fun q => ?_⟩
  rw [show throughL l at_ n = takenL (takenL [] l 0 at_ 0) l at_ 1048576 n from rfl, this.2 q, h2 q]
  constructor
  · rintro (h | h)
    · exact .inl h
    · exact .inr ⟨h.1, h.2.1⟩
  · rintro (h' | h')
    · exact .inl h'
    · exact .inr ⟨h'.1, h'.2, (lies_top h h'.1).2⟩
def backOldL (l : List (Int × Int)) (at_ n : Int) : List (Int × Int) := takenL (takenL [] l 0 at_ 0) l (at_ + n) 1048576 (-n)
theorem backOldL_all {l : List (Int × Int)} (h : Lst l) {at_ n : Int} (ha : 0 ≤ at_ ∧ at_ ≤ 1048576) :
    Norm (-1) (backOldL l at_ n) ∧ ∀ q, Lies (backOldL l at_ n) q ↔ (Lies l q ∧ q < at_) ∨ (Lies l (q + n) ∧ at_ ≤ q) := by
  obtain ⟨h1, h2⟩ := cutL h at_
  have := takenL_all (lo := at_ + n) (hi := 1048576) (d := -n) (norm_los h.norm) h1 (fun r hr x hx => by
    have := (h2 r.1).1 ⟨r, hr, Int.le_refl _, (norm_lt h1 r hr).2⟩
    omega) (fun x hx => by omega)
  refine ⟨this.1, fun q => ?_⟩
  rw [show backOldL l at_ n = takenL (takenL [] l 0 at_ 0) l (at_ + n) 1048576 (-n) from rfl, this.2 q, h2 q, show q - -n = q + n by omega]
  constructor
  · rintro (h | h)
    · exact .inl h
    · exact .inr ⟨h.1, by omega⟩
  · rintro (h' | h')
    · exact .inl h'
    · exact .inr ⟨h'.1, by omega, (lies_top h h'.1).2⟩
def backInL (l : List (Int × Int)) (at_ n : Int) : List (Int × Int) := takenL [] l at_ (at_ + n) (-at_)
theorem backInL_all {l : List (Int × Int)} (h : Lst l) {at_ n : Int} :
    Norm (-1) (backInL l at_ n) ∧ ∀ q, Lies (backInL l at_ n) q ↔ Lies l (q + at_) ∧ 0 ≤ q ∧ q < n := by
  have := takenL_all (l := []) (b := -1) (lo := at_) (hi := at_ + n) (d := -at_) (norm_los h.norm) trivial (fun r hr => by cases hr) (fun x hx => by omega)
  refine ⟨this.1, fun q => ?_⟩
  rw [show backInL l at_ n = takenL [] l at_ (at_ + n) (-at_) from rfl, this.2 q, show q - -at_ = q + at_ by omega]
  constructor
  · rintro (h1 | h1)
    · exact absurd h1 (lies_nil _)
    · exact ⟨h1.1, by omega, by omega⟩
  · intro h1
    exact .inr ⟨h1.1, by omega, by omega⟩
set_option maxHeartbeats 400000 in
theorem passesEnd_yes {w : World} {a : Option Addr} {n cap : Nat} {l : List (Int × Int)} (h : Rng w a n cap l) (hl : Lst l) {at_ k : Int} (ha : 0 ≤ at_ ∧ at_ ≤ 1048576) (hk : 0 ≤ k ∧ k ≤ 1048576) (hg : grows l at_ k) :
    Calls Tryz.prog 89 #[.slice a n cap, .int .i64 at_, .int .i64 k] w fun e w' => e = .returned (.bool true) ∧ Below w.heap.size w w' := by
  obtain ⟨r, hr, h1, h2⟩ := hg
  have hlen := h.len
  obtain ⟨l0, rfl⟩ := List.getLast?_eq_some_iff.1 hr
  simp only [List.length_append, List.length_cons, List.length_nil] at hlen
  obtain ⟨g, off, rfl, hg, _, hd⟩ := h.cells l0.length (by omega)
  rw [getD_snoc] at hd
  have hb := hl.nonneg r (by simp)
  obtain ⟨b0, b1, b2⟩ := hb
  obtain ⟨x, y⟩ := r
  simp only at *
  subst hlen
  have hfew := hl.few
  simp only [List.length_append, List.length_cons, List.length_nil] at hfew
  generalize l0.length = j at *
  obtain ⟨k1, k2⟩ := hk
  obtain ⟨a1, a2⟩ := ha
  clear hr hl h
  go_enter Tryz.func89, Tryz.ntmps89
  go_wp2_with fail
  go_ret
  exact ⟨rfl, Below.refl _ _⟩
set_option maxHeartbeats 1000000 in
theorem passesEnd_no {w : World} {a : Option Addr} {n cap : Nat} {l : List (Int × Int)} (h : Rng w a n cap l) (hl : Lst l) {at_ k : Int} (ha : 0 ≤ at_ ∧ at_ ≤ 1048576) (hk : 0 ≤ k ∧ k ≤ 1048576) (hg : ¬ grows l at_ k) :
    Calls Tryz.prog 89 #[.slice a n cap, .int .i64 at_, .int .i64 k] w fun e w' => e = .returned (.bool false) ∧ Below w.heap.size w w' := by
  have hlen := h.len
  obtain ⟨k1, k2⟩ := hk
  obtain ⟨a1, a2⟩ := ha
  rcases List.eq_nil_or_concat l with rfl | ⟨l0, ⟨x, y⟩, hl'⟩
  · simp only [List.length_nil] at hlen
    subst hlen
    clear h hl hg
    go_enter Tryz.func89, Tryz.ntmps89
    go_wp2_with fail
    go_ret
    exact ⟨rfl, Below.refl _ _⟩
  · rw [List.concat_eq_append] at hl'
    subst hl'
    have hcs : y ≤ at_ ∨ (at_ < y ∧ y + k ≤ 1048576) := by
      by_cases h1 : at_ < y
      · refine .inr ⟨h1, ?_⟩
        by_cases h2 : 1048576 < y + k
        · exact absurd ⟨(x, y), by simp, h1, h2⟩ hg
        · omega
      · exact .inl (by omega)
    simp only [List.length_append, List.length_cons, List.length_nil] at hlen
    obtain ⟨g, off, rfl, hg', _, hd⟩ := h.cells l0.length (by omega)
    rw [getD_snoc] at hd
    obtain ⟨b0, b1, b2⟩ := hl.nonneg (x, y) (by simp)
    simp only at *
    subst hlen
    have hfew := hl.few
    simp only [List.length_append, List.length_cons, List.length_nil] at hfew
    generalize l0.length = j at *
    clear hl h hg
    rcases hcs with h1 | ⟨h1, h2⟩
    all_goals
      go_enter Tryz.func89, Tryz.ntmps89
      go_wp2_with fail
      go_ret
      first
        | exact ⟨rfl, Below.refl _ _⟩
        | exact ⟨congrArg (fun b => Ending.returned (.bool b)) (by simp; omega), Below.refl _ _⟩
end Go.Proofs.YtmeciikfnbbllaaGreatDoor.Sp
