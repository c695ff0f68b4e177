import Derived.Test.YtmdnmhdimfglaaaGreatDoorGaB
import Derived.Deep.DeepCutAuto
namespace Go.Proofs.YtmdnmhdimfglaaaGreatDoor.Sp
open Go.RowKit Go.Lib
set_option maxRecDepth 100000
theorem takenL_snoc (l a : List (Int × Int)) (x : Int × Int) (lo hi d : Int) : takenL l (a ++ [x]) lo hi d = addedL (takenL l a lo hi d) (max x.1 lo + d) (min x.2 hi + d) := by
  simp [takenL, List.foldl_append]
theorem take_getD (l : List (Int × Int)) (j : Nat) (hj : j < l.length) : l.take (j + 1) = l.take j ++ [l.getD j (0, 0)] := by
  rw [List.getD_eq_getElem?_getD, List.getElem?_eq_getElem hj]
  exact List.take_succ_eq_append_getElem hj
set_option maxHeartbeats 1000000 in
theorem taken_any {w : World} {B : Nat} {a : Option Addr} {n cap : Nat} {l : List (Int × Int)} (h : Own w B (.slice a n cap) l) (hB : B ≤ w.heap.size) {b : Option Addr} {m capb : Nat} {k : List (Int × Int)} (hk : Rng w b m capb k) (hu : Under B b m)
    (lo hi d : Int) (hn : n ≤ 2097152) (hm : m ≤ 2097152) (hr : ∀ r ∈ k, -4611686018427387904 ≤ r.1 ∧ r.1 ≤ 4611686018427387903 ∧ -4611686018427387904 ≤ r.2 ∧ r.2 ≤ 4611686018427387903)
    (hlo : -4611686018427387904 ≤ lo ∧ lo ≤ 4611686018427387903) (hhi : -4611686018427387904 ≤ hi ∧ hi ≤ 4611686018427387903) (hd : -4611686018427387904 ≤ d ∧ d ≤ 4611686018427387903) :
    Calls Tryz.prog 87 #[.slice a n cap, .slice b m capb, .int .i64 lo, .int .i64 hi, .int .i64 d] w fun e w' => ∃ a' n' cap', e = .returned (.slice a' n' cap') ∧ Own w' B (.slice a' n' cap') (takenL l k lo hi d) ∧ Below B w w' := by
  have hlen := hk.len
  have hroom := hk.room
  have hln := h.rng.len
  have hmx := max_run
  have hmn := min_run
  obtain ⟨l1, l2⟩ := hlo
  obtain ⟨h1, h2⟩ := hhi
  obtain ⟨d1, d2⟩ := hd
  have HR : Hid (∀ r ∈ k, -4611686018427387904 ≤ r.1 ∧ r.1 ≤ 4611686018427387903 ∧ -4611686018427387904 ≤ r.2 ∧ r.2 ≤ 4611686018427387903) := hr
  clear hr
  go_enter Tryz.func87, Tryz.ntmps87
  go_wp2_with fail
  go_loopw [0, 15] (fun v i w' => ∃ (j : Nat) (a' : Option Addr) (n' cap' : Nat), j ≤ m ∧ i = .int .i64 j ∧ v = .slice a' n' cap' ∧ Own w' B (.slice a' n' cap') (takenL l (k.take j) lo hi d) ∧ Below B w w') (fun _ i _ => m - (RowKit.intOf i).toNat)
  case atStart => exact ⟨0, a, n, cap, Nat.zero_le _, rfl, rfl, h, Below.refl _ _⟩
  case round =>
    obtain ⟨j, a', n', cap', hjm, rfl, rfl, ho, hb⟩ := hrel
    have hsz := hb.size
    by_cases hj : j < m
    · obtain ⟨g, off, rfl, hg, hc, hd⟩ := hk.cells j hj
      have hgB := hu (by omega) g off rfl
      have c0 := (hb.cell (p := ⟨g, off + j * 2, none⟩) hgB).trans hc
      have c1 := (hb.cell (p := ⟨g, off + j * 2 + 1, none⟩) hgB).trans hd
      have hmem : k.getD j (0, 0) ∈ k := by
        rw [List.getD_eq_getElem?_getD, List.getElem?_eq_getElem (by omega)]
        exact List.getElem_mem _
      obtain ⟨r1, r2, r3, r4⟩ := HR.out _ hmem
      have hnl := ho.rng.len
      have hle := takenL_length l (k.take j) lo hi d
      rw [List.length_take] at hle
      have HT : Hid (takenL l (k.take (j + 1)) lo hi d = addedL (takenL l (k.take j) lo hi d) (max (k.getD j (0, 0)).1 lo + d) (min (k.getD j (0, 0)).2 hi + d)) := by
        show _ = _
        rw [take_getD k j (by omega), takenL_snoc]
      have hn' : n' ≤ 8388608 := by omega
      clear hnl hle hmem hc hd
      generalize (k.getD j (0, 0)).1 = x at *
      generalize (k.getD j (0, 0)).2 = y at *
      have b1 : -9223372036854775808 ≤ max x lo + d ∧ max x lo + d ≤ 9223372036854775807 := by omega
      have b2 : -9223372036854775808 ≤ min y hi + d ∧ min y hi + d ≤ 9223372036854775807 := by omega
      have HA := fun (W : World) (hO : Own W B (.slice a' n' cap') (takenL l (k.take j) lo hi d)) (hBW : B ≤ W.heap.size) => added_any hO hBW (max x lo + d) (min y hi + d) hn'
      go_wp2_with fail
      refine (HA _ ((ho.below ((Below.refl _ _).alloc (Nat.le_refl _) _))) (by simp; omega)).mono ?_
      rintro e w2 ⟨a2, n2, cap2, rfl, ho2, hb2⟩
      rw [← HT.out] at ho2
      have hB2 : Below B w w2 := (hb.alloc (by omega) _).trans hb2
      clear hb2 HA HT
      go_wp2_with fail
      go_roundw
      case rel => exact ⟨j + 1, a2, n2, cap2, by omega, by go_num, rfl, ho2, hB2⟩
      case measure => simp [RowKit.intOf]; omega
    · have e1 : k.take j = k := List.take_of_length_le (by omega)
      rw [e1] at ho
      go_wp2_with fail
      go_ret
      exact ⟨_, _, _, rfl, ho, hb⟩
set_option maxHeartbeats 400000 in
theorem bounded_any {a : Option Addr} {n cap : Nat} {w : World} :
    Calls Tryz.prog 88 #[.slice a n cap] w fun e w' => e = .returned (.tuple (if 32768 < n then #[.slice none 0 0, .int .i64 21] else #[.slice a n cap, .int .i64 0])) ∧ w' = w := by
  by_cases h : 32768 < n
  · rw [if_pos h]
    go_enter Tryz.func88, Tryz.ntmps88
    go_wp2_with fail
    go_ret2
    exact ⟨rfl, rfl⟩
  · rw [if_neg h]
    go_enter Tryz.func88, Tryz.ntmps88
    go_wp2_with fail
    go_ret2
    exact ⟨rfl, rfl⟩
end Go.Proofs.YtmdnmhdimfglaaaGreatDoor.Sp

namespace Go.Proofs.YtmdnmhdimfglaaaGreatDoor.Sp
open Go.RowKit Go.Lib
set_option maxRecDepth 100000
def Answer (B : Nat) (e : Ending) (w' : World) (U : List (Int × Int)) : Prop :=
  (32768 < U.length ∧ e = .returned (.tuple #[.slice none 0 0, .int .i64 21])) ∨ (U.length ≤ 32768 ∧ ∃ a cap, e = .returned (.tuple #[.slice a U.length cap, .int .i64 0]) ∧ Own w' B (.slice a U.length cap) U)
end Go.Proofs.YtmdnmhdimfglaaaGreatDoor.Sp

namespace Go.Proofs.YtmdnmhdimfglaaaGreatDoor.Sp
open Go.RowKit Go.Lib
set_option maxRecDepth 100000
def grows (l : List (Int × Int)) (at_ n : Int) : Prop := ∃ r, l.getLast? = some r ∧ at_ < r.2 ∧ 1048576 < r.2 + n
theorem lst_last {b : Int} {l : List (Int × Int)} (h : Norm b l) {r : Int × Int} (hr : l.getLast? = some r) : ∀ x ∈ l, x.2 ≤ r.2 := by
  induction l generalizing b with
  | nil => simp at hr
  | cons y t ih =>
    intro x hx
    cases t with
    | nil =>
      simp only [List.getLast?_singleton, Option.some.injEq] at hr
      subst hr
      simp only [List.mem_singleton] at hx
      subst hx
      exact Int.le_refl _
    | cons z u =>
      rw [List.getLast?_cons_cons] at hr
      have hz := ih h.2.2 hr
      rcases List.mem_cons.1 hx with rfl | hx
      · have h1 := hz z List.mem_cons_self
        have := h.2.2.1
        have := h.2.2.2.1
        omega
      · exact hz x hx
theorem lies_top {l : List (Int × Int)} (h : Lst l) {q : Int} (hq : Lies l q) : 0 ≤ q ∧ q < 1048576 := by
  obtain ⟨r, hr, h1, h2⟩ := hq
  have := h.nonneg r hr
  omega
def throughL (l : List (Int × Int)) (at_ n : Int) : List (Int × Int) := takenL (takenL [] l 0 at_ 0) l at_ 1048576 n
theorem cutL {l : List (Int × Int)} (h : Lst l) (at_ : Int) : Norm (-1) (takenL [] l 0 at_ 0) ∧ ∀ q, Lies (takenL [] l 0 at_ 0) q ↔ Lies l q ∧ q < at_ := by
  have := takenL_all (l := []) (b := -1) (lo := 0) (hi := at_) (d := 0) (norm_los h.norm) trivial (fun r hr => by cases hr) (fun x hx => by omega)
  refine ⟨this.1, fun q => ?_⟩
  rw [this.2 q, show q - 0 = q by omega]
  constructor
  · rintro (h1 | h1)
    · exact absurd h1 (lies_nil _)
    · exact ⟨h1.1, h1.2.2⟩
  · intro h1
    exact .inr ⟨h1.1, (lies_top h h1.1).1, h1.2⟩
theorem throughL_all {l : List (Int × Int)} (h : Lst l) {at_ n : Int} (ha : 0 ≤ at_ ∧ at_ ≤ 1048576) (hn : 0 ≤ n ∧ n ≤ 1048576) :
    Norm (-1) (throughL l at_ n) ∧ ∀ q, Lies (throughL l at_ n) q ↔ (Lies l q ∧ q < at_) ∨ (Lies l (q - n) ∧ at_ ≤ q - n) := by
  obtain ⟨h1, h2⟩ := cutL h at_
  have := takenL_all (lo := at_) (hi := 1048576) (d := n) (norm_los h.norm) h1 (fun r hr x hx => by
    have := (h2 r.1).1 ⟨r, hr, Int.le_refl _, (norm_lt h1 r hr).2⟩
    omega) (fun x hx => by omega)
  refine ⟨this.1, fun q => ?_⟩
  rw [show throughL l at_ n = takenL (takenL [] l 0 at_ 0) l at_ 1048576 n from rfl, this.2 q, h2 q]
  constructor
  · rintro (h | h)
    · exact .inl h
    · exact .inr ⟨h.1, h.2.1⟩
  · rintro (h' | h')
    · exact .inl h'
    · exact .inr ⟨h'.1, h'.2, (lies_top h h'.1).2⟩
def backOldL (l : List (Int × Int)) (at_ n : Int) : List (Int × Int) := takenL (takenL [] l 0 at_ 0) l (at_ + n) 1048576 (-n)
theorem backOldL_all {l : List (Int × Int)} (h : Lst l) {at_ n : Int} (ha : 0 ≤ at_ ∧ at_ ≤ 1048576) :
    Norm (-1) (backOldL l at_ n) ∧ ∀ q, Lies (backOldL l at_ n) q ↔ (Lies l q ∧ q < at_) ∨ (Lies l (q + n) ∧ at_ ≤ q) := by
  obtain ⟨h1, h2⟩ := cutL h at_
  have := takenL_all (lo := at_ + n) (hi := 1048576) (d := -n) (norm_los h.norm) h1 (fun r hr x hx => by
    have := (h2 r.1).1 ⟨r, hr, Int.le_refl _, (norm_lt h1 r hr).2⟩
    omega) (fun x hx => by omega)
  refine ⟨this.1, fun q => ?_⟩
  rw [show backOldL l at_ n = takenL (takenL [] l 0 at_ 0) l (at_ + n) 1048576 (-n) from rfl, this.2 q, h2 q, show q - -n = q + n by omega]
  constructor
  · rintro (h | h)
    · exact .inl h
    · exact .inr ⟨h.1, by omega⟩
  · rintro (h' | h')
    · exact .inl h'
    · exact .inr ⟨h'.1, by omega, (lies_top h h'.1).2⟩
def backInL (l : List (Int × Int)) (at_ n : Int) : List (Int × Int) := takenL [] l at_ (at_ + n) (-at_)
theorem backInL_all {l : List (Int × Int)} (h : Lst l) {at_ n : Int} :
    Norm (-1) (backInL l at_ n) ∧ ∀ q, Lies (backInL l at_ n) q ↔ Lies l (q + at_) ∧ 0 ≤ q ∧ q < n := by
  have := takenL_all (l := []) (b := -1) (lo := at_) (hi := at_ + n) (d := -at_) (norm_los h.norm) trivial (fun r hr => by cases hr) (fun x hx => by omega)
  refine ⟨this.1, fun q => ?_⟩
  rw [show backInL l at_ n = takenL [] l at_ (at_ + n) (-at_) from rfl, this.2 q, show q - -at_ = q + at_ by omega]
  constructor
  · rintro (h1 | h1)
    · exact absurd h1 (lies_nil _)
    · exact ⟨h1.1, by omega, by omega⟩
  · intro h1
    exact .inr ⟨h1.1, by omega, by omega⟩
set_option maxHeartbeats 400000 in
theorem passesEnd_yes {w : World} {a : Option Addr} {n cap : Nat} {l : List (Int × Int)} (h : Rng w a n cap l) (hl : Lst l) {at_ k : Int} (ha : 0 ≤ at_ ∧ at_ ≤ 1048576) (hk : 0 ≤ k ∧ k ≤ 1048576) (hg : grows l at_ k) :
    Calls Tryz.prog 86 #[.slice a n cap, .int .i64 at_, .int .i64 k] w fun e w' => e = .returned (.bool true) ∧ Below w.heap.size w w' := by
  obtain ⟨r, hr, h1, h2⟩ := hg
  have hlen := h.len
  obtain ⟨l0, rfl⟩ := List.getLast?_eq_some_iff.1 hr
  simp only [List.length_append, List.length_cons, List.length_nil] at hlen
  obtain ⟨g, off, rfl, hg, _, hd⟩ := h.cells l0.length (by omega)
  rw [getD_snoc] at hd
  have hb := hl.nonneg r (by simp)
  obtain ⟨b0, b1, b2⟩ := hb
  obtain ⟨x, y⟩ := r
  simp only at *
  subst hlen
  have hfew := hl.few
  simp only [List.length_append, List.length_cons, List.length_nil] at hfew
  generalize l0.length = j at *
  obtain ⟨k1, k2⟩ := hk
  obtain ⟨a1, a2⟩ := ha
  clear hr hl h
  go_enter Tryz.func86, Tryz.ntmps86
  go_wp2_with fail
  go_ret
  exact ⟨rfl, Below.refl _ _⟩
set_option maxHeartbeats 1000000 in
theorem passesEnd_no {w : World} {a : Option Addr} {n cap : Nat} {l : List (Int × Int)} (h : Rng w a n cap l) (hl : Lst l) {at_ k : Int} (ha : 0 ≤ at_ ∧ at_ ≤ 1048576) (hk : 0 ≤ k ∧ k ≤ 1048576) (hg : ¬ grows l at_ k) :
    Calls Tryz.prog 86 #[.slice a n cap, .int .i64 at_, .int .i64 k] w fun e w' => e = .returned (.bool false) ∧ Below w.heap.size w w' := by
  have hlen := h.len
  obtain ⟨k1, k2⟩ := hk
  obtain ⟨a1, a2⟩ := ha
  rcases List.eq_nil_or_concat l with rfl | ⟨l0, ⟨x, y⟩, hl'⟩
  · simp only [List.length_nil] at hlen
    subst hlen
    clear h hl hg
    go_enter Tryz.func86, Tryz.ntmps86
    go_wp2_with fail
    go_ret
    exact ⟨rfl, Below.refl _ _⟩
  · rw [List.concat_eq_append] at hl'
    subst hl'
    have hcs : y ≤ at_ ∨ (at_ < y ∧ y + k ≤ 1048576) := by
      by_cases h1 : at_ < y
      · refine .inr ⟨h1, ?_⟩
        by_cases h2 : 1048576 < y + k
        · exact absurd ⟨(x, y), by simp, h1, h2⟩ hg
        · omega
      · exact .inl (by omega)
    simp only [List.length_append, List.length_cons, List.length_nil] at hlen
    obtain ⟨g, off, rfl, hg', _, hd⟩ := h.cells l0.length (by omega)
    rw [getD_snoc] at hd
    obtain ⟨b0, b1, b2⟩ := hl.nonneg (x, y) (by simp)
    simp only at *
    subst hlen
    have hfew := hl.few
    simp only [List.length_append, List.length_cons, List.length_nil] at hfew
    generalize l0.length = j at *
    clear hl h hg
    rcases hcs with h1 | ⟨h1, h2⟩
    all_goals
      go_enter Tryz.func86, Tryz.ntmps86
      go_wp2_with fail
      go_ret
      first
        | exact ⟨rfl, Below.refl _ _⟩
        | exact ⟨congrArg (fun b => Ending.returned (.bool b)) (by simp; omega), Below.refl _ _⟩
end Go.Proofs.YtmdnmhdimfglaaaGreatDoor.Sp

namespace Go.Proofs.YtmdnmhdimfglaaaGreatDoor.Sp
open Go.RowKit Go.Lib
set_option maxRecDepth 100000
theorem Lst.wide {l : List (Int × Int)} (h : Lst l) : ∀ r ∈ l, -4611686018427387904 ≤ r.1 ∧ r.1 ≤ 4611686018427387903 ∧ -4611686018427387904 ≤ r.2 ∧ r.2 ≤ 4611686018427387903 := fun r hr => by
  have := h.nonneg r hr
  omega
set_option maxHeartbeats 1000000 in
theorem through_grow {w : World} {a : Option Addr} {n cap : Nat} {l : List (Int × Int)} (h : Rng w a n cap l) (hl : Lst l) {at_ k : Int} (hp : (0 ≤ at_ ∧ at_ ≤ 1048576) ∧ 0 ≤ k ∧ k ≤ 1048576) (hg : grows l at_ k) :
    Calls Tryz.prog 69 #[.slice a n cap, .int .i64 at_, .int .i64 k] w fun e w' => e = .returned (.tuple #[.slice none 0 0, .int .i64 24]) ∧ Below w.heap.size w w' := by
  have HA := check_any h
  rw [hl.check] at HA
  simp only at HA
  have HG1 : Hid (∀ w, Calls Tryz.prog 85 #[.int .i64 at_] w fun e w' => e = .returned (.bool true) ∧ w' = w) := isGap_yes at_ hp.1
  have HG2 : Hid (∀ w, Calls Tryz.prog 85 #[.int .i64 k] w fun e w' => e = .returned (.bool true) ∧ w' = w) := isGap_yes k hp.2
  have HP : Hid (∀ w', Below w.heap.size w w' → Calls Tryz.prog 86 #[.slice a n cap, .int .i64 at_, .int .i64 k] w' _) := fun w' hb => passesEnd_yes (h.below hb) hl hp.1 hp.2 hg
  clear h hl hp hg
  go_enter Tryz.func69, Tryz.ntmps69
  go_wp2_with fail
  refine HA.mono ?_
  rintro e w1 ⟨rfl, hb1⟩
  go_wp2_with fail
  refine (HG1.out _).mono ?_
  rintro e w2 ⟨rfl, rfl⟩
  go_wp2_with fail
  refine (HG2.out _).mono ?_
  rintro e w3 ⟨rfl, rfl⟩
  go_wp2_with fail
  refine (HP.out _ hb1).mono ?_
  rintro e w4 ⟨rfl, hb4⟩
  have hB4 := hb1.trans (hb4.mono hb1.size)
  go_wp2_with fail
  go_ret2
  exact ⟨rfl, hB4⟩
set_option maxHeartbeats 1000000 in
theorem through_ok {w : World} {a : Option Addr} {n cap : Nat} {l : List (Int × Int)} (h : Rng w a n cap l) (hl : Lst l) {at_ k : Int} (hp : (0 ≤ at_ ∧ at_ ≤ 1048576) ∧ 0 ≤ k ∧ k ≤ 1048576) (hg : ¬ grows l at_ k) :
    Calls Tryz.prog 69 #[.slice a n cap, .int .i64 at_, .int .i64 k] w fun e w' => Answer w.heap.size e w' (throughL l at_ k) ∧ Below w.heap.size w w' := by
  have HA := check_any h
  rw [hl.check] at HA
  simp only at HA
  have hlen := h.len
  have hfew := hl.few
  have HG1 : Hid (∀ w, Calls Tryz.prog 85 #[.int .i64 at_] w fun e w' => e = .returned (.bool true) ∧ w' = w) := isGap_yes at_ hp.1
  have HG2 : Hid (∀ w, Calls Tryz.prog 85 #[.int .i64 k] w fun e w' => e = .returned (.bool true) ∧ w' = w) := isGap_yes k hp.2
  have HP : Hid (∀ w', Below w.heap.size w w' → Calls Tryz.prog 86 #[.slice a n cap, .int .i64 at_, .int .i64 k] w' _) := fun w' hb => passesEnd_no (h.below hb) hl hp.1 hp.2 hg
  have HT1 : Hid (∀ (W : World), Below w.heap.size w W → Calls Tryz.prog 87 #[.slice none 0 0, .slice a n cap, .int .i64 0, .int .i64 at_, .int .i64 0] W _) :=
    fun W hBW => taken_any (B := w.heap.size) (own_nil W _) hBW.size (h.below hBW) h.under 0 at_ 0 (by omega) (by omega) hl.wide (by omega) (by omega) (by omega)
  have HT2 : Hid (∀ (W : World) (o' : Option Addr) (no' capo' : Nat), Below w.heap.size w W → Own W w.heap.size (.slice o' no' capo') (takenL [] l 0 at_ 0) → Calls Tryz.prog 87 #[.slice o' no' capo', .slice a n cap, .int .i64 at_, .int .i64 1048576, .int .i64 k] W _) :=
    fun W o' no' capo' hBW hoW => taken_any (B := w.heap.size) hoW hBW.size (h.below hBW) h.under at_ 1048576 k (by have := hoW.rng.len; have := takenL_length [] l 0 at_ 0; simp only [List.length_nil] at this; omega) (by omega) hl.wide (by omega) (by omega) (by omega)
  clear h hl hp hg hlen hfew
  go_enter Tryz.func69, Tryz.ntmps69
  go_wp2_with fail
  refine HA.mono ?_
  rintro e w1 ⟨rfl, hb1⟩
  go_wp2_with fail
  refine (HG1.out _).mono ?_
  rintro e w2 ⟨rfl, rfl⟩
  go_wp2_with fail
  refine (HG2.out _).mono ?_
  rintro e w3 ⟨rfl, rfl⟩
  go_wp2_with fail
  refine (HP.out _ hb1).mono ?_
  rintro e w4 ⟨rfl, hb4⟩
  have hB4 := hb1.trans (hb4.mono hb1.size)
  go_wp2_with fail
  refine (HT1.out _ hB4).mono ?_
  rintro e w5 ⟨o2, no2, capo2, rfl, ho2, hb5⟩
  have hB5 := hB4.trans hb5
  go_wp2_with fail
  refine (HT2.out _ o2 no2 capo2 hB5 ho2).mono ?_
  rintro e w6 ⟨o3, no3, capo3, rfl, ho3, hb6⟩
  have hB6 := hB5.trans hb6
  go_wp2_with fail
  refine bounded_any.mono ?_
  rintro e w7 ⟨rfl, rfl⟩
  have hl3 : (throughL l at_ k).length = no3 := ho3.rng.len
  have HO : Hid (Own w7 w.heap.size (.slice o3 no3 capo3) (throughL l at_ k)) := ho3
  clear ho3 ho2
  by_cases hfew : 32768 < no3
  · rw [if_pos hfew]
    go_wp2_with fail
    go_ret2
    exact ⟨.inl ⟨by omega, rfl⟩, hB6⟩
  · rw [if_neg hfew]
    go_wp2_with fail
    go_ret2
    exact ⟨.inr ⟨by omega, o3, capo3, (by rw [hl3]; rfl), (by rw [hl3]; exact HO.out)⟩, hB6⟩
end Go.Proofs.YtmdnmhdimfglaaaGreatDoor.Sp

namespace Go.Proofs.YtmdnmhdimfglaaaGreatDoor.Sp
open Go.RowKit Go.Lib
set_option maxRecDepth 100000
set_option maxHeartbeats 2000000 in
theorem back_ok {w : World} {a : Option Addr} {n cap : Nat} {l : List (Int × Int)} (h : Rng w a n cap l) (hl : Lst l) {at_ k : Int} (hp : (0 ≤ at_ ∧ at_ ≤ 1048576) ∧ (0 ≤ k ∧ k ≤ 1048576) ∧ at_ + k ≤ 1048576) :
    Calls Tryz.prog 80 #[.slice a n cap, .int .i64 at_, .int .i64 k] w fun e w' => ∃ o no co i ni ci, e = .returned (.tuple #[.slice o no co, .slice i ni ci, .int .i64 0]) ∧ Own w' w.heap.size (.slice o no co) (backOldL l at_ k) ∧ Own w' w.heap.size (.slice i ni ci) (backInL l at_ k) ∧
      (∀ g, (Value.slice o no co).ownBlock = some g → (Value.slice i ni ci).ownBlock ≠ some g) ∧ Below w.heap.size w w' := by
  have HA := check_any h
  rw [hl.check] at HA
  simp only at HA
  have hlen := h.len
  have hfew := hl.few
  have HG1 : Hid (∀ w, Calls Tryz.prog 85 #[.int .i64 at_] w fun e w' => e = .returned (.bool true) ∧ w' = w) := isGap_yes at_ hp.1
  have HG2 : Hid (∀ w, Calls Tryz.prog 85 #[.int .i64 k] w fun e w' => e = .returned (.bool true) ∧ w' = w) := isGap_yes k hp.2.1
  have HG3 : Hid (∀ w, Calls Tryz.prog 85 #[.int .i64 (at_ + k)] w fun e w' => e = .returned (.bool true) ∧ w' = w) := isGap_yes (at_ + k) (by omega)
  have HT1 : Hid (∀ (W : World), Below w.heap.size w W → Calls Tryz.prog 87 #[.slice none 0 0, .slice a n cap, .int .i64 0, .int .i64 at_, .int .i64 0] W _) :=
    fun W hBW => taken_any (B := w.heap.size) (own_nil W _) hBW.size (h.below hBW) h.under 0 at_ 0 (by omega) (by omega) hl.wide (by omega) (by omega) (by omega)
  have HT2 : Hid (∀ (W : World) (o' : Option Addr) (no' capo' : Nat), Below w.heap.size w W → Own W w.heap.size (.slice o' no' capo') (takenL [] l 0 at_ 0) → Calls Tryz.prog 87 #[.slice o' no' capo', .slice a n cap, .int .i64 (at_ + k), .int .i64 1048576, .int .i64 (-k)] W _) :=
    fun W o' no' capo' hBW hoW => taken_any (B := w.heap.size) hoW hBW.size (h.below hBW) h.under (at_ + k) 1048576 (-k) (by have := hoW.rng.len; have := takenL_length [] l 0 at_ 0; simp only [List.length_nil] at this; omega) (by omega) hl.wide (by omega) (by omega) (by omega)
  have HT3 : Hid (∀ (W : World), Below w.heap.size w W → Calls Tryz.prog 87 #[.slice none 0 0, .slice a n cap, .int .i64 at_, .int .i64 (at_ + k), .int .i64 (-at_)] W _) :=
    fun W hBW => taken_any (B := W.heap.size) (own_nil W _) (Nat.le_refl _) (h.below hBW) (h.under.mono hBW.size) at_ (at_ + k) (-at_) (by omega) (by omega) hl.wide (by omega) (by omega) (by omega)
  obtain ⟨⟨a1, a2⟩, ⟨b1, b2⟩, b3⟩ := hp
  clear h hl hlen hfew
  go_enter Tryz.func80, Tryz.ntmps80
  go_wp2_with fail
  refine HA.mono ?_
  rintro e w1 ⟨rfl, hb1⟩
  go_wp2_with fail
  refine (HG1.out _).mono ?_
  rintro e w2 ⟨rfl, rfl⟩
  go_wp2_with fail
  refine (HG2.out _).mono ?_
  rintro e w3 ⟨rfl, rfl⟩
  go_wp2_with fail
  refine (HG3.out _).mono ?_
  rintro e w4 ⟨rfl, rfl⟩
  go_wp2_with fail
  refine (HT1.out _ hb1).mono ?_
  rintro e w5 ⟨o2, no2, capo2, rfl, ho2, hb5⟩
  have hB5 := hb1.trans hb5
  go_wp2_with fail
  refine (HT2.out _ o2 no2 capo2 hB5 ho2).mono ?_
  rintro e w6 ⟨o3, no3, capo3, rfl, ho3, hb6⟩
  have hB6 := hB5.trans hb6
  go_wp2_with fail
  refine (HT3.out _ hB6).mono ?_
  rintro e w7 ⟨o4, no4, capo4, rfl, ho4, hb7⟩
  have hB7 := hB6.trans (hb7.mono hB6.size)
  have HO3 : Hid (Own w7 w.heap.size (.slice o3 no3 capo3) (backOldL l at_ k)) := ho3.below hb7
  have HO4 : Hid (Own w7 w.heap.size (.slice o4 no4 capo4) (backInL l at_ k)) := ho4.mono hB6.size
  have HD : Hid (∀ g, (Value.slice o3 no3 capo3).ownBlock = some g → (Value.slice o4 no4 capo4).ownBlock ≠ some g) := fun g h1 h2 => by
    have e1 := (World.ownsRow.lt ho3 g h1).2
    have e2 := (World.ownsRow.lt ho4 g h2).1
    omega
  clear ho2 ho3 ho4 hb5 hb6 hb7
  go_wp2_with fail
  go_ret3
  exact ⟨_, _, _, _, _, _, rfl, HO3.out, HO4.out, HD.out, hB7⟩
end Go.Proofs.YtmdnmhdimfglaaaGreatDoor.Sp
