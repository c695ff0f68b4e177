import Derived.Test.YtffkncohliollaaGreatDoorTxtF
import Derived.WalkKit
import Derived.WalkSpells
import Derived.WalkLawsBesides
import Derived.Lib.OthersKept
import Derived.Laws.OwnMore
import Derived.Maps.AppendAt
import Derived.Test.YtffkncohliollaaGreatDoorProg
import Derived.Deep.QuietTactic
import Derived.BigQuiet
import Derived.BigRegion
import Derived.Deep.RegionWith
import Derived.Deep.RegionHeld3
namespace Go.Proofs.YtffkncohliollaaGreatDoor
open Go.RowKit Go.Lib
set_option maxRecDepth 100000

theorem rest_eq2 (n m : Int) (hm : 0 < m) : (n.tmod m + m) % m = n % m := by
  have h1 : n.tmod m = n % m ∨ n.tmod m = n % m - m := by
    rw [Int.tmod_eq_emod]
    split
    · left; omega
    · right; rw [show (m.natAbs : Int) = m by omega]
  rcases h1 with h1 | h1
  · rw [h1]; simp
  · rw [h1]; rw [show n % m - m + m = n % m by omega]; simp
theorem tmod_bd (n m : Int) (hm : 0 < m) : -m < n.tmod m ∧ n.tmod m < m := by
  have h1 : n.tmod m = n % m ∨ n.tmod m = n % m - m := by
    rw [Int.tmod_eq_emod]
    split
    · left; omega
    · right; rw [show (m.natAbs : Int) = m by omega]
  have h2 := Int.emod_nonneg n (show m ≠ 0 by omega)
  have h3 := Int.emod_lt_of_pos n hm
  by_cases h : n % m = 0
  · rw [Int.tmod_eq_emod, if_pos (.inr (Int.dvd_of_emod_eq_zero h))]; omega
  · omega
theorem ret_i64 {a b : Int} (h : a = b) : Ending.returned (.int .i64 a) = .returned (.int .i64 b) := by rw [h]
set_option maxHeartbeats 400000 in
theorem rest_any (n m : Int) (hm : 0 < m) (hm2 : m ≤ 1048577) (w : World) :
    Calls Tryz.prog 18 #[.int .i64 n, .int .i64 m] w fun e w' => e = .returned (.int .i64 (n % m)) ∧ w' = w := by
  have hz : (m == 0) = false := by simp; omega
  have hb := tmod_bd n m hm
  go_enter Tryz.func18, Tryz.ntmps18
  go_wp2_with fail
  go_ret
  exact ⟨ret_i64 (rest_eq2 n m hm), rfl⟩
/-- What a sign may be. -/
structure IsSign (r : Int) : Prop where
  is : (97 ≤ r ∧ r ≤ 122) ∨ r = 233 ∨ r = 8364 ∨ r = 128512
set_option maxHeartbeats 400000 in
theorem sign_any (k : Int) (w : World) :
    Calls Tryz.prog 52 #[.int .i64 k] w fun e w' => ∃ r, e = .returned (.int .i32 r) ∧ IsSign r ∧ w' = w := by
  have h5 := Int.emod_nonneg k (show (5 : Int) ≠ 0 by decide)
  have h6 := Int.emod_lt_of_pos k (show (0 : Int) < 5 by decide)
  have h7 := Int.emod_nonneg k (show (26 : Int) ≠ 0 by decide)
  have h8 := Int.emod_lt_of_pos k (show (0 : Int) < 26 by decide)
  have H5 := rest_any k 5 (by decide) (by decide)
  have H26 := rest_any k 26 (by decide) (by decide)
  generalize k % 5 = a at *
  generalize k % 26 = b at *
  go_enter Tryz.func52, Tryz.ntmps52
  go_wp2_with fail
  refine (H5 _).mono ?_
  rintro e w1 ⟨rfl, rfl⟩
  go_wp2_with fail
  · go_ret
    exact ⟨_, rfl, ⟨by omega⟩, rfl⟩
  · go_ret
    exact ⟨_, rfl, ⟨by omega⟩, rfl⟩
  · go_ret
    exact ⟨_, rfl, ⟨by omega⟩, rfl⟩
  · refine (H26 _).mono ?_
    rintro e w2 ⟨rfl, rfl⟩
    go_wp2_with fail
    go_ret
    exact ⟨_, rfl, ⟨by omega⟩, rfl⟩
theorem IsSign.ok {r : Int} (h : IsSign r) : okR r := by
  have := h.is
  refine ⟨valid_of (by omega) (by omega) (by omega), ?_⟩
  unfold okRune
  simp only [decide_eq_true_eq]
  omega
theorem isText_nil : IsText ⟨#[]⟩ [] := ⟨rfl, fun r hr => by cases hr⟩
theorem IsText.snoc {s : ByteArray} {rs : List Int} (h : IsText s rs) {r : Int} (hr : okR r) : IsText (s ++ Utf8.encode r) (rs ++ [r]) := by
  refine ⟨?_, fun x hx => ?_⟩
  · rw [ByteArray.data_append, Array.toList_append, h.bytes, encs_append, encs_cons]
    simp [encs, encB]
  · rcases List.mem_append.1 hx with hx | hx
    · exact h.ok x hx
    · simp at hx; subst hx; exact hr
theorem encB_le (r : Int) (h : okR r) : (encB r).length ≤ 4 := by
  obtain ⟨h0, h1, h2⟩ := valid_le h.1
  obtain ⟨c, rfl⟩ : ∃ c : Nat, r = c := ⟨r.toNat, by omega⟩
  by_cases c1 : c < 0x80
  · rw [encB1 c c1]; simp
  · by_cases c2 : c < 0x800
    · rw [encB2 c c2 (by omega)]; simp
    · by_cases c3 : c < 0x10000
      · rw [encB3 c c3 (by omega) h.1]; simp
      · rw [encB4 c (by omega) h.1]; simp
theorem encs_le {rs : List Int} (h : ∀ r ∈ rs, okR r) : (encs rs).length ≤ rs.length * 4 := by
  induction rs with
  | nil => simp [encs]
  | cons r t ih =>
    have h1 := encB_le r (h r (by simp))
    have h2 := ih (fun x hx => h x (by simp [hx]))
    rw [encs_cons, List.length_append, List.length_cons]
    omega
theorem IsText.small {s : ByteArray} {rs : List Int} (h : IsText s rs) : s.size ≤ rs.length * 4 := by
  rw [size_data, h.bytes]
  exact encs_le h.ok
theorem IsText.big {s : ByteArray} {rs : List Int} (h : IsText s rs) : rs.length ≤ s.size := by
  rw [size_data, h.bytes]
  exact encs_len2 rs
/-- A text of n runes. -/
def TextOf (n : Int) (s : ByteArray) : Prop := ∃ rs, IsText s rs ∧ (rs.length : Int) = n
set_option maxHeartbeats 400000 in
theorem words_any (n k : Int) (h0 : 0 ≤ n) (hn : n ≤ 1048576) (w : World) :
    Calls Tryz.prog 19 #[.int .i64 n, .int .i64 k] w fun e w' => ∃ s, e = .returned (.string s) ∧ TextOf n s ∧ w' = w := by
  go_enter Tryz.func19, Tryz.ntmps19
  go_wp2_with fail
  go_loop [5, 6] (fun vs vi => ∃ s rs, vs = .string s ∧ vi = .int .i64 (rs.length : Int) ∧ IsText s rs ∧ (rs.length : Int) ≤ n) (fun _ i => (n - intOf i).toNat)
  case atStart => exact ⟨_, [], rfl, rfl, isText_nil, h0⟩
  case round =>
    obtain ⟨s, rs, rfl, rfl, ht, hl⟩ := hrel
    by_cases hlt : (rs.length : Int) < n
    · go_wp2_with fail
      refine (sign_any _ _).mono ?_
      rintro e w1 ⟨r, rfl, hs, rfl⟩
      have hb := ht.small
      have hz : (Utf8.encode r).size ≤ 4 := by have := encB_le r hs.ok; rw [size_data]; exact this
      go_wp2_with fail
      exact ⟨⟨_, rs ++ [r], rfl, by simp, ht.snoc hs.ok, by simp; omega⟩, by simp [intOf]; omega⟩
    · go_wp2_with fail
      go_ret
      exact ⟨s, rfl, ⟨rs, ht, by omega⟩, rfl⟩
end Go.Proofs.YtffkncohliollaaGreatDoor

/-! Rows of elements of k cells each, read and owned. -/
namespace Go.Proofs.YtffkncohliollaaGreatDoor
open Go.RowKit Go.Lib
set_option maxRecDepth 100000

theorem addr_add' (g off j : Nat) : (⟨g, off, none⟩ : Addr).add j = ⟨g, off + j, none⟩ := by unfold Addr.add; split <;> simp_all
/-- How an element lies: k cells, each of one cell. -/
structure Lay {α : Type} (f : α → List Value) (k : Nat) : Prop where
  len : ∀ x, (f x).length = k
  pos : 0 < k
  one : ∀ x, ∀ u ∈ f x, u.oneCell' = true
def flatF {α : Type} (f : α → List Value) (l : List α) : List Value := l.flatMap f
section
variable {α : Type} {f : α → List Value} {k : Nat}
theorem flatF_length (hf : Lay f k) (l : List α) : (flatF f l).length = l.length * k := by
  induction l with
  | nil => simp [flatF]
  | cons x t ih => simp only [flatF, List.flatMap_cons, List.length_append, List.length_cons] at ih ⊢; rw [ih, hf.len, Nat.add_mul, Nat.one_mul, Nat.add_comm]
theorem flatF_append (l m : List α) : flatF f (l ++ m) = flatF f l ++ flatF f m := by simp [flatF]
theorem flatF_one (hf : Lay f k) (l : List α) : ∀ u ∈ flatF f l, u.oneCell' = true := by
  intro u hu
  obtain ⟨x, _, hx⟩ := List.mem_flatMap.1 hu
  exact hf.one x u hx
theorem flatF_get (hf : Lay f k) : ∀ (l : List α) (j : Nat) (x : α), l[j]? = some x → ∀ i, i < k → (flatF f l)[j * k + i]? = (f x)[i]? := by
  intro l
  induction l with
  | nil => intro j x h; simp at h
  | cons y t ih =>
    intro j x h i hi
    have hy := hf.len y
    cases j with
    | zero =>
      simp at h; subst h
      simp only [flatF, List.flatMap_cons, Nat.zero_mul, Nat.zero_add]
      rw [List.getElem?_append_left (by omega)]
    | succ j =>
      simp at h
      have e : (j + 1) * k + i = (f y).length + (j * k + i) := by rw [hy, Nat.add_mul]; omega
      simp only [flatF, List.flatMap_cons] at ih ⊢
      rw [e, List.getElem?_append_right (by omega), Nat.add_sub_cancel_left]
      exact ih j x h i hi
/-- A slice in the world that reads as l. -/
structure Rw (f : α → List Value) (k : Nat) (w : World) (a : Option Addr) (n cap : Nat) (l : List α) : Prop where
  len : l.length = n
  room : n ≤ cap ∧ cap ≤ maxLen
  cells : 0 < n → ∃ g off, a = some ⟨g, off, none⟩ ∧ g < w.heap.size ∧ ∀ j x, l[j]? = some x → ∀ i v, (f x)[i]? = some v → w.cell? ⟨g, off + j * k + i, none⟩ = some v
theorem rw_nil (w : World) : Rw f k w none 0 0 [] := ⟨rfl, ⟨Nat.le_refl _, Nat.zero_le _⟩, fun h => absurd h (Nat.lt_irrefl _)⟩
theorem Rw.below {w w' : World} {a : Option Addr} {n cap : Nat} {l : List α} (h : Rw f k w a n cap l) (hb : Below w.heap.size w w') : Rw f k w' a n cap l :=
  ⟨h.len, h.room, fun hn => by
    obtain ⟨g, off, ha, hg, hc⟩ := h.cells hn
    exact ⟨g, off, ha, by have := hb.size; omega, fun j x hj i v hv => (hb.cell (p := ⟨g, off + j * k + i, none⟩) hg).trans (hc j x hj i v hv)⟩⟩
theorem Rw.at {w : World} {a : Option Addr} {n cap : Nat} {l : List α} (h : Rw f k w a n cap l) (j : Nat) (hj : j < n) :
    ∃ g off x, a = some ⟨g, off, none⟩ ∧ g < w.heap.size ∧ l[j]? = some x ∧ ∀ i v, (f x)[i]? = some v → w.cell? ⟨g, off + j * k + i, none⟩ = some v := by
  obtain ⟨g, off, ha, hg, hc⟩ := h.cells (by omega)
  have hl := h.len
  have hx : l[j]? = some l[j] := List.getElem?_eq_getElem (by omega)
  exact ⟨g, off, _, ha, hg, hx, hc j _ hx⟩
theorem Rw.row (hf : Lay f k) {w : World} {a : Option Addr} {n cap : Nat} {l : List α} (h : Rw f k w a n cap l) (hn : 0 < n) :
    ∃ g off, a = some ⟨g, off, none⟩ ∧ g < w.heap.size ∧ ∀ j u, (flatF f l)[j]? = some u → w.cell? ((⟨g, off, none⟩ : Addr).add j) = some u := by
  obtain ⟨g, off, ha, hg, hc⟩ := h.cells hn
  refine ⟨g, off, ha, hg, fun j u hu => ?_⟩
  have hk := hf.pos
  have hlt : j < (flatF f l).length := by
    rcases Nat.lt_or_ge j (flatF f l).length with h' | h'
    · exact h'
    · rw [List.getElem?_eq_none h'] at hu; cases hu
  rw [flatF_length hf] at hlt
  have hq : j / k < l.length := Nat.div_lt_of_lt_mul (by rw [Nat.mul_comm]; exact hlt)
  have hx : l[j / k]? = some l[j / k] := List.getElem?_eq_getElem hq
  have hj : j / k * k + j % k = j := by rw [Nat.mul_comm]; exact Nat.div_add_mod j k
  have hg2 := flatF_get hf l (j / k) _ hx (j % k) (Nat.mod_lt _ hk)
  rw [hj, hu] at hg2
  have := hc (j / k) _ hx (j % k) u hg2.symm
  rw [addr_add', ← hj, ← Nat.add_assoc]
  exact this
theorem Rw.take {w : World} {a : Option Addr} {n cap : Nat} {l : List α} (h : Rw f k w a n cap l) (m : Nat) (hm : m ≤ n) : Rw f k w a m cap (l.take m) := by
  have hl := h.len
  refine ⟨by rw [List.length_take]; omega, ⟨by have := h.room; omega, h.room.2⟩, fun h0 => ?_⟩
  obtain ⟨g, off, ha, hg, hc⟩ := h.cells (by omega)
  exact ⟨g, off, ha, hg, fun j x hj => hc j x (by
    rw [List.getElem?_take] at hj
    split at hj
    · exact hj
    · cases hj)⟩
theorem Rw.drop {w : World} {g off : Nat} {n cap : Nat} {l : List α} (h : Rw f k w (some ⟨g, off, none⟩) n cap l) (m : Nat) (hm : m ≤ n) : Rw f k w (some ⟨g, off + m * k, none⟩) (n - m) (cap - m) (l.drop m) := by
  have hl := h.len
  have hr := h.room
  refine ⟨by rw [List.length_drop]; omega, ⟨by omega, by omega⟩, fun h0 => ?_⟩
  obtain ⟨g', off', ha, hg, hc⟩ := h.cells (by omega)
  simp only [Option.some.injEq, Addr.mk.injEq, and_true] at ha
  obtain ⟨rfl, rfl⟩ := ha
  refine ⟨g, off + m * k, rfl, hg, fun j x hj i v hv => ?_⟩
  rw [List.getElem?_drop] at hj
  have := hc (m + j) x hj i v hv
  rw [Nat.add_mul, ← Nat.add_assoc] at this
  exact this

/-- A row of one's own, at or beyond B. -/
def OwnF (f : α → List Value) (k : Nat) (T : TypeId) (w : World) (B : Nat) (v : Value) (l : List α) : Prop := w.ownsRow B T k v l.length (flatF f l)
variable {T : TypeId}
theorem ownF_nil (w : World) (B : Nat) : OwnF f k T w B (.slice none 0 0) [] := World.ownsRow_nil w B _ _
theorem OwnF.shape {w : World} {B : Nat} {v : Value} {l : List α} (h : OwnF f k T w B v l) : ∃ a cap, v = .slice a l.length cap := by
  rcases h.2 with ⟨e, h0⟩ | ⟨g, cap, cur, e, _⟩
  · exact ⟨none, 0, by rw [e, h0]⟩
  · exact ⟨_, _, e⟩
theorem OwnF.below {w w' : World} {B : Nat} {v : Value} {l : List α} (h : OwnF f k T w B v l) (hb : Below w.heap.size w w') : OwnF f k T w' B v l := by
  refine ⟨h.1, ?_⟩
  rcases h.2 with h0 | ⟨g, cap, cur, e, h1, hh, rest⟩
  · exact .inl h0
  · exact .inr ⟨g, cap, cur, e, h1, (hb.block g (Array.getElem?_eq_some_iff.1 hh).1).trans hh, rest⟩
theorem OwnF.mono {w : World} {B C : Nat} {v : Value} {l : List α} (h : OwnF f k T w B v l) (hC : C ≤ B) : OwnF f k T w C v l := by
  refine ⟨h.1, ?_⟩
  rcases h.2 with h0 | ⟨g, cap, cur, e, h1, rest⟩
  · exact .inl h0
  · exact .inr ⟨g, cap, cur, e, by omega, rest⟩
theorem OwnF.rw_ (hf : Lay f k) {w : World} {B n cap : Nat} {a : Option Addr} {l : List α} (h : OwnF f k T w B (.slice a n cap) l) : Rw f k w a n cap l := by
  rcases h.2 with ⟨e, h0⟩ | ⟨g, cap', cur, e, _, hh, hn, hm, hsz, htk⟩
  · simp only [Value.slice.injEq] at e
    obtain ⟨rfl, rfl, rfl⟩ := e
    exact ⟨h0, ⟨Nat.le_refl _, Nat.zero_le _⟩, fun h => absurd h (Nat.lt_irrefl _)⟩
  · simp only [Value.slice.injEq] at e
    obtain ⟨rfl, rfl, rfl⟩ := e
    refine ⟨rfl, ⟨hn, hm⟩, fun h0 => ⟨g, 0, rfl, (Array.getElem?_eq_some_iff.1 hh).1, fun j x hj i v hv => ?_⟩⟩
    have hi : i < k := by
      have := hf.len x
      rcases Nat.lt_or_ge i (f x).length with h' | h'
      · omega
      · rw [List.getElem?_eq_none h'] at hv; cases hv
    have hjl : j < l.length := by
      rcases Nat.lt_or_ge j l.length with h' | h'
      · exact h'
      · rw [List.getElem?_eq_none h'] at hj; cases hj
    have hlt : j * k + i < l.length * k := by
      have : (j + 1) * k ≤ l.length * k := Nat.mul_le_mul_right k hjl
      rw [Nat.add_mul] at this; omega
    have e1 : cur.toList[j * k + i]? = (flatF f l)[j * k + i]? := by rw [← htk, List.getElem?_take, if_pos hlt]
    rw [flatF_get hf l j x hj i hi, hv, Array.getElem?_toList] at e1
    simp only [World.cell?, hh, Nat.zero_add]
    exact e1
theorem OwnF.ge {w : World} {B : Nat} {v : Value} {l : List α} (h : OwnF f k T w B v l) {g : Nat} (hg : v.ownBlock = some g) : B ≤ g := by
  rcases h.2 with ⟨rfl, _⟩ | ⟨g', cap, cur, rfl, hB, _⟩
  · simp [Value.ownBlock] at hg
  · simp [Value.ownBlock] at hg
    omega
theorem OwnF.lt {w : World} {B : Nat} {v : Value} {l : List α} (h : OwnF f k T w B v l) {g : Nat} (hg : v.ownBlock = some g) : g < w.heap.size := by
  rcases h.2 with ⟨rfl, _⟩ | ⟨g', cap, cur, rfl, hB, hh, _⟩
  · simp [Value.ownBlock] at hg
  · simp [Value.ownBlock] at hg
    have := (Array.getElem?_eq_some_iff.1 hh).1
    omega
/-- Every block but v's own reads as it did. -/
def Keeps (w w' : World) (v : Value) : Prop := ∀ k, k < w.heap.size → v.ownBlock ≠ some k → w'.heap[k]? = w.heap[k]?
theorem below_grown {B : Nat} {w w' : World} {row : Option Nat} (hg : w.grownBy w' row) (hrow : ∀ k, row = some k → B ≤ k) (hB : B ≤ w.heap.size) : Below B w w' :=
  (Below.refl B w).grown hg hB hrow
/-- What append asks of the types. -/
structure Kind (P : Program) (S T : TypeId) (k by_ : Nat) : Prop where
  under : P.underlying S = some (.slice T)
  info : ∃ i z, P.info? T = some i ∧ i.zero = some z ∧ i.size = k ∧ i.bytes = by_ ∧ z.cells.size = k
/-- 'append(v, u...)' -/
theorem appendF {P : Program} {S : TypeId} {by_ : Nat} (hK : Kind P S T k by_) (hf : Lay f k) {w : World} {B : Nat} {v : Value} {l : List α} (h : OwnF f k T w B v l) (hB : B ≤ w.heap.size)
    {b : Option Addr} {m capb : Nat} {ys : List α} (hy : Rw f k w b m capb ys) (hm : 0 < m) (hs : (l.length + m) * by_ ≤ 140737488355328) (hs2 : l.length + m ≤ 9223372036854775807) (ty : TypeId) :
    ∃ g cap' w', (Builtin.append_ #[S, S] ty #[v, .slice b m capb]).run P w = .ok (.slice (some ⟨g, 0, none⟩) (l.length + m) cap') w' ∧ OwnF f k T w' B (.slice (some ⟨g, 0, none⟩) (l.length + m) cap') (l ++ ys) ∧ Below B w w' ∧ Keeps w w' v ∧ (v.ownBlock = some g ∨ g = w.heap.size) := by
  obtain ⟨i, z, hi, hz, hsz, hby, hzc⟩ := hK.info
  obtain ⟨ga, off, rfl, hg, hc⟩ := hy.row hf hm
  obtain ⟨v', w', hr, ho, hgr, _, hat⟩ := run_append_own_at (P := P) w B S ty T i z k by_ hK.under hi hz hsz hby hzc hf.pos v l.length (flatF f l) h ⟨ga, off, none⟩ m capb (flatF f ys) (by rw [flatF_length hf, hy.len]) hc (flatF_one hf ys)
    (by simp only [maxLen]; omega) hs hB
  rcases ho.2 with ⟨_, h0⟩ | ⟨g, cap, cur, rfl, hBg, rest⟩
  · omega
  · refine ⟨g, cap, w', hr, ?_, below_grown hgr (fun k hk => h.ge hk) hB, fun q hq hne => hgr.block q hq (fun e => hne e.symm), ?_⟩
    · unfold OwnF
      rw [flatF_append, List.length_append, hy.len]
      exact ho
    · rcases hat with h5 | h5
      · exact .inl (by rw [← h5]; rfl)
      · right; simpa [Value.ownBlock] using h5
/-- A block of k cells, just made, as a slice of one. -/
theorem rw_lit (w : World) (x : α) (cs : Array Value) (hcs : f x = cs.toList) (t : TypeId) : Rw f k (w.alloc (.cells cs t)) (some ⟨w.heap.size, 0, none⟩) 1 1 [x] := by
  refine ⟨rfl, ⟨Nat.le_refl _, by simp [maxLen]⟩, fun _ => ⟨w.heap.size, 0, rfl, by simp, fun j y hj i v hv => ?_⟩⟩
  match j, hj with
  | 0, hj =>
    simp at hj; subst hj
    have hh := heap_alloc_new w (.cells cs t)
    rw [hcs] at hv
    simp only [World.cell?, hh, Nat.zero_mul, Nat.zero_add]
    simpa using hv
/-- 'append(v, x)': the new element lies in a block of its own. -/
theorem appendF_one {P : Program} {S : TypeId} {by_ : Nat} (hK : Kind P S T k by_) (hf : Lay f k) {w : World} {B : Nat} {v : Value} {l : List α} (h : OwnF f k T w B v l) (hB : B ≤ w.heap.size) (x : α) (cs : Array Value) (hcs : f x = cs.toList) (t : TypeId)
    (hs : (l.length + 1) * by_ ≤ 140737488355328) (hs2 : l.length + 1 ≤ 9223372036854775807) (ty : TypeId) :
    ∃ g cap' w', (Builtin.append_ #[S, S] ty #[v, .slice (some ⟨w.heap.size, 0, none⟩) 1 1]).run P (w.alloc (.cells cs t)) = .ok (.slice (some ⟨g, 0, none⟩) (l.length + 1) cap') w' ∧ OwnF f k T w' B (.slice (some ⟨g, 0, none⟩) (l.length + 1) cap') (l ++ [x]) ∧ Below B w w' ∧ Keeps w w' v ∧ w.heap.size < w'.heap.size ∧ (v.ownBlock = some g ∨ w.heap.size < g) := by
  have hw : Below w.heap.size w (w.alloc (.cells cs t)) := (Below.refl _ _).alloc (Nat.le_refl _) _
  obtain ⟨g, cap', w', hr, ho, hb, hk, hat⟩ := appendF hK hf (h.below hw) (by simp; omega) (rw_lit w x cs hcs t) (by omega) hs hs2 ty
  refine ⟨g, cap', w', hr, ho, ((Below.refl B w).alloc hB _).trans hb, fun q hq hne => ?_, ?_, ?_⟩
  · rw [hk q (by simp; omega) hne]
    exact Below.heap_alloc w _ q hq
  · have := hb.size
    simp at this
    omega
  · rcases hat with e | e
    · exact .inl e
    · right; simp at e; omega
end
theorem wpList_append_hr {P : Program} {w : World} {ops : Array Oper} {rest : List Oper} {o : Oper} {a : Act} {Q : Exit → Act → World → Prop} (hgd : o.guard = none) (s x : Operand) (t : TypeId)
    (ho : o.op = .call { callee := .builtin .append, args := #[s, x], argTypes := #[t, t] }) (v u : Value) (hs : a.eval s = v) (hx : a.eval x = u) {v' : Value} {w' : World}
    (hr : (Builtin.append_ #[t, t] o.type #[v, u]).run P w = .ok v' w') (h : wpList P ops Q rest (a.put o.dst v') w') : wpList P ops Q (o :: rest) a w :=
  wpList_plain hgd fun K hK => by
    unfold Oper.wp execOp
    simp only [ho, resolve, invoke, builtin, Sem.run_bind, Sem.run_pure, Result.andThen_ok, List.map_toArray, List.map_cons, List.map_nil, hs, hx, hr]
    exact hK _ _ h
theorem max_run (ats : Array TypeId) (ty : TypeId) (x y : Int) (w : World) : (Builtin.max_ ats ty #[.int .i64 x, .int .i64 y]).run Tryz.prog w = .ok (.int .i64 (max x y)) w := by
  simp only [run_max_int2]
  congr 2
  split <;> omega
theorem min_run (ats : Array TypeId) (ty : TypeId) (x y : Int) (w : World) : (Builtin.min_ ats ty #[.int .i64 x, .int .i64 y]).run Tryz.prog w = .ok (.int .i64 (min x y)) w := by
  simp only [run_min_int2]
  congr 2
  split <;> omega
theorem kind_of {S T : TypeId} {z : Value} {k by_ : Nat} (hu : Tryz.prog.underlying S = some (.slice T)) (h : (Tryz.prog.info? T).map (fun i => (i.zero, i.size, i.bytes)) = some (some z, k, by_)) (hz : z.cells.size = k) : Kind Tryz.prog S T k by_ := by
  obtain ⟨i, hi, h1, h2, h3⟩ := info_parts h
  exact ⟨hu, i, z, hi, h1, h2, h3, hz⟩
theorem below_drewN {B : Nat} {a w : World} (h : Below B a w) (m : Nat) : Below B a (w.drewN m) := h.trans ⟨rfl, rfl, rfl, Nat.le_refl _, fun _ _ => rfl⟩
end Go.Proofs.YtffkncohliollaaGreatDoor

namespace Go.Proofs.YtffkncohliollaaGreatDoor
open Go.RowKit Go.Lib
set_option maxRecDepth 100000

def pieceV (x : Int × Int) : List Value := [.int .i64 x.1, .int .i64 x.2]
def cellV (x : Int × Int) : List Value := [.int .i32 x.1, .int .i64 x.2]
/-- A run: its text, the text's runes, its counter. -/
structure GRun where
  s : ByteArray
  rs : List Int
  h : Int
def runV (x : GRun) : List Value := [.string x.s, .int .i64 x.h]
theorem layP : Lay pieceV 2 := ⟨fun _ => rfl, by decide, fun x u hu => by simp [pieceV] at hu; rcases hu with rfl | rfl <;> rfl⟩
theorem layC : Lay cellV 2 := ⟨fun _ => rfl, by decide, fun x u hu => by simp [cellV] at hu; rcases hu with rfl | rfl <;> rfl⟩
theorem layR : Lay runV 2 := ⟨fun _ => rfl, by decide, fun x u hu => by simp [runV] at hu; rcases hu with rfl | rfl <;> rfl⟩
theorem kindR : Kind Tryz.prog 24 52 2 24 := kind_of Tryz.underlying24 (z := .agg #[.string ⟨#[]⟩, .int .i64 0]) (by kernel_rfl) rfl
theorem kindC : Kind Tryz.prog 26 54 2 16 := kind_of Tryz.underlying26 (z := .agg #[.int .i32 0, .int .i64 0]) (by kernel_rfl) rfl
def cellsOf (L : List GRun) : List (Int × Int) := L.flatMap fun x => x.rs.map fun c => (c, x.h)
structure OkRun (x : GRun) : Prop where
  text : IsText x.s x.rs
  some_ : x.rs ≠ []
  few : x.rs.length ≤ 48
  lo : 0 ≤ x.h
  hi : x.h ≤ 2
structure OkRuns (L : List GRun) : Prop where
  few : L.length ≤ 24
  each : ∀ x ∈ L, OkRun x
  apart : ∀ j x y, L[j]? = some x → L[j + 1]? = some y → x.h ≠ y.h
theorem okRuns_nil : OkRuns [] := ⟨by decide, fun x hx => (by cases hx), fun j x y hx => (by simp at hx)⟩
theorem OkRuns.snoc {L : List GRun} (h : OkRuns L) {x : GRun} (hx : OkRun x) (hl : L.length < 24) (hd : ∀ y, L.getLast? = some y → y.h ≠ x.h) : OkRuns (L ++ [x]) := by
  refine ⟨by simp; omega, fun y hy => ?_, fun j y z hy hz => ?_⟩
  · rcases List.mem_append.1 hy with hy | hy
    · exact h.each y hy
    · simp at hy; subst hy; exact hx
  · rcases Nat.lt_trichotomy (j + 1) L.length with hj | hj | hj
    · rw [List.getElem?_append_left (by omega)] at hy hz
      exact h.apart j y z hy hz
    · rw [List.getElem?_append_left (by omega)] at hy
      rw [List.getElem?_append_right (by omega), show j + 1 - L.length = 0 by omega] at hz
      simp at hz; subst hz
      refine hd y ?_
      rw [List.getLast?_eq_getElem?, ← hy]
      congr 1; omega
    · rw [List.getElem?_eq_none (by simp; omega)] at hz
      cases hz

theorem okRun_mk {s : ByteArray} {rs : List Int} {h m : Int} (ht : IsText s rs) (hrl : (rs.length : Int) = 1 + m) (k3 : 0 ≤ m) (k4 : m < 48) (h0 : 0 ≤ h) (h2 : h ≤ 2) : OkRun ⟨s, rs, h⟩ :=
  ⟨ht, by intro e; simp only at e; rw [e] at hrl; simp at hrl; omega, by simp only; omega, h0, h2⟩
set_option maxHeartbeats 1000000 in
theorem runs_any {w : World} {a : Option Addr} {n cap : Nat} {l : List (Int × Int)} (h : Rw pieceV 2 w a n cap l) :
    Calls Tryz.prog 5 #[.slice a n cap] w fun e w' => ∃ v L, e = .returned v ∧ OwnF runV 2 52 w' w.heap.size v L ∧ OkRuns L ∧ Below w.heap.size w w' := by
  have hlen := h.len
  have hroom := h.room
  have hn : n ≤ 9223372036854775807 := by simp only [maxLen] at hroom; omega
  go_enter Tryz.func5, Tryz.ntmps5
  go_wp2_with fail
  go_loopw [3, 4] (fun v vi w' => ∃ L, vi = .int .i64 (L.length : Int) ∧ L.length ≤ n ∧ OkRuns L ∧ OwnF runV 2 52 w' w.heap.size v L ∧ Below w.heap.size w w') (fun _ i _ => n - (intOf i).toNat)
  case atStart => exact ⟨[], rfl, Nat.zero_le _, okRuns_nil, ownF_nil _ _, Below.refl _ _⟩
  case round =>
    obtain ⟨L, rfl, hLn, hL, ho, hb⟩ := hrel
    have hfew := hL.few
    by_cases hj : L.length < n ∧ L.length < 24
    · obtain ⟨hj1, hj2⟩ := hj
      have b1 : (L.length : Int) < (n : Int) := by omega
      have b2 : (L.length : Int) < 24 := by omega
      obtain ⟨g, off, x, rfl, hg, hx, hc⟩ := h.at L.length hj1
      have c0 := (hb.cell (p := ⟨g, off + L.length * 2 + 0, none⟩) hg).trans (hc 0 _ rfl)
      have c1 := (hb.cell (p := ⟨g, off + L.length * 2 + 1, none⟩) hg).trans (hc 1 _ rfl)
      simp only [Nat.add_zero] at c0
      clear hc
      obtain ⟨x1, x2⟩ := x
      simp only at c0 c1
      have k1 := Int.emod_nonneg x2 (show (3 : Int) ≠ 0 by decide)
      have k2 := Int.emod_lt_of_pos x2 (show (0 : Int) < 3 by decide)
      have k3 := Int.emod_nonneg x1 (show (48 : Int) ≠ 0 by decide)
      have k4 := Int.emod_lt_of_pos x1 (show (0 : Int) < 48 by decide)
      have H48 := rest_any x1 48 (by decide) (by decide)
      rcases List.eq_nil_or_concat L with rfl | ⟨L0, y, hL0⟩
      · simp only [List.length_nil, Nat.zero_mul, Nat.add_zero] at c0 c1
        go_wp2_with fail
        refine (rest_any x2 3 (by decide) (by decide) _).mono ?_
        rintro e w1 ⟨rfl, rfl⟩
        generalize x2 % 3 = hid at *
        generalize x1 % 48 = m at *
        go_wp2_with fail
        refine (H48 _).mono ?_
        rintro e w4 ⟨rfl, rfl⟩
        go_wp2_with fail
        refine (words_any _ _ (by omega) (by omega) _).mono ?_
        rintro e w5 ⟨s, rfl, ⟨rs, ht, hrl⟩, rfl⟩
        obtain ⟨g5, cap5, w6, hr, ho6, hb6, _, _⟩ := appendF_one kindR layR ho hb.size (GRun.mk s rs hid) #[.string s, .int .i64 hid] rfl 52 (by omega) (by omega) 24
        have hok : OkRuns ([] ++ [GRun.mk s rs hid]) := hL.snoc (okRun_mk ht hrl k3 k4 (by omega) (by omega)) hj2 (fun y hy => by simp at hy)
        have HO : Hid (OkRuns ([] ++ [GRun.mk s rs hid])) := hok
        clear hok hL
        have hb7 : Below w.heap.size w w6 := hb.trans hb6
        clear hb6 ho ht hb
        go_wp2_with (at_builtin; refine wpList_append_hr rfl _ _ 24 rfl _ _ rfl rfl hr ?_)
        go_roundw
        case rel => exact ⟨[] ++ [GRun.mk s rs hid], by simp, by simp at hj1 ⊢; omega, HO.out, ho6, hb7⟩
        case measure => simp [intOf] at hj1 ⊢; omega
      · rw [List.concat_eq_append] at hL0
        subst hL0
        have hyk : OkRun y := hL.each y (by simp)
        have hy0 := hyk.lo
        have hy2 := hyk.hi
        clear hyk
        have hlast : (L0 ++ [y])[L0.length]? = some y := by simp
        obtain ⟨ao, co, rfl⟩ := ho.shape
        obtain ⟨go, offo, y', rfl, hgo, hy', hco⟩ := (ho.rw_ layR).at L0.length (by simp)
        rw [hlast] at hy'
        cases hy'
        obtain ⟨go', hgo0⟩ : offo = 0 ∧ True := by
          rcases ho.2 with ⟨e, _⟩ | ⟨_, _, _, e, _⟩
          · cases e
          · simp only [Value.slice.injEq, Option.some.injEq, Addr.mk.injEq] at e; exact ⟨e.1.2.1, trivial⟩
        subst go'
        have c2 := hco 1 _ rfl
        clear hco hlast hgo0
        obtain ⟨ys, yr, yh⟩ := y
        simp only [Nat.zero_add] at c2 hy0 hy2
        have elen : (L0 ++ [GRun.mk ys yr yh]).length = L0.length + 1 := by simp
        rw [elen] at c0 c1 hj1 hj2 b1 b2 hLn hfew
        go_wp2_with fail
        refine (rest_any x2 3 (by decide) (by decide) _).mono ?_
        rintro e w1 ⟨rfl, rfl⟩
        generalize x2 % 3 = hid at *
        generalize x1 % 48 = m at *
        by_cases heq2 : yh = hid
        · have heq : (yh == hid) = true := by simpa using heq2
          have HQ : Hid (yh = hid) := heq2
          clear heq2
          go_wp2_with fail
          refine (rest_any (hid + 1) 3 (by decide) (by decide) _).mono ?_
          rintro e w2 ⟨rfl, rfl⟩
          have k5 := Int.emod_nonneg (hid + 1) (show (3 : Int) ≠ 0 by decide)
          have k6 := Int.emod_lt_of_pos (hid + 1) (show (0 : Int) < 3 by decide)
          have k7 : (hid + 1) % 3 ≠ hid := by omega
          generalize (hid + 1) % 3 = hid2 at *
          have heq2 := HQ.out
          subst heq2
          clear heq HQ
          go_wp2_with fail
          refine (H48 _).mono ?_
          rintro e w4 ⟨rfl, rfl⟩
          go_wp2_with fail
          refine (words_any _ _ (by omega) (by omega) _).mono ?_
          rintro e w5 ⟨s, rfl, ⟨rs, ht, hrl⟩, rfl⟩
          obtain ⟨g5, cap5, w6, hr, ho6, hb6, _, _⟩ := appendF_one kindR layR ho hb.size (GRun.mk s rs hid2) #[.string s, .int .i64 hid2] rfl 52 (by omega) (by omega) 24
          have hok : OkRuns ((L0 ++ [GRun.mk ys yr yh]) ++ [GRun.mk s rs hid2]) := hL.snoc (okRun_mk ht hrl k3 k4 (by omega) (by omega)) (by omega) (fun y hy => by simp at hy; subst hy; simp only; omega)
          have HO : Hid (OkRuns ((L0 ++ [GRun.mk ys yr yh]) ++ [GRun.mk s rs hid2])) := hok
          clear hok hL
          have hb7 : Below w.heap.size w w6 := hb.trans hb6
          rw [elen] at hr ho6
          clear hb6 ho ht hb
          go_wp2_with (at_builtin; refine wpList_append_hr rfl _ _ 24 rfl _ _ rfl rfl hr ?_)
          go_roundw
          case rel => exact ⟨(L0 ++ [GRun.mk ys yr yh]) ++ [GRun.mk s rs hid2], by simp; omega, by simp at hj1 ⊢; omega, HO.out, ho6, hb7⟩
          case measure => simp [intOf] at hj1 ⊢; omega
        · have hne : (yh == hid) = false := by simpa using heq2
          go_wp2_with fail
          refine (H48 _).mono ?_
          rintro e w4 ⟨rfl, rfl⟩
          go_wp2_with fail
          refine (words_any _ _ (by omega) (by omega) _).mono ?_
          rintro e w5 ⟨s, rfl, ⟨rs, ht, hrl⟩, rfl⟩
          obtain ⟨g5, cap5, w6, hr, ho6, hb6, _, _⟩ := appendF_one kindR layR ho hb.size (GRun.mk s rs hid) #[.string s, .int .i64 hid] rfl 52 (by omega) (by omega) 24
          have hok : OkRuns ((L0 ++ [GRun.mk ys yr yh]) ++ [GRun.mk s rs hid]) := hL.snoc (okRun_mk ht hrl k3 k4 (by omega) (by omega)) (by omega) (fun y hy => by simp at hy; subst hy; simp only; omega)
          have HO : Hid (OkRuns ((L0 ++ [GRun.mk ys yr yh]) ++ [GRun.mk s rs hid])) := hok
          clear hok hL
          have hb7 : Below w.heap.size w w6 := hb.trans hb6
          rw [elen] at hr ho6
          clear hb6 ho ht hb
          go_wp2_with (at_builtin; refine wpList_append_hr rfl _ _ 24 rfl _ _ rfl rfl hr ?_)
          go_roundw
          case rel => exact ⟨(L0 ++ [GRun.mk ys yr yh]) ++ [GRun.mk s rs hid], by simp; omega, by simp at hj1 ⊢; omega, HO.out, ho6, hb7⟩
          case measure => simp [intOf] at hj1 ⊢; omega
    · have hcs : (n : Int) ≤ L.length ∨ ((L.length : Int) < n ∧ (24 : Int) ≤ L.length) := by omega
      clear hj
      rcases hcs with hj | ⟨hj, hj2⟩
      all_goals
        go_wp2_with fail
        go_ret
        exact ⟨_, L, rfl, ho, hL, hb⟩
end Go.Proofs.YtffkncohliollaaGreatDoor
