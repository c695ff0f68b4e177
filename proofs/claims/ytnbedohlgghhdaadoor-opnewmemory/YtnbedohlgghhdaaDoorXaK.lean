import Derived.Test.YtnbedohlgghhdaaDoorOqGI
import Derived.Test.YtnbedohlgghhdaaDoorOpUW
import Derived.Deep.RegionHeld3
import Derived.Test.YtnbedohlgghhdaaDoorOpM
namespace Go.Proofs.YtnbedohlgghhdaaDoor
open Go.RowKit Go.Lib
set_option maxRecDepth 100000

/-- Nine cells of a box. -/
theorem box9 {W : World} {b : Nat} {T : TypeId} {v0 v1 v2 v3 v4 v5 v6 v7 v8 : Value} (h : W.heap[b]? = some (.cells #[v0, v1, v2, v3, v4, v5, v6, v7, v8] T)) :
    W.cell? ⟨b, 0, none⟩ = some v0 ∧ W.cell? ⟨b, 1, none⟩ = some v1 ∧ W.cell? ⟨b, 2, none⟩ = some v2 ∧ W.cell? ⟨b, 3, none⟩ = some v3 ∧ W.cell? ⟨b, 4, none⟩ = some v4 ∧ W.cell? ⟨b, 5, none⟩ = some v5 ∧ W.cell? ⟨b, 6, none⟩ = some v6 ∧ W.cell? ⟨b, 7, none⟩ = some v7 ∧ W.cell? ⟨b, 8, none⟩ = some v8 := by
  simp only [Lib.cell_of_heap h]
  exact ⟨rfl, rfl, rfl, rfl, rfl, rfl, rfl, rfl, rfl⟩
/-- Nine cells of a box that may be written. -/
theorem wr9 {W : World} {b : Nat} {T : TypeId} {v0 v1 v2 v3 v4 v5 v6 v7 v8 : Value} (h : W.heap[b]? = some (.cells #[v0, v1, v2, v3, v4, v5, v6, v7, v8] T)) :
    W.frozen? ⟨b, 0, none⟩ = false ∧ W.frozen? ⟨b, 1, none⟩ = false ∧ W.frozen? ⟨b, 2, none⟩ = false ∧ W.frozen? ⟨b, 3, none⟩ = false ∧ W.frozen? ⟨b, 4, none⟩ = false ∧ W.frozen? ⟨b, 5, none⟩ = false ∧ W.frozen? ⟨b, 6, none⟩ = false ∧ W.frozen? ⟨b, 7, none⟩ = false ∧ W.frozen? ⟨b, 8, none⟩ = false :=
  ⟨Lib.frozen_of_heap h 0, Lib.frozen_of_heap h 1, Lib.frozen_of_heap h 2, Lib.frozen_of_heap h 3, Lib.frozen_of_heap h 4, Lib.frozen_of_heap h 5, Lib.frozen_of_heap h 6, Lib.frozen_of_heap h 7, Lib.frozen_of_heap h 8⟩
/-- All blocks but b stand. -/
def But (b : Nat) (w w' : World) : Prop := w'.heap.size = w.heap.size ∧ ∀ k, k ≠ b → w'.heap[k]? = w.heap[k]?
theorem But.refl (b : Nat) (w : World) : But b w w := ⟨rfl, fun _ _ => rfl⟩
theorem But.trans {b : Nat} {w w' w'' : World} (h : But b w w') (h' : But b w' w'') : But b w w'' := ⟨h'.1.trans h.1, fun k hk => (h'.2 k hk).trans (h.2 k hk)⟩
theorem But.set (b i : Nat) (w : World) (u : Value) : But b w (w.setCell ⟨b, i, none⟩ u) := ⟨by simp [World.setCell], fun k hk => Below.heap_setCell _ _ _ _ (by simp only; omega)⟩
theorem But.own {b : Nat} {w w' : World} (h : But b w w') {α : Type} {f : α → List Value} {k : Nat} {T : TypeId} {B : Nat} {v : Value} {l : List α} (ho : OwnF f k T w B v l) (hb : b < B) : OwnF f k T w' B v l := by
  refine ⟨ho.1, ?_⟩
  rcases ho.2 with h0 | ⟨g, cap, cur, e, h1, hh, rest⟩
  · exact .inl h0
  · exact .inr ⟨g, cap, cur, e, h1, (h.2 g (by omega)).trans hh, rest⟩
theorem But.block {b : Nat} {w w' : World} (h : But b w w') {k : Nat} {o : Obj} (hk : w.heap[k]? = some o) (hb : k ≠ b) : w'.heap[k]? = some o := (h.2 k hb).trans hk
/-- Nine stores into a box. -/
theorem store9 {W : World} {b n : Nat} {w0 : World} {T : TypeId} {u0 u1 u2 u3 u4 u5 u6 u7 u8 : Value} (h : W.heap[b]? = some (.cells #[u0, u1, u2, u3, u4, u5, u6, u7, u8] T)) (hB : Below n w0 W) (hn : n ≤ b) (v0 v1 v2 v3 v4 v5 v6 v7 v8 : Value) :
    ∃ W9, (((((((((W.setCell ⟨b, 0, none⟩ v0).setCell ⟨b, 1, none⟩ v1).setCell ⟨b, 2, none⟩ v2).setCell ⟨b, 3, none⟩ v3).setCell ⟨b, 4, none⟩ v4).setCell ⟨b, 5, none⟩ v5).setCell ⟨b, 6, none⟩ v6).setCell ⟨b, 7, none⟩ v7).setCell ⟨b, 8, none⟩ v8) = W9 ∧
      W9.heap[b]? = some (.cells #[v0, v1, v2, v3, v4, v5, v6, v7, v8] T) ∧ Below n w0 W9 ∧ But b W W9 :=
  ⟨_, rfl, set9g h, by
    refine Below.setCell ?_ (by simp only; omega) _
    refine Below.setCell ?_ (by simp only; omega) _
    refine Below.setCell ?_ (by simp only; omega) _
    refine Below.setCell ?_ (by simp only; omega) _
    refine Below.setCell ?_ (by simp only; omega) _
    refine Below.setCell ?_ (by simp only; omega) _
    refine Below.setCell ?_ (by simp only; omega) _
    refine Below.setCell ?_ (by simp only; omega) _
    exact Below.setCell hB (by simp only; omega) _,
    ((((((((But.set _ _ _ _).trans (But.set _ _ _ _)).trans (But.set _ _ _ _)).trans (But.set _ _ _ _)).trans (But.set _ _ _ _)).trans (But.set _ _ _ _)).trans (But.set _ _ _ _)).trans (But.set _ _ _ _)).trans (But.set _ _ _ _)⟩
/-- A value that reads as a list of ranges. -/
def Rd (w : World) (v : Value) (l : List (Int × Int)) : Prop := ∃ a m cap, v = .slice a m cap ∧ Sp.Rng w a m cap l
theorem Rd.below {w w' : World} {v : Value} {l : List (Int × Int)} (h : Rd w v l) (hb : Below w.heap.size w w') : Rd w' v l := by
  obtain ⟨a, m, cap, e, hR⟩ := h
  exact ⟨a, m, cap, e, hR.below hb⟩
theorem rd_nil (w : World) : Rd w (.slice none 0 0) [] := ⟨none, 0, 0, rfl, rng_of_rw (rw_nil w)⟩
theorem OwnF.rd {w : World} {B : Nat} {v : Value} {l : List (Int × Int)} (h : OwnF rangeV 2 60 w B v l) : Rd w v l := by
  obtain ⟨a, cap, rfl⟩ := h.shape
  exact ⟨a, _, cap, rfl, rng_of_rw (h.rw_ layG)⟩
/-- The list v is the one that was handed in (u, which reads as lu), or new. -/
def Src (u : Value) (lu : List (Int × Int)) (w w' : World) (v : Value) (l : List (Int × Int)) : Prop := (v = u ∧ l = lu) ∨ OwnF rangeV 2 60 w' w.heap.size v l
theorem src_same (u : Value) (lu : List (Int × Int)) (w w' : World) : Src u lu w w' u lu := .inl ⟨rfl, rfl⟩
theorem src_nil (u : Value) (lu : List (Int × Int)) (w w' : World) : Src u lu w w' (.slice none 0 0) [] := .inr (ownF_nil _ _)
theorem Src.rd {u v : Value} {lu l : List (Int × Int)} {w w' : World} (h : Src u lu w w' v l) (hu : Rd w u lu) (hb : Below w.heap.size w w') : Rd w' v l := by
  rcases h with ⟨rfl, rfl⟩ | h
  · exact hu.below hb
  · exact h.rd
theorem Src.step {u v : Value} {lu l : List (Int × Int)} {w W w' W9 : World} {b : Nat} (h : Src u lu W w' v l) (hK : But b w' W9) (hb : b < W.heap.size) (hs : w.heap.size ≤ W.heap.size) : Src u lu w W9 v l := by
  rcases h with h | h
  · exact .inl h
  · exact .inr ((hK.own h hb).mono hs)
theorem Src.below {u v : Value} {lu l : List (Int × Int)} {w w' w'' : World} (h : Src u lu w w' v l) (hb : Below w'.heap.size w' w'') : Src u lu w w'' v l := by
  rcases h with h | h
  · exact .inl h
  · exact .inr (h.below hb)
/-- The operation that is nothing. -/
def op0 : OpV := ⟨0, 0, 0, 0, ⟨#[]⟩, [], 0, 0, false⟩
end Go.Proofs.YtnbedohlgghhdaaDoor

/-! What right gives, of any deed; an operation and its spoilt copies are unlike. -/
namespace Go.Proofs.YtnbedohlgghhdaaDoor
open Go.RowKit Go.Lib Sp
set_option maxRecDepth 100000

theorem encs_size (rs : List Int) : (bs (encs rs)).size ≤ 4 * rs.length := by
  rw [← runesB_bs]
  have := foldl_size_le rs ByteArray.empty
  unfold runesBytes
  have h0 : ByteArray.empty.size = 0 := rfl
  omega
theorem lastHi_le {l : List (Int × Int)} {t : Int} (h0 : l ≠ []) (h : ∀ r ∈ l, r.2 ≤ t) : lastHi l ≤ t := by
  unfold lastHi
  have hl : l.length - 1 < l.length := by have := List.length_pos_iff.2 h0; omega
  rw [List.getD_eq_getElem?_getD, List.getElem?_eq_getElem hl]
  exact h _ (List.getElem_mem hl)
/-- An operation that right makes, with all its numbers small. -/
structure Sane (o : OpV) : Prop where
  own : ownP o = 0
  size : o.s.size ≤ 1024
  id : o.c = 2 ∧ o.n = 1
  kind : 1 ≤ o.k ∧ o.k ≤ 3
  at_ : 0 ≤ o.p ∧ o.p ≤ 1000
  rest : o.tc = 0 ∧ o.tn = 0 ∧ o.on = false
  few : o.l.length ≤ 1000
  top : ∀ r ∈ o.l, 0 ≤ r.2 ∧ r.2 ≤ 1000
theorem sane_ins {p : Int} {rs : List Int} (hp : 0 ≤ p ∧ p ≤ 1000) (hne : rs ≠ []) (hle : rs.length ≤ 256) (hok : ∀ r ∈ rs, okL r) : Sane ⟨2, 1, 1, p, bs (encs rs), [], 0, 0, false⟩ := by
  have hc := (text_own hok).check
  have hpos := List.length_pos_iff.2 hne
  have hsz := encs_size rs
  refine ⟨?_, by simp only; omega, ⟨rfl, rfl⟩, by simp, hp, ⟨rfl, rfl, rfl⟩, by simp, by simp⟩
  unfold ownP
  rw [if_pos ⟨rfl, hp.1, by simp only; omega⟩]
  show opCheck ⟨2, 1, 1, p, bs (encs rs), [], 0, 0, false⟩ p = 0
  exact insOk (.inr (by decide)) (by omega) hc (by omega) (by omega) (by omega) (by omega)
theorem sane_rng {k : Int} {l : List (Int × Int)} {t : Nat} (hk : k = 2 ∨ k = 3) (ht : t ≤ 1000) (hn : Sp.Norm (-1) l) (htop : ∀ r ∈ l, r.2 ≤ (t : Int)) (hne : l ≠ []) (hle : l.length ≤ t) : Sane ⟨2, 1, k, 0, ⟨#[]⟩, l, 0, 0, false⟩ := by
  have hL : Sp.Lst l := ⟨hn, fun r hr => by have := htop r hr; omega, by omega⟩
  refine ⟨?_, by simp [ByteArray.size], ⟨rfl, rfl⟩, by simp only; omega, by simp, ⟨rfl, rfl, rfl⟩, by simp only; omega, fun r hr => ?_⟩
  · unfold ownP
    rw [if_neg (by simp only; omega), opCheck_rng hk (by omega) (.inr (by decide))]
    unfold rngP
    have h1 := lastHi_le hne (fun r hr => hL.top r hr)
    rw [if_neg (by simpa using hne)]
    simp only [hL.check]
    rw [if_neg (by simp), if_neg (by omega)]
  · have h1 := htop r hr
    have h2 := hL.nonneg r hr
    omega
theorem right_any {dk dp : Int} {ta pa : Option Addr} {tn_ tcap pn pcap : Nat} {zs ys : List Int} {w : World} (hT : Rw rune1 1 w ta tn_ tcap zs) (hP : Rw int1 1 w pa pn pcap ys) (t : Nat) (ht : t ≤ 1000) :
    Calls Tryd.prog 4 #[deedV dk dp (.slice ta tn_ tcap) (.slice pa pn pcap), .int .i64 (t : Int), .int .i64 1] w fun e w' => ∃ o a m cap, e = .returned (opVal o (.slice a m cap)) ∧ Sane o ∧ Rng w' a m cap o.l ∧ (∀ g off, a = some ⟨g, off, none⟩ → w.heap.size ≤ g) ∧ Below w.heap.size w w' := by
  by_cases hk : dk % 3 = 0 ∨ t = 0 ∨ pn = 0
  · refine (right_ins hT t (by omega) 1 hk).mono ?_
    rintro e w' ⟨rs, rfl, hne, hle, hok, hb⟩
    have p0 := Int.emod_nonneg dp (show (t : Int) + 1 ≠ 0 by omega)
    have p1 := Int.emod_lt_of_pos dp (show (0 : Int) < (t : Int) + 1 by omega)
    exact ⟨_, none, 0, 0, rfl, sane_ins (by omega) hne hle hok, rng_of_rw (rw_nil _), fun g off e => by simp at e, hb⟩
  · have d0 := Int.emod_nonneg dk (show (3 : Int) ≠ 0 by decide)
    have d1 := Int.emod_lt_of_pos dk (show (0 : Int) < 3 by decide)
    have hk2 : dk % 3 = 1 ∨ dk % 3 = 2 := by omega
    rcases hk2 with hk2 | hk2
    · refine (right_hide hP t (by omega) (by omega) 1 hk2 (by omega)).mono ?_
      rintro e w' ⟨a, m, cap, l, rfl, hr, ha, hn, htop, hne, hle, hb⟩
      exact ⟨_, a, m, cap, rfl, sane_rng (.inl rfl) ht hn htop hne hle, hr, ha, hb⟩
    · refine (right_show hP t (by omega) (by omega) 1 hk2 (by omega)).mono ?_
      rintro e w' ⟨a, m, cap, l, rfl, hr, ha, hn, htop, hne, hle, hb⟩
      exact ⟨_, a, m, cap, rfl, sane_rng (.inr rfl) ht hn htop hne hle, hr, ha, hb⟩
/-- Two right operations print alike just if they are alike. -/
theorem print_inj {o x : OpV} (ho : ownP o = 0) (hx : ownP x = 0) (h : bs (printP o) = bs (printP x)) : o = x := by
  have h1 : printP o = printP x := by rw [← bs_list (printP o), ← bs_list (printP x), h]
  rw [← read_print (right_of ho), ← read_print (right_of hx), h1]
theorem eqP_self (o : OpV) : eqP o o = true := by unfold eqP; simp
theorem eqP_ne {o x : OpV} (h : o ≠ x) : eqP o x = false := by
  unfold eqP
  refine decide_eq_false fun h2 => h ?_
  obtain ⟨c, n, k, p, s, l, tc, tn, on⟩ := o
  obtain ⟨c', n', k', p', s', l', tc', tn', on'⟩ := x
  simp only at h2
  obtain ⟨rfl, rfl, rfl, rfl, rfl, rfl, rfl, rfl, rfl⟩ := h2
  rfl
end Go.Proofs.YtnbedohlgghhdaaDoor

namespace Go.Proofs.YtnbedohlgghhdaaDoor
open Go.RowKit Go.Lib Sp
set_option maxRecDepth 100000

def coveredP (o : OpV) : List (Int × Int) := if o.k = 1 then [(o.p, o.p + widthP o)] else o.l
theorem own_lit {w : World} {B g : Nat} {x y : Int} (h : w.heap[g]? = some (.cells #[.int .i64 x, .int .i64 y] 60)) (hB : B ≤ g) : OwnF rangeV 2 60 w B (.slice (some ⟨g, 0, none⟩) 1 1) [(x, y)] :=
  ⟨rfl, .inr ⟨g, 1, _, rfl, hB, h, Nat.le_refl _, by decide, rfl, rfl⟩⟩

set_option maxHeartbeats 2000000 in
theorem covered_1 {c n p : Int} {s : ByteArray} {l : List (Int × Int)} {tc tn : Int} {on : Bool} {w : World} {a : Option Addr} {m cap : Nat} (hs : s.size ≤ 9223372036854775807) (hw : Bar w) (h0 : 0 ≤ p) (h1 : p ≤ 1048576) (h2 : (check s).1 ≤ 1048576) :
    Calls Tryd.prog 20 #[opVal ⟨c, n, 1, p, s, l, tc, tn, on⟩ (.slice a m cap)] w fun e w' => ∃ v, e = .returned v ∧ OwnF rangeV 2 60 w' (w.heap.size + 1) v [(p, p + (check s).1)] ∧ Below w.heap.size w w' := by
  have h3 := check_nonneg s
  have HW : Hid (∀ w' : World, Below w.heap.size w w' → Calls Tryd.prog 27 #[opVal ⟨c, n, 1, p, s, l, tc, tn, on⟩ (.slice a m cap)] w' fun e w'' => e = .returned (.int .i64 (check s).1) ∧ Below w'.heap.size w' w'') := fun w' hb => width_any (o := ⟨c, n, 1, p, s, l, tc, tn, on⟩) (v := .slice a m cap) (w := w') hs (hw.below hb)
  clear hs hw
  generalize (check s).1 = wd at *
  simp only [opVal] at *
  have hw2 := (Below.refl w.heap.size w).alloc (Nat.le_refl _) (Obj.cells #[.int .i64 c, .int .i64 n, .int .i64 1, .int .i64 p, .string s, .slice a m cap, .int .i64 tc, .int .i64 tn, .bool on] 38)
  have k0 : (w.alloc (Obj.cells #[.int .i64 c, .int .i64 n, .int .i64 1, .int .i64 p, .string s, .slice a m cap, .int .i64 tc, .int .i64 tn, .bool on] 38)).cell? ⟨w.heap.size, 0, none⟩ = some (.int .i64 c) := World.cell?_alloc_mark ..
  have k1 : (w.alloc (Obj.cells #[.int .i64 c, .int .i64 n, .int .i64 1, .int .i64 p, .string s, .slice a m cap, .int .i64 tc, .int .i64 tn, .bool on] 38)).cell? ⟨w.heap.size, 1, none⟩ = some (.int .i64 n) := World.cell?_alloc_mark ..
  have k2 : (w.alloc (Obj.cells #[.int .i64 c, .int .i64 n, .int .i64 1, .int .i64 p, .string s, .slice a m cap, .int .i64 tc, .int .i64 tn, .bool on] 38)).cell? ⟨w.heap.size, 2, none⟩ = some (.int .i64 1) := World.cell?_alloc_mark ..
  have k3 : (w.alloc (Obj.cells #[.int .i64 c, .int .i64 n, .int .i64 1, .int .i64 p, .string s, .slice a m cap, .int .i64 tc, .int .i64 tn, .bool on] 38)).cell? ⟨w.heap.size, 3, none⟩ = some (.int .i64 p) := World.cell?_alloc_mark ..
  have k4 : (w.alloc (Obj.cells #[.int .i64 c, .int .i64 n, .int .i64 1, .int .i64 p, .string s, .slice a m cap, .int .i64 tc, .int .i64 tn, .bool on] 38)).cell? ⟨w.heap.size, 4, none⟩ = some (.string s) := World.cell?_alloc_mark ..
  have k5 : (w.alloc (Obj.cells #[.int .i64 c, .int .i64 n, .int .i64 1, .int .i64 p, .string s, .slice a m cap, .int .i64 tc, .int .i64 tn, .bool on] 38)).cell? ⟨w.heap.size, 5, none⟩ = some (.slice a m cap) := World.cell?_alloc_mark ..
  have k6 : (w.alloc (Obj.cells #[.int .i64 c, .int .i64 n, .int .i64 1, .int .i64 p, .string s, .slice a m cap, .int .i64 tc, .int .i64 tn, .bool on] 38)).cell? ⟨w.heap.size, 6, none⟩ = some (.int .i64 tc) := World.cell?_alloc_mark ..
  have k7 : (w.alloc (Obj.cells #[.int .i64 c, .int .i64 n, .int .i64 1, .int .i64 p, .string s, .slice a m cap, .int .i64 tc, .int .i64 tn, .bool on] 38)).cell? ⟨w.heap.size, 7, none⟩ = some (.int .i64 tn) := World.cell?_alloc_mark ..
  have k8 : (w.alloc (Obj.cells #[.int .i64 c, .int .i64 n, .int .i64 1, .int .i64 p, .string s, .slice a m cap, .int .i64 tc, .int .i64 tn, .bool on] 38)).cell? ⟨w.heap.size, 8, none⟩ = some (.bool on) := World.cell?_alloc_mark ..
  have hk : w.heap.size < (w.alloc (Obj.cells #[.int .i64 c, .int .i64 n, .int .i64 1, .int .i64 p, .string s, .slice a m cap, .int .i64 tc, .int .i64 tn, .bool on] 38)).heap.size := by simp
  have hcur : Below (w.alloc (Obj.cells #[.int .i64 c, .int .i64 n, .int .i64 1, .int .i64 p, .string s, .slice a m cap, .int .i64 tc, .int .i64 tn, .bool on] 38)).heap.size (w.alloc (Obj.cells #[.int .i64 c, .int .i64 n, .int .i64 1, .int .i64 p, .string s, .slice a m cap, .int .i64 tc, .int .i64 tn, .bool on] 38)) (w.alloc (Obj.cells #[.int .i64 c, .int .i64 n, .int .i64 1, .int .i64 p, .string s, .slice a m cap, .int .i64 tc, .int .i64 tn, .bool on] 38)) := Below.refl _ _
  have g1 : IntKind.i64.wrap (p + wd) = p + wd := IntWalk.i64_in _ (by omega)
  go_enter Tryd.func20, Tryd.ntmps20
  go_wp2_with fail
  go_region_held3 (fun W => W.cell? ⟨w.heap.size, 0, none⟩ = some (.int .i64 c) ∧ W.cell? ⟨w.heap.size, 1, none⟩ = some (.int .i64 n) ∧ W.cell? ⟨w.heap.size, 2, none⟩ = some (.int .i64 1) ∧ W.cell? ⟨w.heap.size, 3, none⟩ = some (.int .i64 p) ∧ W.cell? ⟨w.heap.size, 4, none⟩ = some (.string s) ∧ W.cell? ⟨w.heap.size, 5, none⟩ = some (.slice a m cap) ∧ W.cell? ⟨w.heap.size, 6, none⟩ = some (.int .i64 tc) ∧ W.cell? ⟨w.heap.size, 7, none⟩ = some (.int .i64 tn) ∧ W.cell? ⟨w.heap.size, 8, none⟩ = some (.bool on)) (first | exact ⟨k0, k1, k2, k3, k4, k5, k6, k7, k8⟩ | exact ⟨e0, e1, e2, e3, e4, e5, e6, e7, e8⟩ | exact ⟨q0 _, q1 _, q2 _, q3 _, q4 _, q5 _, q6 _, q7 _, q8 _⟩)
      (first
        | (go_at_call 27; refine (HW.out _ ?_).mono ?_; (first | exact hw2.trans (hcur.mono hw2.size) | exact hw2.trans (hcur.drew.mono hw2.size)); rintro e w1 ⟨rfl, hb1⟩; have hcur : Below (w.alloc (Obj.cells #[.int .i64 c, .int .i64 n, .int .i64 1, .int .i64 p, .string s, .slice a m cap, .int .i64 tc, .int .i64 tn, .bool on] 38)).heap.size (w.alloc (Obj.cells #[.int .i64 c, .int .i64 n, .int .i64 1, .int .i64 p, .string s, .slice a m cap, .int .i64 tc, .int .i64 tn, .bool on] 38)) w1 := (by first | exact hcur.trans (hb1.mono hcur.size) | exact hcur.drew.trans (hb1.mono hcur.size)); have e0 := (hcur.cell (p := ⟨w.heap.size, 0, none⟩) hk).trans k0; have e1 := (hcur.cell (p := ⟨w.heap.size, 1, none⟩) hk).trans k1; have e2 := (hcur.cell (p := ⟨w.heap.size, 2, none⟩) hk).trans k2; have e3 := (hcur.cell (p := ⟨w.heap.size, 3, none⟩) hk).trans k3; have e4 := (hcur.cell (p := ⟨w.heap.size, 4, none⟩) hk).trans k4; have e5 := (hcur.cell (p := ⟨w.heap.size, 5, none⟩) hk).trans k5; have e6 := (hcur.cell (p := ⟨w.heap.size, 6, none⟩) hk).trans k6; have e7 := (hcur.cell (p := ⟨w.heap.size, 7, none⟩) hk).trans k7; have e8 := (hcur.cell (p := ⟨w.heap.size, 8, none⟩) hk).trans k8; have hk1 : w.heap.size < w1.heap.size := Nat.lt_of_lt_of_le hk hcur.size; have q0 := fun o => (World.cell?_alloc_lt w1 o ⟨w.heap.size, 0, none⟩ hk1).trans e0; have q1 := fun o => (World.cell?_alloc_lt w1 o ⟨w.heap.size, 1, none⟩ hk1).trans e1; have q2 := fun o => (World.cell?_alloc_lt w1 o ⟨w.heap.size, 2, none⟩ hk1).trans e2; have q3 := fun o => (World.cell?_alloc_lt w1 o ⟨w.heap.size, 3, none⟩ hk1).trans e3; have q4 := fun o => (World.cell?_alloc_lt w1 o ⟨w.heap.size, 4, none⟩ hk1).trans e4; have q5 := fun o => (World.cell?_alloc_lt w1 o ⟨w.heap.size, 5, none⟩ hk1).trans e5; have q6 := fun o => (World.cell?_alloc_lt w1 o ⟨w.heap.size, 6, none⟩ hk1).trans e6; have q7 := fun o => (World.cell?_alloc_lt w1 o ⟨w.heap.size, 7, none⟩ hk1).trans e7; have q8 := fun o => (World.cell?_alloc_lt w1 o ⟨w.heap.size, 8, none⟩ hk1).trans e8))
  all_goals
    have hB1 := hw2.trans (hcur.mono hw2.size)
    have hB2 := hB1.alloc hB1.size (Obj.cells #[.int .i64 p, .int .i64 (p + wd)] 60)
    have hO : Hid (OwnF rangeV 2 60 (w1.alloc (Obj.cells #[.int .i64 p, .int .i64 (p + wd)] 60)) (w.heap.size + 1) (.slice (some ⟨w1.heap.size, 0, none⟩) 1 1) [(p, p + wd)]) := own_lit (alloc_last _ _ _ rfl) (by omega)
    clear q0 q1 q2 q3 q4 q5 q6 q7 q8
    go_wp2_with fail
    go_ret
    exact ⟨_, rfl, hO.out, hB2⟩

set_option maxHeartbeats 1000000 in
theorem covered_other {o : OpV} {w : World} {a : Option Addr} {m cap : Nat} (h : Rng w a m cap o.l) (hm : m ≤ 1000000000) (hk : o.k ≠ 1) :
    Calls Tryd.prog 20 #[opVal o (.slice a m cap)] w fun e w' => ∃ v, e = .returned v ∧ OwnF rangeV 2 60 w' (w.heap.size + 1) v o.l ∧ Below w.heap.size w w' := by
  have HR : Hid (∀ w' : World, Below w.heap.size w w' → Calls Tryd.prog 19 #[.slice a m cap] w' fun e w'' => ∃ v, e = .returned v ∧ OwnF rangeV 2 60 w'' w'.heap.size v o.l ∧ Below w'.heap.size w' w'') := fun w' hb => copiedR_any (h.below hb) hm
  clear h hm
  obtain ⟨c, n, k, p, s, l, tc, tn, on⟩ := o
  simp only at hk HR
  have t1 : (k == 1) = false := beq_eq_false_iff_ne.2 hk
  have t2 : decide (k = 1) = false := decide_eq_false hk
  simp only [opVal]
  have hw2 := (Below.refl w.heap.size w).alloc (Nat.le_refl _) (Obj.cells #[.int .i64 c, .int .i64 n, .int .i64 k, .int .i64 p, .string s, .slice a m cap, .int .i64 tc, .int .i64 tn, .bool on] 38)
  go_enter Tryd.func20, Tryd.ntmps20
  go_wp2_with fail
  refine (HR.out _ hw2).mono ?_
  rintro e w1 ⟨v, rfl, hown, hb1⟩
  have hB1 := hw2.trans (hb1.mono hw2.size)
  have HO : Hid (OwnF rangeV 2 60 w1 (w.heap.size + 1) v l) := hown.mono (by simp)
  clear hown hb1 hw2
  go_wp2_with fail
  go_ret
  exact ⟨_, rfl, HO.out, hB1⟩
/-- op's covered, of a right operation. -/
theorem covered_any {o : OpV} {w : World} {a : Option Addr} {m cap : Nat} (h : Rng w a m cap o.l) (hm : m ≤ 1000000000) (hs : o.s.size ≤ 9223372036854775807) (hw : Bar w) (hR : Right o) :
    Calls Tryd.prog 20 #[opVal o (.slice a m cap)] w fun e w' => ∃ v, e = .returned v ∧ OwnF rangeV 2 60 w' (w.heap.size + 1) v (coveredP o) ∧ Below w.heap.size w w' := by
  by_cases hk : o.k = 1
  · obtain ⟨h0, h1, h2⟩ := hR.ins hk
    have h3 := insP_code _ _ h2
    have e : coveredP o = [(o.p, o.p + (check o.s).1)] := by unfold coveredP widthP; rw [if_pos hk, if_pos hk]
    rw [e]
    obtain ⟨c, n, k, p, s, l, tc, tn, on⟩ := o
    simp only at hk
    subst hk
    exact covered_1 hs hw h0 h1 (by have := h3.2.2.2.2.1; simp only at this ⊢; omega)
  · have e : coveredP o = o.l := by unfold coveredP; rw [if_neg hk]
    rw [e]
    exact covered_other h hm hk
end Go.Proofs.YtnbedohlgghhdaaDoor

namespace Go.Proofs.YtnbedohlgghhdaaDoor
open Go.RowKit Go.Lib Sp
set_option maxRecDepth 100000

def inverseP (o : OpV) : OpV := if o.k = 1 ∨ o.k = 3 then ⟨0, 0, 2, 0, ⟨#[]⟩, coveredP o, 0, 0, false⟩ else if o.k = 2 then ⟨0, 0, 3, 0, ⟨#[]⟩, coveredP o, 0, 0, false⟩ else ⟨0, 0, 4, 0, ⟨#[]⟩, [], o.tc, o.tn, !o.on⟩
set_option maxHeartbeats 2000000 in
theorem inverse_wrong {c n k p : Int} {s : ByteArray} {l : List (Int × Int)} {tc tn : Int} {on : Bool} {w : World} {a : Option Addr} {m cap : Nat} (h : Rng w a m cap l) (hm : m ≤ 1000000000) (hs : s.size ≤ 9223372036854775807) (hw : Bar w) (hok : ownP ⟨c, n, k, p, s, l, tc, tn, on⟩ ≠ 0) :
    Calls Tryd.prog 9 #[opVal ⟨c, n, k, p, s, l, tc, tn, on⟩ (.slice a m cap)] w fun e w' => e = .returned (.tuple #[opVal zeroOp (.slice none 0 0), .int .i64 (ownP ⟨c, n, k, p, s, l, tc, tn, on⟩)]) ∧ Below w.heap.size w w' := by
  have _hm := hm
  have HO : Hid (∀ w' : World, Below w.heap.size w w' → Calls Tryd.prog 15 #[opVal ⟨c, n, k, p, s, l, tc, tn, on⟩ (.slice a m cap)] w' fun e w'' => e = .returned (.int .i64 (ownP ⟨c, n, k, p, s, l, tc, tn, on⟩)) ∧ Below w'.heap.size w' w'') := fun w' hb => ownError_any (o := ⟨c, n, k, p, s, l, tc, tn, on⟩) (h.below hb) hs (hw.below hb)
  have t1 : (ownP ⟨c, n, k, p, s, l, tc, tn, on⟩ == 0) = false := beq_eq_false_iff_ne.2 hok
  have t2 : decide (ownP ⟨c, n, k, p, s, l, tc, tn, on⟩ = 0) = false := decide_eq_false hok
  have t3 : ¬ ownP ⟨c, n, k, p, s, l, tc, tn, on⟩ = 0 := hok
  generalize ownP ⟨c, n, k, p, s, l, tc, tn, on⟩ = r at *
  clear h hs hw hok
  simp only [opVal, zeroOp] at *
  have hX : Below w.heap.size w ((w.alloc (Obj.cells #[.int .i64 c, .int .i64 n, .int .i64 k, .int .i64 p, .string s, .slice a m cap, .int .i64 tc, .int .i64 tn, .bool on] 38)).alloc (Obj.cells #[.int .i64 0, .int .i64 0, .int .i64 0, .int .i64 0, .string ⟨#[]⟩, .slice none 0 0, .int .i64 0, .int .i64 0, .bool false] 38)) := ((Below.refl w.heap.size w).alloc (Nat.le_refl _) _).alloc (by simp) _
  have y0 : ((w.alloc (Obj.cells #[.int .i64 c, .int .i64 n, .int .i64 k, .int .i64 p, .string s, .slice a m cap, .int .i64 tc, .int .i64 tn, .bool on] 38)).alloc (Obj.cells #[.int .i64 0, .int .i64 0, .int .i64 0, .int .i64 0, .string ⟨#[]⟩, .slice none 0 0, .int .i64 0, .int .i64 0, .bool false] 38)).heap[w.heap.size]? = some (Obj.cells #[.int .i64 c, .int .i64 n, .int .i64 k, .int .i64 p, .string s, .slice a m cap, .int .i64 tc, .int .i64 tn, .bool on] 38) := (Below.heap_alloc _ _ _ (by simp)).trans (alloc_last _ _ _ rfl)
  have x0 : ((w.alloc (Obj.cells #[.int .i64 c, .int .i64 n, .int .i64 k, .int .i64 p, .string s, .slice a m cap, .int .i64 tc, .int .i64 tn, .bool on] 38)).alloc (Obj.cells #[.int .i64 0, .int .i64 0, .int .i64 0, .int .i64 0, .string ⟨#[]⟩, .slice none 0 0, .int .i64 0, .int .i64 0, .bool false] 38)).heap[w.heap.size + 1]? = some (Obj.cells #[.int .i64 0, .int .i64 0, .int .i64 0, .int .i64 0, .string ⟨#[]⟩, .slice none 0 0, .int .i64 0, .int .i64 0, .bool false] 38) := alloc_last _ _ _ (by simp)
  have hXs : ((w.alloc (Obj.cells #[.int .i64 c, .int .i64 n, .int .i64 k, .int .i64 p, .string s, .slice a m cap, .int .i64 tc, .int .i64 tn, .bool on] 38)).alloc (Obj.cells #[.int .i64 0, .int .i64 0, .int .i64 0, .int .i64 0, .string ⟨#[]⟩, .slice none 0 0, .int .i64 0, .int .i64 0, .bool false] 38)).heap.size = w.heap.size + 2 := by simp
  go_enter Tryd.func9, Tryd.ntmps9
  go_wp2_with fail
  refine (HO.out _ hX).mono ?_
  rintro e w1 ⟨rfl, hb1⟩
  have hB1 := hX.trans (hb1.mono hX.size)
  have x1 := (hb1.block _ (Array.getElem?_eq_some_iff.1 x0).1).trans x0
  have y1 := (hb1.block _ (Array.getElem?_eq_some_iff.1 y0).1).trans y0
  have hs1 : w.heap.size + 2 ≤ w1.heap.size := by have := hb1.size; rw [hXs] at this; exact this
  clear hX x0 y0 hb1 hXs
  have f0 : w1.cell? ⟨w.heap.size, 0, none⟩ = some (.int .i64 c) := by rw [Lib.cell_of_heap y1]; rfl
  have f1 : w1.cell? ⟨w.heap.size, 1, none⟩ = some (.int .i64 n) := by rw [Lib.cell_of_heap y1]; rfl
  have f2 : w1.cell? ⟨w.heap.size, 2, none⟩ = some (.int .i64 k) := by rw [Lib.cell_of_heap y1]; rfl
  have f3 : w1.cell? ⟨w.heap.size, 3, none⟩ = some (.int .i64 p) := by rw [Lib.cell_of_heap y1]; rfl
  have f4 : w1.cell? ⟨w.heap.size, 4, none⟩ = some (.string s) := by rw [Lib.cell_of_heap y1]; rfl
  have f5 : w1.cell? ⟨w.heap.size, 5, none⟩ = some (.slice a m cap) := by rw [Lib.cell_of_heap y1]; rfl
  have f6 : w1.cell? ⟨w.heap.size, 6, none⟩ = some (.int .i64 tc) := by rw [Lib.cell_of_heap y1]; rfl
  have f7 : w1.cell? ⟨w.heap.size, 7, none⟩ = some (.int .i64 tn) := by rw [Lib.cell_of_heap y1]; rfl
  have f8 : w1.cell? ⟨w.heap.size, 8, none⟩ = some (.bool on) := by rw [Lib.cell_of_heap y1]; rfl
  have d0 : w1.cell? ⟨w.heap.size + 1, 0, none⟩ = some (.int .i64 0) := by rw [Lib.cell_of_heap x1]; rfl
  have dz0 : w1.frozen? ⟨w.heap.size + 1, 0, none⟩ = false := Lib.frozen_of_heap x1 0
  have d1 : w1.cell? ⟨w.heap.size + 1, 1, none⟩ = some (.int .i64 0) := by rw [Lib.cell_of_heap x1]; rfl
  have dz1 : w1.frozen? ⟨w.heap.size + 1, 1, none⟩ = false := Lib.frozen_of_heap x1 1
  have d2 : w1.cell? ⟨w.heap.size + 1, 2, none⟩ = some (.int .i64 0) := by rw [Lib.cell_of_heap x1]; rfl
  have dz2 : w1.frozen? ⟨w.heap.size + 1, 2, none⟩ = false := Lib.frozen_of_heap x1 2
  have d3 : w1.cell? ⟨w.heap.size + 1, 3, none⟩ = some (.int .i64 0) := by rw [Lib.cell_of_heap x1]; rfl
  have dz3 : w1.frozen? ⟨w.heap.size + 1, 3, none⟩ = false := Lib.frozen_of_heap x1 3
  have d4 : w1.cell? ⟨w.heap.size + 1, 4, none⟩ = some (.string ⟨#[]⟩) := by rw [Lib.cell_of_heap x1]; rfl
  have dz4 : w1.frozen? ⟨w.heap.size + 1, 4, none⟩ = false := Lib.frozen_of_heap x1 4
  have d5 : w1.cell? ⟨w.heap.size + 1, 5, none⟩ = some (.slice none 0 0) := by rw [Lib.cell_of_heap x1]; rfl
  have dz5 : w1.frozen? ⟨w.heap.size + 1, 5, none⟩ = false := Lib.frozen_of_heap x1 5
  have d6 : w1.cell? ⟨w.heap.size + 1, 6, none⟩ = some (.int .i64 0) := by rw [Lib.cell_of_heap x1]; rfl
  have dz6 : w1.frozen? ⟨w.heap.size + 1, 6, none⟩ = false := Lib.frozen_of_heap x1 6
  have d7 : w1.cell? ⟨w.heap.size + 1, 7, none⟩ = some (.int .i64 0) := by rw [Lib.cell_of_heap x1]; rfl
  have dz7 : w1.frozen? ⟨w.heap.size + 1, 7, none⟩ = false := Lib.frozen_of_heap x1 7
  have d8 : w1.cell? ⟨w.heap.size + 1, 8, none⟩ = some (.bool false) := by rw [Lib.cell_of_heap x1]; rfl
  have dz8 : w1.frozen? ⟨w.heap.size + 1, 8, none⟩ = false := Lib.frozen_of_heap x1 8
  have hx9 := set9g (v0 := .int .i64 0) (v1 := .int .i64 0) (v2 := .int .i64 0) (v3 := .int .i64 0) (v4 := .string ⟨#[]⟩) (v5 := .slice none 0 0) (v6 := .int .i64 0) (v7 := .int .i64 0) (v8 := .bool false) x1
  have hq0 := hB1.setCell (p := ⟨w.heap.size + 1, 0, none⟩) (by simp only; omega) (.int .i64 0)
  have hq1 := hq0.setCell (p := ⟨w.heap.size + 1, 1, none⟩) (by simp only; omega) (.int .i64 0)
  have hq2 := hq1.setCell (p := ⟨w.heap.size + 1, 2, none⟩) (by simp only; omega) (.int .i64 0)
  have hq3 := hq2.setCell (p := ⟨w.heap.size + 1, 3, none⟩) (by simp only; omega) (.int .i64 0)
  have hq4 := hq3.setCell (p := ⟨w.heap.size + 1, 4, none⟩) (by simp only; omega) (.string ⟨#[]⟩)
  have hq5 := hq4.setCell (p := ⟨w.heap.size + 1, 5, none⟩) (by simp only; omega) (.slice none 0 0)
  have hq6 := hq5.setCell (p := ⟨w.heap.size + 1, 6, none⟩) (by simp only; omega) (.int .i64 0)
  have hq7 := hq6.setCell (p := ⟨w.heap.size + 1, 7, none⟩) (by simp only; omega) (.int .i64 0)
  have hq8 := hq7.setCell (p := ⟨w.heap.size + 1, 8, none⟩) (by simp only; omega) (.bool false)
  obtain ⟨w9, hw9⟩ : ∃ w9, (((((((((w1.setCell ⟨w.heap.size + 1, 0, none⟩ (.int .i64 0)).setCell ⟨w.heap.size + 1, 1, none⟩ (.int .i64 0)).setCell ⟨w.heap.size + 1, 2, none⟩ (.int .i64 0)).setCell ⟨w.heap.size + 1, 3, none⟩ (.int .i64 0)).setCell ⟨w.heap.size + 1, 4, none⟩ (.string ⟨#[]⟩)).setCell ⟨w.heap.size + 1, 5, none⟩ (.slice none 0 0)).setCell ⟨w.heap.size + 1, 6, none⟩ (.int .i64 0)).setCell ⟨w.heap.size + 1, 7, none⟩ (.int .i64 0)).setCell ⟨w.heap.size + 1, 8, none⟩ (.bool false)) = w9 := ⟨_, rfl⟩
  rw [hw9] at hx9 hq8
  have r0 : w9.cell? ⟨w.heap.size + 1, 0, none⟩ = some (.int .i64 0) := by rw [Lib.cell_of_heap hx9]; rfl
  have r1 : w9.cell? ⟨w.heap.size + 1, 1, none⟩ = some (.int .i64 0) := by rw [Lib.cell_of_heap hx9]; rfl
  have r2 : w9.cell? ⟨w.heap.size + 1, 2, none⟩ = some (.int .i64 0) := by rw [Lib.cell_of_heap hx9]; rfl
  have r3 : w9.cell? ⟨w.heap.size + 1, 3, none⟩ = some (.int .i64 0) := by rw [Lib.cell_of_heap hx9]; rfl
  have r4 : w9.cell? ⟨w.heap.size + 1, 4, none⟩ = some (.string ⟨#[]⟩) := by rw [Lib.cell_of_heap hx9]; rfl
  have r5 : w9.cell? ⟨w.heap.size + 1, 5, none⟩ = some (.slice none 0 0) := by rw [Lib.cell_of_heap hx9]; rfl
  have r6 : w9.cell? ⟨w.heap.size + 1, 6, none⟩ = some (.int .i64 0) := by rw [Lib.cell_of_heap hx9]; rfl
  have r7 : w9.cell? ⟨w.heap.size + 1, 7, none⟩ = some (.int .i64 0) := by rw [Lib.cell_of_heap hx9]; rfl
  have r8 : w9.cell? ⟨w.heap.size + 1, 8, none⟩ = some (.bool false) := by rw [Lib.cell_of_heap hx9]; rfl
  clear hq7 hq6 hq5 hq4 hq3 hq2 hq1 hq0
  go_wp2_with fail
  try rw [hw9]
  refine bodyPost_ret (v := .tuple #[.agg #[.int .i64 0, .int .i64 0, .int .i64 0, .int .i64 0, .string ⟨#[]⟩, .slice none 0 0, .int .i64 0, .int .i64 0, .bool false], .int .i64 r]) (by simp [results, Tryd.results9, go_sem, r0, r1, r2, r3, r4, r5, r6, r7, r8]) rfl ⟨rfl, hq8⟩
set_option maxHeartbeats 2000000 in
theorem inverse_1 {c n p : Int} {s : ByteArray} {l : List (Int × Int)} {tc tn : Int} {on : Bool} {w : World} {a : Option Addr} {m cap : Nat} (h : Rng w a m cap l) (hm : m ≤ 1000000000) (hs : s.size ≤ 9223372036854775807) (hw : Bar w) (hok : ownP ⟨c, n, 1, p, s, l, tc, tn, on⟩ = 0) :
    Calls Tryd.prog 9 #[opVal ⟨c, n, 1, p, s, l, tc, tn, on⟩ (.slice a m cap)] w fun e w' => ∃ a' m' cap', e = .returned (.tuple #[opVal ⟨0, 0, 2, 0, ⟨#[]⟩, coveredP ⟨c, n, 1, p, s, l, tc, tn, on⟩, 0, 0, false⟩ (.slice a' m' cap'), .int .i64 0]) ∧ OwnF rangeV 2 60 w' (w.heap.size + 2) (.slice a' m' cap') (coveredP ⟨c, n, 1, p, s, l, tc, tn, on⟩) ∧ Below w.heap.size w w' := by
  have HO : Hid (∀ w' : World, Below w.heap.size w w' → Calls Tryd.prog 15 #[opVal ⟨c, n, 1, p, s, l, tc, tn, on⟩ (.slice a m cap)] w' fun e w'' => e = .returned (.int .i64 (ownP ⟨c, n, 1, p, s, l, tc, tn, on⟩)) ∧ Below w'.heap.size w' w'') := fun w' hb => ownError_any (o := ⟨c, n, 1, p, s, l, tc, tn, on⟩) (h.below hb) hs (hw.below hb)
  have hR := right_of hok
  have HV : Hid (∀ w' : World, Below w.heap.size w w' → Calls Tryd.prog 20 #[opVal ⟨c, n, 1, p, s, l, tc, tn, on⟩ (.slice a m cap)] w' fun e w'' => ∃ v, e = .returned v ∧ OwnF rangeV 2 60 w'' (w'.heap.size + 1) v (coveredP ⟨c, n, 1, p, s, l, tc, tn, on⟩) ∧ Below w'.heap.size w' w'') := fun w' hb => covered_any (o := ⟨c, n, 1, p, s, l, tc, tn, on⟩) (h.below hb) hm hs (hw.below hb) hR
  rw [hok] at HO
  generalize coveredP ⟨c, n, 1, p, s, l, tc, tn, on⟩ = CV at *
  clear hR
  clear h hs hw hok
  simp only [opVal] at *
  have hX : Below w.heap.size w ((w.alloc (Obj.cells #[.int .i64 c, .int .i64 n, .int .i64 1, .int .i64 p, .string s, .slice a m cap, .int .i64 tc, .int .i64 tn, .bool on] 38)).alloc (Obj.cells #[.int .i64 0, .int .i64 0, .int .i64 0, .int .i64 0, .string ⟨#[]⟩, .slice none 0 0, .int .i64 0, .int .i64 0, .bool false] 38)) := ((Below.refl w.heap.size w).alloc (Nat.le_refl _) _).alloc (by simp) _
  have y0 : ((w.alloc (Obj.cells #[.int .i64 c, .int .i64 n, .int .i64 1, .int .i64 p, .string s, .slice a m cap, .int .i64 tc, .int .i64 tn, .bool on] 38)).alloc (Obj.cells #[.int .i64 0, .int .i64 0, .int .i64 0, .int .i64 0, .string ⟨#[]⟩, .slice none 0 0, .int .i64 0, .int .i64 0, .bool false] 38)).heap[w.heap.size]? = some (Obj.cells #[.int .i64 c, .int .i64 n, .int .i64 1, .int .i64 p, .string s, .slice a m cap, .int .i64 tc, .int .i64 tn, .bool on] 38) := (Below.heap_alloc _ _ _ (by simp)).trans (alloc_last _ _ _ rfl)
  have x0 : ((w.alloc (Obj.cells #[.int .i64 c, .int .i64 n, .int .i64 1, .int .i64 p, .string s, .slice a m cap, .int .i64 tc, .int .i64 tn, .bool on] 38)).alloc (Obj.cells #[.int .i64 0, .int .i64 0, .int .i64 0, .int .i64 0, .string ⟨#[]⟩, .slice none 0 0, .int .i64 0, .int .i64 0, .bool false] 38)).heap[w.heap.size + 1]? = some (Obj.cells #[.int .i64 0, .int .i64 0, .int .i64 0, .int .i64 0, .string ⟨#[]⟩, .slice none 0 0, .int .i64 0, .int .i64 0, .bool false] 38) := alloc_last _ _ _ (by simp)
  have hXs : ((w.alloc (Obj.cells #[.int .i64 c, .int .i64 n, .int .i64 1, .int .i64 p, .string s, .slice a m cap, .int .i64 tc, .int .i64 tn, .bool on] 38)).alloc (Obj.cells #[.int .i64 0, .int .i64 0, .int .i64 0, .int .i64 0, .string ⟨#[]⟩, .slice none 0 0, .int .i64 0, .int .i64 0, .bool false] 38)).heap.size = w.heap.size + 2 := by simp
  go_enter Tryd.func9, Tryd.ntmps9
  go_wp2_with fail
  refine (HO.out _ hX).mono ?_
  rintro e w1 ⟨rfl, hb1⟩
  have hB1 := hX.trans (hb1.mono hX.size)
  have x1 := (hb1.block _ (Array.getElem?_eq_some_iff.1 x0).1).trans x0
  have y1 := (hb1.block _ (Array.getElem?_eq_some_iff.1 y0).1).trans y0
  have hs1 : w.heap.size + 2 ≤ w1.heap.size := by have := hb1.size; rw [hXs] at this; exact this
  clear hX x0 y0 hb1 hXs
  have f0 : w1.cell? ⟨w.heap.size, 0, none⟩ = some (.int .i64 c) := by rw [Lib.cell_of_heap y1]; rfl
  have f1 : w1.cell? ⟨w.heap.size, 1, none⟩ = some (.int .i64 n) := by rw [Lib.cell_of_heap y1]; rfl
  have f2 : w1.cell? ⟨w.heap.size, 2, none⟩ = some (.int .i64 1) := by rw [Lib.cell_of_heap y1]; rfl
  have f3 : w1.cell? ⟨w.heap.size, 3, none⟩ = some (.int .i64 p) := by rw [Lib.cell_of_heap y1]; rfl
  have f4 : w1.cell? ⟨w.heap.size, 4, none⟩ = some (.string s) := by rw [Lib.cell_of_heap y1]; rfl
  have f5 : w1.cell? ⟨w.heap.size, 5, none⟩ = some (.slice a m cap) := by rw [Lib.cell_of_heap y1]; rfl
  have f6 : w1.cell? ⟨w.heap.size, 6, none⟩ = some (.int .i64 tc) := by rw [Lib.cell_of_heap y1]; rfl
  have f7 : w1.cell? ⟨w.heap.size, 7, none⟩ = some (.int .i64 tn) := by rw [Lib.cell_of_heap y1]; rfl
  have f8 : w1.cell? ⟨w.heap.size, 8, none⟩ = some (.bool on) := by rw [Lib.cell_of_heap y1]; rfl
  go_wp2_with fail
  refine (HV.out _ hB1).mono ?_
  rintro e w2 ⟨v, rfl, hown, hb2⟩
  have hB2 := hB1.trans (hb2.mono hB1.size)
  have x2 := (hb2.block _ (Array.getElem?_eq_some_iff.1 x1).1).trans x1
  obtain ⟨va, vc, rfl⟩ := hown.shape
  have HOw : Hid (OwnF rangeV 2 60 w2 (w.heap.size + 2) (.slice va CV.length vc) CV) := hown.mono (by omega)
  clear hb2 hown x1 y1 hB1 hs1 f0 f1 f2 f3 f4 f5 f6 f7 f8
  have d0 : w2.cell? ⟨w.heap.size + 1, 0, none⟩ = some (.int .i64 0) := by rw [Lib.cell_of_heap x2]; rfl
  have dz0 : w2.frozen? ⟨w.heap.size + 1, 0, none⟩ = false := Lib.frozen_of_heap x2 0
  have d1 : w2.cell? ⟨w.heap.size + 1, 1, none⟩ = some (.int .i64 0) := by rw [Lib.cell_of_heap x2]; rfl
  have dz1 : w2.frozen? ⟨w.heap.size + 1, 1, none⟩ = false := Lib.frozen_of_heap x2 1
  have d2 : w2.cell? ⟨w.heap.size + 1, 2, none⟩ = some (.int .i64 0) := by rw [Lib.cell_of_heap x2]; rfl
  have dz2 : w2.frozen? ⟨w.heap.size + 1, 2, none⟩ = false := Lib.frozen_of_heap x2 2
  have d3 : w2.cell? ⟨w.heap.size + 1, 3, none⟩ = some (.int .i64 0) := by rw [Lib.cell_of_heap x2]; rfl
  have dz3 : w2.frozen? ⟨w.heap.size + 1, 3, none⟩ = false := Lib.frozen_of_heap x2 3
  have d4 : w2.cell? ⟨w.heap.size + 1, 4, none⟩ = some (.string ⟨#[]⟩) := by rw [Lib.cell_of_heap x2]; rfl
  have dz4 : w2.frozen? ⟨w.heap.size + 1, 4, none⟩ = false := Lib.frozen_of_heap x2 4
  have d5 : w2.cell? ⟨w.heap.size + 1, 5, none⟩ = some (.slice none 0 0) := by rw [Lib.cell_of_heap x2]; rfl
  have dz5 : w2.frozen? ⟨w.heap.size + 1, 5, none⟩ = false := Lib.frozen_of_heap x2 5
  have d6 : w2.cell? ⟨w.heap.size + 1, 6, none⟩ = some (.int .i64 0) := by rw [Lib.cell_of_heap x2]; rfl
  have dz6 : w2.frozen? ⟨w.heap.size + 1, 6, none⟩ = false := Lib.frozen_of_heap x2 6
  have d7 : w2.cell? ⟨w.heap.size + 1, 7, none⟩ = some (.int .i64 0) := by rw [Lib.cell_of_heap x2]; rfl
  have dz7 : w2.frozen? ⟨w.heap.size + 1, 7, none⟩ = false := Lib.frozen_of_heap x2 7
  have d8 : w2.cell? ⟨w.heap.size + 1, 8, none⟩ = some (.bool false) := by rw [Lib.cell_of_heap x2]; rfl
  have dz8 : w2.frozen? ⟨w.heap.size + 1, 8, none⟩ = false := Lib.frozen_of_heap x2 8
  have hx9 := set9g (v0 := .int .i64 0) (v1 := .int .i64 0) (v2 := .int .i64 2) (v3 := .int .i64 0) (v4 := .string ⟨#[]⟩) (v5 := .slice va CV.length vc) (v6 := .int .i64 0) (v7 := .int .i64 0) (v8 := .bool false) x2
  have hq0 := hB2.setCell (p := ⟨w.heap.size + 1, 0, none⟩) (by simp only; omega) (.int .i64 0)
  have hq1 := hq0.setCell (p := ⟨w.heap.size + 1, 1, none⟩) (by simp only; omega) (.int .i64 0)
  have hq2 := hq1.setCell (p := ⟨w.heap.size + 1, 2, none⟩) (by simp only; omega) (.int .i64 2)
  have hq3 := hq2.setCell (p := ⟨w.heap.size + 1, 3, none⟩) (by simp only; omega) (.int .i64 0)
  have hq4 := hq3.setCell (p := ⟨w.heap.size + 1, 4, none⟩) (by simp only; omega) (.string ⟨#[]⟩)
  have hq5 := hq4.setCell (p := ⟨w.heap.size + 1, 5, none⟩) (by simp only; omega) (.slice va CV.length vc)
  have hq6 := hq5.setCell (p := ⟨w.heap.size + 1, 6, none⟩) (by simp only; omega) (.int .i64 0)
  have hq7 := hq6.setCell (p := ⟨w.heap.size + 1, 7, none⟩) (by simp only; omega) (.int .i64 0)
  have hq8 := hq7.setCell (p := ⟨w.heap.size + 1, 8, none⟩) (by simp only; omega) (.bool false)
  obtain ⟨w9, hw9⟩ : ∃ w9, (((((((((w2.setCell ⟨w.heap.size + 1, 0, none⟩ (.int .i64 0)).setCell ⟨w.heap.size + 1, 1, none⟩ (.int .i64 0)).setCell ⟨w.heap.size + 1, 2, none⟩ (.int .i64 2)).setCell ⟨w.heap.size + 1, 3, none⟩ (.int .i64 0)).setCell ⟨w.heap.size + 1, 4, none⟩ (.string ⟨#[]⟩)).setCell ⟨w.heap.size + 1, 5, none⟩ (.slice va CV.length vc)).setCell ⟨w.heap.size + 1, 6, none⟩ (.int .i64 0)).setCell ⟨w.heap.size + 1, 7, none⟩ (.int .i64 0)).setCell ⟨w.heap.size + 1, 8, none⟩ (.bool false)) = w9 := ⟨_, rfl⟩
  have HO9 : Hid (OwnF rangeV 2 60 w9 (w.heap.size + 2) (.slice va CV.length vc) CV) := by
    show OwnF _ _ _ _ _ _ _
    rw [← hw9]
    refine own_set ?_ _ _ _ (by omega)
    refine own_set ?_ _ _ _ (by omega)
    refine own_set ?_ _ _ _ (by omega)
    refine own_set ?_ _ _ _ (by omega)
    refine own_set ?_ _ _ _ (by omega)
    refine own_set ?_ _ _ _ (by omega)
    refine own_set ?_ _ _ _ (by omega)
    refine own_set ?_ _ _ _ (by omega)
    refine own_set ?_ _ _ _ (by omega)
    exact HOw.out
  rw [hw9] at hx9 hq8
  have r0 : w9.cell? ⟨w.heap.size + 1, 0, none⟩ = some (.int .i64 0) := by rw [Lib.cell_of_heap hx9]; rfl
  have r1 : w9.cell? ⟨w.heap.size + 1, 1, none⟩ = some (.int .i64 0) := by rw [Lib.cell_of_heap hx9]; rfl
  have r2 : w9.cell? ⟨w.heap.size + 1, 2, none⟩ = some (.int .i64 2) := by rw [Lib.cell_of_heap hx9]; rfl
  have r3 : w9.cell? ⟨w.heap.size + 1, 3, none⟩ = some (.int .i64 0) := by rw [Lib.cell_of_heap hx9]; rfl
  have r4 : w9.cell? ⟨w.heap.size + 1, 4, none⟩ = some (.string ⟨#[]⟩) := by rw [Lib.cell_of_heap hx9]; rfl
  have r5 : w9.cell? ⟨w.heap.size + 1, 5, none⟩ = some (.slice va CV.length vc) := by rw [Lib.cell_of_heap hx9]; rfl
  have r6 : w9.cell? ⟨w.heap.size + 1, 6, none⟩ = some (.int .i64 0) := by rw [Lib.cell_of_heap hx9]; rfl
  have r7 : w9.cell? ⟨w.heap.size + 1, 7, none⟩ = some (.int .i64 0) := by rw [Lib.cell_of_heap hx9]; rfl
  have r8 : w9.cell? ⟨w.heap.size + 1, 8, none⟩ = some (.bool false) := by rw [Lib.cell_of_heap hx9]; rfl
  clear hq7 hq6 hq5 hq4 hq3 hq2 hq1 hq0
  go_wp2_with fail
  try rw [hw9]
  refine bodyPost_ret (v := .tuple #[.agg #[.int .i64 0, .int .i64 0, .int .i64 2, .int .i64 0, .string ⟨#[]⟩, .slice va CV.length vc, .int .i64 0, .int .i64 0, .bool false], .int .i64 0]) (by simp [results, Tryd.results9, go_sem, r0, r1, r2, r3, r4, r5, r6, r7, r8]) rfl ⟨va, CV.length, vc, rfl, HO9.out, hq8⟩
set_option maxHeartbeats 2000000 in
theorem inverse_3 {c n p : Int} {s : ByteArray} {l : List (Int × Int)} {tc tn : Int} {on : Bool} {w : World} {a : Option Addr} {m cap : Nat} (h : Rng w a m cap l) (hm : m ≤ 1000000000) (hs : s.size ≤ 9223372036854775807) (hw : Bar w) (hok : ownP ⟨c, n, 3, p, s, l, tc, tn, on⟩ = 0) :
    Calls Tryd.prog 9 #[opVal ⟨c, n, 3, p, s, l, tc, tn, on⟩ (.slice a m cap)] w fun e w' => ∃ a' m' cap', e = .returned (.tuple #[opVal ⟨0, 0, 2, 0, ⟨#[]⟩, coveredP ⟨c, n, 3, p, s, l, tc, tn, on⟩, 0, 0, false⟩ (.slice a' m' cap'), .int .i64 0]) ∧ OwnF rangeV 2 60 w' (w.heap.size + 2) (.slice a' m' cap') (coveredP ⟨c, n, 3, p, s, l, tc, tn, on⟩) ∧ Below w.heap.size w w' := by
  have HO : Hid (∀ w' : World, Below w.heap.size w w' → Calls Tryd.prog 15 #[opVal ⟨c, n, 3, p, s, l, tc, tn, on⟩ (.slice a m cap)] w' fun e w'' => e = .returned (.int .i64 (ownP ⟨c, n, 3, p, s, l, tc, tn, on⟩)) ∧ Below w'.heap.size w' w'') := fun w' hb => ownError_any (o := ⟨c, n, 3, p, s, l, tc, tn, on⟩) (h.below hb) hs (hw.below hb)
  have hR := right_of hok
  have HV : Hid (∀ w' : World, Below w.heap.size w w' → Calls Tryd.prog 20 #[opVal ⟨c, n, 3, p, s, l, tc, tn, on⟩ (.slice a m cap)] w' fun e w'' => ∃ v, e = .returned v ∧ OwnF rangeV 2 60 w'' (w'.heap.size + 1) v (coveredP ⟨c, n, 3, p, s, l, tc, tn, on⟩) ∧ Below w'.heap.size w' w'') := fun w' hb => covered_any (o := ⟨c, n, 3, p, s, l, tc, tn, on⟩) (h.below hb) hm hs (hw.below hb) hR
  rw [hok] at HO
  generalize coveredP ⟨c, n, 3, p, s, l, tc, tn, on⟩ = CV at *
  clear hR
  clear h hs hw hok
  simp only [opVal] at *
  have hX : Below w.heap.size w ((w.alloc (Obj.cells #[.int .i64 c, .int .i64 n, .int .i64 3, .int .i64 p, .string s, .slice a m cap, .int .i64 tc, .int .i64 tn, .bool on] 38)).alloc (Obj.cells #[.int .i64 0, .int .i64 0, .int .i64 0, .int .i64 0, .string ⟨#[]⟩, .slice none 0 0, .int .i64 0, .int .i64 0, .bool false] 38)) := ((Below.refl w.heap.size w).alloc (Nat.le_refl _) _).alloc (by simp) _
  have y0 : ((w.alloc (Obj.cells #[.int .i64 c, .int .i64 n, .int .i64 3, .int .i64 p, .string s, .slice a m cap, .int .i64 tc, .int .i64 tn, .bool on] 38)).alloc (Obj.cells #[.int .i64 0, .int .i64 0, .int .i64 0, .int .i64 0, .string ⟨#[]⟩, .slice none 0 0, .int .i64 0, .int .i64 0, .bool false] 38)).heap[w.heap.size]? = some (Obj.cells #[.int .i64 c, .int .i64 n, .int .i64 3, .int .i64 p, .string s, .slice a m cap, .int .i64 tc, .int .i64 tn, .bool on] 38) := (Below.heap_alloc _ _ _ (by simp)).trans (alloc_last _ _ _ rfl)
  have x0 : ((w.alloc (Obj.cells #[.int .i64 c, .int .i64 n, .int .i64 3, .int .i64 p, .string s, .slice a m cap, .int .i64 tc, .int .i64 tn, .bool on] 38)).alloc (Obj.cells #[.int .i64 0, .int .i64 0, .int .i64 0, .int .i64 0, .string ⟨#[]⟩, .slice none 0 0, .int .i64 0, .int .i64 0, .bool false] 38)).heap[w.heap.size + 1]? = some (Obj.cells #[.int .i64 0, .int .i64 0, .int .i64 0, .int .i64 0, .string ⟨#[]⟩, .slice none 0 0, .int .i64 0, .int .i64 0, .bool false] 38) := alloc_last _ _ _ (by simp)
  have hXs : ((w.alloc (Obj.cells #[.int .i64 c, .int .i64 n, .int .i64 3, .int .i64 p, .string s, .slice a m cap, .int .i64 tc, .int .i64 tn, .bool on] 38)).alloc (Obj.cells #[.int .i64 0, .int .i64 0, .int .i64 0, .int .i64 0, .string ⟨#[]⟩, .slice none 0 0, .int .i64 0, .int .i64 0, .bool false] 38)).heap.size = w.heap.size + 2 := by simp
  go_enter Tryd.func9, Tryd.ntmps9
  go_wp2_with fail
  refine (HO.out _ hX).mono ?_
  rintro e w1 ⟨rfl, hb1⟩
  have hB1 := hX.trans (hb1.mono hX.size)
  have x1 := (hb1.block _ (Array.getElem?_eq_some_iff.1 x0).1).trans x0
  have y1 := (hb1.block _ (Array.getElem?_eq_some_iff.1 y0).1).trans y0
  have hs1 : w.heap.size + 2 ≤ w1.heap.size := by have := hb1.size; rw [hXs] at this; exact this
  clear hX x0 y0 hb1 hXs
  have f0 : w1.cell? ⟨w.heap.size, 0, none⟩ = some (.int .i64 c) := by rw [Lib.cell_of_heap y1]; rfl
  have f1 : w1.cell? ⟨w.heap.size, 1, none⟩ = some (.int .i64 n) := by rw [Lib.cell_of_heap y1]; rfl
  have f2 : w1.cell? ⟨w.heap.size, 2, none⟩ = some (.int .i64 3) := by rw [Lib.cell_of_heap y1]; rfl
  have f3 : w1.cell? ⟨w.heap.size, 3, none⟩ = some (.int .i64 p) := by rw [Lib.cell_of_heap y1]; rfl
  have f4 : w1.cell? ⟨w.heap.size, 4, none⟩ = some (.string s) := by rw [Lib.cell_of_heap y1]; rfl
  have f5 : w1.cell? ⟨w.heap.size, 5, none⟩ = some (.slice a m cap) := by rw [Lib.cell_of_heap y1]; rfl
  have f6 : w1.cell? ⟨w.heap.size, 6, none⟩ = some (.int .i64 tc) := by rw [Lib.cell_of_heap y1]; rfl
  have f7 : w1.cell? ⟨w.heap.size, 7, none⟩ = some (.int .i64 tn) := by rw [Lib.cell_of_heap y1]; rfl
  have f8 : w1.cell? ⟨w.heap.size, 8, none⟩ = some (.bool on) := by rw [Lib.cell_of_heap y1]; rfl
  go_wp2_with fail
  refine (HV.out _ hB1).mono ?_
  rintro e w2 ⟨v, rfl, hown, hb2⟩
  have hB2 := hB1.trans (hb2.mono hB1.size)
  have x2 := (hb2.block _ (Array.getElem?_eq_some_iff.1 x1).1).trans x1
  obtain ⟨va, vc, rfl⟩ := hown.shape
  have HOw : Hid (OwnF rangeV 2 60 w2 (w.heap.size + 2) (.slice va CV.length vc) CV) := hown.mono (by omega)
  clear hb2 hown x1 y1 hB1 hs1 f0 f1 f2 f3 f4 f5 f6 f7 f8
  have d0 : w2.cell? ⟨w.heap.size + 1, 0, none⟩ = some (.int .i64 0) := by rw [Lib.cell_of_heap x2]; rfl
  have dz0 : w2.frozen? ⟨w.heap.size + 1, 0, none⟩ = false := Lib.frozen_of_heap x2 0
  have d1 : w2.cell? ⟨w.heap.size + 1, 1, none⟩ = some (.int .i64 0) := by rw [Lib.cell_of_heap x2]; rfl
  have dz1 : w2.frozen? ⟨w.heap.size + 1, 1, none⟩ = false := Lib.frozen_of_heap x2 1
  have d2 : w2.cell? ⟨w.heap.size + 1, 2, none⟩ = some (.int .i64 0) := by rw [Lib.cell_of_heap x2]; rfl
  have dz2 : w2.frozen? ⟨w.heap.size + 1, 2, none⟩ = false := Lib.frozen_of_heap x2 2
  have d3 : w2.cell? ⟨w.heap.size + 1, 3, none⟩ = some (.int .i64 0) := by rw [Lib.cell_of_heap x2]; rfl
  have dz3 : w2.frozen? ⟨w.heap.size + 1, 3, none⟩ = false := Lib.frozen_of_heap x2 3
  have d4 : w2.cell? ⟨w.heap.size + 1, 4, none⟩ = some (.string ⟨#[]⟩) := by rw [Lib.cell_of_heap x2]; rfl
  have dz4 : w2.frozen? ⟨w.heap.size + 1, 4, none⟩ = false := Lib.frozen_of_heap x2 4
  have d5 : w2.cell? ⟨w.heap.size + 1, 5, none⟩ = some (.slice none 0 0) := by rw [Lib.cell_of_heap x2]; rfl
  have dz5 : w2.frozen? ⟨w.heap.size + 1, 5, none⟩ = false := Lib.frozen_of_heap x2 5
  have d6 : w2.cell? ⟨w.heap.size + 1, 6, none⟩ = some (.int .i64 0) := by rw [Lib.cell_of_heap x2]; rfl
  have dz6 : w2.frozen? ⟨w.heap.size + 1, 6, none⟩ = false := Lib.frozen_of_heap x2 6
  have d7 : w2.cell? ⟨w.heap.size + 1, 7, none⟩ = some (.int .i64 0) := by rw [Lib.cell_of_heap x2]; rfl
  have dz7 : w2.frozen? ⟨w.heap.size + 1, 7, none⟩ = false := Lib.frozen_of_heap x2 7
  have d8 : w2.cell? ⟨w.heap.size + 1, 8, none⟩ = some (.bool false) := by rw [Lib.cell_of_heap x2]; rfl
  have dz8 : w2.frozen? ⟨w.heap.size + 1, 8, none⟩ = false := Lib.frozen_of_heap x2 8
  have hx9 := set9g (v0 := .int .i64 0) (v1 := .int .i64 0) (v2 := .int .i64 2) (v3 := .int .i64 0) (v4 := .string ⟨#[]⟩) (v5 := .slice va CV.length vc) (v6 := .int .i64 0) (v7 := .int .i64 0) (v8 := .bool false) x2
  have hq0 := hB2.setCell (p := ⟨w.heap.size + 1, 0, none⟩) (by simp only; omega) (.int .i64 0)
  have hq1 := hq0.setCell (p := ⟨w.heap.size + 1, 1, none⟩) (by simp only; omega) (.int .i64 0)
  have hq2 := hq1.setCell (p := ⟨w.heap.size + 1, 2, none⟩) (by simp only; omega) (.int .i64 2)
  have hq3 := hq2.setCell (p := ⟨w.heap.size + 1, 3, none⟩) (by simp only; omega) (.int .i64 0)
  have hq4 := hq3.setCell (p := ⟨w.heap.size + 1, 4, none⟩) (by simp only; omega) (.string ⟨#[]⟩)
  have hq5 := hq4.setCell (p := ⟨w.heap.size + 1, 5, none⟩) (by simp only; omega) (.slice va CV.length vc)
  have hq6 := hq5.setCell (p := ⟨w.heap.size + 1, 6, none⟩) (by simp only; omega) (.int .i64 0)
  have hq7 := hq6.setCell (p := ⟨w.heap.size + 1, 7, none⟩) (by simp only; omega) (.int .i64 0)
  have hq8 := hq7.setCell (p := ⟨w.heap.size + 1, 8, none⟩) (by simp only; omega) (.bool false)
  obtain ⟨w9, hw9⟩ : ∃ w9, (((((((((w2.setCell ⟨w.heap.size + 1, 0, none⟩ (.int .i64 0)).setCell ⟨w.heap.size + 1, 1, none⟩ (.int .i64 0)).setCell ⟨w.heap.size + 1, 2, none⟩ (.int .i64 2)).setCell ⟨w.heap.size + 1, 3, none⟩ (.int .i64 0)).setCell ⟨w.heap.size + 1, 4, none⟩ (.string ⟨#[]⟩)).setCell ⟨w.heap.size + 1, 5, none⟩ (.slice va CV.length vc)).setCell ⟨w.heap.size + 1, 6, none⟩ (.int .i64 0)).setCell ⟨w.heap.size + 1, 7, none⟩ (.int .i64 0)).setCell ⟨w.heap.size + 1, 8, none⟩ (.bool false)) = w9 := ⟨_, rfl⟩
  have HO9 : Hid (OwnF rangeV 2 60 w9 (w.heap.size + 2) (.slice va CV.length vc) CV) := by
    show OwnF _ _ _ _ _ _ _
    rw [← hw9]
    refine own_set ?_ _ _ _ (by omega)
    refine own_set ?_ _ _ _ (by omega)
    refine own_set ?_ _ _ _ (by omega)
    refine own_set ?_ _ _ _ (by omega)
    refine own_set ?_ _ _ _ (by omega)
    refine own_set ?_ _ _ _ (by omega)
    refine own_set ?_ _ _ _ (by omega)
    refine own_set ?_ _ _ _ (by omega)
    refine own_set ?_ _ _ _ (by omega)
    exact HOw.out
  rw [hw9] at hx9 hq8
  have r0 : w9.cell? ⟨w.heap.size + 1, 0, none⟩ = some (.int .i64 0) := by rw [Lib.cell_of_heap hx9]; rfl
  have r1 : w9.cell? ⟨w.heap.size + 1, 1, none⟩ = some (.int .i64 0) := by rw [Lib.cell_of_heap hx9]; rfl
  have r2 : w9.cell? ⟨w.heap.size + 1, 2, none⟩ = some (.int .i64 2) := by rw [Lib.cell_of_heap hx9]; rfl
  have r3 : w9.cell? ⟨w.heap.size + 1, 3, none⟩ = some (.int .i64 0) := by rw [Lib.cell_of_heap hx9]; rfl
  have r4 : w9.cell? ⟨w.heap.size + 1, 4, none⟩ = some (.string ⟨#[]⟩) := by rw [Lib.cell_of_heap hx9]; rfl
  have r5 : w9.cell? ⟨w.heap.size + 1, 5, none⟩ = some (.slice va CV.length vc) := by rw [Lib.cell_of_heap hx9]; rfl
  have r6 : w9.cell? ⟨w.heap.size + 1, 6, none⟩ = some (.int .i64 0) := by rw [Lib.cell_of_heap hx9]; rfl
  have r7 : w9.cell? ⟨w.heap.size + 1, 7, none⟩ = some (.int .i64 0) := by rw [Lib.cell_of_heap hx9]; rfl
  have r8 : w9.cell? ⟨w.heap.size + 1, 8, none⟩ = some (.bool false) := by rw [Lib.cell_of_heap hx9]; rfl
  clear hq7 hq6 hq5 hq4 hq3 hq2 hq1 hq0
  go_wp2_with fail
  try rw [hw9]
  refine bodyPost_ret (v := .tuple #[.agg #[.int .i64 0, .int .i64 0, .int .i64 2, .int .i64 0, .string ⟨#[]⟩, .slice va CV.length vc, .int .i64 0, .int .i64 0, .bool false], .int .i64 0]) (by simp [results, Tryd.results9, go_sem, r0, r1, r2, r3, r4, r5, r6, r7, r8]) rfl ⟨va, CV.length, vc, rfl, HO9.out, hq8⟩
set_option maxHeartbeats 2000000 in
theorem inverse_2 {c n p : Int} {s : ByteArray} {l : List (Int × Int)} {tc tn : Int} {on : Bool} {w : World} {a : Option Addr} {m cap : Nat} (h : Rng w a m cap l) (hm : m ≤ 1000000000) (hs : s.size ≤ 9223372036854775807) (hw : Bar w) (hok : ownP ⟨c, n, 2, p, s, l, tc, tn, on⟩ = 0) :
    Calls Tryd.prog 9 #[opVal ⟨c, n, 2, p, s, l, tc, tn, on⟩ (.slice a m cap)] w fun e w' => ∃ a' m' cap', e = .returned (.tuple #[opVal ⟨0, 0, 3, 0, ⟨#[]⟩, coveredP ⟨c, n, 2, p, s, l, tc, tn, on⟩, 0, 0, false⟩ (.slice a' m' cap'), .int .i64 0]) ∧ OwnF rangeV 2 60 w' (w.heap.size + 2) (.slice a' m' cap') (coveredP ⟨c, n, 2, p, s, l, tc, tn, on⟩) ∧ Below w.heap.size w w' := by
  have HO : Hid (∀ w' : World, Below w.heap.size w w' → Calls Tryd.prog 15 #[opVal ⟨c, n, 2, p, s, l, tc, tn, on⟩ (.slice a m cap)] w' fun e w'' => e = .returned (.int .i64 (ownP ⟨c, n, 2, p, s, l, tc, tn, on⟩)) ∧ Below w'.heap.size w' w'') := fun w' hb => ownError_any (o := ⟨c, n, 2, p, s, l, tc, tn, on⟩) (h.below hb) hs (hw.below hb)
  have hR := right_of hok
  have HV : Hid (∀ w' : World, Below w.heap.size w w' → Calls Tryd.prog 20 #[opVal ⟨c, n, 2, p, s, l, tc, tn, on⟩ (.slice a m cap)] w' fun e w'' => ∃ v, e = .returned v ∧ OwnF rangeV 2 60 w'' (w'.heap.size + 1) v (coveredP ⟨c, n, 2, p, s, l, tc, tn, on⟩) ∧ Below w'.heap.size w' w'') := fun w' hb => covered_any (o := ⟨c, n, 2, p, s, l, tc, tn, on⟩) (h.below hb) hm hs (hw.below hb) hR
  rw [hok] at HO
  generalize coveredP ⟨c, n, 2, p, s, l, tc, tn, on⟩ = CV at *
  clear hR
  clear h hs hw hok
  simp only [opVal] at *
  have hX : Below w.heap.size w ((w.alloc (Obj.cells #[.int .i64 c, .int .i64 n, .int .i64 2, .int .i64 p, .string s, .slice a m cap, .int .i64 tc, .int .i64 tn, .bool on] 38)).alloc (Obj.cells #[.int .i64 0, .int .i64 0, .int .i64 0, .int .i64 0, .string ⟨#[]⟩, .slice none 0 0, .int .i64 0, .int .i64 0, .bool false] 38)) := ((Below.refl w.heap.size w).alloc (Nat.le_refl _) _).alloc (by simp) _
  have y0 : ((w.alloc (Obj.cells #[.int .i64 c, .int .i64 n, .int .i64 2, .int .i64 p, .string s, .slice a m cap, .int .i64 tc, .int .i64 tn, .bool on] 38)).alloc (Obj.cells #[.int .i64 0, .int .i64 0, .int .i64 0, .int .i64 0, .string ⟨#[]⟩, .slice none 0 0, .int .i64 0, .int .i64 0, .bool false] 38)).heap[w.heap.size]? = some (Obj.cells #[.int .i64 c, .int .i64 n, .int .i64 2, .int .i64 p, .string s, .slice a m cap, .int .i64 tc, .int .i64 tn, .bool on] 38) := (Below.heap_alloc _ _ _ (by simp)).trans (alloc_last _ _ _ rfl)
  have x0 : ((w.alloc (Obj.cells #[.int .i64 c, .int .i64 n, .int .i64 2, .int .i64 p, .string s, .slice a m cap, .int .i64 tc, .int .i64 tn, .bool on] 38)).alloc (Obj.cells #[.int .i64 0, .int .i64 0, .int .i64 0, .int .i64 0, .string ⟨#[]⟩, .slice none 0 0, .int .i64 0, .int .i64 0, .bool false] 38)).heap[w.heap.size + 1]? = some (Obj.cells #[.int .i64 0, .int .i64 0, .int .i64 0, .int .i64 0, .string ⟨#[]⟩, .slice none 0 0, .int .i64 0, .int .i64 0, .bool false] 38) := alloc_last _ _ _ (by simp)
  have hXs : ((w.alloc (Obj.cells #[.int .i64 c, .int .i64 n, .int .i64 2, .int .i64 p, .string s, .slice a m cap, .int .i64 tc, .int .i64 tn, .bool on] 38)).alloc (Obj.cells #[.int .i64 0, .int .i64 0, .int .i64 0, .int .i64 0, .string ⟨#[]⟩, .slice none 0 0, .int .i64 0, .int .i64 0, .bool false] 38)).heap.size = w.heap.size + 2 := by simp
  go_enter Tryd.func9, Tryd.ntmps9
  go_wp2_with fail
  refine (HO.out _ hX).mono ?_
  rintro e w1 ⟨rfl, hb1⟩
  have hB1 := hX.trans (hb1.mono hX.size)
  have x1 := (hb1.block _ (Array.getElem?_eq_some_iff.1 x0).1).trans x0
  have y1 := (hb1.block _ (Array.getElem?_eq_some_iff.1 y0).1).trans y0
  have hs1 : w.heap.size + 2 ≤ w1.heap.size := by have := hb1.size; rw [hXs] at this; exact this
  clear hX x0 y0 hb1 hXs
  have f0 : w1.cell? ⟨w.heap.size, 0, none⟩ = some (.int .i64 c) := by rw [Lib.cell_of_heap y1]; rfl
  have f1 : w1.cell? ⟨w.heap.size, 1, none⟩ = some (.int .i64 n) := by rw [Lib.cell_of_heap y1]; rfl
  have f2 : w1.cell? ⟨w.heap.size, 2, none⟩ = some (.int .i64 2) := by rw [Lib.cell_of_heap y1]; rfl
  have f3 : w1.cell? ⟨w.heap.size, 3, none⟩ = some (.int .i64 p) := by rw [Lib.cell_of_heap y1]; rfl
  have f4 : w1.cell? ⟨w.heap.size, 4, none⟩ = some (.string s) := by rw [Lib.cell_of_heap y1]; rfl
  have f5 : w1.cell? ⟨w.heap.size, 5, none⟩ = some (.slice a m cap) := by rw [Lib.cell_of_heap y1]; rfl
  have f6 : w1.cell? ⟨w.heap.size, 6, none⟩ = some (.int .i64 tc) := by rw [Lib.cell_of_heap y1]; rfl
  have f7 : w1.cell? ⟨w.heap.size, 7, none⟩ = some (.int .i64 tn) := by rw [Lib.cell_of_heap y1]; rfl
  have f8 : w1.cell? ⟨w.heap.size, 8, none⟩ = some (.bool on) := by rw [Lib.cell_of_heap y1]; rfl
  go_wp2_with fail
  refine (HV.out _ hB1).mono ?_
  rintro e w2 ⟨v, rfl, hown, hb2⟩
  have hB2 := hB1.trans (hb2.mono hB1.size)
  have x2 := (hb2.block _ (Array.getElem?_eq_some_iff.1 x1).1).trans x1
  obtain ⟨va, vc, rfl⟩ := hown.shape
  have HOw : Hid (OwnF rangeV 2 60 w2 (w.heap.size + 2) (.slice va CV.length vc) CV) := hown.mono (by omega)
  clear hb2 hown x1 y1 hB1 hs1 f0 f1 f2 f3 f4 f5 f6 f7 f8
  have d0 : w2.cell? ⟨w.heap.size + 1, 0, none⟩ = some (.int .i64 0) := by rw [Lib.cell_of_heap x2]; rfl
  have dz0 : w2.frozen? ⟨w.heap.size + 1, 0, none⟩ = false := Lib.frozen_of_heap x2 0
  have d1 : w2.cell? ⟨w.heap.size + 1, 1, none⟩ = some (.int .i64 0) := by rw [Lib.cell_of_heap x2]; rfl
  have dz1 : w2.frozen? ⟨w.heap.size + 1, 1, none⟩ = false := Lib.frozen_of_heap x2 1
  have d2 : w2.cell? ⟨w.heap.size + 1, 2, none⟩ = some (.int .i64 0) := by rw [Lib.cell_of_heap x2]; rfl
  have dz2 : w2.frozen? ⟨w.heap.size + 1, 2, none⟩ = false := Lib.frozen_of_heap x2 2
  have d3 : w2.cell? ⟨w.heap.size + 1, 3, none⟩ = some (.int .i64 0) := by rw [Lib.cell_of_heap x2]; rfl
  have dz3 : w2.frozen? ⟨w.heap.size + 1, 3, none⟩ = false := Lib.frozen_of_heap x2 3
  have d4 : w2.cell? ⟨w.heap.size + 1, 4, none⟩ = some (.string ⟨#[]⟩) := by rw [Lib.cell_of_heap x2]; rfl
  have dz4 : w2.frozen? ⟨w.heap.size + 1, 4, none⟩ = false := Lib.frozen_of_heap x2 4
  have d5 : w2.cell? ⟨w.heap.size + 1, 5, none⟩ = some (.slice none 0 0) := by rw [Lib.cell_of_heap x2]; rfl
  have dz5 : w2.frozen? ⟨w.heap.size + 1, 5, none⟩ = false := Lib.frozen_of_heap x2 5
  have d6 : w2.cell? ⟨w.heap.size + 1, 6, none⟩ = some (.int .i64 0) := by rw [Lib.cell_of_heap x2]; rfl
  have dz6 : w2.frozen? ⟨w.heap.size + 1, 6, none⟩ = false := Lib.frozen_of_heap x2 6
  have d7 : w2.cell? ⟨w.heap.size + 1, 7, none⟩ = some (.int .i64 0) := by rw [Lib.cell_of_heap x2]; rfl
  have dz7 : w2.frozen? ⟨w.heap.size + 1, 7, none⟩ = false := Lib.frozen_of_heap x2 7
  have d8 : w2.cell? ⟨w.heap.size + 1, 8, none⟩ = some (.bool false) := by rw [Lib.cell_of_heap x2]; rfl
  have dz8 : w2.frozen? ⟨w.heap.size + 1, 8, none⟩ = false := Lib.frozen_of_heap x2 8
  have hx9 := set9g (v0 := .int .i64 0) (v1 := .int .i64 0) (v2 := .int .i64 3) (v3 := .int .i64 0) (v4 := .string ⟨#[]⟩) (v5 := .slice va CV.length vc) (v6 := .int .i64 0) (v7 := .int .i64 0) (v8 := .bool false) x2
  have hq0 := hB2.setCell (p := ⟨w.heap.size + 1, 0, none⟩) (by simp only; omega) (.int .i64 0)
  have hq1 := hq0.setCell (p := ⟨w.heap.size + 1, 1, none⟩) (by simp only; omega) (.int .i64 0)
  have hq2 := hq1.setCell (p := ⟨w.heap.size + 1, 2, none⟩) (by simp only; omega) (.int .i64 3)
  have hq3 := hq2.setCell (p := ⟨w.heap.size + 1, 3, none⟩) (by simp only; omega) (.int .i64 0)
  have hq4 := hq3.setCell (p := ⟨w.heap.size + 1, 4, none⟩) (by simp only; omega) (.string ⟨#[]⟩)
  have hq5 := hq4.setCell (p := ⟨w.heap.size + 1, 5, none⟩) (by simp only; omega) (.slice va CV.length vc)
  have hq6 := hq5.setCell (p := ⟨w.heap.size + 1, 6, none⟩) (by simp only; omega) (.int .i64 0)
  have hq7 := hq6.setCell (p := ⟨w.heap.size + 1, 7, none⟩) (by simp only; omega) (.int .i64 0)
  have hq8 := hq7.setCell (p := ⟨w.heap.size + 1, 8, none⟩) (by simp only; omega) (.bool false)
  obtain ⟨w9, hw9⟩ : ∃ w9, (((((((((w2.setCell ⟨w.heap.size + 1, 0, none⟩ (.int .i64 0)).setCell ⟨w.heap.size + 1, 1, none⟩ (.int .i64 0)).setCell ⟨w.heap.size + 1, 2, none⟩ (.int .i64 3)).setCell ⟨w.heap.size + 1, 3, none⟩ (.int .i64 0)).setCell ⟨w.heap.size + 1, 4, none⟩ (.string ⟨#[]⟩)).setCell ⟨w.heap.size + 1, 5, none⟩ (.slice va CV.length vc)).setCell ⟨w.heap.size + 1, 6, none⟩ (.int .i64 0)).setCell ⟨w.heap.size + 1, 7, none⟩ (.int .i64 0)).setCell ⟨w.heap.size + 1, 8, none⟩ (.bool false)) = w9 := ⟨_, rfl⟩
  have HO9 : Hid (OwnF rangeV 2 60 w9 (w.heap.size + 2) (.slice va CV.length vc) CV) := by
    show OwnF _ _ _ _ _ _ _
    rw [← hw9]
    refine own_set ?_ _ _ _ (by omega)
    refine own_set ?_ _ _ _ (by omega)
    refine own_set ?_ _ _ _ (by omega)
    refine own_set ?_ _ _ _ (by omega)
    refine own_set ?_ _ _ _ (by omega)
    refine own_set ?_ _ _ _ (by omega)
    refine own_set ?_ _ _ _ (by omega)
    refine own_set ?_ _ _ _ (by omega)
    refine own_set ?_ _ _ _ (by omega)
    exact HOw.out
  rw [hw9] at hx9 hq8
  have r0 : w9.cell? ⟨w.heap.size + 1, 0, none⟩ = some (.int .i64 0) := by rw [Lib.cell_of_heap hx9]; rfl
  have r1 : w9.cell? ⟨w.heap.size + 1, 1, none⟩ = some (.int .i64 0) := by rw [Lib.cell_of_heap hx9]; rfl
  have r2 : w9.cell? ⟨w.heap.size + 1, 2, none⟩ = some (.int .i64 3) := by rw [Lib.cell_of_heap hx9]; rfl
  have r3 : w9.cell? ⟨w.heap.size + 1, 3, none⟩ = some (.int .i64 0) := by rw [Lib.cell_of_heap hx9]; rfl
  have r4 : w9.cell? ⟨w.heap.size + 1, 4, none⟩ = some (.string ⟨#[]⟩) := by rw [Lib.cell_of_heap hx9]; rfl
  have r5 : w9.cell? ⟨w.heap.size + 1, 5, none⟩ = some (.slice va CV.length vc) := by rw [Lib.cell_of_heap hx9]; rfl
  have r6 : w9.cell? ⟨w.heap.size + 1, 6, none⟩ = some (.int .i64 0) := by rw [Lib.cell_of_heap hx9]; rfl
  have r7 : w9.cell? ⟨w.heap.size + 1, 7, none⟩ = some (.int .i64 0) := by rw [Lib.cell_of_heap hx9]; rfl
  have r8 : w9.cell? ⟨w.heap.size + 1, 8, none⟩ = some (.bool false) := by rw [Lib.cell_of_heap hx9]; rfl
  clear hq7 hq6 hq5 hq4 hq3 hq2 hq1 hq0
  go_wp2_with fail
  try rw [hw9]
  refine bodyPost_ret (v := .tuple #[.agg #[.int .i64 0, .int .i64 0, .int .i64 3, .int .i64 0, .string ⟨#[]⟩, .slice va CV.length vc, .int .i64 0, .int .i64 0, .bool false], .int .i64 0]) (by simp [results, Tryd.results9, go_sem, r0, r1, r2, r3, r4, r5, r6, r7, r8]) rfl ⟨va, CV.length, vc, rfl, HO9.out, hq8⟩
set_option maxHeartbeats 2000000 in
theorem inverse_4 {c n p : Int} {s : ByteArray} {l : List (Int × Int)} {tc tn : Int} {on : Bool} {w : World} {a : Option Addr} {m cap : Nat} (h : Rng w a m cap l) (hm : m ≤ 1000000000) (hs : s.size ≤ 9223372036854775807) (hw : Bar w) (hok : ownP ⟨c, n, 4, p, s, l, tc, tn, on⟩ = 0) :
    Calls Tryd.prog 9 #[opVal ⟨c, n, 4, p, s, l, tc, tn, on⟩ (.slice a m cap)] w fun e w' => e = .returned (.tuple #[opVal ⟨0, 0, 4, 0, ⟨#[]⟩, [], tc, tn, !on⟩ (.slice none 0 0), .int .i64 0]) ∧ Below w.heap.size w w' := by
  have _hm := hm
  have HO : Hid (∀ w' : World, Below w.heap.size w w' → Calls Tryd.prog 15 #[opVal ⟨c, n, 4, p, s, l, tc, tn, on⟩ (.slice a m cap)] w' fun e w'' => e = .returned (.int .i64 (ownP ⟨c, n, 4, p, s, l, tc, tn, on⟩)) ∧ Below w'.heap.size w' w'') := fun w' hb => ownError_any (o := ⟨c, n, 4, p, s, l, tc, tn, on⟩) (h.below hb) hs (hw.below hb)
  rw [hok] at HO
  clear h hs hw hok
  simp only [opVal] at *
  have hX : Below w.heap.size w ((w.alloc (Obj.cells #[.int .i64 c, .int .i64 n, .int .i64 4, .int .i64 p, .string s, .slice a m cap, .int .i64 tc, .int .i64 tn, .bool on] 38)).alloc (Obj.cells #[.int .i64 0, .int .i64 0, .int .i64 0, .int .i64 0, .string ⟨#[]⟩, .slice none 0 0, .int .i64 0, .int .i64 0, .bool false] 38)) := ((Below.refl w.heap.size w).alloc (Nat.le_refl _) _).alloc (by simp) _
  have y0 : ((w.alloc (Obj.cells #[.int .i64 c, .int .i64 n, .int .i64 4, .int .i64 p, .string s, .slice a m cap, .int .i64 tc, .int .i64 tn, .bool on] 38)).alloc (Obj.cells #[.int .i64 0, .int .i64 0, .int .i64 0, .int .i64 0, .string ⟨#[]⟩, .slice none 0 0, .int .i64 0, .int .i64 0, .bool false] 38)).heap[w.heap.size]? = some (Obj.cells #[.int .i64 c, .int .i64 n, .int .i64 4, .int .i64 p, .string s, .slice a m cap, .int .i64 tc, .int .i64 tn, .bool on] 38) := (Below.heap_alloc _ _ _ (by simp)).trans (alloc_last _ _ _ rfl)
  have x0 : ((w.alloc (Obj.cells #[.int .i64 c, .int .i64 n, .int .i64 4, .int .i64 p, .string s, .slice a m cap, .int .i64 tc, .int .i64 tn, .bool on] 38)).alloc (Obj.cells #[.int .i64 0, .int .i64 0, .int .i64 0, .int .i64 0, .string ⟨#[]⟩, .slice none 0 0, .int .i64 0, .int .i64 0, .bool false] 38)).heap[w.heap.size + 1]? = some (Obj.cells #[.int .i64 0, .int .i64 0, .int .i64 0, .int .i64 0, .string ⟨#[]⟩, .slice none 0 0, .int .i64 0, .int .i64 0, .bool false] 38) := alloc_last _ _ _ (by simp)
  have hXs : ((w.alloc (Obj.cells #[.int .i64 c, .int .i64 n, .int .i64 4, .int .i64 p, .string s, .slice a m cap, .int .i64 tc, .int .i64 tn, .bool on] 38)).alloc (Obj.cells #[.int .i64 0, .int .i64 0, .int .i64 0, .int .i64 0, .string ⟨#[]⟩, .slice none 0 0, .int .i64 0, .int .i64 0, .bool false] 38)).heap.size = w.heap.size + 2 := by simp
  go_enter Tryd.func9, Tryd.ntmps9
  go_wp2_with fail
  refine (HO.out _ hX).mono ?_
  rintro e w1 ⟨rfl, hb1⟩
  have hB1 := hX.trans (hb1.mono hX.size)
  have x1 := (hb1.block _ (Array.getElem?_eq_some_iff.1 x0).1).trans x0
  have y1 := (hb1.block _ (Array.getElem?_eq_some_iff.1 y0).1).trans y0
  have hs1 : w.heap.size + 2 ≤ w1.heap.size := by have := hb1.size; rw [hXs] at this; exact this
  clear hX x0 y0 hb1 hXs
  have f0 : w1.cell? ⟨w.heap.size, 0, none⟩ = some (.int .i64 c) := by rw [Lib.cell_of_heap y1]; rfl
  have f1 : w1.cell? ⟨w.heap.size, 1, none⟩ = some (.int .i64 n) := by rw [Lib.cell_of_heap y1]; rfl
  have f2 : w1.cell? ⟨w.heap.size, 2, none⟩ = some (.int .i64 4) := by rw [Lib.cell_of_heap y1]; rfl
  have f3 : w1.cell? ⟨w.heap.size, 3, none⟩ = some (.int .i64 p) := by rw [Lib.cell_of_heap y1]; rfl
  have f4 : w1.cell? ⟨w.heap.size, 4, none⟩ = some (.string s) := by rw [Lib.cell_of_heap y1]; rfl
  have f5 : w1.cell? ⟨w.heap.size, 5, none⟩ = some (.slice a m cap) := by rw [Lib.cell_of_heap y1]; rfl
  have f6 : w1.cell? ⟨w.heap.size, 6, none⟩ = some (.int .i64 tc) := by rw [Lib.cell_of_heap y1]; rfl
  have f7 : w1.cell? ⟨w.heap.size, 7, none⟩ = some (.int .i64 tn) := by rw [Lib.cell_of_heap y1]; rfl
  have f8 : w1.cell? ⟨w.heap.size, 8, none⟩ = some (.bool on) := by rw [Lib.cell_of_heap y1]; rfl
  have d0 : w1.cell? ⟨w.heap.size + 1, 0, none⟩ = some (.int .i64 0) := by rw [Lib.cell_of_heap x1]; rfl
  have dz0 : w1.frozen? ⟨w.heap.size + 1, 0, none⟩ = false := Lib.frozen_of_heap x1 0
  have d1 : w1.cell? ⟨w.heap.size + 1, 1, none⟩ = some (.int .i64 0) := by rw [Lib.cell_of_heap x1]; rfl
  have dz1 : w1.frozen? ⟨w.heap.size + 1, 1, none⟩ = false := Lib.frozen_of_heap x1 1
  have d2 : w1.cell? ⟨w.heap.size + 1, 2, none⟩ = some (.int .i64 0) := by rw [Lib.cell_of_heap x1]; rfl
  have dz2 : w1.frozen? ⟨w.heap.size + 1, 2, none⟩ = false := Lib.frozen_of_heap x1 2
  have d3 : w1.cell? ⟨w.heap.size + 1, 3, none⟩ = some (.int .i64 0) := by rw [Lib.cell_of_heap x1]; rfl
  have dz3 : w1.frozen? ⟨w.heap.size + 1, 3, none⟩ = false := Lib.frozen_of_heap x1 3
  have d4 : w1.cell? ⟨w.heap.size + 1, 4, none⟩ = some (.string ⟨#[]⟩) := by rw [Lib.cell_of_heap x1]; rfl
  have dz4 : w1.frozen? ⟨w.heap.size + 1, 4, none⟩ = false := Lib.frozen_of_heap x1 4
  have d5 : w1.cell? ⟨w.heap.size + 1, 5, none⟩ = some (.slice none 0 0) := by rw [Lib.cell_of_heap x1]; rfl
  have dz5 : w1.frozen? ⟨w.heap.size + 1, 5, none⟩ = false := Lib.frozen_of_heap x1 5
  have d6 : w1.cell? ⟨w.heap.size + 1, 6, none⟩ = some (.int .i64 0) := by rw [Lib.cell_of_heap x1]; rfl
  have dz6 : w1.frozen? ⟨w.heap.size + 1, 6, none⟩ = false := Lib.frozen_of_heap x1 6
  have d7 : w1.cell? ⟨w.heap.size + 1, 7, none⟩ = some (.int .i64 0) := by rw [Lib.cell_of_heap x1]; rfl
  have dz7 : w1.frozen? ⟨w.heap.size + 1, 7, none⟩ = false := Lib.frozen_of_heap x1 7
  have d8 : w1.cell? ⟨w.heap.size + 1, 8, none⟩ = some (.bool false) := by rw [Lib.cell_of_heap x1]; rfl
  have dz8 : w1.frozen? ⟨w.heap.size + 1, 8, none⟩ = false := Lib.frozen_of_heap x1 8
  have hx9 := set9g (v0 := .int .i64 0) (v1 := .int .i64 0) (v2 := .int .i64 4) (v3 := .int .i64 0) (v4 := .string ⟨#[]⟩) (v5 := .slice none 0 0) (v6 := .int .i64 tc) (v7 := .int .i64 tn) (v8 := .bool (!on)) x1
  have hq0 := hB1.setCell (p := ⟨w.heap.size + 1, 0, none⟩) (by simp only; omega) (.int .i64 0)
  have hq1 := hq0.setCell (p := ⟨w.heap.size + 1, 1, none⟩) (by simp only; omega) (.int .i64 0)
  have hq2 := hq1.setCell (p := ⟨w.heap.size + 1, 2, none⟩) (by simp only; omega) (.int .i64 4)
  have hq3 := hq2.setCell (p := ⟨w.heap.size + 1, 3, none⟩) (by simp only; omega) (.int .i64 0)
  have hq4 := hq3.setCell (p := ⟨w.heap.size + 1, 4, none⟩) (by simp only; omega) (.string ⟨#[]⟩)
  have hq5 := hq4.setCell (p := ⟨w.heap.size + 1, 5, none⟩) (by simp only; omega) (.slice none 0 0)
  have hq6 := hq5.setCell (p := ⟨w.heap.size + 1, 6, none⟩) (by simp only; omega) (.int .i64 tc)
  have hq7 := hq6.setCell (p := ⟨w.heap.size + 1, 7, none⟩) (by simp only; omega) (.int .i64 tn)
  have hq8 := hq7.setCell (p := ⟨w.heap.size + 1, 8, none⟩) (by simp only; omega) (.bool (!on))
  obtain ⟨w9, hw9⟩ : ∃ w9, (((((((((w1.setCell ⟨w.heap.size + 1, 0, none⟩ (.int .i64 0)).setCell ⟨w.heap.size + 1, 1, none⟩ (.int .i64 0)).setCell ⟨w.heap.size + 1, 2, none⟩ (.int .i64 4)).setCell ⟨w.heap.size + 1, 3, none⟩ (.int .i64 0)).setCell ⟨w.heap.size + 1, 4, none⟩ (.string ⟨#[]⟩)).setCell ⟨w.heap.size + 1, 5, none⟩ (.slice none 0 0)).setCell ⟨w.heap.size + 1, 6, none⟩ (.int .i64 tc)).setCell ⟨w.heap.size + 1, 7, none⟩ (.int .i64 tn)).setCell ⟨w.heap.size + 1, 8, none⟩ (.bool (!on))) = w9 := ⟨_, rfl⟩
  rw [hw9] at hx9 hq8
  have r0 : w9.cell? ⟨w.heap.size + 1, 0, none⟩ = some (.int .i64 0) := by rw [Lib.cell_of_heap hx9]; rfl
  have r1 : w9.cell? ⟨w.heap.size + 1, 1, none⟩ = some (.int .i64 0) := by rw [Lib.cell_of_heap hx9]; rfl
  have r2 : w9.cell? ⟨w.heap.size + 1, 2, none⟩ = some (.int .i64 4) := by rw [Lib.cell_of_heap hx9]; rfl
  have r3 : w9.cell? ⟨w.heap.size + 1, 3, none⟩ = some (.int .i64 0) := by rw [Lib.cell_of_heap hx9]; rfl
  have r4 : w9.cell? ⟨w.heap.size + 1, 4, none⟩ = some (.string ⟨#[]⟩) := by rw [Lib.cell_of_heap hx9]; rfl
  have r5 : w9.cell? ⟨w.heap.size + 1, 5, none⟩ = some (.slice none 0 0) := by rw [Lib.cell_of_heap hx9]; rfl
  have r6 : w9.cell? ⟨w.heap.size + 1, 6, none⟩ = some (.int .i64 tc) := by rw [Lib.cell_of_heap hx9]; rfl
  have r7 : w9.cell? ⟨w.heap.size + 1, 7, none⟩ = some (.int .i64 tn) := by rw [Lib.cell_of_heap hx9]; rfl
  have r8 : w9.cell? ⟨w.heap.size + 1, 8, none⟩ = some (.bool (!on)) := by rw [Lib.cell_of_heap hx9]; rfl
  clear hq7 hq6 hq5 hq4 hq3 hq2 hq1 hq0
  go_wp2_with fail
  try rw [hw9]
  refine bodyPost_ret (v := .tuple #[.agg #[.int .i64 0, .int .i64 0, .int .i64 4, .int .i64 0, .string ⟨#[]⟩, .slice none 0 0, .int .i64 tc, .int .i64 tn, .bool (!on)], .int .i64 0]) (by simp [results, Tryd.results9, go_sem, r0, r1, r2, r3, r4, r5, r6, r7, r8]) rfl ⟨rfl, hq8⟩
end Go.Proofs.YtnbedohlgghhdaaDoor
