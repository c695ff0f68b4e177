import Derived.Test.YtggdocnnbgcniaaGreatDoorOpPG
import Derived.Test.YtggdocnnbgcniaaGreatDoorRpM
import Derived.Deep.RegionHeld3
namespace Go.Proofs.YtggdocnnbgcniaaGreatDoor
open Go.RowKit Go.Lib Sp
set_option maxRecDepth 100000
def zeroOp : OpV := ⟨0, 0, 0, 0, ⟨#[]⟩, [], 0, 0, false⟩
theorem rng_one {w : World} {g : Nat} {x y : Int} {T : TypeId} (h : w.heap[g]? = some (.cells #[.int .i64 x, .int .i64 y] T)) : Rng w (some ⟨g, 0, none⟩) 1 1 [(x, y)] :=
  ⟨rfl, ⟨Nat.le_refl _, by decide⟩, fun j hj => by
    obtain rfl : j = 0 := by omega
    refine ⟨g, 0, rfl, (Array.getElem?_eq_some_iff.1 h).1, ?_, ?_⟩
    · rw [Lib.cell_of_heap h]; rfl
    · rw [Lib.cell_of_heap h]; rfl⟩
theorem alloc_last (w : World) (o : Obj) (k : Nat) (hk : k = w.heap.size) : (w.alloc o).heap[k]? = some o := by
  subst hk
  show (w.heap.push o)[w.heap.size]? = _
  simp
def rngV (x : Int × Int) : List Value := [.int .i64 x.1, .int .i64 x.2]
theorem layRo : Lay rngV 2 := ⟨fun _ => rfl, by decide, fun x u hu => by simp [rngV] at hu; rcases hu with rfl | rfl <;> rfl⟩
theorem kindRo : Kind Tryz.prog 40 105 2 16 := kind_of Tryz.underlying40 (z := .agg #[.int .i64 0, .int .i64 0]) (by kernel_rfl) rfl
theorem rng_of_rw {w : World} {a : Option Addr} {n cap : Nat} {l : List (Int × Int)} (h : Rw rngV 2 w a n cap l) : Rng w a n cap l :=
  ⟨h.len, h.room, fun j hj => by
    obtain ⟨g, off, x, ha, hg, hx, hc⟩ := h.at j hj
    have e : l.getD j (0, 0) = x := by rw [List.getD_eq_getElem?_getD, hx]; rfl
    rw [e]
    refine ⟨g, off, ha, hg, ?_, hc 1 _ rfl⟩
    have := hc 0 _ rfl
    simpa using this⟩
theorem set9g {W : World} {b : Nat} {T : TypeId} {u0 u1 u2 u3 u4 u5 u6 u7 u8 v0 v1 v2 v3 v4 v5 v6 v7 v8 : Value} (h : W.heap[b]? = some (.cells #[u0, u1, u2, u3, u4, u5, u6, u7, u8] T)) :
    (((((((((W.setCell ⟨b, 0, none⟩ v0).setCell ⟨b, 1, none⟩ v1).setCell ⟨b, 2, none⟩ v2).setCell ⟨b, 3, none⟩ v3).setCell ⟨b, 4, none⟩ v4).setCell ⟨b, 5, none⟩ v5).setCell ⟨b, 6, none⟩ v6).setCell ⟨b, 7, none⟩ v7).setCell ⟨b, 8, none⟩ v8).heap[b]? = some (.cells #[v0, v1, v2, v3, v4, v5, v6, v7, v8] T) := by
  have h0 := (heap_setCell_same _ b 0 _ _ v0 h).trans (by simp; rfl)
  have h1 := (heap_setCell_same _ b 1 _ _ v1 h0).trans (by simp; rfl)
  have h2 := (heap_setCell_same _ b 2 _ _ v2 h1).trans (by simp; rfl)
  have h3 := (heap_setCell_same _ b 3 _ _ v3 h2).trans (by simp; rfl)
  have h4 := (heap_setCell_same _ b 4 _ _ v4 h3).trans (by simp; rfl)
  have h5 := (heap_setCell_same _ b 5 _ _ v5 h4).trans (by simp; rfl)
  have h6 := (heap_setCell_same _ b 6 _ _ v6 h5).trans (by simp; rfl)
  have h7 := (heap_setCell_same _ b 7 _ _ v7 h6).trans (by simp; rfl)
  have h8 := (heap_setCell_same _ b 8 _ _ v8 h7).trans (by simp; rfl)
  exact h8
section
variable {α : Type} {f : α → List Value} {k : Nat} {S T : TypeId} {by_ : Nat}
theorem appendF_allO (hK : Kind Tryz.prog S T k by_) (hf : Lay f k) {w : World} {B : Nat} {v : Value} {l : List α} (h : OwnF f k T w B v l) (hB : B ≤ w.heap.size)
    {b : Option Addr} {m capb : Nat} {ys : List α} (hy : Rw f k w b m capb ys) (hs : (l.length + m) * by_ ≤ 140737488355328) (hs2 : l.length + m ≤ 1099511627776) (ty : TypeId) :
    ∃ a' cap' w', (Builtin.append_ #[S, S] ty #[v, .slice b m capb]).run Tryz.prog w = .ok (.slice a' (l.length + m) cap') w' ∧ OwnF f k T w' B (.slice a' (l.length + m) cap') (l ++ ys) ∧ Below B w w' ∧ Keeps w w' v := by
  by_cases hm : 0 < m
  · obtain ⟨g, cap', w', hr, ho, hb, hk, _⟩ := appendF hK hf h hB hy hm hs (by omega) ty
    exact ⟨_, cap', w', hr, ho, hb, hk⟩
  · obtain rfl : m = 0 := by omega
    obtain rfl : ys = [] := List.eq_nil_of_length_eq_zero hy.len
    obtain ⟨i, z, hi, hz, hsz, hby, _⟩ := hK.info
    obtain ⟨a', cap', rfl⟩ := h.shape
    refine ⟨a', cap', w, ?_, by rw [List.append_nil]; exact h, Below.refl _ _, fun _ _ _ => rfl⟩
    rcases h.2 with ⟨e, h0⟩ | ⟨g, cap, cur, e, _, _, hnc, _⟩
    · obtain rfl := List.eq_nil_of_length_eq_zero h0
      simp only [List.length_nil] at e ⊢
      cases e
      cases b <;> simp [Builtin.append_, run_underlying hK.under, sizeOf, typeInfo, hi, Builtin.lenOf, Builtin.firstCells, loadCells, loadCellsFrom]
    · cases e
      cases b <;> simp [Builtin.append_, run_underlying hK.under, sizeOf, typeInfo, hi, Builtin.lenOf, Builtin.firstCells, hnc, storeCells, loadCells, loadCellsFrom]
end
theorem rw_of_rng {w : World} {a : Option Addr} {n cap : Nat} {l : List (Int × Int)} (h : Rng w a n cap l) : Rw rngV 2 w a n cap l := by
  refine ⟨h.len, h.room, fun hn => ?_⟩
  obtain ⟨g, off, rfl, hg, _, _⟩ := h.cells 0 hn
  refine ⟨g, off, rfl, hg, fun j x hj i v hv => ?_⟩
  have hl := h.len
  have hjl : j < l.length := (List.getElem?_eq_some_iff.1 hj).1
  obtain ⟨g2, off2, e, _, h0, h1⟩ := h.cells j (by omega)
  simp only [Option.some.injEq, Addr.mk.injEq, and_true] at e
  obtain ⟨rfl, rfl⟩ := e
  have ex : l.getD j (0, 0) = x := by rw [List.getD_eq_getElem?_getD, hj]; rfl
  rw [ex] at h0 h1
  have hi : i = 0 ∨ i = 1 := by
    have := (List.getElem?_eq_some_iff.1 hv).1
    simp [rngV] at this
    omega
  rcases hi with rfl | rfl
  · simp only [rngV, List.getElem?_cons_zero, Option.some.injEq] at hv
    subst hv
    exact h0
  · simp only [rngV, List.getElem?_cons_succ, List.getElem?_cons_zero, Option.some.injEq] at hv
    subst hv
    exact h1
set_option maxHeartbeats 1000000 in
theorem copiedR_any {w : World} {a : Option Addr} {n cap : Nat} {l : List (Int × Int)} (h : Rng w a n cap l) (hn : n ≤ 1000000000) :
    Calls Tryz.prog 71 #[.slice a n cap] w fun e w' => ∃ v, e = .returned v ∧ OwnF rngV 2 105 w' w.heap.size v l ∧ Below w.heap.size w w' := by
  obtain ⟨a', cap', w', hr, ho, hb, _⟩ := appendF_allO kindRo layRo (ownF_nil (f := rngV) (k := 2) (T := 105) w w.heap.size) (Nat.le_refl _) (rw_of_rng h) (by simp; omega) (by simp; omega) 40
  simp only [List.length_nil, List.nil_append, Nat.zero_add] at hr ho
  clear h
  go_enter Tryz.func71, Tryz.ntmps71
  go_wp2_with (at_builtin; refine wpList_append_hr rfl _ _ 40 rfl _ _ rfl rfl hr ?_)
  go_ret
  exact ⟨_, rfl, ho, hb⟩
theorem own_set {w : World} {B : Nat} {v : Value} {l : List (Int × Int)} (h : OwnF rngV 2 105 w B v l) (b i : Nat) (u : Value) (hb : b < B) : OwnF rngV 2 105 (w.setCell ⟨b, i, none⟩ u) B v l := by
  refine ⟨h.1, ?_⟩
  rcases h.2 with h0 | ⟨g, cap, cur, e, h1, hh, rest⟩
  · exact .inl h0
  · exact .inr ⟨g, cap, cur, e, h1, (Below.heap_setCell _ _ _ _ (by simp only; omega)).trans hh, rest⟩
theorem own_lit {w : World} {B g : Nat} {x y : Int} (h : w.heap[g]? = some (.cells #[.int .i64 x, .int .i64 y] 105)) (hB : B ≤ g) : OwnF rngV 2 105 w B (.slice (some ⟨g, 0, none⟩) 1 1) [(x, y)] :=
  ⟨rfl, .inr ⟨g, 1, _, rfl, hB, h, Nat.le_refl _, by decide, rfl, rfl⟩⟩
end Go.Proofs.YtggdocnnbgcniaaGreatDoor

namespace Go.Proofs.YtggdocnnbgcniaaGreatDoor
open Go.RowKit Go.Lib Sp
set_option maxRecDepth 100000
structure Right (o : OpV) : Prop where
  kind : 1 ≤ o.k ∧ o.k ≤ 4
  id : (o.c = 0 ∧ o.n = 0) ∨ isIdP o.c o.n = true
  extra : extra o = false
  ins : o.k = 1 → 0 ≤ o.p ∧ o.p ≤ 1048576 ∧ insP o o.p = 0
  rng : o.k = 2 ∨ o.k = 3 → o.l ≠ [] ∧ Sp.Lst o.l
  tgt : o.k = 4 → isIdP o.tc o.tn = true ∧ ¬ (o.tc = o.c ∧ o.tn = o.n)
theorem insP_code (o : OpV) (t : Int) (h : insP o t = 0) : 0 ≤ o.p ∧ o.p ≤ t ∧ (check o.s).2.2 = 0 ∧ (check o.s).1 ≠ 0 ∧ (check o.s).1 ≤ 256 ∧ t + (check o.s).1 ≤ 1048576 := by
  unfold insP at h
  split at h
  · exact absurd h (by assumption)
  split at h
  · cases h
  split at h
  · cases h
  split at h
  · cases h
  split at h
  · cases h
  omega
theorem opCheck_zero {o : OpV} {t : Int} (h : opCheck o t = 0) : 0 ≤ t ∧ t ≤ 1048576 ∧ (1 ≤ o.k ∧ o.k ≤ 4) ∧ ((o.c = 0 ∧ o.n = 0) ∨ isIdP o.c o.n = true) ∧ Go.Proofs.YtggdocnnbgcniaaGreatDoor.extra o = false ∧ (o.k = 1 → insP o t = 0) ∧ (o.k = 2 ∨ o.k = 3 → rngP o t = 0) ∧ (o.k = 4 → tgtP o = 0) := by
  unfold opCheck at h
  split at h
  · cases h
  split at h
  · cases h
  split at h
  · cases h
  rename_i h1 h2 h3
  have hI : (o.c = 0 ∧ o.n = 0) ∨ isIdP o.c o.n = true := by
    by_cases hz : o.c = 0 ∧ o.n = 0
    · exact .inl hz
    · right
      cases hb : isIdP o.c o.n with
      | true => rfl
      | false => exact absurd ⟨hz, hb⟩ h3
  split at h
  · cases h
  rename_i h4
  refine ⟨by omega, by omega, by omega, hI, by simpa using h4, fun e => ?_, fun e => ?_, fun e => ?_⟩
  · rw [if_pos e] at h; exact h
  · rw [if_neg (by omega), if_neg (by omega)] at h; exact h
  · rw [if_neg (by omega), if_pos e] at h; exact h
theorem right_of {o : OpV} (h : ownP o = 0) : Right o := by
  unfold ownP at h
  have key : ∀ t, opCheck o t = 0 → (o.k = 1 → 0 ≤ o.p ∧ o.p ≤ 1048576 ∧ insP o o.p = 0) → Right o := fun t ht hi => by
    obtain ⟨_, _, h2, h3, h4, h5, h6, h7⟩ := opCheck_zero ht
    refine ⟨h2, h3, h4, hi, fun e => ?_, fun e => ?_⟩
    · have := h6 e
      unfold rngP at this
      split at this
      · cases this
      rename_i hn
      split at this
      · rename_i hc; exact absurd this hc
      rename_i hc
      exact ⟨hn, Sp.checkL_ok (by simpa using hc)⟩
    · have := h7 e
      unfold tgtP at this
      split at this
      · cases this
      rename_i hn
      refine ⟨?_, fun hh => hn (.inr hh)⟩
      cases hb : isIdP o.tc o.tn with
      | true => rfl
      | false => exact absurd (.inl hb) hn
  split at h
  · rename_i hc
    refine key _ h fun e => ⟨hc.2.1, hc.2.2, ?_⟩
    exact (opCheck_zero h).2.2.2.2.2.1 e
  · rename_i hc
    refine key _ h fun e => ?_
    have h1 := (opCheck_zero h).2.2.2.2.2.1 e
    have h2 := insP_code _ _ h1
    exact absurd ⟨e, h2.1, h2.2.1⟩ hc
theorem Right.wd {o : OpV} (h : Right o) : 0 ≤ widthP o ∧ widthP o ≤ 256 := by
  unfold widthP
  split
  · rename_i e
    have h1 := insP_code _ _ (h.ins e).2.2
    have h2 := check_nonneg o.s
    omega
  · omega
theorem Right.pos {o : OpV} (h : Right o) (e : o.k = 1) : 0 ≤ o.p ∧ o.p ≤ 1048576 ∧ 1 ≤ widthP o ∧ o.p + widthP o ≤ 1048576 := by
  have h1 := insP_code _ _ (h.ins e).2.2
  have h2 := check_nonneg o.s
  have h3 : widthP o = (check o.s).1 := by unfold widthP; rw [if_pos e]
  have := (h.ins e).2.1
  omega
theorem Right.lst {o : OpV} (h : Right o) (e1 : o.k ≠ 1) (e4 : o.k ≠ 4) : Sp.Lst o.l := (h.rng (by have := h.kind; omega)).2
end Go.Proofs.YtggdocnnbgcniaaGreatDoor

namespace Go.Proofs.YtggdocnnbgcniaaGreatDoor
open Go.RowKit Go.Lib Sp
set_option maxRecDepth 100000
set_option maxHeartbeats 1000000 in
theorem ownError_any {o : OpV} {w : World} {a : Option Addr} {m cap : Nat} (h : Rng w a m cap o.l) (hs : o.s.size ≤ 9223372036854775807) (hw : Bar w) :
    Calls Tryz.prog 37 #[opVal o (.slice a m cap)] w fun e w' => e = .returned (.int .i64 (ownP o)) ∧ Below w.heap.size w w' := by
  have HC : Hid (∀ (total : Int) (w' : World), Below w.heap.size w w' → Calls Tryz.prog 42 #[opVal o (.slice a m cap), .int .i64 total] w' fun e w'' => e = .returned (.int .i64 (opCheck o total)) ∧ Below w'.heap.size w' w'') := fun total w' hb => opCheck_any (h.below hb) hs (hw.below hb)
  clear h hs hw
  obtain ⟨c, n, k, p, s, l, tc, tn, on⟩ := o
  have hw2 := (Below.refl w.heap.size w).alloc (Nat.le_refl _) (Obj.cells #[.int .i64 c, .int .i64 n, .int .i64 k, .int .i64 p, .string s, .slice a m cap, .int .i64 tc, .int .i64 tn, .bool on] 42)
  obtain ⟨r, hr⟩ : ∃ r, ownP ⟨c, n, k, p, s, l, tc, tn, on⟩ = r := ⟨_, rfl⟩
  rw [hr]
  simp only [ownP] at hr
  simp only [opVal] at *
  by_cases hk : k = 1
  · subst hk
    by_cases hp0 : 0 ≤ p
    · by_cases hp1 : p ≤ 1048576
      · rw [if_pos ⟨rfl, hp0, hp1⟩] at hr; subst hr
        go_enter Tryz.func37, Tryz.ntmps37
        go_wp2_with fail
        refine (HC.out _ _ hw2).mono ?_
        rintro e w1 ⟨rfl, hb1⟩
        have hB := hw2.trans (hb1.mono hw2.size)
        clear hw2 hb1 HC
        go_wp2_with fail
        go_ret
        exact ⟨rfl, hB⟩
      · rw [if_neg (fun e => hp1 e.2.2)] at hr; subst hr
        go_enter Tryz.func37, Tryz.ntmps37
        go_wp2_with fail
        refine (HC.out _ _ hw2).mono ?_
        rintro e w1 ⟨rfl, hb1⟩
        have hB := hw2.trans (hb1.mono hw2.size)
        clear hw2 hb1 HC
        go_wp2_with fail
        go_ret
        exact ⟨rfl, hB⟩
    · rw [if_neg (fun e => hp0 e.2.1)] at hr; subst hr
      go_enter Tryz.func37, Tryz.ntmps37
      go_wp2_with fail
      refine (HC.out _ _ hw2).mono ?_
      rintro e w1 ⟨rfl, hb1⟩
      have hB := hw2.trans (hb1.mono hw2.size)
      clear hw2 hb1 HC
      go_wp2_with fail
      go_ret
      exact ⟨rfl, hB⟩
  · rw [if_neg (fun e => hk e.1)] at hr; subst hr
    have t1 : (k == 1) = false := beq_eq_false_iff_ne.2 hk
    clear hk
    go_enter Tryz.func37, Tryz.ntmps37
    go_wp2_with fail
    refine (HC.out _ _ hw2).mono ?_
    rintro e w1 ⟨rfl, hb1⟩
    have hB := hw2.trans (hb1.mono hw2.size)
    clear hw2 hb1 HC
    go_wp2_with fail
    go_ret
    exact ⟨rfl, hB⟩
set_option maxHeartbeats 1000000 in
theorem width_any {o : OpV} {v : Value} {w : World} (hs : o.s.size ≤ 9223372036854775807) (hw : Bar w) :
    Calls Tryz.prog 70 #[opVal o v] w fun e w' => e = .returned (.int .i64 (widthP o)) ∧ Below w.heap.size w w' := by
  obtain ⟨c, n, k, p, s, l, tc, tn, on⟩ := o
  have hw2 := (Below.refl w.heap.size w).alloc (Nat.le_refl _) (Obj.cells #[.int .i64 c, .int .i64 n, .int .i64 k, .int .i64 p, .string s, v, .int .i64 tc, .int .i64 tn, .bool on] 42)
  obtain ⟨x, y, z, hc⟩ : ∃ x y z, check s = (x, y, z) := ⟨_, _, _, rfl⟩
  have HC : Hid (∀ (w' : World), Below w.heap.size w w' → Calls Tryz.prog 27 #[.string s] w' fun e w'' => e = .returned (.tuple #[.int .i64 x, .int .i64 y, .int .i64 z]) ∧ Below w'.heap.size w' w'') := fun w' hb => check_bar hs hc _ (hw.below hb)
  obtain ⟨r, hr⟩ : ∃ r, widthP ⟨c, n, k, p, s, l, tc, tn, on⟩ = r := ⟨_, rfl⟩
  rw [hr]
  simp only [widthP, hc] at hr
  clear hc hs hw
  simp only [opVal] at *
  by_cases hk : k = 1
  · subst hk
    rw [if_pos rfl] at hr; subst hr
    go_enter Tryz.func70, Tryz.ntmps70
    go_wp2_with fail
    refine (HC.out _ hw2).mono ?_
    rintro e w1 ⟨rfl, hb1⟩
    have hB := hw2.trans (hb1.mono hw2.size)
    clear hw2 hb1 HC
    go_wp2_with fail
    go_ret
    exact ⟨rfl, hB⟩
  · rw [if_neg hk] at hr; subst hr
    have t1 : (k == 1) = false := beq_eq_false_iff_ne.2 hk
    clear hk
    go_enter Tryz.func70, Tryz.ntmps70
    go_wp2_with fail
    go_ret
    exact ⟨rfl, hw2⟩
end Go.Proofs.YtggdocnnbgcniaaGreatDoor

namespace Go.Proofs.YtggdocnnbgcniaaGreatDoor
open Go.RowKit Go.Lib Sp
set_option maxRecDepth 100000
def coveredP (o : OpV) : List (Int × Int) := if o.k = 1 then [(o.p, o.p + widthP o)] else o.l
set_option maxHeartbeats 2000000 in
theorem covered_1 {c n p : Int} {s : ByteArray} {l : List (Int × Int)} {tc tn : Int} {on : Bool} {w : World} {a : Option Addr} {m cap : Nat} (hs : s.size ≤ 9223372036854775807) (hw : Bar w) (h0 : 0 ≤ p) (h1 : p ≤ 1048576) (h2 : (check s).1 ≤ 1048576) :
    Calls Tryz.prog 45 #[opVal ⟨c, n, 1, p, s, l, tc, tn, on⟩ (.slice a m cap)] w fun e w' => ∃ v, e = .returned v ∧ OwnF rngV 2 105 w' (w.heap.size + 1) v [(p, p + (check s).1)] ∧ Below w.heap.size w w' := by
  have h3 := check_nonneg s
  have HW : Hid (∀ w' : World, Below w.heap.size w w' → Calls Tryz.prog 70 #[opVal ⟨c, n, 1, p, s, l, tc, tn, on⟩ (.slice a m cap)] w' fun e w'' => e = .returned (.int .i64 (check s).1) ∧ Below w'.heap.size w' w'') := fun w' hb => width_any (o := ⟨c, n, 1, p, s, l, tc, tn, on⟩) (v := .slice a m cap) (w := w') hs (hw.below hb)
  clear hs hw
  generalize (check s).1 = wd at *
  simp only [opVal] at *
  have hw2 := (Below.refl w.heap.size w).alloc (Nat.le_refl _) (Obj.cells #[.int .i64 c, .int .i64 n, .int .i64 1, .int .i64 p, .string s, .slice a m cap, .int .i64 tc, .int .i64 tn, .bool on] 42)
  have k0 : (w.alloc (Obj.cells #[.int .i64 c, .int .i64 n, .int .i64 1, .int .i64 p, .string s, .slice a m cap, .int .i64 tc, .int .i64 tn, .bool on] 42)).cell? ⟨w.heap.size, 0, none⟩ = some (.int .i64 c) := World.cell?_alloc_mark ..
  have k1 : (w.alloc (Obj.cells #[.int .i64 c, .int .i64 n, .int .i64 1, .int .i64 p, .string s, .slice a m cap, .int .i64 tc, .int .i64 tn, .bool on] 42)).cell? ⟨w.heap.size, 1, none⟩ = some (.int .i64 n) := World.cell?_alloc_mark ..
  have k2 : (w.alloc (Obj.cells #[.int .i64 c, .int .i64 n, .int .i64 1, .int .i64 p, .string s, .slice a m cap, .int .i64 tc, .int .i64 tn, .bool on] 42)).cell? ⟨w.heap.size, 2, none⟩ = some (.int .i64 1) := World.cell?_alloc_mark ..
  have k3 : (w.alloc (Obj.cells #[.int .i64 c, .int .i64 n, .int .i64 1, .int .i64 p, .string s, .slice a m cap, .int .i64 tc, .int .i64 tn, .bool on] 42)).cell? ⟨w.heap.size, 3, none⟩ = some (.int .i64 p) := World.cell?_alloc_mark ..
  have k4 : (w.alloc (Obj.cells #[.int .i64 c, .int .i64 n, .int .i64 1, .int .i64 p, .string s, .slice a m cap, .int .i64 tc, .int .i64 tn, .bool on] 42)).cell? ⟨w.heap.size, 4, none⟩ = some (.string s) := World.cell?_alloc_mark ..
  have k5 : (w.alloc (Obj.cells #[.int .i64 c, .int .i64 n, .int .i64 1, .int .i64 p, .string s, .slice a m cap, .int .i64 tc, .int .i64 tn, .bool on] 42)).cell? ⟨w.heap.size, 5, none⟩ = some (.slice a m cap) := World.cell?_alloc_mark ..
  have k6 : (w.alloc (Obj.cells #[.int .i64 c, .int .i64 n, .int .i64 1, .int .i64 p, .string s, .slice a m cap, .int .i64 tc, .int .i64 tn, .bool on] 42)).cell? ⟨w.heap.size, 6, none⟩ = some (.int .i64 tc) := World.cell?_alloc_mark ..
  have k7 : (w.alloc (Obj.cells #[.int .i64 c, .int .i64 n, .int .i64 1, .int .i64 p, .string s, .slice a m cap, .int .i64 tc, .int .i64 tn, .bool on] 42)).cell? ⟨w.heap.size, 7, none⟩ = some (.int .i64 tn) := World.cell?_alloc_mark ..
  have k8 : (w.alloc (Obj.cells #[.int .i64 c, .int .i64 n, .int .i64 1, .int .i64 p, .string s, .slice a m cap, .int .i64 tc, .int .i64 tn, .bool on] 42)).cell? ⟨w.heap.size, 8, none⟩ = some (.bool on) := World.cell?_alloc_mark ..
  have hk : w.heap.size < (w.alloc (Obj.cells #[.int .i64 c, .int .i64 n, .int .i64 1, .int .i64 p, .string s, .slice a m cap, .int .i64 tc, .int .i64 tn, .bool on] 42)).heap.size := by simp
  have hcur : Below (w.alloc (Obj.cells #[.int .i64 c, .int .i64 n, .int .i64 1, .int .i64 p, .string s, .slice a m cap, .int .i64 tc, .int .i64 tn, .bool on] 42)).heap.size (w.alloc (Obj.cells #[.int .i64 c, .int .i64 n, .int .i64 1, .int .i64 p, .string s, .slice a m cap, .int .i64 tc, .int .i64 tn, .bool on] 42)) (w.alloc (Obj.cells #[.int .i64 c, .int .i64 n, .int .i64 1, .int .i64 p, .string s, .slice a m cap, .int .i64 tc, .int .i64 tn, .bool on] 42)) := Below.refl _ _
  have g1 : IntKind.i64.wrap (p + wd) = p + wd := IntWalk.i64_in _ (by omega)
  go_enter Tryz.func45, Tryz.ntmps45
  go_wp2_with fail
  go_region_held3 (fun W => W.cell? ⟨w.heap.size, 0, none⟩ = some (.int .i64 c) ∧ W.cell? ⟨w.heap.size, 1, none⟩ = some (.int .i64 n) ∧ W.cell? ⟨w.heap.size, 2, none⟩ = some (.int .i64 1) ∧ W.cell? ⟨w.heap.size, 3, none⟩ = some (.int .i64 p) ∧ W.cell? ⟨w.heap.size, 4, none⟩ = some (.string s) ∧ W.cell? ⟨w.heap.size, 5, none⟩ = some (.slice a m cap) ∧ W.cell? ⟨w.heap.size, 6, none⟩ = some (.int .i64 tc) ∧ W.cell? ⟨w.heap.size, 7, none⟩ = some (.int .i64 tn) ∧ W.cell? ⟨w.heap.size, 8, none⟩ = some (.bool on)) (first | exact ⟨k0, k1, k2, k3, k4, k5, k6, k7, k8⟩ | exact ⟨e0, e1, e2, e3, e4, e5, e6, e7, e8⟩ | exact ⟨q0 _, q1 _, q2 _, q3 _, q4 _, q5 _, q6 _, q7 _, q8 _⟩)
      (first
        | (go_at_call 70; refine (HW.out _ ?_).mono ?_; (first | exact hw2.trans (hcur.mono hw2.size) | exact hw2.trans (hcur.drew.mono hw2.size)); rintro e w1 ⟨rfl, hb1⟩; have hcur : Below (w.alloc (Obj.cells #[.int .i64 c, .int .i64 n, .int .i64 1, .int .i64 p, .string s, .slice a m cap, .int .i64 tc, .int .i64 tn, .bool on] 42)).heap.size (w.alloc (Obj.cells #[.int .i64 c, .int .i64 n, .int .i64 1, .int .i64 p, .string s, .slice a m cap, .int .i64 tc, .int .i64 tn, .bool on] 42)) w1 := (by first | exact hcur.trans (hb1.mono hcur.size) | exact hcur.drew.trans (hb1.mono hcur.size)); have e0 := (hcur.cell (p := ⟨w.heap.size, 0, none⟩) hk).trans k0; have e1 := (hcur.cell (p := ⟨w.heap.size, 1, none⟩) hk).trans k1; have e2 := (hcur.cell (p := ⟨w.heap.size, 2, none⟩) hk).trans k2; have e3 := (hcur.cell (p := ⟨w.heap.size, 3, none⟩) hk).trans k3; have e4 := (hcur.cell (p := ⟨w.heap.size, 4, none⟩) hk).trans k4; have e5 := (hcur.cell (p := ⟨w.heap.size, 5, none⟩) hk).trans k5; have e6 := (hcur.cell (p := ⟨w.heap.size, 6, none⟩) hk).trans k6; have e7 := (hcur.cell (p := ⟨w.heap.size, 7, none⟩) hk).trans k7; have e8 := (hcur.cell (p := ⟨w.heap.size, 8, none⟩) hk).trans k8; have hk1 : w.heap.size < w1.heap.size := Nat.lt_of_lt_of_le hk hcur.size; have q0 := fun o => (World.cell?_alloc_lt w1 o ⟨w.heap.size, 0, none⟩ hk1).trans e0; have q1 := fun o => (World.cell?_alloc_lt w1 o ⟨w.heap.size, 1, none⟩ hk1).trans e1; have q2 := fun o => (World.cell?_alloc_lt w1 o ⟨w.heap.size, 2, none⟩ hk1).trans e2; have q3 := fun o => (World.cell?_alloc_lt w1 o ⟨w.heap.size, 3, none⟩ hk1).trans e3; have q4 := fun o => (World.cell?_alloc_lt w1 o ⟨w.heap.size, 4, none⟩ hk1).trans e4; have q5 := fun o => (World.cell?_alloc_lt w1 o ⟨w.heap.size, 5, none⟩ hk1).trans e5; have q6 := fun o => (World.cell?_alloc_lt w1 o ⟨w.heap.size, 6, none⟩ hk1).trans e6; have q7 := fun o => (World.cell?_alloc_lt w1 o ⟨w.heap.size, 7, none⟩ hk1).trans e7; have q8 := fun o => (World.cell?_alloc_lt w1 o ⟨w.heap.size, 8, none⟩ hk1).trans e8))
  all_goals
    have hB1 := hw2.trans (hcur.mono hw2.size)
    have hB2 := hB1.alloc hB1.size (Obj.cells #[.int .i64 p, .int .i64 (p + wd)] 105)
    have hO : Hid (OwnF rngV 2 105 (w1.alloc (Obj.cells #[.int .i64 p, .int .i64 (p + wd)] 105)) (w.heap.size + 1) (.slice (some ⟨w1.heap.size, 0, none⟩) 1 1) [(p, p + wd)]) := own_lit (alloc_last _ _ _ rfl) (by omega)
    clear q0 q1 q2 q3 q4 q5 q6 q7 q8
    go_wp2_with fail
    go_ret
    exact ⟨_, rfl, hO.out, hB2⟩
set_option maxHeartbeats 1000000 in
theorem covered_other {o : OpV} {w : World} {a : Option Addr} {m cap : Nat} (h : Rng w a m cap o.l) (hm : m ≤ 1000000000) (hk : o.k ≠ 1) :
    Calls Tryz.prog 45 #[opVal o (.slice a m cap)] w fun e w' => ∃ v, e = .returned v ∧ OwnF rngV 2 105 w' (w.heap.size + 1) v o.l ∧ Below w.heap.size w w' := by
  have HR : Hid (∀ w' : World, Below w.heap.size w w' → Calls Tryz.prog 71 #[.slice a m cap] w' fun e w'' => ∃ v, e = .returned v ∧ OwnF rngV 2 105 w'' w'.heap.size v o.l ∧ Below w'.heap.size w' w'') := fun w' hb => copiedR_any (h.below hb) hm
  clear h hm
  obtain ⟨c, n, k, p, s, l, tc, tn, on⟩ := o
  simp only at hk HR
  have t1 : (k == 1) = false := beq_eq_false_iff_ne.2 hk
  have t2 : decide (k = 1) = false := decide_eq_false hk
  simp only [opVal]
  have hw2 := (Below.refl w.heap.size w).alloc (Nat.le_refl _) (Obj.cells #[.int .i64 c, .int .i64 n, .int .i64 k, .int .i64 p, .string s, .slice a m cap, .int .i64 tc, .int .i64 tn, .bool on] 42)
  go_enter Tryz.func45, Tryz.ntmps45
  go_wp2_with fail
  refine (HR.out _ hw2).mono ?_
  rintro e w1 ⟨v, rfl, hown, hb1⟩
  have hB1 := hw2.trans (hb1.mono hw2.size)
  have HO : Hid (OwnF rngV 2 105 w1 (w.heap.size + 1) v l) := hown.mono (by simp)
  clear hown hb1 hw2
  go_wp2_with fail
  go_ret
  exact ⟨_, rfl, HO.out, hB1⟩
theorem covered_any {o : OpV} {w : World} {a : Option Addr} {m cap : Nat} (h : Rng w a m cap o.l) (hm : m ≤ 1000000000) (hs : o.s.size ≤ 9223372036854775807) (hw : Bar w) (hR : Right o) :
    Calls Tryz.prog 45 #[opVal o (.slice a m cap)] w fun e w' => ∃ v, e = .returned v ∧ OwnF rngV 2 105 w' (w.heap.size + 1) v (coveredP o) ∧ Below w.heap.size w w' := by
  by_cases hk : o.k = 1
  · obtain ⟨h0, h1, h2⟩ := hR.ins hk
    have h3 := insP_code _ _ h2
    have e : coveredP o = [(o.p, o.p + (check o.s).1)] := by unfold coveredP widthP; rw [if_pos hk, if_pos hk]
    rw [e]
    obtain ⟨c, n, k, p, s, l, tc, tn, on⟩ := o
    simp only at hk
    subst hk
    exact covered_1 hs hw h0 h1 (by have := h3.2.2.2.2.1; simp only at this ⊢; omega)
  · have e : coveredP o = o.l := by unfold coveredP; rw [if_neg hk]
    rw [e]
    exact covered_other h hm hk
def inverseP (o : OpV) : OpV := if o.k = 1 ∨ o.k = 3 then ⟨0, 0, 2, 0, ⟨#[]⟩, coveredP o, 0, 0, false⟩ else if o.k = 2 then ⟨0, 0, 3, 0, ⟨#[]⟩, coveredP o, 0, 0, false⟩ else ⟨0, 0, 4, 0, ⟨#[]⟩, [], o.tc, o.tn, !o.on⟩
set_option maxHeartbeats 2000000 in
theorem inverse_1 {c n p : Int} {s : ByteArray} {l : List (Int × Int)} {tc tn : Int} {on : Bool} {w : World} {a : Option Addr} {m cap : Nat} (h : Rng w a m cap l) (hm : m ≤ 1000000000) (hs : s.size ≤ 9223372036854775807) (hw : Bar w) (hok : ownP ⟨c, n, 1, p, s, l, tc, tn, on⟩ = 0) :
    Calls Tryz.prog 23 #[opVal ⟨c, n, 1, p, s, l, tc, tn, on⟩ (.slice a m cap)] w fun e w' => ∃ a' m' cap', e = .returned (.tuple #[opVal ⟨0, 0, 2, 0, ⟨#[]⟩, coveredP ⟨c, n, 1, p, s, l, tc, tn, on⟩, 0, 0, false⟩ (.slice a' m' cap'), .int .i64 0]) ∧ OwnF rngV 2 105 w' (w.heap.size + 2) (.slice a' m' cap') (coveredP ⟨c, n, 1, p, s, l, tc, tn, on⟩) ∧ Below w.heap.size w w' := by
  have HO : Hid (∀ w' : World, Below w.heap.size w w' → Calls Tryz.prog 37 #[opVal ⟨c, n, 1, p, s, l, tc, tn, on⟩ (.slice a m cap)] w' fun e w'' => e = .returned (.int .i64 (ownP ⟨c, n, 1, p, s, l, tc, tn, on⟩)) ∧ Below w'.heap.size w' w'') := fun w' hb => ownError_any (o := ⟨c, n, 1, p, s, l, tc, tn, on⟩) (h.below hb) hs (hw.below hb)
  have hR := right_of hok
  have HV : Hid (∀ w' : World, Below w.heap.size w w' → Calls Tryz.prog 45 #[opVal ⟨c, n, 1, p, s, l, tc, tn, on⟩ (.slice a m cap)] w' fun e w'' => ∃ v, e = .returned v ∧ OwnF rngV 2 105 w'' (w'.heap.size + 1) v (coveredP ⟨c, n, 1, p, s, l, tc, tn, on⟩) ∧ Below w'.heap.size w' w'') := fun w' hb => covered_any (o := ⟨c, n, 1, p, s, l, tc, tn, on⟩) (h.below hb) hm hs (hw.below hb) hR
  rw [hok] at HO
  generalize coveredP ⟨c, n, 1, p, s, l, tc, tn, on⟩ = CV at *
  clear hR
  clear h hs hw hok
  simp only [opVal] at *
  have hX : Below w.heap.size w ((w.alloc (Obj.cells #[.int .i64 c, .int .i64 n, .int .i64 1, .int .i64 p, .string s, .slice a m cap, .int .i64 tc, .int .i64 tn, .bool on] 42)).alloc (Obj.cells #[.int .i64 0, .int .i64 0, .int .i64 0, .int .i64 0, .string ⟨#[]⟩, .slice none 0 0, .int .i64 0, .int .i64 0, .bool false] 42)) := ((Below.refl w.heap.size w).alloc (Nat.le_refl _) _).alloc (by simp) _
  have y0 : ((w.alloc (Obj.cells #[.int .i64 c, .int .i64 n, .int .i64 1, .int .i64 p, .string s, .slice a m cap, .int .i64 tc, .int .i64 tn, .bool on] 42)).alloc (Obj.cells #[.int .i64 0, .int .i64 0, .int .i64 0, .int .i64 0, .string ⟨#[]⟩, .slice none 0 0, .int .i64 0, .int .i64 0, .bool false] 42)).heap[w.heap.size]? = some (Obj.cells #[.int .i64 c, .int .i64 n, .int .i64 1, .int .i64 p, .string s, .slice a m cap, .int .i64 tc, .int .i64 tn, .bool on] 42) := (Below.heap_alloc _ _ _ (by simp)).trans (alloc_last _ _ _ rfl)
  have x0 : ((w.alloc (Obj.cells #[.int .i64 c, .int .i64 n, .int .i64 1, .int .i64 p, .string s, .slice a m cap, .int .i64 tc, .int .i64 tn, .bool on] 42)).alloc (Obj.cells #[.int .i64 0, .int .i64 0, .int .i64 0, .int .i64 0, .string ⟨#[]⟩, .slice none 0 0, .int .i64 0, .int .i64 0, .bool false] 42)).heap[w.heap.size + 1]? = some (Obj.cells #[.int .i64 0, .int .i64 0, .int .i64 0, .int .i64 0, .string ⟨#[]⟩, .slice none 0 0, .int .i64 0, .int .i64 0, .bool false] 42) := alloc_last _ _ _ (by simp)
  have hXs : ((w.alloc (Obj.cells #[.int .i64 c, .int .i64 n, .int .i64 1, .int .i64 p, .string s, .slice a m cap, .int .i64 tc, .int .i64 tn, .bool on] 42)).alloc (Obj.cells #[.int .i64 0, .int .i64 0, .int .i64 0, .int .i64 0, .string ⟨#[]⟩, .slice none 0 0, .int .i64 0, .int .i64 0, .bool false] 42)).heap.size = w.heap.size + 2 := by simp
  go_enter Tryz.func23, Tryz.ntmps23
  go_wp2_with fail
  refine (HO.out _ hX).mono ?_
  rintro e w1 ⟨rfl, hb1⟩
  have hB1 := hX.trans (hb1.mono hX.size)
  have x1 := (hb1.block _ (Array.getElem?_eq_some_iff.1 x0).1).trans x0
  have y1 := (hb1.block _ (Array.getElem?_eq_some_iff.1 y0).1).trans y0
  have hs1 : w.heap.size + 2 ≤ w1.heap.size := by have := hb1.size; rw [hXs] at this; exact this
  clear hX x0 y0 hb1 hXs
  have f0 : w1.cell? ⟨w.heap.size, 0, none⟩ = some (.int .i64 c) := by rw [Lib.cell_of_heap y1]; rfl
  have f1 : w1.cell? ⟨w.heap.size, 1, none⟩ = some (.int .i64 n) := by rw [Lib.cell_of_heap y1]; rfl
  have f2 : w1.cell? ⟨w.heap.size, 2, none⟩ = some (.int .i64 1) := by rw [Lib.cell_of_heap y1]; rfl
  have f3 : w1.cell? ⟨w.heap.size, 3, none⟩ = some (.int .i64 p) := by rw [Lib.cell_of_heap y1]; rfl
  have f4 : w1.cell? ⟨w.heap.size, 4, none⟩ = some (.string s) := by rw [Lib.cell_of_heap y1]; rfl
  have f5 : w1.cell? ⟨w.heap.size, 5, none⟩ = some (.slice a m cap) := by rw [Lib.cell_of_heap y1]; rfl
  have f6 : w1.cell? ⟨w.heap.size, 6, none⟩ = some (.int .i64 tc) := by rw [Lib.cell_of_heap y1]; rfl
  have f7 : w1.cell? ⟨w.heap.size, 7, none⟩ = some (.int .i64 tn) := by rw [Lib.cell_of_heap y1]; rfl
  have f8 : w1.cell? ⟨w.heap.size, 8, none⟩ = some (.bool on) := by rw [Lib.cell_of_heap y1]; rfl
  go_wp2_with fail
  refine (HV.out _ hB1).mono ?_
  rintro e w2 ⟨v, rfl, hown, hb2⟩
  have hB2 := hB1.trans (hb2.mono hB1.size)
  have x2 := (hb2.block _ (Array.getElem?_eq_some_iff.1 x1).1).trans x1
  obtain ⟨va, vc, rfl⟩ := hown.shape
  have HOw : Hid (OwnF rngV 2 105 w2 (w.heap.size + 2) (.slice va CV.length vc) CV) := hown.mono (by omega)
  clear hb2 hown x1 y1 hB1 hs1 f0 f1 f2 f3 f4 f5 f6 f7 f8
  have d0 : w2.cell? ⟨w.heap.size + 1, 0, none⟩ = some (.int .i64 0) := by rw [Lib.cell_of_heap x2]; rfl
  have dz0 : w2.frozen? ⟨w.heap.size + 1, 0, none⟩ = false := Lib.frozen_of_heap x2 0
  have d1 : w2.cell? ⟨w.heap.size + 1, 1, none⟩ = some (.int .i64 0) := by rw [Lib.cell_of_heap x2]; rfl
  have dz1 : w2.frozen? ⟨w.heap.size + 1, 1, none⟩ = false := Lib.frozen_of_heap x2 1
  have d2 : w2.cell? ⟨w.heap.size + 1, 2, none⟩ = some (.int .i64 0) := by rw [Lib.cell_of_heap x2]; rfl
  have dz2 : w2.frozen? ⟨w.heap.size + 1, 2, none⟩ = false := Lib.frozen_of_heap x2 2
  have d3 : w2.cell? ⟨w.heap.size + 1, 3, none⟩ = some (.int .i64 0) := by rw [Lib.cell_of_heap x2]; rfl
  have dz3 : w2.frozen? ⟨w.heap.size + 1, 3, none⟩ = false := Lib.frozen_of_heap x2 3
  have d4 : w2.cell? ⟨w.heap.size + 1, 4, none⟩ = some (.string ⟨#[]⟩) := by rw [Lib.cell_of_heap x2]; rfl
  have dz4 : w2.frozen? ⟨w.heap.size + 1, 4, none⟩ = false := Lib.frozen_of_heap x2 4
  have d5 : w2.cell? ⟨w.heap.size + 1, 5, none⟩ = some (.slice none 0 0) := by rw [Lib.cell_of_heap x2]; rfl
  have dz5 : w2.frozen? ⟨w.heap.size + 1, 5, none⟩ = false := Lib.frozen_of_heap x2 5
  have d6 : w2.cell? ⟨w.heap.size + 1, 6, none⟩ = some (.int .i64 0) := by rw [Lib.cell_of_heap x2]; rfl
  have dz6 : w2.frozen? ⟨w.heap.size + 1, 6, none⟩ = false := Lib.frozen_of_heap x2 6
  have d7 : w2.cell? ⟨w.heap.size + 1, 7, none⟩ = some (.int .i64 0) := by rw [Lib.cell_of_heap x2]; rfl
  have dz7 : w2.frozen? ⟨w.heap.size + 1, 7, none⟩ = false := Lib.frozen_of_heap x2 7
  have d8 : w2.cell? ⟨w.heap.size + 1, 8, none⟩ = some (.bool false) := by rw [Lib.cell_of_heap x2]; rfl
  have dz8 : w2.frozen? ⟨w.heap.size + 1, 8, none⟩ = false := Lib.frozen_of_heap x2 8
  have hx9 := set9g (v0 := .int .i64 0) (v1 := .int .i64 0) (v2 := .int .i64 2) (v3 := .int .i64 0) (v4 := .string ⟨#[]⟩) (v5 := .slice va CV.length vc) (v6 := .int .i64 0) (v7 := .int .i64 0) (v8 := .bool false) x2
  have hq0 := hB2.setCell (p := ⟨w.heap.size + 1, 0, none⟩) (by simp only; omega) (.int .i64 0)
  have hq1 := hq0.setCell (p := ⟨w.heap.size + 1, 1, none⟩) (by simp only; omega) (.int .i64 0)
  have hq2 := hq1.setCell (p := ⟨w.heap.size + 1, 2, none⟩) (by simp only; omega) (.int .i64 2)
  have hq3 := hq2.setCell (p := ⟨w.heap.size + 1, 3, none⟩) (by simp only; omega) (.int .i64 0)
  have hq4 := hq3.setCell (p := ⟨w.heap.size + 1, 4, none⟩) (by simp only; omega) (.string ⟨#[]⟩)
  have hq5 := hq4.setCell (p := ⟨w.heap.size + 1, 5, none⟩) (by simp only; omega) (.slice va CV.length vc)
  have hq6 := hq5.setCell (p := ⟨w.heap.size + 1, 6, none⟩) (by simp only; omega) (.int .i64 0)
  have hq7 := hq6.setCell (p := ⟨w.heap.size + 1, 7, none⟩) (by simp only; omega) (.int .i64 0)
  have hq8 := hq7.setCell (p := ⟨w.heap.size + 1, 8, none⟩) (by simp only; omega) (.bool false)
  obtain ⟨w9, hw9⟩ : ∃ w9, (((((((((w2.setCell ⟨w.heap.size + 1, 0, none⟩ (.int .i64 0)).setCell ⟨w.heap.size + 1, 1, none⟩ (.int .i64 0)).setCell ⟨w.heap.size + 1, 2, none⟩ (.int .i64 2)).setCell ⟨w.heap.size + 1, 3, none⟩ (.int .i64 0)).setCell ⟨w.heap.size + 1, 4, none⟩ (.string ⟨#[]⟩)).setCell ⟨w.heap.size + 1, 5, none⟩ (.slice va CV.length vc)).setCell ⟨w.heap.size + 1, 6, none⟩ (.int .i64 0)).setCell ⟨w.heap.size + 1, 7, none⟩ (.int .i64 0)).setCell ⟨w.heap.size + 1, 8, none⟩ (.bool false)) = w9 := ⟨_, rfl⟩
  have HO9 : Hid (OwnF rngV 2 105 w9 (w.heap.size + 2) (.slice va CV.length vc) CV) := by
    show OwnF _ _ _ _ _ _ _
    rw [← hw9]
    refine own_set ?_ _ _ _ (by omega)
    refine own_set ?_ _ _ _ (by omega)
    refine own_set ?_ _ _ _ (by omega)
    refine own_set ?_ _ _ _ (by omega)
    refine own_set ?_ _ _ _ (by omega)
    refine own_set ?_ _ _ _ (by omega)
    refine own_set ?_ _ _ _ (by omega)
    refine own_set ?_ _ _ _ (by omega)
    refine own_set ?_ _ _ _ (by omega)
    exact HOw.out
  rw [hw9] at hx9 hq8
  have r0 : w9.cell? ⟨w.heap.size + 1, 0, none⟩ = some (.int .i64 0) := by rw [Lib.cell_of_heap hx9]; rfl
  have r1 : w9.cell? ⟨w.heap.size + 1, 1, none⟩ = some (.int .i64 0) := by rw [Lib.cell_of_heap hx9]; rfl
  have r2 : w9.cell? ⟨w.heap.size + 1, 2, none⟩ = some (.int .i64 2) := by rw [Lib.cell_of_heap hx9]; rfl
  have r3 : w9.cell? ⟨w.heap.size + 1, 3, none⟩ = some (.int .i64 0) := by rw [Lib.cell_of_heap hx9]; rfl
  have r4 : w9.cell? ⟨w.heap.size + 1, 4, none⟩ = some (.string ⟨#[]⟩) := by rw [Lib.cell_of_heap hx9]; rfl
  have r5 : w9.cell? ⟨w.heap.size + 1, 5, none⟩ = some (.slice va CV.length vc) := by rw [Lib.cell_of_heap hx9]; rfl
  have r6 : w9.cell? ⟨w.heap.size + 1, 6, none⟩ = some (.int .i64 0) := by rw [Lib.cell_of_heap hx9]; rfl
  have r7 : w9.cell? ⟨w.heap.size + 1, 7, none⟩ = some (.int .i64 0) := by rw [Lib.cell_of_heap hx9]; rfl
  have r8 : w9.cell? ⟨w.heap.size + 1, 8, none⟩ = some (.bool false) := by rw [Lib.cell_of_heap hx9]; rfl
  clear hq7 hq6 hq5 hq4 hq3 hq2 hq1 hq0
  go_wp2_with fail
  try rw [hw9]
  refine bodyPost_ret (v := .tuple #[.agg #[.int .i64 0, .int .i64 0, .int .i64 2, .int .i64 0, .string ⟨#[]⟩, .slice va CV.length vc, .int .i64 0, .int .i64 0, .bool false], .int .i64 0]) (by simp [results, Tryz.results23, go_sem, r0, r1, r2, r3, r4, r5, r6, r7, r8]) rfl ⟨va, CV.length, vc, rfl, HO9.out, hq8⟩
set_option maxHeartbeats 2000000 in
theorem inverse_3 {c n p : Int} {s : ByteArray} {l : List (Int × Int)} {tc tn : Int} {on : Bool} {w : World} {a : Option Addr} {m cap : Nat} (h : Rng w a m cap l) (hm : m ≤ 1000000000) (hs : s.size ≤ 9223372036854775807) (hw : Bar w) (hok : ownP ⟨c, n, 3, p, s, l, tc, tn, on⟩ = 0) :
    Calls Tryz.prog 23 #[opVal ⟨c, n, 3, p, s, l, tc, tn, on⟩ (.slice a m cap)] w fun e w' => ∃ a' m' cap', e = .returned (.tuple #[opVal ⟨0, 0, 2, 0, ⟨#[]⟩, coveredP ⟨c, n, 3, p, s, l, tc, tn, on⟩, 0, 0, false⟩ (.slice a' m' cap'), .int .i64 0]) ∧ OwnF rngV 2 105 w' (w.heap.size + 2) (.slice a' m' cap') (coveredP ⟨c, n, 3, p, s, l, tc, tn, on⟩) ∧ Below w.heap.size w w' := by
  have HO : Hid (∀ w' : World, Below w.heap.size w w' → Calls Tryz.prog 37 #[opVal ⟨c, n, 3, p, s, l, tc, tn, on⟩ (.slice a m cap)] w' fun e w'' => e = .returned (.int .i64 (ownP ⟨c, n, 3, p, s, l, tc, tn, on⟩)) ∧ Below w'.heap.size w' w'') := fun w' hb => ownError_any (o := ⟨c, n, 3, p, s, l, tc, tn, on⟩) (h.below hb) hs (hw.below hb)
  have hR := right_of hok
  have HV : Hid (∀ w' : World, Below w.heap.size w w' → Calls Tryz.prog 45 #[opVal ⟨c, n, 3, p, s, l, tc, tn, on⟩ (.slice a m cap)] w' fun e w'' => ∃ v, e = .returned v ∧ OwnF rngV 2 105 w'' (w'.heap.size + 1) v (coveredP ⟨c, n, 3, p, s, l, tc, tn, on⟩) ∧ Below w'.heap.size w' w'') := fun w' hb => covered_any (o := ⟨c, n, 3, p, s, l, tc, tn, on⟩) (h.below hb) hm hs (hw.below hb) hR
  rw [hok] at HO
  generalize coveredP ⟨c, n, 3, p, s, l, tc, tn, on⟩ = CV at *
  clear hR
  clear h hs hw hok
  simp only [opVal] at *
  have hX : Below w.heap.size w ((w.alloc (Obj.cells #[.int .i64 c, .int .i64 n, .int .i64 3, .int .i64 p, .string s, .slice a m cap, .int .i64 tc, .int .i64 tn, .bool on] 42)).alloc (Obj.cells #[.int .i64 0, .int .i64 0, .int .i64 0, .int .i64 0, .string ⟨#[]⟩, .slice none 0 0, .int .i64 0, .int .i64 0, .bool false] 42)) := ((Below.refl w.heap.size w).alloc (Nat.le_refl _) _).alloc (by simp) _
  have y0 : ((w.alloc (Obj.cells #[.int .i64 c, .int .i64 n, .int .i64 3, .int .i64 p, .string s, .slice a m cap, .int .i64 tc, .int .i64 tn, .bool on] 42)).alloc (Obj.cells #[.int .i64 0, .int .i64 0, .int .i64 0, .int .i64 0, .string ⟨#[]⟩, .slice none 0 0, .int .i64 0, .int .i64 0, .bool false] 42)).heap[w.heap.size]? = some (Obj.cells #[.int .i64 c, .int .i64 n, .int .i64 3, .int .i64 p, .string s, .slice a m cap, .int .i64 tc, .int .i64 tn, .bool on] 42) := (Below.heap_alloc _ _ _ (by simp)).trans (alloc_last _ _ _ rfl)
  have x0 : ((w.alloc (Obj.cells #[.int .i64 c, .int .i64 n, .int .i64 3, .int .i64 p, .string s, .slice a m cap, .int .i64 tc, .int .i64 tn, .bool on] 42)).alloc (Obj.cells #[.int .i64 0, .int .i64 0, .int .i64 0, .int .i64 0, .string ⟨#[]⟩, .slice none 0 0, .int .i64 0, .int .i64 0, .bool false] 42)).heap[w.heap.size + 1]? = some (Obj.cells #[.int .i64 0, .int .i64 0, .int .i64 0, .int .i64 0, .string ⟨#[]⟩, .slice none 0 0, .int .i64 0, .int .i64 0, .bool false] 42) := alloc_last _ _ _ (by simp)
  have hXs : ((w.alloc (Obj.cells #[.int .i64 c, .int .i64 n, .int .i64 3, .int .i64 p, .string s, .slice a m cap, .int .i64 tc, .int .i64 tn, .bool on] 42)).alloc (Obj.cells #[.int .i64 0, .int .i64 0, .int .i64 0, .int .i64 0, .string ⟨#[]⟩, .slice none 0 0, .int .i64 0, .int .i64 0, .bool false] 42)).heap.size = w.heap.size + 2 := by simp
  go_enter Tryz.func23, Tryz.ntmps23
  go_wp2_with fail
  refine (HO.out _ hX).mono ?_
  rintro e w1 ⟨rfl, hb1⟩
  have hB1 := hX.trans (hb1.mono hX.size)
  have x1 := (hb1.block _ (Array.getElem?_eq_some_iff.1 x0).1).trans x0
  have y1 := (hb1.block _ (Array.getElem?_eq_some_iff.1 y0).1).trans y0
  have hs1 : w.heap.size + 2 ≤ w1.heap.size := by have := hb1.size; rw [hXs] at this; exact this
  clear hX x0 y0 hb1 hXs
  have f0 : w1.cell? ⟨w.heap.size, 0, none⟩ = some (.int .i64 c) := by rw [Lib.cell_of_heap y1]; rfl
  have f1 : w1.cell? ⟨w.heap.size, 1, none⟩ = some (.int .i64 n) := by rw [Lib.cell_of_heap y1]; rfl
  have f2 : w1.cell? ⟨w.heap.size, 2, none⟩ = some (.int .i64 3) := by rw [Lib.cell_of_heap y1]; rfl
  have f3 : w1.cell? ⟨w.heap.size, 3, none⟩ = some (.int .i64 p) := by rw [Lib.cell_of_heap y1]; rfl
  have f4 : w1.cell? ⟨w.heap.size, 4, none⟩ = some (.string s) := by rw [Lib.cell_of_heap y1]; rfl
  have f5 : w1.cell? ⟨w.heap.size, 5, none⟩ = some (.slice a m cap) := by rw [Lib.cell_of_heap y1]; rfl
  have f6 : w1.cell? ⟨w.heap.size, 6, none⟩ = some (.int .i64 tc) := by rw [Lib.cell_of_heap y1]; rfl
  have f7 : w1.cell? ⟨w.heap.size, 7, none⟩ = some (.int .i64 tn) := by rw [Lib.cell_of_heap y1]; rfl
  have f8 : w1.cell? ⟨w.heap.size, 8, none⟩ = some (.bool on) := by rw [Lib.cell_of_heap y1]; rfl
  go_wp2_with fail
  refine (HV.out _ hB1).mono ?_
  rintro e w2 ⟨v, rfl, hown, hb2⟩
  have hB2 := hB1.trans (hb2.mono hB1.size)
  have x2 := (hb2.block _ (Array.getElem?_eq_some_iff.1 x1).1).trans x1
  obtain ⟨va, vc, rfl⟩ := hown.shape
  have HOw : Hid (OwnF rngV 2 105 w2 (w.heap.size + 2) (.slice va CV.length vc) CV) := hown.mono (by omega)
  clear hb2 hown x1 y1 hB1 hs1 f0 f1 f2 f3 f4 f5 f6 f7 f8
  have d0 : w2.cell? ⟨w.heap.size + 1, 0, none⟩ = some (.int .i64 0) := by rw [Lib.cell_of_heap x2]; rfl
  have dz0 : w2.frozen? ⟨w.heap.size + 1, 0, none⟩ = false := Lib.frozen_of_heap x2 0
  have d1 : w2.cell? ⟨w.heap.size + 1, 1, none⟩ = some (.int .i64 0) := by rw [Lib.cell_of_heap x2]; rfl
  have dz1 : w2.frozen? ⟨w.heap.size + 1, 1, none⟩ = false := Lib.frozen_of_heap x2 1
  have d2 : w2.cell? ⟨w.heap.size + 1, 2, none⟩ = some (.int .i64 0) := by rw [Lib.cell_of_heap x2]; rfl
  have dz2 : w2.frozen? ⟨w.heap.size + 1, 2, none⟩ = false := Lib.frozen_of_heap x2 2
  have d3 : w2.cell? ⟨w.heap.size + 1, 3, none⟩ = some (.int .i64 0) := by rw [Lib.cell_of_heap x2]; rfl
  have dz3 : w2.frozen? ⟨w.heap.size + 1, 3, none⟩ = false := Lib.frozen_of_heap x2 3
  have d4 : w2.cell? ⟨w.heap.size + 1, 4, none⟩ = some (.string ⟨#[]⟩) := by rw [Lib.cell_of_heap x2]; rfl
  have dz4 : w2.frozen? ⟨w.heap.size + 1, 4, none⟩ = false := Lib.frozen_of_heap x2 4
  have d5 : w2.cell? ⟨w.heap.size + 1, 5, none⟩ = some (.slice none 0 0) := by rw [Lib.cell_of_heap x2]; rfl
  have dz5 : w2.frozen? ⟨w.heap.size + 1, 5, none⟩ = false := Lib.frozen_of_heap x2 5
  have d6 : w2.cell? ⟨w.heap.size + 1, 6, none⟩ = some (.int .i64 0) := by rw [Lib.cell_of_heap x2]; rfl
  have dz6 : w2.frozen? ⟨w.heap.size + 1, 6, none⟩ = false := Lib.frozen_of_heap x2 6
  have d7 : w2.cell? ⟨w.heap.size + 1, 7, none⟩ = some (.int .i64 0) := by rw [Lib.cell_of_heap x2]; rfl
  have dz7 : w2.frozen? ⟨w.heap.size + 1, 7, none⟩ = false := Lib.frozen_of_heap x2 7
  have d8 : w2.cell? ⟨w.heap.size + 1, 8, none⟩ = some (.bool false) := by rw [Lib.cell_of_heap x2]; rfl
  have dz8 : w2.frozen? ⟨w.heap.size + 1, 8, none⟩ = false := Lib.frozen_of_heap x2 8
  have hx9 := set9g (v0 := .int .i64 0) (v1 := .int .i64 0) (v2 := .int .i64 2) (v3 := .int .i64 0) (v4 := .string ⟨#[]⟩) (v5 := .slice va CV.length vc) (v6 := .int .i64 0) (v7 := .int .i64 0) (v8 := .bool false) x2
  have hq0 := hB2.setCell (p := ⟨w.heap.size + 1, 0, none⟩) (by simp only; omega) (.int .i64 0)
  have hq1 := hq0.setCell (p := ⟨w.heap.size + 1, 1, none⟩) (by simp only; omega) (.int .i64 0)
  have hq2 := hq1.setCell (p := ⟨w.heap.size + 1, 2, none⟩) (by simp only; omega) (.int .i64 2)
  have hq3 := hq2.setCell (p := ⟨w.heap.size + 1, 3, none⟩) (by simp only; omega) (.int .i64 0)
  have hq4 := hq3.setCell (p := ⟨w.heap.size + 1, 4, none⟩) (by simp only; omega) (.string ⟨#[]⟩)
  have hq5 := hq4.setCell (p := ⟨w.heap.size + 1, 5, none⟩) (by simp only; omega) (.slice va CV.length vc)
  have hq6 := hq5.setCell (p := ⟨w.heap.size + 1, 6, none⟩) (by simp only; omega) (.int .i64 0)
  have hq7 := hq6.setCell (p := ⟨w.heap.size + 1, 7, none⟩) (by simp only; omega) (.int .i64 0)
  have hq8 := hq7.setCell (p := ⟨w.heap.size + 1, 8, none⟩) (by simp only; omega) (.bool false)
  obtain ⟨w9, hw9⟩ : ∃ w9, (((((((((w2.setCell ⟨w.heap.size + 1, 0, none⟩ (.int .i64 0)).setCell ⟨w.heap.size + 1, 1, none⟩ (.int .i64 0)).setCell ⟨w.heap.size + 1, 2, none⟩ (.int .i64 2)).setCell ⟨w.heap.size + 1, 3, none⟩ (.int .i64 0)).setCell ⟨w.heap.size + 1, 4, none⟩ (.string ⟨#[]⟩)).setCell ⟨w.heap.size + 1, 5, none⟩ (.slice va CV.length vc)).setCell ⟨w.heap.size + 1, 6, none⟩ (.int .i64 0)).setCell ⟨w.heap.size + 1, 7, none⟩ (.int .i64 0)).setCell ⟨w.heap.size + 1, 8, none⟩ (.bool false)) = w9 := ⟨_, rfl⟩
  have HO9 : Hid (OwnF rngV 2 105 w9 (w.heap.size + 2) (.slice va CV.length vc) CV) := by
    show OwnF _ _ _ _ _ _ _
    rw [← hw9]
    refine own_set ?_ _ _ _ (by omega)
    refine own_set ?_ _ _ _ (by omega)
    refine own_set ?_ _ _ _ (by omega)
    refine own_set ?_ _ _ _ (by omega)
    refine own_set ?_ _ _ _ (by omega)
    refine own_set ?_ _ _ _ (by omega)
    refine own_set ?_ _ _ _ (by omega)
    refine own_set ?_ _ _ _ (by omega)
    refine own_set ?_ _ _ _ (by omega)
    exact HOw.out
  rw [hw9] at hx9 hq8
  have r0 : w9.cell? ⟨w.heap.size + 1, 0, none⟩ = some (.int .i64 0) := by rw [Lib.cell_of_heap hx9]; rfl
  have r1 : w9.cell? ⟨w.heap.size + 1, 1, none⟩ = some (.int .i64 0) := by rw [Lib.cell_of_heap hx9]; rfl
  have r2 : w9.cell? ⟨w.heap.size + 1, 2, none⟩ = some (.int .i64 2) := by rw [Lib.cell_of_heap hx9]; rfl
  have r3 : w9.cell? ⟨w.heap.size + 1, 3, none⟩ = some (.int .i64 0) := by rw [Lib.cell_of_heap hx9]; rfl
  have r4 : w9.cell? ⟨w.heap.size + 1, 4, none⟩ = some (.string ⟨#[]⟩) := by rw [Lib.cell_of_heap hx9]; rfl
  have r5 : w9.cell? ⟨w.heap.size + 1, 5, none⟩ = some (.slice va CV.length vc) := by rw [Lib.cell_of_heap hx9]; rfl
  have r6 : w9.cell? ⟨w.heap.size + 1, 6, none⟩ = some (.int .i64 0) := by rw [Lib.cell_of_heap hx9]; rfl
  have r7 : w9.cell? ⟨w.heap.size + 1, 7, none⟩ = some (.int .i64 0) := by rw [Lib.cell_of_heap hx9]; rfl
  have r8 : w9.cell? ⟨w.heap.size + 1, 8, none⟩ = some (.bool false) := by rw [Lib.cell_of_heap hx9]; rfl
  clear hq7 hq6 hq5 hq4 hq3 hq2 hq1 hq0
  go_wp2_with fail
  try rw [hw9]
  refine bodyPost_ret (v := .tuple #[.agg #[.int .i64 0, .int .i64 0, .int .i64 2, .int .i64 0, .string ⟨#[]⟩, .slice va CV.length vc, .int .i64 0, .int .i64 0, .bool false], .int .i64 0]) (by simp [results, Tryz.results23, go_sem, r0, r1, r2, r3, r4, r5, r6, r7, r8]) rfl ⟨va, CV.length, vc, rfl, HO9.out, hq8⟩
set_option maxHeartbeats 2000000 in
theorem inverse_2 {c n p : Int} {s : ByteArray} {l : List (Int × Int)} {tc tn : Int} {on : Bool} {w : World} {a : Option Addr} {m cap : Nat} (h : Rng w a m cap l) (hm : m ≤ 1000000000) (hs : s.size ≤ 9223372036854775807) (hw : Bar w) (hok : ownP ⟨c, n, 2, p, s, l, tc, tn, on⟩ = 0) :
    Calls Tryz.prog 23 #[opVal ⟨c, n, 2, p, s, l, tc, tn, on⟩ (.slice a m cap)] w fun e w' => ∃ a' m' cap', e = .returned (.tuple #[opVal ⟨0, 0, 3, 0, ⟨#[]⟩, coveredP ⟨c, n, 2, p, s, l, tc, tn, on⟩, 0, 0, false⟩ (.slice a' m' cap'), .int .i64 0]) ∧ OwnF rngV 2 105 w' (w.heap.size + 2) (.slice a' m' cap') (coveredP ⟨c, n, 2, p, s, l, tc, tn, on⟩) ∧ Below w.heap.size w w' := by
  have HO : Hid (∀ w' : World, Below w.heap.size w w' → Calls Tryz.prog 37 #[opVal ⟨c, n, 2, p, s, l, tc, tn, on⟩ (.slice a m cap)] w' fun e w'' => e = .returned (.int .i64 (ownP ⟨c, n, 2, p, s, l, tc, tn, on⟩)) ∧ Below w'.heap.size w' w'') := fun w' hb => ownError_any (o := ⟨c, n, 2, p, s, l, tc, tn, on⟩) (h.below hb) hs (hw.below hb)
  have hR := right_of hok
  have HV : Hid (∀ w' : World, Below w.heap.size w w' → Calls Tryz.prog 45 #[opVal ⟨c, n, 2, p, s, l, tc, tn, on⟩ (.slice a m cap)] w' fun e w'' => ∃ v, e = .returned v ∧ OwnF rngV 2 105 w'' (w'.heap.size + 1) v (coveredP ⟨c, n, 2, p, s, l, tc, tn, on⟩) ∧ Below w'.heap.size w' w'') := fun w' hb => covered_any (o := ⟨c, n, 2, p, s, l, tc, tn, on⟩) (h.below hb) hm hs (hw.below hb) hR
  rw [hok] at HO
  generalize coveredP ⟨c, n, 2, p, s, l, tc, tn, on⟩ = CV at *
  clear hR
  clear h hs hw hok
  simp only [opVal] at *
  have hX : Below w.heap.size w ((w.alloc (Obj.cells #[.int .i64 c, .int .i64 n, .int .i64 2, .int .i64 p, .string s, .slice a m cap, .int .i64 tc, .int .i64 tn, .bool on] 42)).alloc (Obj.cells #[.int .i64 0, .int .i64 0, .int .i64 0, .int .i64 0, .string ⟨#[]⟩, .slice none 0 0, .int .i64 0, .int .i64 0, .bool false] 42)) := ((Below.refl w.heap.size w).alloc (Nat.le_refl _) _).alloc (by simp) _
  have y0 : ((w.alloc (Obj.cells #[.int .i64 c, .int .i64 n, .int .i64 2, .int .i64 p, .string s, .slice a m cap, .int .i64 tc, .int .i64 tn, .bool on] 42)).alloc (Obj.cells #[.int .i64 0, .int .i64 0, .int .i64 0, .int .i64 0, .string ⟨#[]⟩, .slice none 0 0, .int .i64 0, .int .i64 0, .bool false] 42)).heap[w.heap.size]? = some (Obj.cells #[.int .i64 c, .int .i64 n, .int .i64 2, .int .i64 p, .string s, .slice a m cap, .int .i64 tc, .int .i64 tn, .bool on] 42) := (Below.heap_alloc _ _ _ (by simp)).trans (alloc_last _ _ _ rfl)
  have x0 : ((w.alloc (Obj.cells #[.int .i64 c, .int .i64 n, .int .i64 2, .int .i64 p, .string s, .slice a m cap, .int .i64 tc, .int .i64 tn, .bool on] 42)).alloc (Obj.cells #[.int .i64 0, .int .i64 0, .int .i64 0, .int .i64 0, .string ⟨#[]⟩, .slice none 0 0, .int .i64 0, .int .i64 0, .bool false] 42)).heap[w.heap.size + 1]? = some (Obj.cells #[.int .i64 0, .int .i64 0, .int .i64 0, .int .i64 0, .string ⟨#[]⟩, .slice none 0 0, .int .i64 0, .int .i64 0, .bool false] 42) := alloc_last _ _ _ (by simp)
  have hXs : ((w.alloc (Obj.cells #[.int .i64 c, .int .i64 n, .int .i64 2, .int .i64 p, .string s, .slice a m cap, .int .i64 tc, .int .i64 tn, .bool on] 42)).alloc (Obj.cells #[.int .i64 0, .int .i64 0, .int .i64 0, .int .i64 0, .string ⟨#[]⟩, .slice none 0 0, .int .i64 0, .int .i64 0, .bool false] 42)).heap.size = w.heap.size + 2 := by simp
  go_enter Tryz.func23, Tryz.ntmps23
  go_wp2_with fail
  refine (HO.out _ hX).mono ?_
  rintro e w1 ⟨rfl, hb1⟩
  have hB1 := hX.trans (hb1.mono hX.size)
  have x1 := (hb1.block _ (Array.getElem?_eq_some_iff.1 x0).1).trans x0
  have y1 := (hb1.block _ (Array.getElem?_eq_some_iff.1 y0).1).trans y0
  have hs1 : w.heap.size + 2 ≤ w1.heap.size := by have := hb1.size; rw [hXs] at this; exact this
  clear hX x0 y0 hb1 hXs
  have f0 : w1.cell? ⟨w.heap.size, 0, none⟩ = some (.int .i64 c) := by rw [Lib.cell_of_heap y1]; rfl
  have f1 : w1.cell? ⟨w.heap.size, 1, none⟩ = some (.int .i64 n) := by rw [Lib.cell_of_heap y1]; rfl
  have f2 : w1.cell? ⟨w.heap.size, 2, none⟩ = some (.int .i64 2) := by rw [Lib.cell_of_heap y1]; rfl
  have f3 : w1.cell? ⟨w.heap.size, 3, none⟩ = some (.int .i64 p) := by rw [Lib.cell_of_heap y1]; rfl
  have f4 : w1.cell? ⟨w.heap.size, 4, none⟩ = some (.string s) := by rw [Lib.cell_of_heap y1]; rfl
  have f5 : w1.cell? ⟨w.heap.size, 5, none⟩ = some (.slice a m cap) := by rw [Lib.cell_of_heap y1]; rfl
  have f6 : w1.cell? ⟨w.heap.size, 6, none⟩ = some (.int .i64 tc) := by rw [Lib.cell_of_heap y1]; rfl
  have f7 : w1.cell? ⟨w.heap.size, 7, none⟩ = some (.int .i64 tn) := by rw [Lib.cell_of_heap y1]; rfl
  have f8 : w1.cell? ⟨w.heap.size, 8, none⟩ = some (.bool on) := by rw [Lib.cell_of_heap y1]; rfl
  go_wp2_with fail
  refine (HV.out _ hB1).mono ?_
  rintro e w2 ⟨v, rfl, hown, hb2⟩
  have hB2 := hB1.trans (hb2.mono hB1.size)
  have x2 := (hb2.block _ (Array.getElem?_eq_some_iff.1 x1).1).trans x1
  obtain ⟨va, vc, rfl⟩ := hown.shape
  have HOw : Hid (OwnF rngV 2 105 w2 (w.heap.size + 2) (.slice va CV.length vc) CV) := hown.mono (by omega)
  clear hb2 hown x1 y1 hB1 hs1 f0 f1 f2 f3 f4 f5 f6 f7 f8
  have d0 : w2.cell? ⟨w.heap.size + 1, 0, none⟩ = some (.int .i64 0) := by rw [Lib.cell_of_heap x2]; rfl
  have dz0 : w2.frozen? ⟨w.heap.size + 1, 0, none⟩ = false := Lib.frozen_of_heap x2 0
  have d1 : w2.cell? ⟨w.heap.size + 1, 1, none⟩ = some (.int .i64 0) := by rw [Lib.cell_of_heap x2]; rfl
  have dz1 : w2.frozen? ⟨w.heap.size + 1, 1, none⟩ = false := Lib.frozen_of_heap x2 1
  have d2 : w2.cell? ⟨w.heap.size + 1, 2, none⟩ = some (.int .i64 0) := by rw [Lib.cell_of_heap x2]; rfl
  have dz2 : w2.frozen? ⟨w.heap.size + 1, 2, none⟩ = false := Lib.frozen_of_heap x2 2
  have d3 : w2.cell? ⟨w.heap.size + 1, 3, none⟩ = some (.int .i64 0) := by rw [Lib.cell_of_heap x2]; rfl
  have dz3 : w2.frozen? ⟨w.heap.size + 1, 3, none⟩ = false := Lib.frozen_of_heap x2 3
  have d4 : w2.cell? ⟨w.heap.size + 1, 4, none⟩ = some (.string ⟨#[]⟩) := by rw [Lib.cell_of_heap x2]; rfl
  have dz4 : w2.frozen? ⟨w.heap.size + 1, 4, none⟩ = false := Lib.frozen_of_heap x2 4
  have d5 : w2.cell? ⟨w.heap.size + 1, 5, none⟩ = some (.slice none 0 0) := by rw [Lib.cell_of_heap x2]; rfl
  have dz5 : w2.frozen? ⟨w.heap.size + 1, 5, none⟩ = false := Lib.frozen_of_heap x2 5
  have d6 : w2.cell? ⟨w.heap.size + 1, 6, none⟩ = some (.int .i64 0) := by rw [Lib.cell_of_heap x2]; rfl
  have dz6 : w2.frozen? ⟨w.heap.size + 1, 6, none⟩ = false := Lib.frozen_of_heap x2 6
  have d7 : w2.cell? ⟨w.heap.size + 1, 7, none⟩ = some (.int .i64 0) := by rw [Lib.cell_of_heap x2]; rfl
  have dz7 : w2.frozen? ⟨w.heap.size + 1, 7, none⟩ = false := Lib.frozen_of_heap x2 7
  have d8 : w2.cell? ⟨w.heap.size + 1, 8, none⟩ = some (.bool false) := by rw [Lib.cell_of_heap x2]; rfl
  have dz8 : w2.frozen? ⟨w.heap.size + 1, 8, none⟩ = false := Lib.frozen_of_heap x2 8
  have hx9 := set9g (v0 := .int .i64 0) (v1 := .int .i64 0) (v2 := .int .i64 3) (v3 := .int .i64 0) (v4 := .string ⟨#[]⟩) (v5 := .slice va CV.length vc) (v6 := .int .i64 0) (v7 := .int .i64 0) (v8 := .bool false) x2
  have hq0 := hB2.setCell (p := ⟨w.heap.size + 1, 0, none⟩) (by simp only; omega) (.int .i64 0)
  have hq1 := hq0.setCell (p := ⟨w.heap.size + 1, 1, none⟩) (by simp only; omega) (.int .i64 0)
  have hq2 := hq1.setCell (p := ⟨w.heap.size + 1, 2, none⟩) (by simp only; omega) (.int .i64 3)
  have hq3 := hq2.setCell (p := ⟨w.heap.size + 1, 3, none⟩) (by simp only; omega) (.int .i64 0)
  have hq4 := hq3.setCell (p := ⟨w.heap.size + 1, 4, none⟩) (by simp only; omega) (.string ⟨#[]⟩)
  have hq5 := hq4.setCell (p := ⟨w.heap.size + 1, 5, none⟩) (by simp only; omega) (.slice va CV.length vc)
  have hq6 := hq5.setCell (p := ⟨w.heap.size + 1, 6, none⟩) (by simp only; omega) (.int .i64 0)
  have hq7 := hq6.setCell (p := ⟨w.heap.size + 1, 7, none⟩) (by simp only; omega) (.int .i64 0)
  have hq8 := hq7.setCell (p := ⟨w.heap.size + 1, 8, none⟩) (by simp only; omega) (.bool false)
  obtain ⟨w9, hw9⟩ : ∃ w9, (((((((((w2.setCell ⟨w.heap.size + 1, 0, none⟩ (.int .i64 0)).setCell ⟨w.heap.size + 1, 1, none⟩ (.int .i64 0)).setCell ⟨w.heap.size + 1, 2, none⟩ (.int .i64 3)).setCell ⟨w.heap.size + 1, 3, none⟩ (.int .i64 0)).setCell ⟨w.heap.size + 1, 4, none⟩ (.string ⟨#[]⟩)).setCell ⟨w.heap.size + 1, 5, none⟩ (.slice va CV.length vc)).setCell ⟨w.heap.size + 1, 6, none⟩ (.int .i64 0)).setCell ⟨w.heap.size + 1, 7, none⟩ (.int .i64 0)).setCell ⟨w.heap.size + 1, 8, none⟩ (.bool false)) = w9 := ⟨_, rfl⟩
  have HO9 : Hid (OwnF rngV 2 105 w9 (w.heap.size + 2) (.slice va CV.length vc) CV) := by
    show OwnF _ _ _ _ _ _ _
    rw [← hw9]
    refine own_set ?_ _ _ _ (by omega)
    refine own_set ?_ _ _ _ (by omega)
    refine own_set ?_ _ _ _ (by omega)
    refine own_set ?_ _ _ _ (by omega)
    refine own_set ?_ _ _ _ (by omega)
    refine own_set ?_ _ _ _ (by omega)
    refine own_set ?_ _ _ _ (by omega)
    refine own_set ?_ _ _ _ (by omega)
    refine own_set ?_ _ _ _ (by omega)
    exact HOw.out
  rw [hw9] at hx9 hq8
  have r0 : w9.cell? ⟨w.heap.size + 1, 0, none⟩ = some (.int .i64 0) := by rw [Lib.cell_of_heap hx9]; rfl
  have r1 : w9.cell? ⟨w.heap.size + 1, 1, none⟩ = some (.int .i64 0) := by rw [Lib.cell_of_heap hx9]; rfl
  have r2 : w9.cell? ⟨w.heap.size + 1, 2, none⟩ = some (.int .i64 3) := by rw [Lib.cell_of_heap hx9]; rfl
  have r3 : w9.cell? ⟨w.heap.size + 1, 3, none⟩ = some (.int .i64 0) := by rw [Lib.cell_of_heap hx9]; rfl
  have r4 : w9.cell? ⟨w.heap.size + 1, 4, none⟩ = some (.string ⟨#[]⟩) := by rw [Lib.cell_of_heap hx9]; rfl
  have r5 : w9.cell? ⟨w.heap.size + 1, 5, none⟩ = some (.slice va CV.length vc) := by rw [Lib.cell_of_heap hx9]; rfl
  have r6 : w9.cell? ⟨w.heap.size + 1, 6, none⟩ = some (.int .i64 0) := by rw [Lib.cell_of_heap hx9]; rfl
  have r7 : w9.cell? ⟨w.heap.size + 1, 7, none⟩ = some (.int .i64 0) := by rw [Lib.cell_of_heap hx9]; rfl
  have r8 : w9.cell? ⟨w.heap.size + 1, 8, none⟩ = some (.bool false) := by rw [Lib.cell_of_heap hx9]; rfl
  clear hq7 hq6 hq5 hq4 hq3 hq2 hq1 hq0
  go_wp2_with fail
  try rw [hw9]
  refine bodyPost_ret (v := .tuple #[.agg #[.int .i64 0, .int .i64 0, .int .i64 3, .int .i64 0, .string ⟨#[]⟩, .slice va CV.length vc, .int .i64 0, .int .i64 0, .bool false], .int .i64 0]) (by simp [results, Tryz.results23, go_sem, r0, r1, r2, r3, r4, r5, r6, r7, r8]) rfl ⟨va, CV.length, vc, rfl, HO9.out, hq8⟩
end Go.Proofs.YtggdocnnbgcniaaGreatDoor
