import Derived.Test.YtokkodkhkpgebaaDoorKaC
import Derived.Deep.RegionHeld3
import Derived.Deep.DeepCutAuto
/-! The stacks in memory; Did. -/
namespace Go.Proofs.YtokkodkhkpgebaaDoor
open Go.RowKit Go.Lib
set_option maxRecDepth 100000

/-- wpAnyH_take, the slot written out. -/
theorem takeD {P : Program} {md : Region.Mode} {ops : Array Oper} {Q : Exit → Act → World → Prop} {S : World → Prop} {i : Nat} {oi : Oper} {d : Option Nat} {v : Value} {fuel : Nat} {listed : Array Bool} {a : Act} {w : World} (hi : ops[i]? = some oi) (hd : oi.dst = d)
    (hs : Region.noSelect ops = true) (hf : Region.free md ops listed i = true) (hr : (Region.ready md ops listed).contains i = true)
    (hQ : ∀ c a w, Q (.panic c) (a.put oi.dst v) w → Q (.panic c) a w) (hy : YieldsIf P ops S oi v a) (hS : S w)
    (h : wpAnyH P md ops Q S fuel (listed.setIfInBounds i true) (a.put d v) w) : wpAnyH P md ops Q S (fuel + 1) listed a w := by
  subst hd
  exact wpAnyH_take hi hs hf hr hQ hy hS h
theorem takeA {P : Program} {md : Region.Mode} {ops : Array Oper} {Q : Exit → Act → World → Prop} {i : Nat} {oi : Oper} {d : Option Nat} {v : Value} {fuel : Nat} {listed : Array Bool} {a : Act} {w : World} (hi : ops[i]? = some oi) (hd : oi.dst = d)
    (hs : Region.noSelect ops = true) (hf : Region.free md ops listed i = true) (hr : (Region.ready md ops listed).contains i = true)
    (hQ : ∀ c a w, Q (.panic c) (a.put oi.dst v) w → Q (.panic c) a w) (hy : Yields P ops oi v a)
    (h : wpAny P md ops Q fuel (listed.setIfInBounds i true) (a.put d v) w) : wpAny P md ops Q (fuel + 1) listed a w := by
  subst hd
  exact wpAny_take hi hs hf hr hQ hy h
theorem consS {P : Program} {md : Region.Mode} {ops : Array Oper} {Q : Exit → Act → World → Prop} {fuel : Nat} {listed : Array Bool} {a : Act} {w : World} {i : Nat} {o : Oper} {rs : List Nat} (ho : ops[i]? = some o)
    (h : ∀ K' : Act → World → Prop, Shut (∀ a w, wpAny P md ops Q fuel (listed.setIfInBounds i true) a w → K' a w) → if Region.wanted o (yielded ops a.tmps) = true then Oper.wp P o a w K' Q else K' (a.put o.dst undef) w)
    (hs : AllReady P md ops Q fuel listed a w rs) : AllReady P md ops Q fuel listed a w (i :: rs) := AllReady.cons ho h hs
theorem wp_append_hr {P : Program} {w : World} {o : Oper} {a : Act} {K : Act → World → Prop} {Q : Exit → Act → World → Prop} (s x : Operand) (t : TypeId) (d : Option Nat) (hd : o.dst = d)
    (ho : o.op = .call { callee := .builtin .append, args := #[s, x], argTypes := #[t, t] }) (v u : Value) (hs : a.eval s = v) (hx : a.eval x = u) {v' : Value} {w' : World}
    (hr : (Builtin.append_ #[t, t] o.type #[v, u]).run P w = .ok v' w') (h : K (a.put d v') w') : Oper.wp P o a w K Q := by
  subst hd
  unfold Oper.wp execOp
  simp only [ho, resolve, invoke, builtin, Sem.run_bind, Sem.run_pure, Result.andThen_ok, List.map_toArray, List.map_cons, List.map_nil, hs, hx, hr]
  exact h
/-- All stands but the blocks of D, and what is new. -/
def Chg (D : Nat → Prop) (w w' : World) : Prop := Below 0 w w' ∧ ∀ g, g < w.heap.size → ¬ D g → w'.heap[g]? = w.heap[g]?
theorem Chg.refl (D : Nat → Prop) (w : World) : Chg D w w := ⟨Below.refl _ _, fun _ _ _ => rfl⟩
theorem Chg.size {D : Nat → Prop} {a b : World} (h : Chg D a b) : a.heap.size ≤ b.heap.size := h.1.size
theorem Chg.trans {D : Nat → Prop} {a b c : World} (h : Chg D a b) (k : Chg D b c) : Chg D a c := ⟨h.1.trans k.1, fun g hg hq => (k.2 g (Nat.lt_of_lt_of_le hg h.1.size) hq).trans (h.2 g hg hq)⟩
theorem Chg.of_below {D : Nat → Prop} {a b : World} (h : Below a.heap.size a b) : Chg D a b := ⟨h.mono (Nat.zero_le _), fun g hg _ => h.block g hg⟩
theorem Chg.mono {D E : Nat → Prop} {a b : World} (h : Chg D a b) (hD : ∀ g, g < a.heap.size → D g → E g) : Chg E a b := ⟨h.1, fun g hg hE => h.2 g hg (fun hd => hE (hD g hg hd))⟩
theorem Chg.block {D : Nat → Prop} {a b : World} (h : Chg D a b) {g : Nat} {o : Obj} (hg : a.heap[g]? = some o) (hq : ¬ D g) : b.heap[g]? = some o := (h.2 g (Array.getElem?_eq_some_iff.1 hg).1 hq).trans hg
theorem Chg.set {D : Nat → Prop} {q : Nat} (i : Nat) (w : World) (u : Value) (hq : D q) : Chg D w (w.setCell ⟨q, i, none⟩ u) := ⟨(Below.refl _ _).setCell (Nat.zero_le _) _, fun g _ hk => Below.heap_setCell _ _ _ _ (by simp only; intro e; exact hk (e ▸ hq))⟩
theorem Chg.alloc (D : Nat → Prop) (w : World) (o : Obj) : Chg D w (w.alloc o) := Chg.of_below ((Below.refl _ _).alloc (Nat.le_refl _) _)
/-- What lies below B stands, where D lies at or beyond it. -/
theorem Chg.below {D : Nat → Prop} {B : Nat} {a b : World} (h : Chg D a b) (hB : ∀ g, D g → B ≤ g) (hs : B ≤ a.heap.size) : Below B a b := ⟨h.1.os, h.1.tape, h.1.output, h.1.size, fun g hg => h.2 g (by omega) (fun hd => by have := hB g hd; omega)⟩
theorem Chg.own {D : Nat → Prop} {a b : World} (h : Chg D a b) {α : Type} {f : α → List Value} {k : Nat} {T : TypeId} {B : Nat} {v : Value} {l : List α} (ho : OwnF f k T a B v l) (hq : ∀ g, v.ownBlock = some g → ¬ D g) : OwnF f k T b B v l := by
  refine ⟨ho.1, ?_⟩
  rcases ho.2 with h0 | ⟨g, cap, cur, e, h1, hh, rest⟩
  · exact .inl h0
  · exact .inr ⟨g, cap, cur, e, h1, h.block hh (hq g (by rw [e]; rfl)), rest⟩
theorem keeps_chg {w w' : World} {v : Value} (h : Keeps w w' v) (hb : Below 0 w w') {D : Nat → Prop} (hD : ∀ g, v.ownBlock = some g → D g) : Chg D w w' := ⟨hb, fun g hg hd => h g hg (fun e => hd (hD g e))⟩

/-- Two stacks in the box s; their blocks lie in D. -/
structure StkAt (W : World) (s : Nat) (D : Nat → Prop) (U R : List (Int × Int)) (vu vr : Value) : Prop where
  box : W.heap[s]? = some (.cells #[vu, vr] 58)
  inD : D s
  undo : OwnF idV 2 23 W 0 vu U
  redo : OwnF idV 2 23 W 0 vr R
  du : ∀ g, vu.ownBlock = some g → D g ∧ g ≠ s ∧ vr.ownBlock ≠ some g
  dr : ∀ g, vr.ownBlock = some g → D g ∧ g ≠ s
theorem StkAt.lt {W : World} {s : Nat} {D : Nat → Prop} {U R : List (Int × Int)} {vu vr : Value} (h : StkAt W s D U R vu vr) : s < W.heap.size := (Array.getElem?_eq_some_iff.1 h.box).1
theorem StkAt.mono {W : World} {s : Nat} {D E : Nat → Prop} {U R : List (Int × Int)} {vu vr : Value} (h : StkAt W s D U R vu vr) (hD : ∀ g, g < W.heap.size → D g → E g) : StkAt W s E U R vu vr :=
  ⟨h.box, hD _ h.lt h.inD, h.undo, h.redo, fun g hg => ⟨hD g (h.undo.lt hg) (h.du g hg).1, (h.du g hg).2⟩, fun g hg => ⟨hD g (h.redo.lt hg) (h.dr g hg).1, (h.dr g hg).2⟩⟩
/-- What others change leaves them. -/
theorem StkAt.chg {W W' : World} {s : Nat} {D E : Nat → Prop} {U R : List (Int × Int)} {vu vr : Value} (h : StkAt W s D U R vu vr) (hC : Chg E W W') (hE : ∀ g, D g → ¬ E g) : StkAt W' s D U R vu vr :=
  ⟨hC.block h.box (hE _ h.inD), h.inD, hC.own h.undo (fun g hg => hE g (h.du g hg).1), hC.own h.redo (fun g hg => hE g (h.dr g hg).1), h.du, h.dr⟩

def didP (U R : List (Int × Int)) (x : Int × Int) : Int × List (Int × Int) × List (Int × Int) := if namedP x = true then if x ∈ U ∨ x ∈ R then (61, U, R) else (0, U ++ [x], []) else (41, U, R)

theorem box2 {W : World} {b : Nat} {T : TypeId} {v0 v1 : Value} (h : W.heap[b]? = some (.cells #[v0, v1] T)) : W.cell? ⟨b, 0, none⟩ = some v0 ∧ W.cell? ⟨b, 1, none⟩ = some v1 := by
  simp only [Lib.cell_of_heap h]
  exact ⟨rfl, rfl⟩

set_option maxHeartbeats 4000000 in
theorem did_any {w : World} {s : Nat} {D : Nat → Prop} {U R : List (Int × Int)} {vu vr : Value} (h : StkAt w s D U R vu vr) (hU : U.length ≤ 1048576) (x : Int × Int) :
    Calls Tryd.prog 7 #[.pointer (some ⟨s, 0, none⟩), idA x] w fun e w' => e = .returned (.int .i64 (didP U R x).1) ∧ (∃ vu' vr', StkAt w' s (fun g => D g ∨ w.heap.size ≤ g) (didP U R x).2.1 (didP U R x).2.2 vu' vr') ∧ Chg D w w' := by
  obtain ⟨x1, x2⟩ := x
  have hlt := h.lt
  have HN := named_any (x1, x2) (w.alloc (.cells #[.int .i64 x1, .int .i64 x2] 23))
  cases hn : namedP (x1, x2) with
  | false =>
    have hp : didP U R (x1, x2) = (41, U, R) := by unfold didP; rw [hn]; rfl
    rw [hp]
    rw [hn] at HN
    simp only [idA] at HN ⊢
    go_enter Tryd.func7, Tryd.ntmps7
    go_wp2_with fail
    refine HN.mono ?_
    rintro e w1 ⟨rfl, hb1⟩
    have hB : Below w.heap.size w w1 := ((Below.refl _ _).alloc (Nat.le_refl _) _).trans (hb1.mono (by simp))
    clear HN hb1
    go_wp2_with fail
    go_ret
    exact ⟨rfl, ⟨vu, vr, (h.chg (E := fun _ => False) (Chg.of_below hB) (fun _ _ h => h)).mono (fun g _ hd => .inl hd)⟩, Chg.of_below hB⟩
  | true =>
    obtain ⟨ua, uc, rfl⟩ := h.undo.shape
    obtain ⟨ra, rc, rfl⟩ := h.redo.shape
    rw [hn] at HN
    simp only [idA] at HN ⊢
    go_enter Tryd.func7, Tryd.ntmps7
    go_wp2_with fail
    refine HN.mono ?_
    rintro e w1 ⟨rfl, hb1⟩
    have hB : Below w.heap.size w w1 := ((Below.refl _ _).alloc (Nat.le_refl _) _).trans (hb1.mono (by simp))
    have hq : w1.heap[w.heap.size]? = some (.cells #[.int .i64 x1, .int .i64 x2] 23) := (hb1.block _ (by simp)).trans (heap_alloc_new _ _)
    clear HN hb1
    have h1 := h.chg (E := fun _ => False) (Chg.of_below hB) (fun _ _ h => h)
    obtain ⟨q0, q1⟩ := box2 hq
    obtain ⟨s0, s1⟩ := box2 h1.box
    have hql := (Array.getElem?_eq_some_iff.1 hq).1
    have hsl := h1.lt
    obtain ⟨bu, hbu⟩ : ∃ b, decide ((x1, x2) ∈ U) = b := ⟨_, rfl⟩
    obtain ⟨br, hbr⟩ : ∃ b, decide ((x1, x2) ∈ R) = b := ⟨_, rfl⟩
    have HU : Hid (∀ W, Below w1.heap.size w1 W → Calls Tryd.prog 19 #[.slice ua U.length uc, .agg #[.int .i64 x1, .int .i64 x2]] W fun e w' => e = .returned (.bool bu) ∧ Below W.heap.size W w') := fun W hb => hbu ▸ contains_any ((h1.undo.rw_ layI).below hb) (x1, x2)
    have HR : Hid (∀ W, Below w1.heap.size w1 W → Calls Tryd.prog 19 #[.slice ra R.length rc, .agg #[.int .i64 x1, .int .i64 x2]] W fun e w' => e = .returned (.bool br) ∧ Below W.heap.size W w') := fun W hb => hbr ▸ contains_any ((h1.redo.rw_ layI).below hb) (x1, x2)
    have HB : Hid (decide ((x1, x2) ∈ U) = bu ∧ decide ((x1, x2) ∈ R) = br) := ⟨hbu, hbr⟩
    clear hbu hbr
    go_wp2_with fail
    go_cut [21] (fun v wx => v = .bool (bu || br) ∧ Below w1.heap.size w1 wx)
    case first =>
      have hcur : Below w1.heap.size w1 w1 := Below.refl _ _
      cases bu with
      | true =>
        refine wp_region_held_drew (S := (fun W => ∀ p : Addr, p.block < w1.heap.size → W.cell? p = w1.cell? p)) (by kernel_rfl) ?hS1 (fun hHeld => ?rest1)
        case hS1 => (intro p hp; refine Below.cell (B := w1.heap.size) ?_ hp; (repeat (first | with_reducible exact hcur | (with_reducible refine Below.drew ?_))))
        refine takeD (i := 0) (d := some 8) (v := ?vT2) rfl rfl (by kernel_rfl) (by kernel_rfl) (by kernel_rfl) (fun _ _ _ h => h) (Or.inl ⟨by rfl, ?hyT2⟩) (by assumption) ?rstT2
        case hyT2 => (intro w hSw; (try dsimp only at hSw); go_simp; (try with_reducible rfl))
        try simp only [Act.put, List.setIfInBounds_toArray, List.set_cons_zero, List.set_cons_succ]
        refine takeD (i := 1) (d := some 9) (v := ?vT3) rfl rfl (by kernel_rfl) (by kernel_rfl) (by kernel_rfl) (fun _ _ _ h => h) (Or.inl ⟨by rfl, ?hyT3⟩) (by assumption) ?rstT3
        case hyT3 => (intro w hSw; (try dsimp only at hSw); go_simp; (try with_reducible rfl))
        try simp only [Act.put, List.setIfInBounds_toArray, List.set_cons_zero, List.set_cons_succ]
        refine takeD (i := 2) (d := some 10) (v := ?vT4) rfl rfl (by kernel_rfl) (by kernel_rfl) (by kernel_rfl) (fun _ _ _ h => h) (Or.inl ⟨by rfl, ?hyT4⟩) (by assumption) ?rstT4
        case hyT4 => (intro w hSw; (try dsimp only at hSw); go_simp; (try with_reducible rfl))
        try simp only [Act.put, List.setIfInBounds_toArray, List.set_cons_zero, List.set_cons_succ]
        refine takeD (i := 3) (d := some 11) (v := ?vT5) rfl rfl (by kernel_rfl) (by kernel_rfl) (by kernel_rfl) (fun _ _ _ h => h) (Or.inl ⟨by rfl, ?hyT5⟩) (by assumption) ?rstT5
        case hyT5 => (intro w hSw; (try dsimp only at hSw); go_simp; (try with_reducible rfl))
        try simp only [Act.put, List.setIfInBounds_toArray, List.set_cons_zero, List.set_cons_succ]
        refine takeD (i := 4) (d := some 12) (v := ?vT6) rfl rfl (by kernel_rfl) (by kernel_rfl) (by kernel_rfl) (fun _ _ _ h => h) (Or.inl ⟨by rfl, ?hyT6⟩) (by assumption) ?rstT6
        case hyT6 => (intro w hSw; (try dsimp only at hSw); go_simp; (try with_reducible rfl))
        try simp only [Act.put, List.setIfInBounds_toArray, List.set_cons_zero, List.set_cons_succ]
        refine wpAnyH_ready (rs := [5]) (by kernel_rfl) (by simp) ?_
        refine AllReadyH.cons rfl (fun K hK => ?_) AllReadyH.nil
        go_simp
        refine (HU.out _ ?_).mono ?_
        · first | exact hcur | exact hcur.drew
        rintro e2 w2 ⟨rfl, hb2⟩
        have hcur2 : Below w1.heap.size w1 w2 := by first | exact hcur.trans (hb2.mono hcur.size) | exact hcur.drew.trans (hb2.mono hcur.drew.size)
        clear hcur hb2
        have hcur := hcur2
        clear hcur2
        clear hHeld
        refine hK.out _ _ ?hS7 (fun hHeld => ?rest7)
        case hS7 => (intro p hp; refine Below.cell (B := w1.heap.size) ?_ hp; (repeat (first | with_reducible exact hcur | (with_reducible refine Below.drew ?_))))
        clear hK K
        try simp only [Act.put, List.setIfInBounds_toArray, List.set_cons_zero, List.set_cons_succ]
        refine takeD (i := 6) (d := some 14) (v := ?vT8) rfl rfl (by kernel_rfl) (by kernel_rfl) (by kernel_rfl) (fun _ _ _ h => h) (Or.inl ⟨by rfl, ?hyT8⟩) (by assumption) ?rstT8
        case hyT8 => (intro w hSw; (try dsimp only at hSw); go_simp; (try with_reducible rfl))
        try simp only [Act.put, List.setIfInBounds_toArray, List.set_cons_zero, List.set_cons_succ]
        refine takeD (i := 7) (d := some 15) (v := undef) rfl rfl (by kernel_rfl) (by kernel_rfl) (by kernel_rfl) (fun _ _ _ h => h) (Or.inr ⟨by rfl, rfl⟩) (by assumption) ?_
        try simp only [Act.put, List.setIfInBounds_toArray, List.set_cons_zero, List.set_cons_succ]
        refine takeD (i := 8) (d := some 16) (v := undef) rfl rfl (by kernel_rfl) (by kernel_rfl) (by kernel_rfl) (fun _ _ _ h => h) (Or.inr ⟨by rfl, rfl⟩) (by assumption) ?_
        try simp only [Act.put, List.setIfInBounds_toArray, List.set_cons_zero, List.set_cons_succ]
        refine takeD (i := 9) (d := some 17) (v := undef) rfl rfl (by kernel_rfl) (by kernel_rfl) (by kernel_rfl) (fun _ _ _ h => h) (Or.inr ⟨by rfl, rfl⟩) (by assumption) ?_
        try simp only [Act.put, List.setIfInBounds_toArray, List.set_cons_zero, List.set_cons_succ]
        refine takeD (i := 10) (d := some 18) (v := undef) rfl rfl (by kernel_rfl) (by kernel_rfl) (by kernel_rfl) (fun _ _ _ h => h) (Or.inr ⟨by rfl, rfl⟩) (by assumption) ?_
        try simp only [Act.put, List.setIfInBounds_toArray, List.set_cons_zero, List.set_cons_succ]
        refine takeD (i := 11) (d := some 19) (v := undef) rfl rfl (by kernel_rfl) (by kernel_rfl) (by kernel_rfl) (fun _ _ _ h => h) (Or.inr ⟨by rfl, rfl⟩) (by assumption) ?_
        try simp only [Act.put, List.setIfInBounds_toArray, List.set_cons_zero, List.set_cons_succ]
        refine takeD (i := 12) (d := some 20) (v := undef) rfl rfl (by kernel_rfl) (by kernel_rfl) (by kernel_rfl) (fun _ _ _ h => h) (Or.inr ⟨by rfl, rfl⟩) (by assumption) ?_
        try simp only [Act.put, List.setIfInBounds_toArray, List.set_cons_zero, List.set_cons_succ]
        refine takeD (i := 13) (d := some 21) (v := ?vT9) rfl rfl (by kernel_rfl) (by kernel_rfl) (by kernel_rfl) (fun _ _ _ h => h) (Or.inl ⟨by rfl, ?hyT9⟩) (by assumption) ?rstT9
        case hyT9 => (intro w hSw; (try dsimp only at hSw); go_simp; (try with_reducible rfl))
        try simp only [Act.put, List.setIfInBounds_toArray, List.set_cons_zero, List.set_cons_succ]
        refine wpAnyH_done (by kernel_rfl) ?_ _
        go_wp2_with fail
        go_meet
        case rel => exact ⟨by simp, by first | exact hcur | exact hcur.drew⟩
      | false =>
        refine wp_region_held_drew (S := (fun W => ∀ p : Addr, p.block < w1.heap.size → W.cell? p = w1.cell? p)) (by kernel_rfl) ?hS10 (fun hHeld => ?rest10)
        case hS10 => (intro p hp; refine Below.cell (B := w1.heap.size) ?_ hp; (repeat (first | with_reducible exact hcur | (with_reducible refine Below.drew ?_))))
        refine takeD (i := 0) (d := some 8) (v := ?vT11) rfl rfl (by kernel_rfl) (by kernel_rfl) (by kernel_rfl) (fun _ _ _ h => h) (Or.inl ⟨by rfl, ?hyT11⟩) (by assumption) ?rstT11
        case hyT11 => (intro w hSw; (try dsimp only at hSw); go_simp; (try with_reducible rfl))
        try simp only [Act.put, List.setIfInBounds_toArray, List.set_cons_zero, List.set_cons_succ]
        refine takeD (i := 1) (d := some 9) (v := ?vT12) rfl rfl (by kernel_rfl) (by kernel_rfl) (by kernel_rfl) (fun _ _ _ h => h) (Or.inl ⟨by rfl, ?hyT12⟩) (by assumption) ?rstT12
        case hyT12 => (intro w hSw; (try dsimp only at hSw); go_simp; (try with_reducible rfl))
        try simp only [Act.put, List.setIfInBounds_toArray, List.set_cons_zero, List.set_cons_succ]
        refine takeD (i := 2) (d := some 10) (v := ?vT13) rfl rfl (by kernel_rfl) (by kernel_rfl) (by kernel_rfl) (fun _ _ _ h => h) (Or.inl ⟨by rfl, ?hyT13⟩) (by assumption) ?rstT13
        case hyT13 => (intro w hSw; (try dsimp only at hSw); go_simp; (try with_reducible rfl))
        try simp only [Act.put, List.setIfInBounds_toArray, List.set_cons_zero, List.set_cons_succ]
        refine takeD (i := 3) (d := some 11) (v := ?vT14) rfl rfl (by kernel_rfl) (by kernel_rfl) (by kernel_rfl) (fun _ _ _ h => h) (Or.inl ⟨by rfl, ?hyT14⟩) (by assumption) ?rstT14
        case hyT14 => (intro w hSw; (try dsimp only at hSw); go_simp; (try with_reducible rfl))
        try simp only [Act.put, List.setIfInBounds_toArray, List.set_cons_zero, List.set_cons_succ]
        refine takeD (i := 4) (d := some 12) (v := ?vT15) rfl rfl (by kernel_rfl) (by kernel_rfl) (by kernel_rfl) (fun _ _ _ h => h) (Or.inl ⟨by rfl, ?hyT15⟩) (by assumption) ?rstT15
        case hyT15 => (intro w hSw; (try dsimp only at hSw); go_simp; (try with_reducible rfl))
        try simp only [Act.put, List.setIfInBounds_toArray, List.set_cons_zero, List.set_cons_succ]
        refine wpAnyH_ready (rs := [5]) (by kernel_rfl) (by simp) ?_
        refine AllReadyH.cons rfl (fun K hK => ?_) AllReadyH.nil
        go_simp
        refine (HU.out _ ?_).mono ?_
        · first | exact hcur | exact hcur.drew
        rintro e2 w2 ⟨rfl, hb2⟩
        have hcur2 : Below w1.heap.size w1 w2 := by first | exact hcur.trans (hb2.mono hcur.size) | exact hcur.drew.trans (hb2.mono hcur.drew.size)
        clear hcur hb2
        have hcur := hcur2
        clear hcur2
        clear hHeld
        refine hK.out _ _ ?hS16 (fun hHeld => ?rest16)
        case hS16 => (intro p hp; refine Below.cell (B := w1.heap.size) ?_ hp; (repeat (first | with_reducible exact hcur | (with_reducible refine Below.drew ?_))))
        clear hK K
        try simp only [Act.put, List.setIfInBounds_toArray, List.set_cons_zero, List.set_cons_succ]
        refine takeD (i := 6) (d := some 14) (v := ?vT17) rfl rfl (by kernel_rfl) (by kernel_rfl) (by kernel_rfl) (fun _ _ _ h => h) (Or.inl ⟨by rfl, ?hyT17⟩) (by assumption) ?rstT17
        case hyT17 => (intro w hSw; (try dsimp only at hSw); go_simp; (try with_reducible rfl))
        try simp only [Act.put, List.setIfInBounds_toArray, List.set_cons_zero, List.set_cons_succ]
        refine takeD (i := 7) (d := some 15) (v := ?vT18) rfl rfl (by kernel_rfl) (by kernel_rfl) (by kernel_rfl) (fun _ _ _ h => h) (Or.inl ⟨by rfl, ?hyT18⟩) (by assumption) ?rstT18
        case hyT18 => (intro w hSw; (try dsimp only at hSw); go_simp; (try with_reducible rfl))
        try simp only [Act.put, List.setIfInBounds_toArray, List.set_cons_zero, List.set_cons_succ]
        refine takeD (i := 8) (d := some 16) (v := ?vT19) rfl rfl (by kernel_rfl) (by kernel_rfl) (by kernel_rfl) (fun _ _ _ h => h) (Or.inl ⟨by rfl, ?hyT19⟩) (by assumption) ?rstT19
        case hyT19 => (intro w hSw; (try dsimp only at hSw); go_simp; (try with_reducible rfl))
        try simp only [Act.put, List.setIfInBounds_toArray, List.set_cons_zero, List.set_cons_succ]
        refine takeD (i := 9) (d := some 17) (v := ?vT20) rfl rfl (by kernel_rfl) (by kernel_rfl) (by kernel_rfl) (fun _ _ _ h => h) (Or.inl ⟨by rfl, ?hyT20⟩) (by assumption) ?rstT20
        case hyT20 => (intro w hSw; (try dsimp only at hSw); go_simp; (try with_reducible rfl))
        try simp only [Act.put, List.setIfInBounds_toArray, List.set_cons_zero, List.set_cons_succ]
        refine takeD (i := 10) (d := some 18) (v := ?vT21) rfl rfl (by kernel_rfl) (by kernel_rfl) (by kernel_rfl) (fun _ _ _ h => h) (Or.inl ⟨by rfl, ?hyT21⟩) (by assumption) ?rstT21
        case hyT21 => (intro w hSw; (try dsimp only at hSw); go_simp; (try with_reducible rfl))
        try simp only [Act.put, List.setIfInBounds_toArray, List.set_cons_zero, List.set_cons_succ]
        refine takeD (i := 11) (d := some 19) (v := ?vT22) rfl rfl (by kernel_rfl) (by kernel_rfl) (by kernel_rfl) (fun _ _ _ h => h) (Or.inl ⟨by rfl, ?hyT22⟩) (by assumption) ?rstT22
        case hyT22 => (intro w hSw; (try dsimp only at hSw); go_simp; (try with_reducible rfl))
        try simp only [Act.put, List.setIfInBounds_toArray, List.set_cons_zero, List.set_cons_succ]
        refine wpAnyH_ready (rs := [12]) (by kernel_rfl) (by simp) ?_
        refine AllReadyH.cons rfl (fun K hK => ?_) AllReadyH.nil
        go_simp
        refine (HR.out _ ?_).mono ?_
        · first | exact hcur | exact hcur.drew
        rintro e2 w2 ⟨rfl, hb2⟩
        have hcur2 : Below w1.heap.size w1 w2 := by first | exact hcur.trans (hb2.mono hcur.size) | exact hcur.drew.trans (hb2.mono hcur.drew.size)
        clear hcur hb2
        have hcur := hcur2
        clear hcur2
        clear hHeld
        refine hK.out _ _ ?hS23 (fun hHeld => ?rest23)
        case hS23 => (intro p hp; refine Below.cell (B := w1.heap.size) ?_ hp; (repeat (first | with_reducible exact hcur | (with_reducible refine Below.drew ?_))))
        clear hK K
        try simp only [Act.put, List.setIfInBounds_toArray, List.set_cons_zero, List.set_cons_succ]
        refine takeD (i := 13) (d := some 21) (v := ?vT24) rfl rfl (by kernel_rfl) (by kernel_rfl) (by kernel_rfl) (fun _ _ _ h => h) (Or.inl ⟨by rfl, ?hyT24⟩) (by assumption) ?rstT24
        case hyT24 => (intro w hSw; (try dsimp only at hSw); go_simp; (try with_reducible rfl))
        try simp only [Act.put, List.setIfInBounds_toArray, List.set_cons_zero, List.set_cons_succ]
        refine wpAnyH_done (by kernel_rfl) ?_ _
        go_wp2_with fail
        go_meet
        case rel => exact ⟨by simp, by first | exact hcur | exact hcur.drew⟩
    case rest =>
      obtain ⟨W2, rfl⟩ : ∃ x, x = wc := ⟨_, rfl⟩
      obtain ⟨rfl, hb2⟩ := hcut
      obtain ⟨hbu, hbr⟩ := HB.out
      have hs1 := hB.size
      clear HB HU HR q0 q1 s0 s1
      cases hor : (bu || br) with
      | true =>
        have hp : didP U R (x1, x2) = (61, U, R) := by
          unfold didP
          rw [hn, if_pos rfl, if_pos]
          rcases Bool.or_eq_true_iff.1 hor with e | e
          · rw [e] at hbu; exact .inl (of_decide_eq_true hbu)
          · rw [e] at hbr; exact .inr (of_decide_eq_true hbr)
        go_wp2_with fail
        go_ret
        rw [hp]
        have hBw : Below w.heap.size w W2 := hB.trans (hb2.mono hs1)
        exact ⟨rfl, ⟨_, _, (h.chg (E := fun _ => False) (Chg.of_below hBw) (fun _ _ h => h)).mono (fun g _ hd => .inl hd)⟩, Chg.of_below hBw⟩
      | false =>
        have hp : didP U R (x1, x2) = (0, U ++ [(x1, x2)], []) := by
          obtain ⟨e1, e2⟩ := Bool.or_eq_false_iff.1 hor
          rw [e1] at hbu
          rw [e2] at hbr
          have n1 := of_decide_eq_false hbu
          have n2 := of_decide_eq_false hbr
          unfold didP
          rw [hn, if_pos rfl, if_neg (by simp [n1, n2])]
        have hb2d : Below w1.heap.size w1 W2.drew := hb2.drew
        have h2 := h1.chg (E := fun _ => False) (Chg.of_below hb2d) (fun _ _ h => h)
        obtain ⟨g, cap', w3, hr, ho, hbl, hk, hsz, hat⟩ := appendF_one kindI layI h2.undo (Nat.zero_le _) (x1, x2) #[.int .i64 x1, .int .i64 x2] rfl 23 (by omega) (by omega) 36
        have hqd := (hb2d.block _ hql).trans hq
        obtain ⟨q0, q1⟩ := box2 hqd
        obtain ⟨s0, s1⟩ := box2 h2.box
        have hs2 := h2.lt
        have hns : ∀ g, (Value.slice ua U.length uc).ownBlock = some g → g ≠ s := fun g hg => (h2.du g hg).2.1
        have hbox3 : w3.heap[s]? = some (.cells #[.slice ua U.length uc, .slice ra R.length rc] 58) := (hk s hs2 (fun e => hns s e rfl)).trans h2.box
        obtain ⟨t0, t1⟩ := box2 hbox3
        have f0 := Lib.frozen_of_heap hbox3 0
        have f1 := Lib.frozen_of_heap hbox3 1
        have hst0 := (heap_setCell_same _ s 0 _ _ (.slice (some ⟨g, 0, none⟩) (U.length + 1) cap') hbox3).trans (by simp; rfl)
        have hst := (heap_setCell_same _ s 1 _ _ (.slice none 0 0) hst0).trans (by simp; rfl)
        have hgs : g ≠ s := by
          rcases hat with e | e
          · exact hns g e
          · omega
        have hCw : Chg D w ((w3.setCell ⟨s, 0, none⟩ (.slice (some ⟨g, 0, none⟩) (U.length + 1) cap')).setCell ⟨s, 1, none⟩ (.slice none 0 0)) :=
          (Chg.of_below (hB.trans (hb2d.mono hs1))).trans ((keeps_chg hk hbl (fun g hg => (h2.du g hg).1)).trans ((Chg.set 0 _ _ h.inD).trans (Chg.set 1 _ _ h.inD)))
        have hfin : StkAt ((w3.setCell ⟨s, 0, none⟩ (.slice (some ⟨g, 0, none⟩) (U.length + 1) cap')).setCell ⟨s, 1, none⟩ (.slice none 0 0)) s (fun g => D g ∨ w.heap.size ≤ g) (U ++ [(x1, x2)]) [] (.slice (some ⟨g, 0, none⟩) (U.length + 1) cap') (.slice none 0 0) := by
          refine ⟨hst, .inl h.inD, Chg.own (D := fun g => g = s) ((Chg.set (D := fun g => g = s) (q := s) 0 _ _ rfl).trans (Chg.set (D := fun g => g = s) (q := s) 1 _ _ rfl)) ho (fun k hk e => ?_), ownF_nil _ _, fun k hk => ?_, fun k hk => by simp [Value.ownBlock] at hk⟩
          · simp [Value.ownBlock] at hk; omega
          · obtain rfl : g = k := by simpa [Value.ownBlock] using hk
            refine ⟨?_, hgs, by simp [Value.ownBlock]⟩
            rcases hat with e | e
            · exact .inl (h2.du g e).1
            · have := hb2d.size; right; omega
        have hlen : (U.length : Int) + 1 ≤ 9223372036854775807 := by omega
        have hs2' : s < W2.heap.size := hs2
        have hq2' : w.heap.size < W2.heap.size := Nat.lt_of_lt_of_le hql hb2.size
        have hr' : (Builtin.append_ #[36, 36] 36 #[.slice ua U.length uc, .slice (some ⟨W2.heap.size, 0, none⟩) 1 1]).run Tryd.prog (W2.alloc (.cells #[.int .i64 x1, .int .i64 x2] 23)).drew = .ok (.slice (some ⟨g, 0, none⟩) (U.length + 1) cap') w3 := hr
        have q0' : W2.cell? ⟨w.heap.size, 0, none⟩ = some (.int .i64 x1) := q0
        have q1' : W2.cell? ⟨w.heap.size, 1, none⟩ = some (.int .i64 x2) := q1
        have s0' : W2.cell? ⟨s, 0, none⟩ = some (.slice ua U.length uc) := s0
        clear hst hst0 hbox3 hk ho hat hbl hns hqd hr q0 q1 s0 s1 hs2
        go_wp2_with fail
        refine wp_region_any (by kernel_rfl) ?_
        show wpAny _ _ _ _ _ _ _ W2.drew
        refine takeA (i := 0) (d := some 22) (v := ?vT25) rfl rfl (by kernel_rfl) (by kernel_rfl) (by kernel_rfl) (fun _ _ _ h => h) (Or.inl ⟨by rfl, ?hyT25⟩) ?rstT25
        case hyT25 => (intro w; go_simp; (try with_reducible rfl))
        try simp only [Act.put, List.setIfInBounds_toArray, List.set_cons_zero, List.set_cons_succ]
        refine takeA (i := 1) (d := some 23) (v := ?vT26) rfl rfl (by kernel_rfl) (by kernel_rfl) (by kernel_rfl) (fun _ _ _ h => h) (Or.inl ⟨by rfl, ?hyT26⟩) ?rstT26
        case hyT26 => (intro w; go_simp; (try with_reducible rfl))
        try simp only [Act.put, List.setIfInBounds_toArray, List.set_cons_zero, List.set_cons_succ]
        refine takeA (i := 2) (d := some 24) (v := ?vT27) rfl rfl (by kernel_rfl) (by kernel_rfl) (by kernel_rfl) (fun _ _ _ h => h) (Or.inl ⟨by rfl, ?hyT27⟩) ?rstT27
        case hyT27 => (intro w; go_simp; (try with_reducible rfl))
        try simp only [Act.put, List.setIfInBounds_toArray, List.set_cons_zero, List.set_cons_succ]
        refine takeA (i := 3) (d := some 25) (v := ?vT28) rfl rfl (by kernel_rfl) (by kernel_rfl) (by kernel_rfl) (fun _ _ _ h => h) (Or.inl ⟨by rfl, ?hyT28⟩) ?rstT28
        case hyT28 => (intro w; go_simp; (try with_reducible rfl))
        try simp only [Act.put, List.setIfInBounds_toArray, List.set_cons_zero, List.set_cons_succ]
        refine wpAny_ready (rs := [4, 5]) (by kernel_rfl) (by simp) (consS rfl (fun K hK => ?bA36) (consS rfl (fun K hK => ?bB36) AllReady.nil))
        case bA36 =>
          go_simp
          refine hK.out _ _ ?_
          clear hK K
          try simp only [Act.put, List.setIfInBounds_toArray, List.set_cons_zero, List.set_cons_succ]
          refine wpAny_ready (rs := [5]) (by kernel_rfl) (by simp) (consS rfl (fun K hK => ?_) AllReady.nil)
          go_simp
          refine hK.out _ _ ?_
          clear hK K
          try simp only [Act.put, List.setIfInBounds_toArray, List.set_cons_zero, List.set_cons_succ]
          refine wpAny_ready (rs := [6]) (by kernel_rfl) (by simp) (consS rfl (fun K hK => ?_) AllReady.nil)
          go_simp
          refine hK.out _ _ ?_
          clear hK K
          try simp only [Act.put, List.setIfInBounds_toArray, List.set_cons_zero, List.set_cons_succ]
          refine wpAny_ready (rs := [7]) (by kernel_rfl) (by simp) (consS rfl (fun K hK => ?_) AllReady.nil)
          rw [if_pos (by rfl)]
          refine wp_append_hr (.tmp 26) (.tmp 28) 36 (some 29) rfl rfl _ _ rfl rfl hr' ?_
          refine hK.out _ _ ?_
          clear hK K
          try simp only [Act.put, List.setIfInBounds_toArray, List.set_cons_zero, List.set_cons_succ]
          refine takeA (i := 8) (d := some 30) (v := ?vT29) rfl rfl (by kernel_rfl) (by kernel_rfl) (by kernel_rfl) (fun _ _ _ h => h) (Or.inl ⟨by rfl, ?hyT29⟩) ?rstT29
          case hyT29 => (intro w; go_simp; (try with_reducible rfl))
          try simp only [Act.put, List.setIfInBounds_toArray, List.set_cons_zero, List.set_cons_succ]
          refine takeA (i := 9) (d := some 31) (v := ?vT30) rfl rfl (by kernel_rfl) (by kernel_rfl) (by kernel_rfl) (fun _ _ _ h => h) (Or.inl ⟨by rfl, ?hyT30⟩) ?rstT30
          case hyT30 => (intro w; go_simp; (try with_reducible rfl))
          try simp only [Act.put, List.setIfInBounds_toArray, List.set_cons_zero, List.set_cons_succ]
          refine wpAny_ready (rs := [10]) (by kernel_rfl) (by simp) (consS rfl (fun K hK => ?_) AllReady.nil)
          go_simp
          refine hK.out _ _ ?_
          clear hK K
          try simp only [Act.put, List.setIfInBounds_toArray, List.set_cons_zero, List.set_cons_succ]
          refine wpAny_done (by kernel_rfl) ?_ _
          go_wp2_with fail
          go_ret
          rw [hp]
          exact ⟨rfl, ⟨_, _, hfin⟩, hCw⟩
        case bB36 =>
          go_simp
          refine hK.out _ _ ?_
          clear hK K
          try simp only [Act.put, List.setIfInBounds_toArray, List.set_cons_zero, List.set_cons_succ]
          refine wpAny_ready (rs := [4, 6]) (by kernel_rfl) (by simp) (consS rfl (fun K hK => ?bA35) (consS rfl (fun K hK => ?bB35) AllReady.nil))
          case bA35 =>
            go_simp
            refine hK.out _ _ ?_
            clear hK K
            try simp only [Act.put, List.setIfInBounds_toArray, List.set_cons_zero, List.set_cons_succ]
            refine wpAny_ready (rs := [6]) (by kernel_rfl) (by simp) (consS rfl (fun K hK => ?_) AllReady.nil)
            go_simp
            refine hK.out _ _ ?_
            clear hK K
            try simp only [Act.put, List.setIfInBounds_toArray, List.set_cons_zero, List.set_cons_succ]
            refine wpAny_ready (rs := [7]) (by kernel_rfl) (by simp) (consS rfl (fun K hK => ?_) AllReady.nil)
            rw [if_pos (by rfl)]
            refine wp_append_hr (.tmp 26) (.tmp 28) 36 (some 29) rfl rfl _ _ rfl rfl hr' ?_
            refine hK.out _ _ ?_
            clear hK K
            try simp only [Act.put, List.setIfInBounds_toArray, List.set_cons_zero, List.set_cons_succ]
            refine takeA (i := 8) (d := some 30) (v := ?vT31) rfl rfl (by kernel_rfl) (by kernel_rfl) (by kernel_rfl) (fun _ _ _ h => h) (Or.inl ⟨by rfl, ?hyT31⟩) ?rstT31
            case hyT31 => (intro w; go_simp; (try with_reducible rfl))
            try simp only [Act.put, List.setIfInBounds_toArray, List.set_cons_zero, List.set_cons_succ]
            refine takeA (i := 9) (d := some 31) (v := ?vT32) rfl rfl (by kernel_rfl) (by kernel_rfl) (by kernel_rfl) (fun _ _ _ h => h) (Or.inl ⟨by rfl, ?hyT32⟩) ?rstT32
            case hyT32 => (intro w; go_simp; (try with_reducible rfl))
            try simp only [Act.put, List.setIfInBounds_toArray, List.set_cons_zero, List.set_cons_succ]
            refine wpAny_ready (rs := [10]) (by kernel_rfl) (by simp) (consS rfl (fun K hK => ?_) AllReady.nil)
            go_simp
            refine hK.out _ _ ?_
            clear hK K
            try simp only [Act.put, List.setIfInBounds_toArray, List.set_cons_zero, List.set_cons_succ]
            refine wpAny_done (by kernel_rfl) ?_ _
            go_wp2_with fail
            go_ret
            rw [hp]
            exact ⟨rfl, ⟨_, _, hfin⟩, hCw⟩
          case bB35 =>
            go_simp
            refine hK.out _ _ ?_
            clear hK K
            try simp only [Act.put, List.setIfInBounds_toArray, List.set_cons_zero, List.set_cons_succ]
            refine wpAny_ready (rs := [4]) (by kernel_rfl) (by simp) (consS rfl (fun K hK => ?_) AllReady.nil)
            go_simp
            refine hK.out _ _ ?_
            clear hK K
            try simp only [Act.put, List.setIfInBounds_toArray, List.set_cons_zero, List.set_cons_succ]
            refine wpAny_ready (rs := [7]) (by kernel_rfl) (by simp) (consS rfl (fun K hK => ?_) AllReady.nil)
            rw [if_pos (by rfl)]
            refine wp_append_hr (.tmp 26) (.tmp 28) 36 (some 29) rfl rfl _ _ rfl rfl hr' ?_
            refine hK.out _ _ ?_
            clear hK K
            try simp only [Act.put, List.setIfInBounds_toArray, List.set_cons_zero, List.set_cons_succ]
            refine takeA (i := 8) (d := some 30) (v := ?vT33) rfl rfl (by kernel_rfl) (by kernel_rfl) (by kernel_rfl) (fun _ _ _ h => h) (Or.inl ⟨by rfl, ?hyT33⟩) ?rstT33
            case hyT33 => (intro w; go_simp; (try with_reducible rfl))
            try simp only [Act.put, List.setIfInBounds_toArray, List.set_cons_zero, List.set_cons_succ]
            refine takeA (i := 9) (d := some 31) (v := ?vT34) rfl rfl (by kernel_rfl) (by kernel_rfl) (by kernel_rfl) (fun _ _ _ h => h) (Or.inl ⟨by rfl, ?hyT34⟩) ?rstT34
            case hyT34 => (intro w; go_simp; (try with_reducible rfl))
            try simp only [Act.put, List.setIfInBounds_toArray, List.set_cons_zero, List.set_cons_succ]
            refine wpAny_ready (rs := [10]) (by kernel_rfl) (by simp) (consS rfl (fun K hK => ?_) AllReady.nil)
            go_simp
            refine hK.out _ _ ?_
            clear hK K
            try simp only [Act.put, List.setIfInBounds_toArray, List.set_cons_zero, List.set_cons_succ]
            refine wpAny_done (by kernel_rfl) ?_ _
            go_wp2_with fail
            go_ret
            rw [hp]
            exact ⟨rfl, ⟨_, _, hfin⟩, hCw⟩
end Go.Proofs.YtokkodkhkpgebaaDoor
