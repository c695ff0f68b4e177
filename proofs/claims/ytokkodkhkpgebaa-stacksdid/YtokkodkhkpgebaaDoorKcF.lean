import Derived.Test.YtokkodkhkpgebaaDoorKcE
/-! The sentences' user with one edit done: what it holds; Did, Undo, Lists over it. -/
namespace Go.Proofs.YtokkodkhkpgebaaDoor
open Go.RowKit Go.Lib
set_option maxRecDepth 100000

theorem Rw.chg {α : Type} {f : α → List Value} {k : Nat} {W W' : World} {D : Nat → Prop} {a : Option Addr} {n cap : Nat} {l : List α} (h : Rw f k W a n cap l) (hC : Chg D W W') (hd : ∀ ad, a = some ad → ¬ D ad.block) : Rw f k W' a n cap l :=
  ⟨h.len, h.room, fun hn => by
    obtain ⟨g, off, ha, hg, hc⟩ := h.cells hn
    exact ⟨g, off, ha, by have := hC.size; omega, fun j x hj i v hv => (chg_cell (p := ⟨g, off + j * k + i, none⟩) hC hg (hd ⟨g, off, none⟩ ha)).trans (hc j x hj i v hv)⟩⟩
/-- The one edit. -/
def E1 (pa : Option Addr) (pc : Nat) : HE := ⟨(1, 1), 1, true, pa, 1, pc, [(0, 1)]⟩
theorem onB_E1 (pa : Option Addr) (pc : Nat) (x : Int × Int) : onB [E1 pa pc] true x = decide (x = (1, 1)) := by
  unfold onB
  simp only [List.findIdx?_cons, List.findIdx?_nil]
  by_cases hx : x = (1, 1)
  · subst hx
    simp [E1]
  · have : ((E1 pa pc).id == x) = false := beq_eq_false_iff_ne.2 (fun e => hx (e.symm.trans rfl))
    simp [this, hx]
theorem plsChg {W W' : World} {D : Nat → Prop} {pa : Option Addr} {pc : Nat} (h : PlsOk W [E1 pa pc]) (hC : Chg D W W') (hd : ∀ ad, pa = some ad → ¬ D ad.block) : PlsOk W' [E1 pa pc] := fun e he => by
  obtain rfl := List.mem_singleton.1 he
  exact ⟨(h _ he).1.chg hC hd, (h _ he).2⟩
/-- The history's part: h, r, its two lists and the edit's places. -/
structure His1 (W : World) (h r oa oc na nc : Nat) (pa : Option Addr) (pc : Nat) : Prop where
  his : HisR W h r (some ⟨oa, 0, none⟩) 1 oc (some ⟨na, 0, none⟩) 1 nc 1 [((1, 1), 0)] [E1 pa pc]
  pls : PlsOk W [E1 pa pc]
theorem His1.chg {W W' : World} {D : Nat → Prop} {h r oa oc na nc : Nat} {pa : Option Addr} {pc : Nat} (H : His1 W h r oa oc na nc pa pc) (hC : Chg D W W') (hh : ¬ D h) (hr : ¬ D r) (ho : ¬ D oa) (hn : ¬ D na) (hp : ∀ ad, pa = some ad → ¬ D ad.block) : His1 W' h r oa oc na nc pa pc :=
  ⟨H.his.chg hC hh hr (fun ad e => by cases e; exact ho) (fun ad e => by cases e; exact hn), plsChg H.pls hC hp⟩
def Lo (s P u h r oa na : Nat) (pa : Option Addr) : Prop := (u < P ∧ u ≠ s) ∧ (h < P ∧ h ≠ s) ∧ (r < P ∧ r ≠ s) ∧ (oa < P ∧ oa ≠ s) ∧ (na < P ∧ na ≠ s) ∧ ∀ ad, pa = some ad → ad.block < P ∧ ad.block ≠ s
/-- The user u: its history, its stacks U and R; the blocks of K are none of the stacks'. -/
structure Usr (W : World) (u s h r oa oc na nc : Nat) (pa : Option Addr) (pc P : Nat) (U R : List (Int × Int)) (K : Nat → Prop) : Prop where
  box : ∃ ve sq ot, W.heap[u]? = some (.cells #[.pointer (some ⟨h, 0, none⟩), .pointer (some ⟨s, 0, none⟩), ve, sq, ot] 32)
  his : His1 W h r oa oc na nc pa pc
  stk : ∃ D vu vr, StkAt W s D U R vu vr ∧ (∀ g, D g → (g = s ∨ P ≤ g) ∧ g < W.heap.size) ∧ (∀ g, K g → ¬ D g ∧ g < W.heap.size)
  lo : Lo s P u h r oa na pa
  le : P ≤ W.heap.size
section
variable {W W' : World} {u s h r oa oc na nc : Nat} {pa : Option Addr} {pc P : Nat} {U R U' R' : List (Int × Int)} {K : Nat → Prop}
theorem Usr.step (H : Usr W u s h r oa oc na nc pa pc P U R K) {D : Nat → Prop} (hD : ∀ g, D g → (g = s ∨ P ≤ g) ∧ g < W.heap.size) (hK : ∀ g, K g → ¬ D g ∧ g < W.heap.size) (hC : Chg D W W')
    (hS : ∃ vu vr, StkAt W' s (fun g => D g ∨ W.heap.size ≤ g) U' R' vu vr) : Usr W' u s h r oa oc na nc pa pc P U' R' K := by
  obtain ⟨⟨u1, u2⟩, ⟨h1, h2⟩, ⟨r1, r2⟩, ⟨o1, o2⟩, ⟨n1, n2⟩, hp⟩ := H.lo
  obtain ⟨ve, sq, ot, hb⟩ := H.box
  obtain ⟨vu, vr, hS⟩ := hS
  have hle := H.le
  have hsz := hC.size
  have nd : ∀ g, g < P → g ≠ s → ¬ D g := fun g a b c => by have := (hD g c).1; omega
  refine ⟨⟨ve, sq, ot, hC.block hb (nd u u1 u2)⟩, H.his.chg hC (nd h h1 h2) (nd r r1 r2) (nd oa o1 o2) (nd na n1 n2) (fun ad e => nd _ (hp ad e).1 (hp ad e).2), ⟨fun g => D g ∨ (W.heap.size ≤ g ∧ g < W'.heap.size), vu, vr, hS.mono (fun g hg hd => by rcases hd with hd | hd; exact .inl hd; exact .inr ⟨hd, hg⟩), fun g hd => ?_, fun g hk => ⟨fun hd => ?_, by have := (hK g hk).2; omega⟩⟩, H.lo, by omega⟩
  · rcases hd with hd | hd
    · have := hD g hd; omega
    · omega
  · rcases hd with hd | hd
    · exact (hK g hk).1 hd
    · have := (hK g hk).2; omega
theorem Usr.below (H : Usr W u s h r oa oc na nc pa pc P U R K) (hb : Below W.heap.size W W') : Usr W' u s h r oa oc na nc pa pc P U R K := by
  obtain ⟨D, vu, vr, hS, hD, hK⟩ := H.stk
  exact H.step hD hK (Chg.of_below hb) ⟨vu, vr, (hS.chg (E := fun _ => False) (Chg.of_below hb) (fun _ _ h => h)).mono (fun g _ hd => .inl hd)⟩
theorem Usr.monoK (H : Usr W u s h r oa oc na nc pa pc P U R K) {K' : Nat → Prop} (h' : ∀ g, K' g → K g) : Usr W u s h r oa oc na nc pa pc P U R K' := by
  obtain ⟨D, vu, vr, hS, hD, hK⟩ := H.stk
  exact ⟨H.box, H.his, ⟨D, vu, vr, hS, hD, fun g hg => hK g (h' g hg)⟩, H.lo, H.le⟩
/-- A new block is none of the stacks'. -/
theorem Usr.news (H : Usr W u s h r oa oc na nc pa pc P U R K) (hb : Below W.heap.size W W') (hs : W.heap.size < W'.heap.size) : Usr W' u s h r oa oc na nc pa pc P U R (fun g => K g ∨ g = W.heap.size) := by
  obtain ⟨D, vu, vr, hS, hD, hK⟩ := H.stk
  have H2 := H.below hb
  exact ⟨H2.box, H2.his, ⟨D, vu, vr, hS.chg (E := fun _ => False) (Chg.of_below hb) (fun _ _ h => h), fun g hd => by have := hD g hd; omega, fun g hg => by
    rcases hg with hg | hg
    · have := hK g hg
      exact ⟨this.1, by omega⟩
    · exact ⟨fun hd => by have := (hD g hd).2; omega, by omega⟩⟩, H.lo, H2.le⟩
/-- A store into a kept block. -/
theorem Usr.setK (H : Usr W u s h r oa oc na nc pa pc P U R K) {k : Nat} (hk : K k) (hP : P ≤ k) (hC : Chg (fun g => g = k) W W') : Usr W' u s h r oa oc na nc pa pc P U R K := by
  obtain ⟨⟨u1, u2⟩, ⟨h1, h2⟩, ⟨r1, r2⟩, ⟨o1, o2⟩, ⟨n1, n2⟩, hp⟩ := H.lo
  obtain ⟨ve, sq, ot, hb⟩ := H.box
  obtain ⟨D, vu, vr, hS, hD, hK⟩ := H.stk
  have hsz := hC.size
  have hle := H.le
  exact ⟨⟨ve, sq, ot, hC.block hb (by omega)⟩, H.his.chg hC (by omega) (by omega) (by omega) (by omega) (fun ad e => by have := hp ad e; omega), ⟨D, vu, vr, hS.chg hC (fun g hd e => (hK k hk).1 (e ▸ hd)), fun g hd => by have := hD g hd; omega, fun g hg => by have := hK g hg; exact ⟨this.1, by omega⟩⟩, H.lo, by omega⟩
/-- A call leaves this user; the kept blocks stand, and so does all but s and what lies from P on. -/
def UsrP (W : World) (u s h r oa oc na nc : Nat) (pa : Option Addr) (pc P : Nat) (U R : List (Int × Int)) (K : Nat → Prop) (W' : World) : Prop := Usr W' u s h r oa oc na nc pa pc P U R K ∧ (∀ g, K g → W'.heap[g]? = W.heap[g]?) ∧ Chg (fun g => g = s ∨ P ≤ g) W W'
theorem Usr.did (H : Usr W u s h r oa oc na nc pa pc P U R K) (hU : U.length ≤ 1048576) (x : Int × Int) :
    Calls Tryd.prog 7 #[.pointer (some ⟨s, 0, none⟩), idA x] W fun e W' => e = .returned (.int .i64 (didP U R x).1) ∧ UsrP W u s h r oa oc na nc pa pc P (didP U R x).2.1 (didP U R x).2.2 K W' := by
  obtain ⟨D, vu, vr, hS, hD, hK⟩ := H.stk
  exact (did_any hS hU x).mono fun e w' ⟨h1, h2, h3⟩ => ⟨h1, H.step hD hK h3 h2, fun g hg => h3.2 g (hK g hg).2 (hK g hg).1, h3.mono (fun g _ hg => (hD g hg).1)⟩
theorem Usr.undo (H : Usr W u s h r oa oc na nc pa pc P ((1, 1) :: U) [] K) (hU : U.length ≤ 1048570) (hn : (1, 1) ∉ U) :
    Calls Tryd.prog 8 #[.pointer (some ⟨s, 0, none⟩), .pointer (some ⟨h, 0, none⟩)] W fun e W' => e = .returned (.tuple #[idA (1, 1), .int .i64 0]) ∧ UsrP W u s h r oa oc na nc pa pc P U [(1, 1)] K W' := by
  obtain ⟨D, vu, vr, hS, hD, hK⟩ := H.stk
  refine (undo_any hS (fun g hg => (hD g hg).2) (by simp; omega) (by simp) H.his.his H.his.pls).mono fun e w' hp => ?_
  obtain ⟨x, at_, c, hpk, rfl, hS', hC⟩ := hp
  cases hpk with
  | some a x hx hy hno =>
    rw [onB_E1] at hy
    obtain rfl : x = (1, 1) := of_decide_eq_true hy
    have ha : a = 0 := by
      cases a with
      | zero => rfl
      | succ a => exact absurd (List.mem_of_getElem? (by simpa using hx)) hn
    subst ha
    refine ⟨rfl, H.step hD hK hC ?_, fun g hg => hC.2 g (hK g hg).2 (hK g hg).1, hC.mono (fun g _ hg => (hD g hg).1)⟩
    simpa using hS'
  | none hno =>
    have := hno 0 (1, 1) rfl
    rw [onB_E1] at this
    simp at this
theorem Usr.lists (H : Usr W u s h r oa oc na nc pa pc P U R K) (hU : U.length ≤ 1048576) (hR : R.length ≤ 1048576) :
    Calls Tryd.prog 9 #[.pointer (some ⟨s, 0, none⟩)] W fun e w' => ∃ a1 c1 a2 c2, e = .returned (.tuple #[.slice a1 U.length c1, .slice a2 R.length c2]) ∧ OwnF idV 2 23 w' W.heap.size (.slice a1 U.length c1) U ∧ OwnF idV 2 23 w' W.heap.size (.slice a2 R.length c2) R ∧ Below W.heap.size W w' := by
  obtain ⟨D, vu, vr, hS, hD, hK⟩ := H.stk
  exact lists_any hS hU hR
end
end Go.Proofs.YtokkodkhkpgebaaDoor
