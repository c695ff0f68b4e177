import Derived.Test.YtokkodkhkpgebaaDoorXfC
import Derived.Deep.RegionHeld3
/-! The insert of the sentences; op's ownError, Covers. -/
namespace Go.Proofs.YtokkodkhkpgebaaDoor
open Go.RowKit Go.Lib Sp
set_option maxRecDepth 100000

def xB : ByteArray := ⟨#[120]⟩
theorem xB_check : check xB = (1, 0, 0) := by decide +kernel
/-- The insert of the sentences. -/
def oX (c n : Int) : OpV := ⟨c, n, 1, 0, xB, [], 0, 0, false⟩
theorem oX_check {c n : Int} (h : (c = 0 ∧ n = 0) ∨ isIdP c n = true) {tot : Int} (h0 : 0 ≤ tot) (h1 : tot < 1048576) : opCheck (oX c n) tot = 0 := by
  have e : insP (oX c n) tot = 0 := by
    unfold insP oX
    simp only [xB_check]
    rw [if_neg (by simp), if_neg (by omega), if_neg (by omega), if_neg (by omega), if_neg (by omega)]
  unfold opCheck
  rw [if_neg (by omega), if_neg (by simp [oX]), if_neg (by rcases h with h | h <;> simp [oX, h]), if_neg (by simp [oX, extra, ext0, extT]), if_pos (show (oX c n).k = 1 from rfl)]
  exact e
theorem oX_own {c n : Int} (h : (c = 0 ∧ n = 0) ∨ isIdP c n = true) : ownP (oX c n) = 0 := by
  unfold ownP
  rw [if_pos ⟨rfl, by simp [oX], by simp [oX]⟩]
  exact oX_check h (by simp [oX]) (by simp [oX])
theorem oX_width (c n : Int) : widthP (oX c n) = 1 := by
  simp [widthP, oX, xB_check]
set_option maxHeartbeats 1000000 in
theorem ownError_any {o : OpV} {w : World} {a : Option Addr} {m cap : Nat} (h : Rng w a m cap o.l) (hs : o.s.size ≤ 9223372036854775807) (hw : Bar w) :
    Calls Tryd.prog 57 #[opVal o (.slice a m cap)] w fun e w' => e = .returned (.int .i64 (ownP o)) ∧ Below w.heap.size w w' := by
  have HC : Hid (∀ (total : Int) (w' : World), Below w.heap.size w w' → Calls Tryd.prog 43 #[opVal o (.slice a m cap), .int .i64 total] w' fun e w'' => e = .returned (.int .i64 (opCheck o total)) ∧ Below w'.heap.size w' w'') := fun total w' hb => opCheck_any (h.below hb) hs (hw.below hb)
  clear h hs hw
  obtain ⟨c, n, k, p, s, l, tc, tn, on⟩ := o
  have hw2 := (Below.refl w.heap.size w).alloc (Nat.le_refl _) (Obj.cells #[.int .i64 c, .int .i64 n, .int .i64 k, .int .i64 p, .string s, .slice a m cap, .int .i64 tc, .int .i64 tn, .bool on] 70)
  obtain ⟨r, hr⟩ : ∃ r, ownP ⟨c, n, k, p, s, l, tc, tn, on⟩ = r := ⟨_, rfl⟩
  rw [hr]
  simp only [ownP] at hr
  simp only [opVal] at *
  by_cases hk : k = 1
  · subst hk
    by_cases hp0 : 0 ≤ p
    · by_cases hp1 : p ≤ 1048576
      · rw [if_pos ⟨rfl, hp0, hp1⟩] at hr; subst hr
        go_enter Tryd.func57, Tryd.ntmps57
        go_wp2_with fail
        refine (HC.out _ _ hw2).mono ?_
        rintro e w1 ⟨rfl, hb1⟩
        have hB := hw2.trans (hb1.mono hw2.size)
        clear hw2 hb1 HC
        go_wp2_with fail
        go_ret
        exact ⟨rfl, hB⟩
      · rw [if_neg (fun e => hp1 e.2.2)] at hr; subst hr
        go_enter Tryd.func57, Tryd.ntmps57
        go_wp2_with fail
        refine (HC.out _ _ hw2).mono ?_
        rintro e w1 ⟨rfl, hb1⟩
        have hB := hw2.trans (hb1.mono hw2.size)
        clear hw2 hb1 HC
        go_wp2_with fail
        go_ret
        exact ⟨rfl, hB⟩
    · rw [if_neg (fun e => hp0 e.2.1)] at hr; subst hr
      go_enter Tryd.func57, Tryd.ntmps57
      go_wp2_with fail
      refine (HC.out _ _ hw2).mono ?_
      rintro e w1 ⟨rfl, hb1⟩
      have hB := hw2.trans (hb1.mono hw2.size)
      clear hw2 hb1 HC
      go_wp2_with fail
      go_ret
      exact ⟨rfl, hB⟩
  · rw [if_neg (fun e => hk e.1)] at hr; subst hr
    have t1 : (k == 1) = false := beq_eq_false_iff_ne.2 hk
    clear hk
    go_enter Tryd.func57, Tryd.ntmps57
    go_wp2_with fail
    refine (HC.out _ _ hw2).mono ?_
    rintro e w1 ⟨rfl, hb1⟩
    have hB := hw2.trans (hb1.mono hw2.size)
    clear hw2 hb1 HC
    go_wp2_with fail
    go_ret
    exact ⟨rfl, hB⟩

theorem own_lit {w : World} {B g : Nat} {x y : Int} (h : w.heap[g]? = some (.cells #[.int .i64 x, .int .i64 y] 132)) (hB : B ≤ g) : OwnF rangeV 2 132 w B (.slice (some ⟨g, 0, none⟩) 1 1) [(x, y)] :=
  ⟨rfl, .inr ⟨g, 1, _, rfl, hB, h, Nat.le_refl _, by decide, rfl, rfl⟩⟩

set_option maxHeartbeats 2000000 in
theorem covered_1 {c n p : Int} {s : ByteArray} {l : List (Int × Int)} {tc tn : Int} {on : Bool} {w : World} {a : Option Addr} {m cap : Nat} (hs : s.size ≤ 9223372036854775807) (hw : Bar w) (h0 : 0 ≤ p) (h1 : p ≤ 1048576) (h2 : (check s).1 ≤ 1048576) :
    Calls Tryd.prog 58 #[opVal ⟨c, n, 1, p, s, l, tc, tn, on⟩ (.slice a m cap)] w fun e w' => ∃ v, e = .returned v ∧ OwnF rangeV 2 132 w' (w.heap.size + 1) v [(p, p + (check s).1)] ∧ Below w.heap.size w w' := by
  have h3 := check_nonneg s
  have HW : Hid (∀ w' : World, Below w.heap.size w w' → Calls Tryd.prog 34 #[opVal ⟨c, n, 1, p, s, l, tc, tn, on⟩ (.slice a m cap)] w' fun e w'' => e = .returned (.int .i64 (check s).1) ∧ Below w'.heap.size w' w'') := fun w' hb => width_any (o := ⟨c, n, 1, p, s, l, tc, tn, on⟩) (v := .slice a m cap) (w := w') hs (hw.below hb)
  clear hs hw
  generalize (check s).1 = wd at *
  simp only [opVal] at *
  have hw2 := (Below.refl w.heap.size w).alloc (Nat.le_refl _) (Obj.cells #[.int .i64 c, .int .i64 n, .int .i64 1, .int .i64 p, .string s, .slice a m cap, .int .i64 tc, .int .i64 tn, .bool on] 70)
  have k0 : (w.alloc (Obj.cells #[.int .i64 c, .int .i64 n, .int .i64 1, .int .i64 p, .string s, .slice a m cap, .int .i64 tc, .int .i64 tn, .bool on] 70)).cell? ⟨w.heap.size, 0, none⟩ = some (.int .i64 c) := World.cell?_alloc_mark ..
  have k1 : (w.alloc (Obj.cells #[.int .i64 c, .int .i64 n, .int .i64 1, .int .i64 p, .string s, .slice a m cap, .int .i64 tc, .int .i64 tn, .bool on] 70)).cell? ⟨w.heap.size, 1, none⟩ = some (.int .i64 n) := World.cell?_alloc_mark ..
  have k2 : (w.alloc (Obj.cells #[.int .i64 c, .int .i64 n, .int .i64 1, .int .i64 p, .string s, .slice a m cap, .int .i64 tc, .int .i64 tn, .bool on] 70)).cell? ⟨w.heap.size, 2, none⟩ = some (.int .i64 1) := World.cell?_alloc_mark ..
  have k3 : (w.alloc (Obj.cells #[.int .i64 c, .int .i64 n, .int .i64 1, .int .i64 p, .string s, .slice a m cap, .int .i64 tc, .int .i64 tn, .bool on] 70)).cell? ⟨w.heap.size, 3, none⟩ = some (.int .i64 p) := World.cell?_alloc_mark ..
  have k4 : (w.alloc (Obj.cells #[.int .i64 c, .int .i64 n, .int .i64 1, .int .i64 p, .string s, .slice a m cap, .int .i64 tc, .int .i64 tn, .bool on] 70)).cell? ⟨w.heap.size, 4, none⟩ = some (.string s) := World.cell?_alloc_mark ..
  have k5 : (w.alloc (Obj.cells #[.int .i64 c, .int .i64 n, .int .i64 1, .int .i64 p, .string s, .slice a m cap, .int .i64 tc, .int .i64 tn, .bool on] 70)).cell? ⟨w.heap.size, 5, none⟩ = some (.slice a m cap) := World.cell?_alloc_mark ..
  have k6 : (w.alloc (Obj.cells #[.int .i64 c, .int .i64 n, .int .i64 1, .int .i64 p, .string s, .slice a m cap, .int .i64 tc, .int .i64 tn, .bool on] 70)).cell? ⟨w.heap.size, 6, none⟩ = some (.int .i64 tc) := World.cell?_alloc_mark ..
  have k7 : (w.alloc (Obj.cells #[.int .i64 c, .int .i64 n, .int .i64 1, .int .i64 p, .string s, .slice a m cap, .int .i64 tc, .int .i64 tn, .bool on] 70)).cell? ⟨w.heap.size, 7, none⟩ = some (.int .i64 tn) := World.cell?_alloc_mark ..
  have k8 : (w.alloc (Obj.cells #[.int .i64 c, .int .i64 n, .int .i64 1, .int .i64 p, .string s, .slice a m cap, .int .i64 tc, .int .i64 tn, .bool on] 70)).cell? ⟨w.heap.size, 8, none⟩ = some (.bool on) := World.cell?_alloc_mark ..
  have hk : w.heap.size < (w.alloc (Obj.cells #[.int .i64 c, .int .i64 n, .int .i64 1, .int .i64 p, .string s, .slice a m cap, .int .i64 tc, .int .i64 tn, .bool on] 70)).heap.size := by simp
  have hcur : Below (w.alloc (Obj.cells #[.int .i64 c, .int .i64 n, .int .i64 1, .int .i64 p, .string s, .slice a m cap, .int .i64 tc, .int .i64 tn, .bool on] 70)).heap.size (w.alloc (Obj.cells #[.int .i64 c, .int .i64 n, .int .i64 1, .int .i64 p, .string s, .slice a m cap, .int .i64 tc, .int .i64 tn, .bool on] 70)) (w.alloc (Obj.cells #[.int .i64 c, .int .i64 n, .int .i64 1, .int .i64 p, .string s, .slice a m cap, .int .i64 tc, .int .i64 tn, .bool on] 70)) := Below.refl _ _
  have g1 : IntKind.i64.wrap (p + wd) = p + wd := IntWalk.i64_in _ (by omega)
  go_enter Tryd.func58, Tryd.ntmps58
  go_wp2_with fail
  go_region_held3 (fun W => W.cell? ⟨w.heap.size, 0, none⟩ = some (.int .i64 c) ∧ W.cell? ⟨w.heap.size, 1, none⟩ = some (.int .i64 n) ∧ W.cell? ⟨w.heap.size, 2, none⟩ = some (.int .i64 1) ∧ W.cell? ⟨w.heap.size, 3, none⟩ = some (.int .i64 p) ∧ W.cell? ⟨w.heap.size, 4, none⟩ = some (.string s) ∧ W.cell? ⟨w.heap.size, 5, none⟩ = some (.slice a m cap) ∧ W.cell? ⟨w.heap.size, 6, none⟩ = some (.int .i64 tc) ∧ W.cell? ⟨w.heap.size, 7, none⟩ = some (.int .i64 tn) ∧ W.cell? ⟨w.heap.size, 8, none⟩ = some (.bool on)) (first | exact ⟨k0, k1, k2, k3, k4, k5, k6, k7, k8⟩ | exact ⟨e0, e1, e2, e3, e4, e5, e6, e7, e8⟩ | exact ⟨q0 _, q1 _, q2 _, q3 _, q4 _, q5 _, q6 _, q7 _, q8 _⟩)
      (first
        | (go_at_call 34; refine (HW.out _ ?_).mono ?_; (first | exact hw2.trans (hcur.mono hw2.size) | exact hw2.trans (hcur.drew.mono hw2.size)); rintro e w1 ⟨rfl, hb1⟩; have hcur : Below (w.alloc (Obj.cells #[.int .i64 c, .int .i64 n, .int .i64 1, .int .i64 p, .string s, .slice a m cap, .int .i64 tc, .int .i64 tn, .bool on] 70)).heap.size (w.alloc (Obj.cells #[.int .i64 c, .int .i64 n, .int .i64 1, .int .i64 p, .string s, .slice a m cap, .int .i64 tc, .int .i64 tn, .bool on] 70)) w1 := (by first | exact hcur.trans (hb1.mono hcur.size) | exact hcur.drew.trans (hb1.mono hcur.size)); have e0 := (hcur.cell (p := ⟨w.heap.size, 0, none⟩) hk).trans k0; have e1 := (hcur.cell (p := ⟨w.heap.size, 1, none⟩) hk).trans k1; have e2 := (hcur.cell (p := ⟨w.heap.size, 2, none⟩) hk).trans k2; have e3 := (hcur.cell (p := ⟨w.heap.size, 3, none⟩) hk).trans k3; have e4 := (hcur.cell (p := ⟨w.heap.size, 4, none⟩) hk).trans k4; have e5 := (hcur.cell (p := ⟨w.heap.size, 5, none⟩) hk).trans k5; have e6 := (hcur.cell (p := ⟨w.heap.size, 6, none⟩) hk).trans k6; have e7 := (hcur.cell (p := ⟨w.heap.size, 7, none⟩) hk).trans k7; have e8 := (hcur.cell (p := ⟨w.heap.size, 8, none⟩) hk).trans k8; have hk1 : w.heap.size < w1.heap.size := Nat.lt_of_lt_of_le hk hcur.size; have q0 := fun o => (World.cell?_alloc_lt w1 o ⟨w.heap.size, 0, none⟩ hk1).trans e0; have q1 := fun o => (World.cell?_alloc_lt w1 o ⟨w.heap.size, 1, none⟩ hk1).trans e1; have q2 := fun o => (World.cell?_alloc_lt w1 o ⟨w.heap.size, 2, none⟩ hk1).trans e2; have q3 := fun o => (World.cell?_alloc_lt w1 o ⟨w.heap.size, 3, none⟩ hk1).trans e3; have q4 := fun o => (World.cell?_alloc_lt w1 o ⟨w.heap.size, 4, none⟩ hk1).trans e4; have q5 := fun o => (World.cell?_alloc_lt w1 o ⟨w.heap.size, 5, none⟩ hk1).trans e5; have q6 := fun o => (World.cell?_alloc_lt w1 o ⟨w.heap.size, 6, none⟩ hk1).trans e6; have q7 := fun o => (World.cell?_alloc_lt w1 o ⟨w.heap.size, 7, none⟩ hk1).trans e7; have q8 := fun o => (World.cell?_alloc_lt w1 o ⟨w.heap.size, 8, none⟩ hk1).trans e8))
  all_goals
    have hB1 := hw2.trans (hcur.mono hw2.size)
    have hB2 := hB1.alloc hB1.size (Obj.cells #[.int .i64 p, .int .i64 (p + wd)] 132)
    have hO : Hid (OwnF rangeV 2 132 (w1.alloc (Obj.cells #[.int .i64 p, .int .i64 (p + wd)] 132)) (w.heap.size + 1) (.slice (some ⟨w1.heap.size, 0, none⟩) 1 1) [(p, p + wd)]) := own_lit (alloc_last _ _ _ rfl) (by omega)
    clear q0 q1 q2 q3 q4 q5 q6 q7 q8
    go_wp2_with fail
    go_ret
    exact ⟨_, rfl, hO.out, hB2⟩


set_option maxHeartbeats 1000000 in
theorem coversX {w : World} (hw : Bar w) (xa : Option Addr) {xc : Nat} (hxc : xc ≤ maxLen) :
    Calls Tryd.prog 38 #[opVal (oX 0 0) (.slice xa 0 xc)] w fun e w' => ∃ v, e = .returned v ∧ OwnF rangeV 2 132 w' w.heap.size v [(0, 1)] ∧ Below w.heap.size w w' := by
  have hr : ∀ W, Rng W xa 0 xc [] := fun W => rng_of_rw ⟨rfl, ⟨Nat.zero_le _, hxc⟩, fun h => absurd h (Nat.lt_irrefl _)⟩
  have HE : Hid (∀ W, Below w.heap.size w W → Calls Tryd.prog 57 #[opVal (oX 0 0) (.slice xa 0 xc)] W fun e w' => e = .returned (.int .i64 0) ∧ Below W.heap.size W w') := fun W hb => by
    have := ownError_any (o := oX 0 0) (hr W) (show xB.size ≤ _ by decide) (hw.below hb)
    rw [oX_own (.inl ⟨rfl, rfl⟩)] at this
    exact this
  have HC : Hid (∀ W, Below w.heap.size w W → Calls Tryd.prog 58 #[opVal (oX 0 0) (.slice xa 0 xc)] W fun e w' => ∃ v, e = .returned v ∧ OwnF rangeV 2 132 w' (W.heap.size + 1) v [(0, 1)] ∧ Below W.heap.size W w') := fun W hb => by
    have := covered_1 (c := 0) (n := 0) (p := 0) (s := xB) (l := []) (tc := 0) (tn := 0) (on := false) (w := W) (a := xa) (m := 0) (cap := xc) (by decide) (hw.below hb) (by omega) (by omega) (by rw [xB_check]; decide)
    rw [xB_check] at this
    exact this
  clear hw hr
  have hw2 : ∀ o, Below w.heap.size w (w.alloc o) := fun o => (Below.refl _ _).alloc (Nat.le_refl _) _
  simp only [opVal, oX] at *
  go_enter Tryd.func38, Tryd.ntmps38
  go_wp2_with fail
  refine (HE.out _ (hw2 _)).mono ?_
  rintro e w1 ⟨rfl, hb1⟩
  have hB := (hw2 _).trans (hb1.mono (hw2 _).size)
  have hq1 := (hb1.block w.heap.size (by simp)).trans (heap_alloc_new _ _)
  obtain ⟨q0, q1, q2, q3, q4, q5, q6, q7, q8⟩ := box9 hq1
  clear hb1 hq1
  go_wp2_with fail
  refine (HC.out _ hB).mono ?_
  rintro e w2 ⟨v, rfl, ho, hb2⟩
  have hB2 := hB.trans (hb2.mono hB.size)
  have ho2 := ho.mono (C := w.heap.size) (by have := hB.size; omega)
  clear hb2 ho
  go_wp2_with fail
  go_ret
  exact ⟨_, rfl, ho2, hB2⟩
end Go.Proofs.YtokkodkhkpgebaaDoor
