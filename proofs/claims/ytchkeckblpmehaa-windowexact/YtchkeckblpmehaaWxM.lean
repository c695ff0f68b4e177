import Derived.Test.YtchkeckblpmehaaWxL
import Derived.Test.YtchkeckblpmehaaWfC
/-! A window and the reference's window beside it, above a world that stands. -/
namespace Go.Proofs.Ytchkeckblpmehaa
open Go.RowKit Go.Lib
set_option maxRecDepth 100000
def PB (q b r : Nat) (v : Value) (g : Nat) : Prop := Wb q b g ∨ RWb r v g
/-- The window holds Sw, the reference Sr; above W0 nothing else has changed. -/
structure PI (B q b r : Nat) (v0 : Value) (W0 W : World) (Sw Sr : Wn Int) (v : Value) : Prop where
  win : WinI W q b Sw
  ref : RfW W B r v Sr
  chg : Chg (PB q b r v0) W0 W
  own : ∀ g, v.ownBlock = some g → v0.ownBlock = some g ∨ W0.heap.size ≤ g
theorem Chg.cells {D : Nat → Prop} {a b : World} (h : Chg D a b) {g : Nat} {cs : Array Value} {T : TypeId} (hg : a.heap[g]? = some (.cells cs T)) (hq : ¬ D g) : b.heap[g]? = some (.cells cs T) := h.block hg hq
/-- A box of another kind is none of the pair's blocks. -/
theorem pair_box {W : World} {B q b r : Nat} {Sw Sr : Wn Int} {v : Value} (hw : WinI W q b Sw) (hr : RfW W B r v Sr) {g : Nat} {cs : Array Value} {T : TypeId} (hg : W.heap[g]? = some (.cells cs T)) (h1 : T ≠ 61) (h2 : T ≠ 64) (h3 : T ≠ 67) : ¬ PB q b r v g := by
  rintro ((rfl | rfl) | (rfl | h))
  · have := hw.box.symm.trans hg
    simp only [Option.some.injEq, Obj.cells.injEq] at this
    exact h1 this.2.1.symm
  · obtain ⟨xs, ck, hm, _⟩ := hw.map
    have := hm.heap.symm.trans hg
    simp at this
  · have := hr.box.symm.trans hg
    simp only [Option.some.injEq, Obj.cells.injEq] at this
    exact h2 this.2.1.symm
  · exact own_ne_box hr.row hg (fun e => h3 e.symm) h
/-- The two of a pair lie apart. -/
theorem win_ref {W : World} {B q b r : Nat} {Sw Sr : Wn Int} {v : Value} (hw : WinI W q b Sw) (hr : RfW W B r v Sr) {g : Nat} (h1 : Wb q b g) : ¬ RWb r v g := by
  rintro (rfl | h)
  · rcases h1 with rfl | rfl
    · have := hw.box.symm.trans hr.box
      simp only [Option.some.injEq, Obj.cells.injEq] at this
      exact absurd this.2.1 (by decide)
    · obtain ⟨xs, ck, hm, _⟩ := hw.map
      have := hm.heap.symm.trans hr.box
      simp at this
  · rcases h1 with rfl | rfl
    · exact own_ne_box hr.row hw.box (by decide) h
    · obtain ⟨xs, ck, hm, _⟩ := hw.map
      rcases hr.row.2 with ⟨rfl, _⟩ | ⟨g1, cap, cur, rfl, _, hh, _⟩
      · simp [Value.ownBlock] at h
      · simp [Value.ownBlock] at h
        subst h
        have := hm.heap.symm.trans hh
        simp at this
theorem PI.refl {W : World} {B q b r : Nat} {Sw Sr : Wn Int} {v : Value} (hw : WinI W q b Sw) (hr : RfW W B r v Sr) : PI B q b r v W W Sw Sr v := ⟨hw, hr, Chg.refl _ _, fun _ h => .inl h⟩
theorem PI.winS {W0 W W' : World} {B q b r : Nat} {Sw Sr Sw' : Wn Int} {v v0 : Value} (h : PI B q b r v0 W0 W Sw Sr v) (h1 : WinI W' q b Sw') (hC : Chg (Wb q b) W W') : PI B q b r v0 W0 W' Sw' Sr v :=
  ⟨h1, h.ref.chg hC (fun _ hg hd => win_ref h.win h.ref hd hg), h.chg.trans (hC.mono fun _ _ hg => .inl hg), h.own⟩
theorem PI.refS {W0 W W' : World} {B q b r : Nat} {Sw Sr Sr' : Wn Int} {v v0 : Value} (h : PI B q b r v0 W0 W Sw Sr v) (h1 : RNw W W' B r v Sr') : ∃ v', PI B q b r v0 W0 W' Sw Sr' v' := by
  obtain ⟨v', k1, k2, k3⟩ := h1
  refine ⟨v', h.win.chg k2 (win_ref h.win h.ref (.inl rfl)) (win_ref h.win h.ref (.inr rfl)), k1, h.chg.then k2 (fun g hg => ?_), fun g hg => ?_⟩
  · rcases hg with rfl | hg
    · exact .inl (.inr (.inl rfl))
    · rcases h.own g hg with h2 | h2
      · exact .inl (.inr (.inr h2))
      · exact .inr h2
  · rcases k3 g hg with h2 | h2
    · exact h.own g h2
    · exact .inr (Nat.le_trans h.chg.size h2)
/-- What is changed besides lies apart. -/
theorem PI.chgD {W0 W W' : World} {B q b r : Nat} {Sw Sr : Wn Int} {v v0 : Value} {D : Nat → Prop} (h : PI B q b r v0 W0 W Sw Sr v) (hC : Chg D W W') (hD : ∀ g, D g → ¬ PB q b r v g) (h0 : ∀ g, D g → W0.heap.size ≤ g) : PI B q b r v0 W0 W' Sw Sr v :=
  ⟨h.win.chg hC (fun e => hD _ e (.inl (.inl rfl))) (fun e => hD _ e (.inl (.inr rfl))), h.ref.chg hC (fun g hg e => hD g e (.inr hg)), h.chg.then hC (fun g hg => .inr (h0 g hg)), h.own⟩
theorem PI.below {W0 W W' : World} {B q b r : Nat} {Sw Sr : Wn Int} {v v0 : Value} (h : PI B q b r v0 W0 W Sw Sr v) (hb : Below W.heap.size W W') : PI B q b r v0 W0 W' Sw Sr v :=
  h.chgD (D := fun _ => False) (Chg.of_below hb) (fun _ f => f.elim) (fun _ f => f.elim)
theorem PI.drewN {W0 W : World} {B q b r : Nat} {Sw Sr : Wn Int} {v v0 : Value} (h : PI B q b r v0 W0 W Sw Sr v) (k : Nat) : PI B q b r v0 W0 (W.drewN k) Sw Sr v :=
  h.chgD (D := fun _ => False) (Chg.refl _ W).drewN (fun _ f => f.elim) (fun _ f => f.elim)
theorem PI.lt {W0 W : World} {B q b r : Nat} {Sw Sr : Wn Int} {v v0 : Value} (h : PI B q b r v0 W0 W Sw Sr v) {g : Nat} (hg : PB q b r v g) : g < W.heap.size := by
  rcases hg with (rfl | rfl) | (rfl | hg)
  · exact h.win.lt.1
  · exact h.win.lt.2
  · exact (Array.getElem?_eq_some_iff.1 h.ref.box).1
  · exact h.ref.row.lt hg
theorem PI.box {W0 W : World} {B q b r : Nat} {Sw Sr : Wn Int} {v v0 : Value} (h : PI B q b r v0 W0 W Sw Sr v) {g : Nat} {cs : Array Value} {T : TypeId} (hg : W.heap[g]? = some (.cells cs T)) (h1 : T ≠ 61) (h2 : T ≠ 64) (h3 : T ≠ 67) : ¬ PB q b r v g := pair_box h.win h.ref hg h1 h2 h3
/-- Seen from further off. -/
theorem PI.of {W0 W W' : World} {B q b r : Nat} {Sw Sr Sw' Sr' : Wn Int} {v v' v0 : Value} (h : PI B q b r v0 W0 W Sw Sr v) (k : PI B q b r v W W' Sw' Sr' v') : PI B q b r v0 W0 W' Sw' Sr' v' :=
  ⟨k.win, k.ref, h.chg.then k.chg (fun g hg => by
    rcases hg with hg | (hg | hg)
    · exact .inl (.inl hg)
    · exact .inl (.inr (.inl hg))
    · rcases h.own g hg with h2 | h2
      · exact .inl (.inr (.inr h2))
      · exact .inr h2), fun g hg => by
    rcases k.own g hg with h2 | h2
    · exact h.own g h2
    · exact .inr (Nat.le_trans h.chg.size h2)⟩
/-- What abides the turn of a block that is no cells. -/
theorem ownW_of2 {B : Nat} {I : World → Prop} (h : ∀ W W' (D : Nat → Prop), I W → Chg D W W' → (∀ g, D g → B ≤ g ∧ ∃ o : Obj, W.heap[g]? = some o ∧ o.isCells = false) → I W') : OwnW B I := fun _ W W' row hs hg hr =>
  h W W' (fun g => row = some g) hs ⟨⟨hg.os, hg.tape, hg.output, hg.size, fun _ hk => absurd hk (Nat.not_lt_zero _)⟩, fun g hlt hne => hg.block g hlt (fun e => hne e.symm)⟩ (fun g hgr => hr g hgr)
theorem keepsFrom_chg2 {D : Nat → Prop} {B : Nat} {W W' : World} (h : Chg D W W') (hD : ∀ g, D g → g < B ∨ ∃ cs T, W.heap[g]? = some (.cells cs T)) : KeepsFrom B W W' :=
  ⟨h.size, fun k o hk ho hc => h.block ho (fun hd => by
    rcases hD k hd with h1 | ⟨cs, T, h1⟩
    · omega
    · rw [h1] at ho
      cases ho
      simp [Obj.isCells] at hc)⟩
/-- A pair abides the turn of a block that is no cells and lies beyond the window. -/
theorem PI.turn {W0 W W' : World} {B q b r E : Nat} {Sw Sr : Wn Int} {v v0 : Value} {D : Nat → Prop} (h : PI B q b r v0 W0 W Sw Sr v) (hC : Chg D W W') (hD : ∀ g, D g → E ≤ g ∧ ∃ o : Obj, W.heap[g]? = some o ∧ o.isCells = false) (hb : b < E) (h0 : W0.heap.size ≤ E) : PI B q b r v0 W0 W' Sw Sr v := by
  refine h.chgD hC (fun g hg hp => ?_) (fun g hg => Nat.le_trans h0 (hD g hg).1)
  obtain ⟨h1, o, h2, h3⟩ := hD g hg
  rcases hp with (rfl | rfl) | (rfl | hv)
  · rw [h.win.box] at h2; cases h2; simp [Obj.isCells] at h3
  · omega
  · rw [h.ref.box] at h2; cases h2; simp [Obj.isCells] at h3
  · rcases h.ref.row.2 with ⟨rfl, _⟩ | ⟨g1, cap, cur, rfl, _, hh, _⟩
    · simp [Value.ownBlock] at hv
    · simp [Value.ownBlock] at hv
      subst hv
      rw [hh] at h2; cases h2; simp [Obj.isCells] at h3
theorem PI.keeps {W0 W : World} {B q b r E : Nat} {Sw Sr Sw' Sr' : Wn Int} {v v' : Value} (h0 : PI B q b r v W0 W0 Sw Sr v) (h : PI B q b r v W0 W Sw' Sr' v') (hb : b < E) {W' : World} {D : Nat → Prop} (hC : Chg D W W') (hD : ∀ g, D g → g < E) : KeepsFrom E W0 W' := by
  have h1 : Chg (fun g => PB q b r v g ∨ D g) W0 W' := (h.chg.mono fun _ _ hg => .inl hg).trans (hC.mono fun _ _ hg => .inr hg)
  refine keepsFrom_chg2 h1 (fun g hg => ?_)
  rcases hg with ((rfl | rfl) | (rfl | hv)) | hd
  · exact .inr ⟨_, _, h0.win.box⟩
  · exact .inl hb
  · exact .inr ⟨_, _, h0.ref.box⟩
  · rcases h0.ref.row.2 with ⟨rfl, _⟩ | ⟨g1, cap, cur, rfl, _, hh, _⟩
    · simp [Value.ownBlock] at hv
    · simp [Value.ownBlock] at hv
      subst hv
      exact .inr ⟨_, _, hh⟩
  · exact .inl (hD g hd)
end Go.Proofs.Ytchkeckblpmehaa
