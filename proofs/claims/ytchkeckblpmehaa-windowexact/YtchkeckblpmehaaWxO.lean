import Derived.Test.YtchkeckblpmehaaWxN
/-! The state of the sentences' loops. -/
namespace Go.Proofs.Ytchkeckblpmehaa
open Go.RowKit Go.Lib
set_option maxRecDepth 100000
/-- The boxes of loops: w, r, s, the answer, done, and the sequence's own. -/
structure BX (E q r : Nat) (st : Array Value) (W : World) (res : Bool) (d : Int) : Prop where
  bw : W.heap[E]? = some (.cells #[.pointer (some ⟨q, 0, none⟩)] 29)
  br : W.heap[E + 1]? = some (.cells #[.pointer (some ⟨r, 0, none⟩)] 30)
  bs : W.heap[E + 2]? = some (.cells st 34)
  bo : W.heap[E + 3]? = some (.cells #[.bool res] 4)
  bd : W.heap[E + 4]? = some (.cells #[.int .i64 d] 3)
  bx : W.heap[E + 5]? = some (.cells #[.pointer (some ⟨q, 0, none⟩)] 29)
theorem BX.chg {E q r : Nat} {st : Array Value} {W W' : World} {res : Bool} {d : Int} {D : Nat → Prop} (h : BX E q r st W res d) (hC : Chg D W W') (hD : ∀ g, E ≤ g → g < E + 6 → ¬ D g) : BX E q r st W' res d :=
  ⟨hC.block h.bw (hD _ (by omega) (by omega)), hC.block h.br (hD _ (by omega) (by omega)), hC.block h.bs (hD _ (by omega) (by omega)), hC.block h.bo (hD _ (by omega) (by omega)), hC.block h.bd (hD _ (by omega) (by omega)), hC.block h.bx (hD _ (by omega) (by omega))⟩
theorem BX.setD {E q r : Nat} {st : Array Value} {W : World} {res : Bool} {d : Int} (h : BX E q r st W res d) (d' : Int) : BX E q r st (W.setCell ⟨E + 4, 0, none⟩ (.int .i64 d')) res d' := by
  have hC : Chg (fun g => g = E + 4) W (W.setCell ⟨E + 4, 0, none⟩ (.int .i64 d')) := Chg.set (D := fun g => g = E + 4) (q := E + 4) 0 _ _ rfl
  exact ⟨hC.block h.bw (by omega), hC.block h.br (by omega), hC.block h.bs (by omega), hC.block h.bo (by omega), heap_setCell_cells h.bd 0 _, hC.block h.bx (by omega)⟩
theorem BX.setR {E q r : Nat} {st : Array Value} {W : World} {res : Bool} {d : Int} (h : BX E q r st W res d) (res' : Bool) : BX E q r st (W.setCell ⟨E + 3, 0, none⟩ (.bool res')) res' d := by
  have hC : Chg (fun g => g = E + 3) W (W.setCell ⟨E + 3, 0, none⟩ (.bool res')) := Chg.set (D := fun g => g = E + 3) (q := E + 3) 0 _ _ rfl
  exact ⟨hC.block h.bw (by omega), hC.block h.br (by omega), hC.block h.bs (by omega), heap_setCell_cells h.bo 0 _, hC.block h.bd (by omega), hC.block h.bx (by omega)⟩
theorem BX.apart {E q r B b : Nat} {st : Array Value} {W : World} {res : Bool} {d : Int} {Sw Sr : Wn Int} {v : Value} (h : BX E q r st W res d) (hw : WinI W q b Sw) (hr : RfW W B r v Sr) (g : Nat) (h1 : E ≤ g) (h2 : g < E + 6) : ¬ PB q b r v g := by
  obtain rfl | rfl | rfl | rfl | rfl | rfl : g = E ∨ g = E + 1 ∨ g = E + 2 ∨ g = E + 3 ∨ g = E + 4 ∨ g = E + 5 := by omega
  · exact pair_box hw hr h.bw (by decide) (by decide) (by decide)
  · exact pair_box hw hr h.br (by decide) (by decide) (by decide)
  · exact pair_box hw hr h.bs (by decide) (by decide) (by decide)
  · exact pair_box hw hr h.bo (by decide) (by decide) (by decide)
  · exact pair_box hw hr h.bd (by decide) (by decide) (by decide)
  · exact pair_box hw hr h.bx (by decide) (by decide) (by decide)
structure LS (E B q b r : Nat) (v0 : Value) (st : Array Value) (W0 W : World) (Sw Sr : Wn Int) (v : Value) (res : Bool) (d : Int) : Prop where
  win : WinI W q b Sw
  ref : RfW W B r v Sr
  bx : BX E q r st W res d
  chg : Chg (fun g => PB q b r v0 g ∨ g = E + 3 ∨ g = E + 4) W0 W
  own : ∀ g, v.ownBlock = some g → v0.ownBlock = some g ∨ W0.heap.size ≤ g
section
variable {E B q b r : Nat} {v0 v v' : Value} {st : Array Value} {W0 W W' : World} {Sw Sr Sw' Sr' : Wn Int} {res : Bool} {d : Int}
theorem LS.apart (h : LS E B q b r v0 st W0 W Sw Sr v res d) : ∀ g, E ≤ g → g < E + 6 → ¬ PB q b r v g := h.bx.apart h.win h.ref
theorem LS.base (h : LS E B q b r v0 st W0 W Sw Sr v res d) : LS E B q b r v st W W Sw Sr v res d := ⟨h.win, h.ref, h.bx, Chg.refl _ _, fun _ h => .inl h⟩
theorem LS.winS (h : LS E B q b r v0 st W0 W Sw Sr v res d) (h1 : WinI W' q b Sw') (hC : Chg (Wb q b) W W') : LS E B q b r v0 st W0 W' Sw' Sr v res d :=
  ⟨h1, h.ref.chg hC (fun _ hg hd => win_ref h.win h.ref hd hg), h.bx.chg hC (fun g h1 h2 hd => h.apart g h1 h2 (.inl hd)), h.chg.trans (hC.mono fun _ _ hg => .inl (.inl hg)), h.own⟩
theorem LS.refS (h : LS E B q b r v0 st W0 W Sw Sr v res d) (h1 : RNw W W' B r v Sr') : ∃ v', LS E B q b r v0 st W0 W' Sw Sr' v' res d := by
  obtain ⟨v', k1, k2, k3⟩ := h1
  refine ⟨v', h.win.chg k2 (win_ref h.win h.ref (.inl rfl)) (win_ref h.win h.ref (.inr rfl)), k1, h.bx.chg k2 (fun g h1 h2 hd => h.apart g h1 h2 (.inr hd)), h.chg.then k2 (fun g hg => ?_), fun g hg => ?_⟩
  · rcases hg with rfl | hg
    · exact .inl (.inl (.inr (.inl rfl)))
    · rcases h.own g hg with h2 | h2
      · exact .inl (.inl (.inr (.inr h2)))
      · exact .inr h2
  · rcases k3 g hg with h2 | h2
    · exact h.own g h2
    · exact .inr (Nat.le_trans h.chg.size h2)
theorem LS.chgD {D : Nat → Prop} (h : LS E B q b r v0 st W0 W Sw Sr v res d) (hC : Chg D W W') (hD : ∀ g, D g → ¬ PB q b r v g) (hE : ∀ g, D g → g < E ∨ E + 6 ≤ g) (h0 : ∀ g, D g → W0.heap.size ≤ g) : LS E B q b r v0 st W0 W' Sw Sr v res d :=
  ⟨h.win.chg hC (fun e => hD _ e (.inl (.inl rfl))) (fun e => hD _ e (.inl (.inr rfl))), h.ref.chg hC (fun g hg e => hD g e (.inr hg)), h.bx.chg hC (fun g h1 h2 hd => by have := hE g hd; omega), h.chg.then hC (fun g hg => .inr (h0 g hg)), h.own⟩
theorem LS.drewN (h : LS E B q b r v0 st W0 W Sw Sr v res d) (k : Nat) : LS E B q b r v0 st W0 (W.drewN k) Sw Sr v res d :=
  h.chgD (D := fun _ => False) (Chg.refl _ W).drewN (fun _ f => f.elim) (fun _ f => f.elim) (fun _ f => f.elim)
theorem LS.setD (h : LS E B q b r v0 st W0 W Sw Sr v res d) (d' : Int) : LS E B q b r v0 st W0 (W.setCell ⟨E + 4, 0, none⟩ (.int .i64 d')) Sw Sr v res d' := by
  have hC : Chg (fun g => g = E + 4) W (W.setCell ⟨E + 4, 0, none⟩ (.int .i64 d')) := Chg.set (D := fun g => g = E + 4) (q := E + 4) 0 _ _ rfl
  have ha := h.apart (E + 4) (by omega) (by omega)
  exact ⟨h.win.chg hC (fun e => ha (e ▸ .inl (.inl rfl))) (fun e => ha (e ▸ .inl (.inr rfl))), h.ref.chg hC (fun g hg e => ha (e ▸ .inr hg)), h.bx.setD d', h.chg.trans (hC.mono fun _ _ hg => .inr (.inr hg)), h.own⟩
theorem LS.setR (h : LS E B q b r v0 st W0 W Sw Sr v res d) (res' : Bool) : LS E B q b r v0 st W0 (W.setCell ⟨E + 3, 0, none⟩ (.bool res')) Sw Sr v res' d := by
  have hC : Chg (fun g => g = E + 3) W (W.setCell ⟨E + 3, 0, none⟩ (.bool res')) := Chg.set (D := fun g => g = E + 3) (q := E + 3) 0 _ _ rfl
  have ha := h.apart (E + 3) (by omega) (by omega)
  exact ⟨h.win.chg hC (fun e => ha (e ▸ .inl (.inl rfl))) (fun e => ha (e ▸ .inl (.inr rfl))), h.ref.chg hC (fun g hg e => ha (e ▸ .inr hg)), h.bx.setR res', h.chg.trans (hC.mono fun _ _ hg => .inr (.inl hg)), h.own⟩
theorem LS.of {res' : Bool} {d' : Int} (h : LS E B q b r v0 st W0 W Sw Sr v res d) (k : LS E B q b r v st W W' Sw' Sr' v' res' d') : LS E B q b r v0 st W0 W' Sw' Sr' v' res' d' :=
  ⟨k.win, k.ref, k.bx, h.chg.then k.chg (fun g hg => by
    rcases hg with (hg | (hg | hg)) | hg
    · exact .inl (.inl (.inl hg))
    · exact .inl (.inl (.inr (.inl hg)))
    · rcases h.own g hg with h2 | h2
      · exact .inl (.inl (.inr (.inr h2)))
      · exact .inr h2
    · exact .inl (.inr hg)), fun g hg => by
    rcases k.own g hg with h2 | h2
    · exact h.own g h2
    · exact .inr (Nat.le_trans h.chg.size h2)⟩
/-- The state abides the turn of a block that is no cells and lies beyond the boxes. -/
theorem LS.turn {D : Nat → Prop} (h : LS E B q b r v0 st W0 W Sw Sr v res d) (hC : Chg D W W') (hD : ∀ g, D g → E + 6 ≤ g ∧ ∃ o : Obj, W.heap[g]? = some o ∧ o.isCells = false) (hb : b < E) (h0 : W0.heap.size ≤ E + 6) : LS E B q b r v0 st W0 W' Sw Sr v res d := by
  refine h.chgD hC (fun g hg hp => ?_) (fun g hg => .inr (hD g hg).1) (fun g hg => Nat.le_trans h0 (hD g hg).1)
  obtain ⟨h1, o, h2, h3⟩ := hD g hg
  rcases hp with (rfl | rfl) | (rfl | hv)
  · rw [h.win.box] at h2; cases h2; simp [Obj.isCells] at h3
  · omega
  · rw [h.ref.box] at h2; cases h2; simp [Obj.isCells] at h3
  · rcases h.ref.row.2 with ⟨rfl, _⟩ | ⟨g1, cap, cur, rfl, _, hh, _⟩
    · simp [Value.ownBlock] at hv
    · simp [Value.ownBlock] at hv
      subst hv
      rw [hh] at h2; cases h2; simp [Obj.isCells] at h3
theorem LS.keeps {res' : Bool} {d' : Int} (h0 : LS E B q b r v0 st W0 W Sw Sr v res d) (h : LS E B q b r v st W W' Sw' Sr' v' res' d') (hb : b < E) : KeepsFrom (E + 6) W W' := by
  refine keepsFrom_chg2 h.chg (fun g hg => ?_)
  rcases hg with ((rfl | rfl) | (rfl | hv)) | hd
  · exact .inr ⟨_, _, h0.win.box⟩
  · exact .inl (by omega)
  · exact .inr ⟨_, _, h0.ref.box⟩
  · rcases h0.ref.row.2 with ⟨rfl, _⟩ | ⟨g1, cap, cur, rfl, _, hh, _⟩
    · simp [Value.ownBlock] at hv
    · simp [Value.ownBlock] at hv
      subst hv
      exact .inr ⟨_, _, hh⟩
  · exact .inl (by omega)
theorem LS.at_ (h : LS E B q b r v0 st W0 W Sw Sr v res d) (hb : Sw.nx + (Sw.L.length : Int) ≤ 4611686018427387904) : AtI (E + 5) q b Sw W := ⟨h.win, h.bx.bx, hb⟩
end
end Go.Proofs.Ytchkeckblpmehaa
