import Derived.Test.YtohfckcikincoaaSpPs
import Derived.Sort.QuietIn
namespace Go.Proofs.Ytohfckcikincoaa
open Go.RowKit Go.Lib Go.Shelf
set_option maxRecDepth 100000

/-! A region that draws its order, in a round of a loop over an iterator, whose operations leave the world alone: none of them being a 'defer', they are carried out as outside a round. -/
def plainOp (o : Oper) : Bool := match o.op with
  | .defer _ => false
  | _ => true
theorem plainOp_ne {o : Oper} (h : plainOp o = true) : ∀ c, o.op ≠ .defer c := fun c e => by
  unfold plainOp at h
  rw [e] at h
  cases h
section
variable {F : Fence} {n : Nat} {P : Program} {ops : Array Oper} {C : World → Prop}
theorem quietOp_round {o : Oper} {a : Act} {K : Act → Prop} {K' : Act → World → Prop} {Q' : Exit → Act → World → Prop} {w : World} (hp : plainOp o = true) (hw : C w) (h : ∀ a w', C w' → K a → K' a w')
    (ha : o.askedIn F P a C) (hh : o.quietIn F n P a C K) : o.wpIn F n P a w K' Q' := by
  obtain ⟨v, h1, h2⟩ := hh
  refine ⟨ha w hw, ?_⟩
  have h3 := h1 w hw
  rw [Oper.semAt_eq _ _ _ (plainOp_ne hp)]
  unfold Oper.quietAtIn at h3
  revert h3
  generalize (execOp a.eval o).run P w = r
  intro h3
  cases r with
  | halt x w' => exact h3.elim
  | ok x w' =>
    cases x with
    | value u => obtain ⟨rfl, rfl⟩ := h3; exact h _ _ hw h2
    | skip => obtain ⟨rfl, rfl⟩ := h3; exact h _ _ hw h2
    | enter f args =>
      obtain ⟨rfl, hd, hc⟩ := h3
      refine ⟨hd, hc.mono ?_⟩
      rintro e w'' ⟨rfl, hw''⟩
      exact h _ _ hw'' h2
    | _ => exact h3.elim
theorem quietAny_round {Q : Act → Prop} {Q' : Exit → Act → World → Prop} (hp : ∀ (i : Nat) o, ops[i]? = some o → plainOp o = true) (hQ : ∀ a w, C w → Q a → Q' .normal a w) : ∀ (fuel : Nat) (listed : Array Bool) (a : Act) (w : World), C w →
    wpAnyQIn F n P .any ops C Q fuel listed a → wpAnyIn F n P .any ops Q' fuel listed a w
  | 0, _, _, _, hw, h => ⟨h.1, hQ _ _ hw h.2⟩
  | fuel + 1, listed, a, w, hw, h => by
    refine ⟨fun h0 => hQ _ _ hw (h.1 h0), fun i hi => ?_⟩
    have hh := h.2 i hi
    have next : ∀ a' w', C w' → wpAnyQIn F n P .any ops C Q fuel (listed.setIfInBounds i true) a' → wpAnyIn F n P .any ops Q' fuel (listed.setIfInBounds i true) a' w' := fun a' w' hw' => quietAny_round hp hQ fuel _ a' w' hw'
    unfold qOpIn at hh
    unfold wpOpIn
    split
    · rename_i ho; rw [ho] at hh; exact next _ _ hw hh
    · rename_i o ho
      rw [ho] at hh
      obtain ⟨ha, hh⟩ := hh
      split
      · rename_i hwt; rw [if_pos hwt] at hh; exact quietOp_round (hp i o ho) hw next ha hh
      · rename_i hwt; rw [if_neg hwt] at hh; exact ⟨ha w hw, next _ _ hw hh⟩
theorem region_quiet_round {id : Nat} {Q : Exit → Act → World → Prop} {a : Act} {w : World} {l : List Oper} (hp : l.all plainOp = true) (hm : P.follows .mixedOrders = true) (hB : Region.lexB .any l.toArray = true)
    (h : wpQuietIn F n P l.toArray (fun w' => ∃ n, w' = w.drewN n) (fun a' => ∀ w', (∃ n, w' = w.drewN n) → Q .normal a' w') l a) : (Code.region id l.toArray true).wpIn F n P Q a w := by
  simp only [Region.lexB, Bool.and_eq_true] at hB
  refine wpIn_region_any hm (quietAny_round (C := fun w' => ∃ n, w' = w.drewN n) (Q := fun a' => ∀ w', (∃ n, w' = w.drewN n) → Q .normal a' w') (fun i o ho => ?_) (fun _ w' hw' h => h w' hw') _ _ _ _ ⟨1, rfl⟩ ?_)
  · refine List.all_eq_true.1 hp o ?_
    rw [List.getElem?_toArray] at ho
    exact List.mem_of_getElem? ho
  · have := wpAnyQIn_lex (F := F) (n := n) (C := fun w' => ∃ n, w' = w.drewN n) (md := .any) hB.1 l.toArray.toList 0 (Array.replicate l.toArray.size false) a (by simp) (by simpa using hB.2) (by simpa using h)
    simpa using this
end
end Go.Proofs.Ytohfckcikincoaa
