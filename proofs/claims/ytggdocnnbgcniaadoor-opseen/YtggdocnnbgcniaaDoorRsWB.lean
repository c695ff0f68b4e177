import Derived.Test.YtggdocnnbgcniaaDoorRqMN
import Derived.Sort.QuietIn
import Derived.Lib.QuietBelowIn
import Derived.OrdersIn
/-! Operations that defer nothing. -/
namespace Go.Proofs.YtggdocnnbgcniaaDoor
open Go.RowKit Go.Lib
set_option maxRecDepth 100000

def plainOp (o : Oper) : Bool := match o.op with
  | .defer _ => false
  | _ => true
theorem plainOp_ne {o : Oper} (h : plainOp o = true) : ∀ c, o.op ≠ .defer c := fun c e => by
  unfold plainOp at h
  rw [e] at h
  cases h
end Go.Proofs.YtggdocnnbgcniaaDoor

/-! A region that draws its order and writes, in a round of a loop over an iterator. -/
namespace Go.Proofs.YtggdocnnbgcniaaDoor
open Go.RowKit Go.Lib Go.Shelf Go.Sort
set_option maxRecDepth 100000

section
variable {F : Fence} {n : Nat} {P : Program} {md : Region.Mode} {ops : Array Oper} {Q : Exit → Act → World → Prop}
theorem wpIn_plain {o : Oper} (hp : plainOp o = true) (l : Nat) {K : Act → World → Prop} {a : Act} {w : World} (h : o.wpIn F n P a w K Q) : o.wpIn (F.inRound l) n P a w K Q := by
  refine ⟨h.1, ?_⟩
  have h2 := h.2
  rw [Oper.semAt_eq _ _ _ (plainOp_ne hp)] at h2 ⊢
  exact h2
theorem wpAnyIn_round (hp : ∀ (i : Nat) o, ops[i]? = some o → plainOp o = true) (l : Nat) : ∀ (fuel : Nat) (listed : Array Bool) (a : Act) (w : World),
    wpAnyIn F n P md ops Q fuel listed a w → wpAnyIn (F.inRound l) n P md ops Q fuel listed a w
  | 0, _, _, _, h => h
  | fuel + 1, listed, a, w, h => by
    refine ⟨h.1, fun i hi => ?_⟩
    have h1 := wpOpIn_mono (fun a' w' h' => wpAnyIn_round hp l fuel (listed.setIfInBounds i true) a' w' h') (h.2 i hi)
    unfold wpOpIn at h1 ⊢
    cases e : ops[i]? with
    | none => rw [e] at h1; exact h1
    | some o =>
      rw [e] at h1
      simp only at h1 ⊢
      split
      · rename_i hw
        rw [if_pos hw] at h1
        exact wpIn_plain (hp i o e) l h1
      · rename_i hw
        rw [if_neg hw] at h1
        exact h1
theorem region_round {id l : Nat} {a : Act} {w : World} {os : List Oper} (hp : os.all plainOp = true) (hm : P.follows .mixedOrders = true)
    (h : wpAnyIn F n P .any os.toArray Q os.toArray.size (Array.replicate os.toArray.size false) a w.drew) : (Code.region id os.toArray true).wpIn (F.inRound l) n P Q a w :=
  wpIn_region_any hm (wpAnyIn_round (fun i o ho => by
    refine List.all_eq_true.1 hp o ?_
    rw [List.getElem?_toArray] at ho
    exact List.mem_of_getElem? ho) l _ _ _ _ h)
theorem takeR {i : Nat} {oi : Oper} {d : Option Nat} {v : Value} {fuel : Nat} {listed : Array Bool} {a : Act} {w : World} (hF : F.round = none) (hi : ops[i]? = some oi) (hd : oi.dst = d)
    (hs : Region.noSelect ops = true) (hf : Region.free md ops listed i = true) (hr : (Region.ready md ops listed).contains i = true)
    (hQ : ∀ c a w, Q (.panic c) (a.put oi.dst v) w → Q (.panic c) a w) (hy : YieldsFenced P ops oi v a)
    (h : wpAnyIn F n P md ops Q fuel (listed.setIfInBounds i true) (a.put d v) w) : wpAnyIn F n P md ops Q (fuel + 1) listed a w := by
  subst hd
  exact wpAnyIn_take hF hi hs hf hr hQ hy h
end
end Go.Proofs.YtggdocnnbgcniaaDoor
