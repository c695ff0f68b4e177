import Derived.Test.YtjnglghhcbdpmaaSpEa
import Derived.Test.YtjnglghhcbdpmaaSpInt
import Derived.RangeFuncBox
import Derived.Maps.AppendAt
namespace Go.Proofs.Ytjnglghhcbdpmaa
open Go.RowKit Go.Lib Go.Shelf
set_option maxRecDepth 100000
attribute [local go_sem] Oper.semAt_some

/-- A number that is appended to a row in a box keeps the blocks of ranges. -/
theorem keepsR_app {W w1 : World} {n₀ Bo k : Nat} {v u v' : Value} {xs : List Value} {tmp : Obj} (hrow : W.ownsRow n₀ 3 1 v k xs) (hbx : Boxed w1 Bo 23 u) (hgrow : (W.alloc tmp).grownBy w1 v.ownBlock) :
    KeepsR W (w1.setCell ⟨Bo, 0, none⟩ v') := by
  refine (KeepsR.below ((Below.refl _ W).alloc (Nat.le_refl _) tmp)).trans ((KeepsR.grown hgrow (fun g cs z hg e => ?_)).trans (fun g cs z hg => Below.heap_setCell _ _ _ _ (fun e => ?_)))
  · rcases (hrow.alloc tmp).2 with ⟨rfl, _⟩ | ⟨g', cap, cur, rfl, _, hgb, _⟩
    · simp [Value.ownBlock] at e
    · obtain rfl : g = g' := by simpa [Value.ownBlock] using e
      rw [hg] at hgb
      simp at hgb
  · simp only at e
    subst e
    rw [show w1.heap[g]? = _ from hbx] at hg
    simp at hg

theorem boxK {W w1 : World} {n₀ b k : Nat} {t : TypeId} {u v : Value} {xs : List Value} {tmp : Obj} (h : Boxed W b t u) (hrow : W.ownsRow n₀ 3 1 v k xs) (hgrow : (W.alloc tmp).grownBy w1 v.ownBlock) (hb : b + 1 ≤ n₀) : Boxed w1 b t u :=
  (h.alloc tmp).kept hgrow (fun e => by have := (World.ownsRow.lt hrow b e.symm).1; omega)
theorem run_equalIn_func_nil {P : Program} (w : World) (d : Nat) (t : TypeId) (ps rs : Array TypeId) (vr : Bool) (f : Fn) (x y : Array Value) (h : P.underlying t = some (.func ps rs vr)) :
    (Op.equalIn (d + 1) t (.func f x y) .nilFunc).run P w = .ok false w := by
  simp [Op.equalIn, run_underlying h]
theorem run_eql_func_nil {P : Program} (w : World) (t : TypeId) (ps rs : Array TypeId) (vr : Bool) (f : Fn) (x y : Array Value) (h : P.underlying t = some (.func ps rs vr)) :
    (binOp .eql t (.func f x y) .nilFunc).run P w = .ok (.bool false) w := by
  simp only [binOp]
  simp [Op.equal, Op.maxDepth, run_equalIn_func_nil w 9999 t ps rs vr f x y h]
/-- The iterator that Each has handed out: its contract. -/
theorem each_stops (n : Nat) (hn : 1 ≤ n) (Bs B : Nat) (a : Option Addr) (len cap : Nat) (l : List (Int × Int)) (w : World) (hBs : Bs < w.heap.size) (hc : w.cell? ⟨Bs, 0, none⟩ = some (.slice a len cap)) (hO : Own w B (.slice a len cap) (heldL l)) :
    SeqStopsK Fence.wide n Try.prog 38 #[.pointer (some ⟨Bs, 0, none⟩)] (fun x : Int => #[Value.int .i64 x]) KeepsR (fun ys => ys = allPl (heldL l)) (fun pre => pre <+: allPl (heldL l)) (allPl (heldL l)).length w := fun lp J Jx W hW hJ _ hY h0 =>
  each1_in Fence.wide n trivial rfl hn lp Bs B a len cap (heldL l) (heldL_in l).1 (by have := (heldL_in l).2; have := hO.rng.len; omega) J Jx W hJ hY ((hW.cell (p := ⟨Bs, 0, none⟩) hBs).trans hc) (hO.below hW) h0

end Go.Proofs.Ytjnglghhcbdpmaa
