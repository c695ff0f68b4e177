import Derived.Test.YtkdhcokefnffaaaDoorMaG
/-! A message as a value; appendRev. -/
namespace Go.Proofs.YtkdhcokefnffaaaDoor
open Go.RowKit Go.Lib Sp
set_option maxRecDepth 100000

def msgA (c k r q : Int) (o : OpV) (sl : Value) : Array Value := #[.int .i64 c, .int .i64 k, .int .i64 r, .int .i64 q, .int .i64 o.c, .int .i64 o.n, .int .i64 o.k, .int .i64 o.p, .string o.s, sl, .int .i64 o.tc, .int .i64 o.tn, .bool o.on]
def msgV (c k r q : Int) (o : OpV) (sl : Value) : Value := .agg (msgA c k r q o sl)
theorem two_new {w : World} {B : Nat} {v : Value} {l : List Nat} (h : OwnF byV 1 5 w B v l) (hB : B ≤ w.heap.size) (cs : Array Value) (ns : List Nat) (hcs : cs = (flatF i64V ns).toArray) (hm : ns.length ≤ 64) : Two (w.alloc (.cells cs 3)) B v l (some ⟨w.heap.size, 0, none⟩) ns.length ns.length ns := by
  subst hcs
  refine ⟨h.below ((Below.refl _ _).alloc (Nat.le_refl _) _), by simp; omega, rw_block (T := 3) (heap_alloc_new _ _) layN64 rfl (by simp only [maxLen]; omega), fun g off e he => ?_, fun g off e => ?_⟩
  · cases e
    exact absurd (h.lt he) (by omega)
  · cases e
    simp
theorem GB.of_below {B : Nat} {w W : World} {v : Value} (h : Below w.heap.size w W) (hB : B ≤ w.heap.size) : GB B w v W v := ⟨h.mono hB, fun g hg _ => h.block g hg, fun _ e => .inl e⟩

set_option maxHeartbeats 4000000 in
theorem appendRev_any {w : World} {B : Nat} {v : Value} {l : List Nat} (h : OwnF byV 1 5 w B v l) (hB : B ≤ w.heap.size) (hl : l.length ≤ 1048576) (c k q : Int) (r : Nat) (hr : r < 268435456) (o : OpV) (sl : Value) :
    Calls Tryd.prog 44 #[v, msgV c k r q o sl] w fun e w' => ∃ v', e = .returned v' ∧ OwnF byV 1 5 w' B v' (l ++ encP r) ∧ GB B w v w' v' := by
  have hb1 := (Below.refl w.heap.size w).alloc (Nat.le_refl _) (.cells (msgA c k r q o sl) 37)
  have HA := appendNumbers_any (two_new (h.below hb1) (by simp; omega) #[.int .i64 (r : Int)] [r] rfl (by simp)) hl (by simpa using hr) (by simp)
  have HB : Hid (GB B w v ((w.alloc (.cells (msgA c k r q o sl) 37)).alloc (.cells #[.int .i64 (r : Int)] 3)) v) := GB.of_below (hb1.alloc (by simp) _) hB
  clear h hB hl hr hb1
  simp only [msgV, msgA, List.length_cons, List.length_nil, World.size_alloc] at *
  go_enter Tryd.func44, Tryd.ntmps44
  go_wp2_with fail
  refine HA.mono ?_
  rintro e w1 ⟨v', rfl, ho, hg⟩
  clear HA
  go_wp2_with fail
  go_ret
  exact ⟨v', rfl, by simpa [encL] using ho, HB.out.trans hg⟩
end Go.Proofs.YtkdhcokefnffaaaDoor
