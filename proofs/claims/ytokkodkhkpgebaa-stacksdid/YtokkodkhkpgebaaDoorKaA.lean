import Derived.Test.YtokkodkhkpgebaaDoorRpM
/-! Ids, rows of ids; stacks.Pick for any closure. -/
namespace Go.Proofs.YtokkodkhkpgebaaDoor
open Go.RowKit Go.Lib
set_option maxRecDepth 100000

def idV (x : Int × Int) : List Value := [.int .i64 x.1, .int .i64 x.2]
def idA (x : Int × Int) : Value := .agg #[.int .i64 x.1, .int .i64 x.2]
theorem layI : Lay idV 2 := ⟨fun _ => rfl, by decide, fun x u hu => by simp [idV] at hu; rcases hu with rfl | rfl <;> rfl⟩
theorem kindI : Kind Tryd.prog 36 23 2 16 := kind_of Tryd.underlying36 (z := .agg #[.int .i64 0, .int .i64 0]) (by kernel_rfl) rfl
/-- ids are compared number by number -/
theorem run_eqI (w : World) (a b c d : Int) : (Op.equalIn 10000 23 (.agg #[.int .i64 a, .int .i64 b]) (.agg #[.int .i64 c, .int .i64 d])).run Tryd.prog w = .ok (a == c && b == d) w := by
  show (Op.equalIn (9998 + 1 + 1) _ _ _).run _ _ = _
  rw [Op.equalIn]
  simp only [Sem.run_bind, run_underlying Tryd.underlying23, Result.andThen_ok, Tryd.sizeOf3]
  simp [List.range', part, Tryd.isAgg3, Tryd.sizeOf3, run_equalIn_int w _ _ _ _ _ _ Tryd.underlying3, Sem.run_bind, Result.andThen_ok, Sem.run_ite]
  by_cases h1 : a = c <;> by_cases h2 : b = d <;> simp [h1, h2]
theorem run_equalIn_func_nil {P : Program} (w : World) (d : Nat) (t : TypeId) (ps rs : Array TypeId) (vr : Bool) (f : Fn) (x y : Array Value) (h : P.underlying t = some (.func ps rs vr)) :
    (Op.equalIn (d + 1) t (.func f x y) .nilFunc).run P w = .ok false w := by
  simp [Op.equalIn, run_underlying h]
theorem run_eql_func_nil {P : Program} (w : World) (t : TypeId) (ps rs : Array TypeId) (vr : Bool) (f : Fn) (x y : Array Value) (h : P.underlying t = some (.func ps rs vr)) :
    (binOp .eql t (.func f x y) .nilFunc).run P w = .ok (.bool false) w := by
  simp only [binOp]
  simp [Op.equal, Op.maxDepth, run_equalIn_func_nil w 9999 t ps rs vr f x y h]
theorem run_eql_nil_nil {P : Program} (w : World) (t : TypeId) (ps rs : Array TypeId) (vr : Bool) (h : P.underlying t = some (.func ps rs vr)) :
    (binOp .eql t .nilFunc .nilFunc).run P w = .ok (.bool true) w := by
  have e : (Op.equalIn (9999 + 1) t .nilFunc .nilFunc).run P w = .ok true w := by rw [Op.equalIn]; simp [run_underlying h]
  simp only [binOp]
  simp [Op.equal, Op.maxDepth, e]

theorem setCell_self {W : World} {b i : Nat} {v : Value} (h : W.cell? ⟨b, i, none⟩ = some v) : W.setCell ⟨b, i, none⟩ v = W := by
  unfold World.setCell
  unfold World.cell? at h
  obtain ⟨heap, t, d, os, out⟩ := W
  simp only at *
  congr 1
  refine Array.ext_getElem? fun k => ?_
  rw [Array.getElem?_modify]
  by_cases hk : b = k
  · subst hk
    rw [if_pos rfl]
    cases hb : heap[b]? with
    | none => rfl
    | some o =>
      rw [hb] at h
      cases o with
      | cells c T fr =>
        simp at h
        simp only [Option.map_some, Option.isSome_none]
        congr 2
        obtain ⟨hi, rfl⟩ := Array.getElem?_eq_some_iff.1 h
        simp
        refine Array.ext (by simp) fun j h1 h2 => ?_
        rw [Array.getElem_setIfInBounds]
        split
        · subst_vars; rfl
        · rfl
      | _ => rfl
  · rw [if_neg hk]
/-- All stands but block q, and what is new. -/
def Sav (q : Nat) (w w' : World) : Prop := Below 0 w w' ∧ ∀ g, g < w.heap.size → g ≠ q → w'.heap[g]? = w.heap[g]?
theorem Sav.refl (q : Nat) (w : World) : Sav q w w := ⟨Below.refl _ _, fun _ _ _ => rfl⟩
theorem Sav.alloc (q : Nat) (w : World) (o : Obj) : Sav q w (w.alloc o) := ⟨(Below.refl _ _).alloc (Nat.zero_le _) _, fun g hg _ => Below.heap_alloc w o g hg⟩
theorem Sav.set (q i : Nat) (w : World) (u : Value) : Sav q w (w.setCell ⟨q, i, none⟩ u) := ⟨(Below.refl _ _).setCell (Nat.zero_le _) _, fun g _ hk => Below.heap_setCell _ _ _ _ (by simp only; omega)⟩
theorem Sav.trans {q : Nat} {a b c : World} (h : Sav q a b) (k : Sav q b c) : Sav q a c := ⟨h.1.trans k.1, fun g hg hq => (k.2 g (Nat.lt_of_lt_of_le hg h.1.size) hq).trans (h.2 g hg hq)⟩
theorem Sav.size {q : Nat} {a b : World} (h : Sav q a b) : a.heap.size ≤ b.heap.size := h.1.size
theorem Sav.of_below {q : Nat} {a b : World} (h : Below a.heap.size a b) : Sav q a b := ⟨h.mono (Nat.zero_le _), fun g hg _ => h.block g hg⟩
/-- What lies below B stands, for q lies at or beyond it. -/
theorem Sav.below {q B : Nat} {a b : World} (h : Sav q a b) (hB : B ≤ q) (hs : B ≤ a.heap.size) : Below B a b := ⟨h.1.os, h.1.tape, h.1.output, h.1.size, fun g hg => h.2 g (by omega) (by omega)⟩
theorem Sav.block {q : Nat} {a b : World} (h : Sav q a b) {g : Nat} {o : Obj} (hg : a.heap[g]? = some o) (hq : g ≠ q) : b.heap[g]? = some o := (h.2 g (Array.getElem?_eq_some_iff.1 hg).1 hq).trans hg
/-- A row of one's own, at blocks other than q, stands. -/
theorem Sav.own {q : Nat} {a b : World} (h : Sav q a b) {α : Type} {f : α → List Value} {k : Nat} {T : TypeId} {B : Nat} {v : Value} {l : List α} (ho : OwnF f k T a B v l) (hq : q < B) : OwnF f k T b B v l := by
  refine ⟨ho.1, ?_⟩
  rcases ho.2 with h0 | ⟨g, cap, cur, e, h1, hh, rest⟩
  · exact .inl h0
  · exact .inr ⟨g, cap, cur, e, h1, h.block hh (by omega), rest⟩

set_option maxHeartbeats 2000000 in
theorem pick_nil (a : Option Addr) (n cap : Nat) (w : World) : Calls Tryd.prog 29 #[.slice a n cap, .nilFunc] w fun e w' => e = .returned (.tuple #[idA (0, 0), .int .i64 0, .int .i64 3]) ∧ Below w.heap.size w w' := by
  have HN : ∀ w : World, (binOp .eql 39 .nilFunc .nilFunc).run Tryd.prog w = .ok (.bool true) w := fun w => run_eql_nil_nil w _ _ _ _ Tryd.underlying39
  go_enter Tryd.func29, Tryd.ntmps29
  go_wp2_with fail
  refine bodyPost_ret (v := .tuple #[idA (0, 0), .int .i64 0, .int .i64 3]) (by simp [results, Tryd.results29, go_sem, idA]) rfl ?_
  exact ⟨rfl, (Below.refl _ _).alloc (Nat.le_refl _) _⟩

set_option maxHeartbeats 2000000 in
/-- Pick, handed a closure: it is asked from the last to the first, up to its first yes. J m W: all from m on have been asked. -/
theorem pick_any (k : Nat) (caps : Array Value) (a : Option Addr) (n cap : Nat) (l : List (Int × Int)) (w : World) (yes : Int × Int → Bool) (J : Nat → World → Prop) (hn : n ≤ 9223372036854775807) (hE : ∀ (args : Array Value) (w : World), (callFunc k args).run Tryd.prog w = .ok (.enter k args) w)
    (hJ : ∀ m W W', J m W → Sav w.heap.size W W' → J m W') (hR : ∀ m W, J m W → Rw idV 2 W a n cap l) (h0 : J n (w.alloc (.cells #[.int .i64 0, .int .i64 0] 23)))
    (hC : ∀ m x W, J (m + 1) W → l[m]? = some x → w.heap.size < W.heap.size → Calls Tryd.prog k (#[idA x] ++ caps) (W.alloc (.cells #[.int .i64 x.1, .int .i64 x.2] 23)) fun e W' => e = .returned (.bool (yes x)) ∧ J m W' ∧ W'.heap[w.heap.size]? = W.heap[w.heap.size]? ∧ W'.heap[W.heap.size]? = some (.cells #[.int .i64 x.1, .int .i64 x.2] 23)) :
    Calls Tryd.prog 29 #[.slice a n cap, .func (.func k) #[] caps] w fun e w' =>
      (∃ (at_ : Nat) (x : Int × Int), at_ < n ∧ l[at_]? = some x ∧ yes x = true ∧ (∀ (j : Nat) (y : Int × Int), at_ < j → l[j]? = some y → yes y = false) ∧ e = .returned (.tuple #[idA x, .int .i64 at_, .int .i64 0]) ∧ J at_ w') ∨
      ((∀ (j : Nat) (y : Int × Int), l[j]? = some y → yes y = false) ∧ e = .returned (.tuple #[idA (0, 0), .int .i64 0, .int .i64 70]) ∧ J 0 w') := by
  have HN : ∀ w : World, (binOp .eql 39 (.func (.func k) #[] caps) .nilFunc).run Tryd.prog w = .ok (.bool false) w := fun w => run_eql_func_nil w _ _ _ _ _ _ _ Tryd.underlying39
  go_enter Tryd.func29, Tryd.ntmps29
  have hsz : ∀ (b : Nat), b = w.heap.size → (w.alloc (.cells #[.int .i64 0, .int .i64 0] 23)).heap[b]? = some (.cells #[.int .i64 0, .int .i64 0] 23) := fun b hb => by subst hb; exact heap_alloc_new _ _
  go_wp2_with fail
  go_loopw [7] (fun v wr => ∃ m : Nat, m ≤ n ∧ v = .int .i64 ((m : Int) - 1) ∧ J m wr ∧ (∀ (j : Nat) (y : Int × Int), m ≤ j → l[j]? = some y → yes y = false) ∧ wr.heap[w.heap.size]? = some (.cells #[.int .i64 0, .int .i64 0] 23)) (fun v _ => (RowKit.intOf v + 1).toNat)
  case atStart => exact ⟨n, Nat.le_refl _, by simp, h0, (fun j y hj hy => by rw [List.getElem?_eq_none (by have := (hR _ _ h0).len; omega)] at hy; cases hy), hsz _ rfl⟩
  case round =>
    obtain ⟨m, hm, rfl, hJm, hno, hq⟩ := hrel
    have hrw := hR _ _ hJm
    have c0 : wr.cell? ⟨w.heap.size, 0, none⟩ = some (.int .i64 0) := by rw [Lib.cell_of_heap hq]; rfl
    have c1 : wr.cell? ⟨w.heap.size, 1, none⟩ = some (.int .i64 0) := by rw [Lib.cell_of_heap hq]; rfl
    have hql := (Array.getElem?_eq_some_iff.1 hq).1
    have f0 := Lib.frozen_of_heap hq 0
    have f1 := Lib.frozen_of_heap hq 1
    clear h0 hsz
    cases m with
    | succ m =>
      obtain ⟨g, off, x, rfl, hg, hx, hcs⟩ := hrw.at m (by omega)
      have hi0 := hcs 0 _ rfl
      have hi1 := hcs 1 _ rfl
      simp only [Nat.add_zero] at hi0
      have hCx := hC m x _ hJm hx hql
      rw [idA] at hCx
      clear hcs hC
      have em : ((m + 1 : Nat) : Int) - 1 = m := by omega
      rw [em]
      go_wp2_with fail
      refine hCx.mono ?_
      rintro e W1 ⟨rfl, hJ1, hq1, hl1⟩
      rw [hq] at hq1
      have y0 : W1.cell? ⟨wr.heap.size, 0, none⟩ = some (.int .i64 x.1) := by rw [Lib.cell_of_heap hl1]; rfl
      have y1 : W1.cell? ⟨wr.heap.size, 1, none⟩ = some (.int .i64 x.2) := by rw [Lib.cell_of_heap hl1]; rfl
      have k0 : W1.cell? ⟨w.heap.size, 0, none⟩ = some (.int .i64 0) := by rw [Lib.cell_of_heap hq1]; rfl
      have k1 : W1.cell? ⟨w.heap.size, 1, none⟩ = some (.int .i64 0) := by rw [Lib.cell_of_heap hq1]; rfl
      have g0 := Lib.frozen_of_heap hq1 0
      have g1 := Lib.frozen_of_heap hq1 1
      cases hy : yes x with
      | true =>
        clear hi0 hi1 c0 c1 f0 f1
        go_wp2_with fail
        obtain ⟨r0, r1, hB⟩ : ((W1.setCell ⟨w.heap.size, 0, none⟩ (.int .i64 x.1)).setCell ⟨w.heap.size, 1, none⟩ (.int .i64 x.2)).cell? ⟨w.heap.size, 0, none⟩ = some (.int .i64 x.1) ∧ ((W1.setCell ⟨w.heap.size, 0, none⟩ (.int .i64 x.1)).setCell ⟨w.heap.size, 1, none⟩ (.int .i64 x.2)).cell? ⟨w.heap.size, 1, none⟩ = some (.int .i64 x.2) ∧ Sav w.heap.size W1 ((W1.setCell ⟨w.heap.size, 0, none⟩ (.int .i64 x.1)).setCell ⟨w.heap.size, 1, none⟩ (.int .i64 x.2)) := by
          have h0 := (heap_setCell_same _ w.heap.size 0 _ _ (.int .i64 x.1) hq1).trans (by simp; rfl)
          have h1 := (heap_setCell_same _ w.heap.size 1 _ _ (.int .i64 x.2) h0).trans (by simp; rfl)
          refine ⟨?_, ?_, (Sav.set _ _ _ _).trans (Sav.set _ _ _ _)⟩
          · rw [Lib.cell_of_heap h1]; rfl
          · rw [Lib.cell_of_heap h1]; rfl
        refine bodyPost_ret (v := .tuple #[idA x, .int .i64 m, .int .i64 0]) (by simp [results, Tryd.results29, go_sem, idA, r0, r1]) rfl ?_
        exact .inl ⟨m, x, by omega, hx, hy, hno, rfl, hJ _ _ _ hJ1 hB⟩
      | false =>
        clear hi0 hi1 c0 c1 f0 f1
        go_wp2_with fail
        go_roundw
        case rel => exact ⟨m, by omega, by go_num, hJ1, fun j y hj hjy => by
          rcases Nat.lt_or_ge m j with h | h
          · exact hno j y h hjy
          · obtain rfl : j = m := by omega
            rw [hx] at hjy; cases hjy; exact hy, hq1⟩
        case measure => simp [RowKit.intOf]
    | zero => 
      go_wp2_with fail
      have s0 : wr.setCell ⟨w.heap.size, 0, none⟩ (.int .i64 0) = wr := setCell_self c0
      have s1 : wr.setCell ⟨w.heap.size, 1, none⟩ (.int .i64 0) = wr := setCell_self c1
      rw [s0, s1]
      refine bodyPost_ret (v := .tuple #[idA (0, 0), .int .i64 0, .int .i64 70]) (by simp [results, Tryd.results29, go_sem, idA, c0, c1]) rfl ?_
      exact .inr ⟨fun j y hy => hno j y (Nat.zero_le _) hy, rfl, hJm⟩
end Go.Proofs.YtokkodkhkpgebaaDoor
