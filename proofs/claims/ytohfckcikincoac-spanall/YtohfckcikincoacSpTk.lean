import Derived.Test.YtohfckcikincoacSpEa
import Derived.Test.YtohfckcikincoacSpInt
import Derived.RangeFuncBox
import Derived.Maps.AppendAt
namespace Go.Proofs.Ytohfckcikincoac
open Go.RowKit Go.Lib Go.Shelf
set_option maxRecDepth 100000
attribute [local go_sem] Oper.semAt_some

/-- A number that is appended to a row in a box keeps the blocks of ranges. -/
theorem keepsR_app {W w1 : World} {n₀ Bo k : Nat} {v u v' : Value} {xs : List Value} {tmp : Obj} (hrow : W.ownsRow n₀ 3 1 v k xs) (hbx : Boxed w1 Bo 62 u) (hgrow : (W.alloc tmp).grownBy w1 v.ownBlock) :
    KeepsR W (w1.setCell ⟨Bo, 0, none⟩ v') := by
  refine (KeepsR.below ((Below.refl _ W).alloc (Nat.le_refl _) tmp)).trans ((KeepsR.grown hgrow (fun g cs z hg e => ?_)).trans (fun g cs z hg => Below.heap_setCell _ _ _ _ (fun e => ?_)))
  · rcases (hrow.alloc tmp).2 with ⟨rfl, _⟩ | ⟨g', cap, cur, rfl, _, hgb, _⟩
    · simp [Value.ownBlock] at e
    · obtain rfl : g = g' := by simpa [Value.ownBlock] using e
      rw [hg] at hgb
      simp at hgb
  · simp only at e
    subst e
    rw [show w1.heap[g]? = _ from hbx] at hg
    simp at hg

theorem boxK {W w1 : World} {n₀ b k : Nat} {t : TypeId} {u v : Value} {xs : List Value} {tmp : Obj} (h : Boxed W b t u) (hrow : W.ownsRow n₀ 3 1 v k xs) (hgrow : (W.alloc tmp).grownBy w1 v.ownBlock) (hb : b + 1 ≤ n₀) : Boxed w1 b t u :=
  (h.alloc tmp).kept hgrow (fun e => by have := (World.ownsRow.lt hrow b e.symm).1; omega)
theorem run_equalIn_func_nil {P : Program} (w : World) (d : Nat) (t : TypeId) (ps rs : Array TypeId) (vr : Bool) (f : Fn) (x y : Array Value) (h : P.underlying t = some (.func ps rs vr)) :
    (Op.equalIn (d + 1) t (.func f x y) .nilFunc).run P w = .ok false w := by
  simp [Op.equalIn, run_underlying h]
theorem run_eql_func_nil {P : Program} (w : World) (t : TypeId) (ps rs : Array TypeId) (vr : Bool) (f : Fn) (x y : Array Value) (h : P.underlying t = some (.func ps rs vr)) :
    (binOp .eql t (.func f x y) .nilFunc).run P w = .ok (.bool false) w := by
  simp only [binOp]
  simp [Op.equal, Op.maxDepth, run_equalIn_func_nil w 9999 t ps rs vr f x y h]
/-- The iterator that Each has handed out: its contract. -/
theorem each_stops (n : Nat) (hn : 1 ≤ n) (Bs B : Nat) (a : Option Addr) (len cap : Nat) (l : List (Int × Int)) (w : World) (hBs : Bs < w.heap.size) (hc : w.cell? ⟨Bs, 0, none⟩ = some (.slice a len cap)) (hO : Own w B (.slice a len cap) (heldL l)) :
    SeqStopsK Fence.wide n Try.prog 63 #[.pointer (some ⟨Bs, 0, none⟩)] (fun x : Int => #[Value.int .i64 x]) KeepsR (fun ys => ys = allPl (heldL l)) (fun pre => pre <+: allPl (heldL l)) (allPl (heldL l)).length w := fun lp J Jx W hW hJ _ hY h0 =>
  each1_in Fence.wide n trivial rfl hn lp Bs B a len cap (heldL l) (heldL_in l).1 (by have := (heldL_in l).2; have := hO.rng.len; omega) J Jx W hJ hY ((hW.cell (p := ⟨Bs, 0, none⟩) hBs).trans hc) (hO.below hW) h0

set_option maxHeartbeats 4000000 in
theorem lawTaken_any {w : World} {a : Option Addr} {n cap : Nat} {l : List (Int × Int)} (h : Rng w a n cap l) (k : Int) (hk : k ≤ 300) :
    Calls Try.prog 43 #[.slice a n cap, .int .i64 k] w fun e w' => ∃ v, e = .returned (.tuple #[v, .bool true]) ∧ OwnI w' w.heap.size v ((allPl (heldL l)).take k.toNat) ∧ Below w.heap.size w w' := by
  obtain ⟨i0, hi, hz0, hz1, hz2⟩ := info_parts intInfo
  have qf : ∀ (w : World) (f : Fn) (x y : Array Value), (binOp .eql 73 (.func f x y) .nilFunc).run Try.prog w = .ok (.bool false) w := fun w f x y => run_eql_func_nil w _ _ _ _ f x y Try.underlying73
  refine (callsIn_wide (n := 6)).1 ?_
  have hB0 : Below w.heap.size w ((w.alloc (.cells #[.int .i64 k] 3)).alloc (.cells #[.slice none 0 0] 62)) := ((Below.refl _ w).alloc (Nat.le_refl _) _).alloc (by simp) _
  have hE := each_any (h.below hB0)
  have bK := (Boxed.new w 3 (.int .i64 k)).alloc (.cells #[.slice none 0 0] 62)
  have bO := Boxed.new (w.alloc (.cells #[.int .i64 k] 3)) 62 (.slice none 0 0)
  have hsz : ((w.alloc (.cells #[.int .i64 k] 3)).alloc (.cells #[.slice none 0 0] 62)).heap.size = w.heap.size + 2 := by simp
  rw [World.size_alloc] at bO
  rw [hsz] at hE
  clear h
  refine callsIn_of_wp_marks Try.func43 rfl trivial ?_ rfl
  simp only [Try.ntmps43, List.size_toArray, List.length_cons, List.length_nil, Nat.reduceAdd, Nat.reduceSub, Array.replicate_succ, Array.replicate_zero, List.push_toArray, List.append_toArray, List.nil_append, List.cons_append]
  gi_wp2
  refine ⟨trivial, (callsIn_wide.2 hE).mono ?_⟩
  rintro e w3 ⟨a3, n3, cap3, rfl, hc3, hs3, hO3, hb3⟩
  have bK3 : Boxed w3 w.heap.size 3 (.int .i64 k) := (hb3.block _ (by omega)).trans bK
  have bO3 : Boxed w3 (w.heap.size + 1) 62 (.slice none 0 0) := (hb3.block _ (by omega)).trans bO
  have hB3 : Below w.heap.size w w3 := hB0.trans (hb3.mono (by omega))
  have hck := bK3.cell
  have hco := bO3.cell
  clear hE bK bO hb3 hB0
  by_cases hk0 : k ≤ 0
  · gi_wp2
    exact ⟨_, results_tmp2 rfl _ _ _, _, rfl, by rw [show k.toNat = 0 by omega]; exact ownI_nil _ _, hB3⟩
  · gi_wp2
    refine wpIn_rangeFunc_ownG rfl (by decide) (gf := 63) (lb := #[.pointer (some ⟨w.heap.size + 2, 0, none⟩)]) rfl trivial (enters_of Try.func63 (by kernel_rfl) rfl)
      (each_stops 5 (by decide) (w.heap.size + 2) (w.heap.size + 3) a3 n3 cap3 l w3 hs3 hc3 hO3) KeepsR.trans keepsR_b (Below.refl _ _) (fun _ => rfl)
      (fun (pre : List Int) W => (∃ v, Boxed W (w.heap.size + 1) 62 v ∧ W.ownsRow (w.heap.size + 1) 3 1 v pre.length (pre.map (Value.int .i64)) ∧ True) ∧ Boxed W w.heap.size 3 (.int .i64 k) ∧ Below w.heap.size w W ∧ (pre.length : Int) < k)
      (fun c (pre : List Int) W => (c = .exit 0 ∧ (pre.length : Int) = k) ∧ (∃ v, Boxed W (w.heap.size + 1) 62 v ∧ W.ownsRow (w.heap.size + 1) 3 1 v pre.length (pre.map (Value.int .i64)) ∧ True) ∧ Below w.heap.size w W)
      (OwnFrom.and (Go.Own.from (holdsRow_own (w.heap.size + 1) (w.heap.size + 1) 62 3 1 (fun (pre : List Int) => pre.length) (fun pre => pre.map (Value.int .i64)) (fun _ _ => True)) _) (OwnFrom.and (Go.Own.from (boxed_own _ _ (fun _ => .int .i64 k)) _) (OwnFrom.and (ownFrom_below (Nat.le_refl _) hB3.size) (ownFrom_pure _ _))))
      (fun c => OwnFrom.and (ownFrom_pure _ _) (OwnFrom.and (Go.Own.from (holdsRow_own (w.heap.size + 1) (w.heap.size + 1) 62 3 1 (fun (pre : List Int) => pre.length) (fun pre => pre.map (Value.int .i64)) (fun _ _ => True)) _) (ownFrom_below (Nat.le_refl _) hB3.size)))
      ⟨⟨_, bO3, World.ownsRow_nil _ _ _ _, trivial⟩, bK3, hB3, by simp; omega⟩
      (fun x => { tmps := #[Value.slice a n cap, Value.int IntKind.i64 k, undef, Value.pointer (some { block := w.heap.size, off := 0 }),
          Value.slice none 0 0, Value.bool false, Value.pointer (some { block := w.heap.size + 1, off := 0 }),
          Value.func (Fn.func 63) #[] #[Value.pointer (some { block := w.heap.size + 2, off := 0 })], .int .i64 x,
          Value.slice a n cap,
          Value.func (Fn.func 63) #[] #[Value.pointer (some { block := w.heap.size + 2, off := 0 })],
          Value.func (Fn.func 63) #[] #[Value.pointer (some { block := w.heap.size + 2, off := 0 })], Value.bool false,
          undef, Value.int IntKind.i64 k, Value.bool (decide (k ≤ 0)), undef,
          Value.func (Fn.func 63) #[] #[Value.pointer (some { block := w.heap.size + 2, off := 0 })], .int .i64 x, undef,
          undef, undef, undef, undef, undef, undef, undef, undef], defers := [] }) ?assign ?body ?done ?stop
    case assign =>
      intro lp x W K hK
      gi_wp2
      exact hK
    case body =>
      rintro lp pre x W ⟨⟨v, hv, hrow, _⟩, hK, hB, hlt⟩ hN
      have hc := hv.cell
      have hck := hK.cell
      have hBs := hB.size
      have hvl := hv.lt
      gi_wp2_with (gi_at_builtin; refine wpListIn_append_own _ rfl _ _ 62 rfl (w.heap.size + 1) 3 i0 (.int .i64 0) 1 8 Try.underlying62 hi hz0 hz1 hz2 rfl (by decide) _ _ _ rfl (hrow.alloc _) ⟨W.heap.size, 0, none⟩ 1 1 [.int .i64 x] rfl rfl (cell_one_new _ _ _) (by simp [Value.oneCell']) (by simp only [maxLen]; omega) (by omega) (by simp; omega) ?_; intro v' w1 hown' hgrow _; obtain ⟨g', cap', rfl⟩ := ownsRow_succ hown'; obtain ⟨hv1, hv2, hr2, hk2, hb2⟩ := hv.appended (by decide) hrow (by omega) (Nat.le_refl _) hown' hgrow; have hc1 := hv1.cell; have hf1 := hv1.frozen; have hkr := keepsR_app (v' := .slice (some ⟨g', 0, none⟩) (pre.length + 1) cap') hrow hv1 hgrow; have hK1 := boxK hK hrow hgrow (Nat.le_refl _); have hc1k := hK1.cell)
      · have hge : k ≤ (pre.length : Int) + 1 := by assumption
        exact ⟨hk2.from _, ⟨⟨rfl, by simp; omega⟩, ⟨_, hv2, by simpa using hr2, trivial⟩, hB.trans (hb2.mono (by omega))⟩⟩
      · have hge : (pre.length : Int) + 1 < k := by assumption
        exact ⟨hk2.from _, hkr, ⟨_, hv2, by simpa using hr2, trivial⟩, hK1.other (by omega) _, hB.trans (hb2.mono (by omega)), by simp; omega⟩
    case done =>
      rintro D ys W hD rfl ⟨⟨v, hv, hrow, _⟩, hK, hB, hlt⟩ hKd
      have hc := hv.cell
      gi_wp2
      refine ⟨by simp, .inl ⟨_, _, rfl, run_takeDeferred hKd, ?_⟩⟩
      refine ⟨_, results_tmp2 rfl _ _ _, v, rfl, ?_, hB.trans (belowK_b (w := w) (Nat.le_refl _) W D _ _ (by have := hB3.size; omega) hKd rfl rfl)⟩
      rw [List.take_of_length_le (by omega)]
      exact OwnI.mono (B := w.heap.size + 1) (ownsRow_putObj hrow _ hKd rfl) (by omega)
    case stop =>
      rintro D c pre W hD hSp ⟨⟨rfl, hlen⟩, ⟨v, hv, hrow, _⟩, hB⟩ hKd
      have hc := hv.cell
      gi_wp2
      refine ⟨by simp, .inl ⟨_, _, rfl, run_takeDeferred hKd, ?_⟩⟩
      refine ⟨_, results_tmp2 rfl _ _ _, v, rfl, ?_, hB.trans (belowK_b (w := w) (Nat.le_refl _) W D _ _ (by have := hB3.size; omega) hKd rfl rfl)⟩
      rw [show k.toNat = pre.length by omega, ← List.prefix_iff_eq_take.1 hSp]
      exact OwnI.mono (B := w.heap.size + 1) (ownsRow_putObj hrow _ hKd rfl) (by omega)
end Go.Proofs.Ytohfckcikincoac
