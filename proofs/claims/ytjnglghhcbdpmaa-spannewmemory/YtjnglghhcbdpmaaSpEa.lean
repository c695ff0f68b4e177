import Derived.Test.YtjnglghhcbdpmaaSpCp
import Derived.RangeFuncNested
import Derived.RangeFuncBound
import Derived.RangeFuncCalls
import Derived.RangeFuncLeaves
import Derived.Shelf.Abstract
import Derived.Shelf.RegionOpen
import Derived.OwnWalkIn
import Derived.TacticsInMore
import Derived.LoopNIn
import Derived.LoopIn
namespace Go.Proofs.Ytjnglghhcbdpmaa
open Go.RowKit Go.Lib Go.Shelf
set_option maxRecDepth 100000
attribute [local go_sem] Oper.semAt_some

/-- The places of a range, of a list. -/
def plOf (r : Int × Int) : List Int := (List.range (r.2 - r.1).toNat).map fun (k : Nat) => r.1 + (k : Int)
def allPl (l : List (Int × Int)) : List Int := l.flatMap plOf
theorem plOf_length (r : Int × Int) : (plOf r).length = (r.2 - r.1).toNat := by simp [plOf]
theorem plOf_take_succ (r : Int × Int) (m : Nat) (h : m < (r.2 - r.1).toNat) : (plOf r).take (m + 1) = (plOf r).take m ++ [r.1 + (m : Int)] := by
  have h' : m < (plOf r).length := by rw [plOf_length]; exact h
  rw [List.take_succ_eq_append_getElem h']
  simp [plOf]
theorem allPl_succ (l : List (Int × Int)) (k : Nat) (h : k < l.length) : allPl (l.take (k + 1)) = allPl (l.take k) ++ plOf (l.getD k (0, 0)) := by
  have e : l.take (k + 1) = l.take k ++ [l.getD k (0, 0)] := by
    rw [List.take_succ_eq_append_getElem h, List.getD_eq_getElem?_getD, List.getElem?_eq_getElem h]; rfl
  rw [e]; simp [allPl]
theorem allPl_pre (l : List (Int × Int)) (k : Nat) (h : k < l.length) (m : Nat) : allPl (l.take k) ++ (plOf (l.getD k (0, 0))).take m <+: allPl l := by
  have e : allPl l = allPl (l.take (k + 1)) ++ allPl (l.drop (k + 1)) := by
    conv => lhs; rw [← List.take_append_drop (k + 1) l]
    exact List.flatMap_append
  rw [e, allPl_succ l k h, List.append_assoc]
  exact (List.prefix_append_right_inj _).2 ((List.take_prefix _ _).trans (List.prefix_append _ _))

/-- Every block of ranges is kept. -/
def KeepsR (W W' : World) : Prop := ∀ (g : Nat) (cs : Array Value) (z : Nat × Nat), W.heap[g]? = some (.cells cs 39 z) → W'.heap[g]? = W.heap[g]?
theorem KeepsR.refl (W : World) : KeepsR W W := fun _ _ _ _ => rfl
theorem KeepsR.trans {A B C : World} (h : KeepsR A B) (k : KeepsR B C) : KeepsR A C := fun g cs z hg => (k g cs z ((h g cs z hg).trans hg)).trans (h g cs z hg)
theorem KeepsR.below {A B : World} (h : Below A.heap.size A B) : KeepsR A B := fun g _ _ hg => h.block g (Array.getElem?_eq_some_iff.1 hg).1
theorem KeepsR.grown {A B : World} {row : Option Nat} (h : A.grownBy B row) (hr : ∀ g cs z, A.heap[g]? = some (.cells cs 39 z) → some g ≠ row) : KeepsR A B := fun g cs z hg => h.block g (Array.getElem?_eq_some_iff.1 hg).1 (hr g cs z hg)
theorem keepsR_b {w : World} (W : World) (l : Nat) (o o' : Obj) (_ : w.heap.size ≤ l) (h : W.heap[l]? = some o) (hc : o.isCells = false) (_ : o.isWalk = false) : KeepsR W (W.putObj l o') :=
  KeepsR.grown (grownBy_putObj' W l o') (fun g cs z hg e => by cases e; rw [h] at hg; cases hg; simp [Obj.isCells] at hc)
theorem Own.keepR {w w' : World} {B : Nat} {v : Value} {l : List (Int × Int)} (h : Own w B v l) (hk : KeepsR w w') : Own w' B v l := by
  refine ⟨h.1, ?_⟩
  rcases h.2 with h0 | ⟨g, cap, cur, e, h1, hh, rest⟩
  · exact .inl h0
  · exact .inr ⟨g, cap, cur, e, h1, (hk g _ _ hh).trans hh, rest⟩

theorem cell_of_block {w : World} {b : Nat} {x y : Value} {t : TypeId} (h : w.heap[b]? = some (.cells #[x, y] t)) : w.cell? ⟨b, 1, none⟩ = some y := by
  simp [World.cell?, h]
set_option maxHeartbeats 2000000 in
/-- Each's closure: for every loop body that keeps the blocks of ranges. -/
theorem each1_in (F : Fence) (n : Nat) (hF : F.fn 38) (hro : F.round = none) (hn : 1 ≤ n) (lp Bs B : Nat) (a : Option Addr) (len cap : Nat) (l : List (Int × Int)) (hl : ∀ r ∈ l, 0 ≤ r.1 ∧ r.2 ≤ 1048576) (hlen : len ≤ 32768) (J Jx : List Int → World → Prop) (W : World)
    (hJ : AbidesFrom W.heap.size J)
    (hY : ∀ pre x W1, J pre W1 → pre.length < (allPl l).length → YieldAt F (n - 1) Try.prog lp #[.int .i64 x] W1 fun e W' =>
      (e = .returned (.bool true) ∧ J (pre ++ [x]) W' ∧ KeepsR W1 W') ∨ (e = .returned (.bool false) ∧ Jx (pre ++ [x]) W'))
    (hBs : W.cell? ⟨Bs, 0, none⟩ = some (.slice a len cap)) (hO : Own W B (.slice a len cap) l) (h0 : J [] W) :
    CallsIn F n Try.prog 38 #[.func (.yield lp) #[] #[], .pointer (some ⟨Bs, 0, none⟩)] W fun e W' => (∃ v, e = .returned v) ∧
      ((∃ ys, ys = allPl l ∧ J ys W') ∨ (∃ pre, pre <+: allPl l ∧ Jx pre W')) := by
  have hln := hO.rng.len
  refine callsIn_of_wp Try.func38 rfl hF ?_ hro
  simp only [Try.ntmps38, List.size_toArray, List.length_cons, List.length_nil, Nat.reduceAdd, Nat.reduceSub, Array.replicate_succ, Array.replicate_zero, List.push_toArray, List.append_toArray, List.nil_append, List.cons_append]
  gi_wp2
  gi_loopw [8] (fun i wr => ∃ k : Nat, k ≤ len ∧ i = .int .i64 k ∧ J (allPl (l.take k)) wr ∧ KeepsR W wr) (fun i _ => len - (intOf i).toNat)
  case atStart => exact ⟨0, Nat.zero_le _, rfl, by simpa [allPl] using h0, KeepsR.refl _⟩
  case round =>
    obtain ⟨k, hk, rfl, hJs, hnx⟩ := hrel
    have hO' := hO.keepR hnx
    by_cases hlt : k < len
    · obtain ⟨g, off, rfl, hg, hc, hd⟩ := hO'.rng.cells k hlt
      generalize hr : l.getD k (0, 0) = r at *
      have hmem : r ∈ l := by
        rw [← hr, List.getD_eq_getElem?_getD, List.getElem?_eq_getElem (by omega)]; exact List.getElem_mem _
      have hr1 := (hl r hmem).1
      have hr2 := (hl r hmem).2
      have hJa : J (allPl (l.take k)) (wr.alloc (Obj.cells #[Value.int IntKind.i64 r.1, Value.int IntKind.i64 r.2] 39)) := hJ _ _ _ none hJs (World.grownBy_alloc wr _ none) (fun r e => by cases e)
      have hnew : (wr.alloc (Obj.cells #[Value.int IntKind.i64 r.1, Value.int IntKind.i64 r.2] 39)).heap[wr.heap.size]? = some (.cells #[Value.int IntKind.i64 r.1, Value.int IntKind.i64 r.2] 39) := World.alloc_heap_new _ _
      have hKa : KeepsR wr (wr.alloc (Obj.cells #[Value.int IntKind.i64 r.1, Value.int IntKind.i64 r.2] 39)) := KeepsR.below ((Below.refl _ _).alloc (Nat.le_refl _) _)
      gi_wp2
      gi_loopw [5] (fun q wr2 => ∃ m : Nat, m ≤ (r.2 - r.1).toNat ∧ q = .int .i64 (r.1 + (m : Int)) ∧ J (allPl (l.take k) ++ (plOf r).take m) wr2 ∧ KeepsR (wr.alloc (Obj.cells #[Value.int IntKind.i64 r.1, Value.int IntKind.i64 r.2] 39)) wr2) (fun q _ => (r.2 - intOf q).toNat)
      case atStart => exact ⟨0, Nat.zero_le _, by simp, by simpa using hJa, KeepsR.refl _⟩
      case round =>
        obtain ⟨m, hm, rfl, hJm, hkm⟩ := hrel
        have hb2 := (hkm _ _ _ hnew).trans hnew
        have hcl := cell_of_block hb2
        by_cases hq : m < (r.2 - r.1).toNat
        · have htk : (plOf r).take m ++ [r.1 + (m : Int)] = (plOf r).take (m + 1) := (plOf_take_succ r m hq).symm
          have hpl : (allPl (l.take k) ++ (plOf r).take m).length < (allPl l).length := by
            have h1 := (hr ▸ allPl_pre l k (by omega) (m + 1)).length_le
            rw [← htk] at h1
            simp only [List.length_append, List.length_cons, List.length_nil] at h1 ⊢
            omega
          obtain ⟨fn, tmps, assign, body, hy, hR⟩ := hY _ (r.1 + (m : Int)) wr hJm hpl
          gi_wp2
          refine hR.mono ?_
          rintro e W3 (⟨rfl, hJ3, hk3⟩ | ⟨rfl, hJx3⟩)
          · gi_wp2
            go_roundw
            case rel => exact ⟨m + 1, by omega, by go_num, by rw [← htk, ← List.append_assoc]; exact hJ3, hkm.trans hk3⟩
            case measure => simp [intOf]; omega
          · gi_wp2
            refine bodyPost_ret (results_none rfl _ _ _) rfl ?_
            exact ⟨⟨_, rfl⟩, .inr ⟨_, by rw [List.append_assoc, htk]; exact hr ▸ allPl_pre l k (by omega) (m + 1), hJx3⟩⟩
        · have hme : m = (r.2 - r.1).toNat := by omega
          gi_wp2
          refine ⟨⟨k + 1, by omega, by go_num, ?_, hnx.trans (hKa.trans hkm)⟩, by simp [intOf]; omega⟩
          rw [allPl_succ l k (by omega), hr]
          have : (plOf r).take m = plOf r := List.take_of_length_le (by rw [plOf_length]; omega)
          rw [this] at hJm
          exact hJm
    · obtain rfl : k = len := by omega
      gi_wp2
      go_end0
      exact ⟨⟨_, rfl⟩, .inl ⟨_, by rw [← hln, List.take_length], hJs⟩⟩

theorem Own.setBox {w : World} {B b : Nat} {v u : Value} {l : List (Int × Int)} (h : Own w B v l) (hb : b < B) : Own (w.setCell ⟨b, 0, none⟩ u) B v l := by
  refine ⟨h.1, ?_⟩
  rcases h.2 with h0 | ⟨g, cap, cur, e, h1, hh, rest⟩
  · exact .inl h0
  · exact .inr ⟨g, cap, cur, e, h1, (Below.heap_setCell _ _ _ _ (by simp; omega)).trans hh, rest⟩
/-- What an iterator holds. -/
def heldL (l : List (Int × Int)) : List (Int × Int) := if (checkL l).2 = 0 then l else []
theorem heldL_ok {l : List (Int × Int)} (h : Lst l) : heldL l = l := by unfold heldL; rw [h.check, if_pos rfl]
theorem heldL_not {l : List (Int × Int)} (h : (checkL l).2 ≠ 0) : heldL l = [] := by unfold heldL; rw [if_neg h]
theorem heldL_in (l : List (Int × Int)) : (∀ r ∈ heldL l, 0 ≤ r.1 ∧ r.2 ≤ 1048576) ∧ (heldL l).length ≤ 32768 := by
  by_cases h : (checkL l).2 = 0
  · have hl := checkL_ok h
    rw [heldL_ok hl]
    exact ⟨fun r hr => ⟨(hl.nonneg r hr).1, (hl.nonneg r hr).2.2⟩, hl.few⟩
  · rw [heldL_not h]
    exact ⟨fun r hr => (by cases hr), by simp⟩
set_option maxHeartbeats 2000000 in
theorem each_any {w : World} {a : Option Addr} {n cap : Nat} {l : List (Int × Int)} (h : Rng w a n cap l) :
    Calls Try.prog 26 #[.slice a n cap] w fun e w' => ∃ a' n' cap', e = .returned (.func (.func 38) #[] #[.pointer (some ⟨w.heap.size, 0, none⟩)]) ∧
      w'.cell? ⟨w.heap.size, 0, none⟩ = some (.slice a' n' cap') ∧ w.heap.size < w'.heap.size ∧ Own w' (w.heap.size + 1) (.slice a' n' cap') (heldL l) ∧ Below w.heap.size w w' := by
  have hA := h.below (((Below.refl _ w).alloc (Nat.le_refl _) (.cells #[.slice none 0 0] 22)))
  have HA := check_any hA
  have hlen := h.len
  rcases checkL_codes l with hl | ⟨i, c, hc, hcc⟩
  · rw [hl.check] at HA
    rw [heldL_ok hl]
    have hfew := hl.few
    simp only at HA
    clear h hl
    go_enter Try.func26, Try.ntmps26
    go_wp2_with fail
    refine HA.mono ?_
    rintro e w1 ⟨rfl, hb1⟩
    go_wp2_with fail
    refine (spanCopied_any (hA.below hb1) (by omega)).mono ?_
    rintro e w2 ⟨g, rfl, ho2, hg1, hg2, hb2⟩
    clear HA
    have hs1 := hb1.size
    have hs2 := hb2.size
    simp only [World.size_alloc] at hs1
    have bx0 : Boxed (w.alloc (.cells #[.slice none 0 0] 22)) w.heap.size 22 (.slice none 0 0) := Boxed.new w _ _
    have bx1 : Boxed w1 w.heap.size 22 (.slice none 0 0) := (hb1.block _ (by simp)).trans bx0
    have bx2 : Boxed w2 w.heap.size 22 (.slice none 0 0) := (hb2.block _ (by omega)).trans bx1
    have hc2 := bx2.cell
    have hf2 := bx2.frozen
    have hB2 : Below w.heap.size w w2 := ((Below.refl _ w).alloc (Nat.le_refl _) _).trans ((hb1.mono (by simp)).trans (hb2.mono (by omega)))
    clear hb1 hb2 bx0 bx1 hA
    go_wp2_with fail
    go_ret
    have bx3 := bx2.set (.slice (some ⟨g, 0, none⟩) n n)
    refine ⟨some ⟨g, 0, none⟩, n, n, rfl, bx3.cell, by simp; omega, ?_, hB2.setCell (p := ⟨w.heap.size, 0, none⟩) (Nat.le_refl _) _⟩
    exact (ho2.mono (by omega)).setBox (by omega)
  · rw [hc] at HA
    rw [heldL_not (by rw [hc]; rcases hcc with rfl | rfl | rfl <;> simp)]
    simp only at HA
    have hcn : ¬ c = 0 := by rcases hcc with rfl | rfl | rfl <;> simp
    have hd : decide (c = 0) = false := decide_eq_false hcn
    clear h
    go_enter Try.func26, Try.ntmps26
    go_wp2_with fail
    refine HA.mono ?_
    rintro e w1 ⟨rfl, hb1⟩
    have hs1 := hb1.size
    simp only [World.size_alloc] at hs1
    have bx0 : Boxed (w.alloc (.cells #[.slice none 0 0] 22)) w.heap.size 22 (.slice none 0 0) := Boxed.new w _ _
    have bx1 : Boxed w1 w.heap.size 22 (.slice none 0 0) := (hb1.block _ (by simp)).trans bx0
    have hB1 : Below w.heap.size w w1 := ((Below.refl _ w).alloc (Nat.le_refl _) _).trans (hb1.mono (by simp))
    clear hb1 bx0 hA HA
    go_wp2_with fail
    all_goals try omega
    go_ret
    exact ⟨none, 0, 0, rfl, bx1.cell, by omega, own_nil _ _, hB1⟩
end Go.Proofs.Ytjnglghhcbdpmaa
