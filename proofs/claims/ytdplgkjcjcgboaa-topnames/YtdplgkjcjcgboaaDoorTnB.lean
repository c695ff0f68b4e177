import Derived.Test.YtdplgkjcjcgboaaDoorTnA
/-! errors.as and errors.As over two Faults around an Errno. -/
namespace Go.Proofs.YtdplgkjcjcgboaaDoor
open Go.RowKit Go.Extern.Stop Go.Stop Go.Extern Go.Lib
set_option maxRecDepth 100000

/-- Two Faults around an Errno. -/
structure Two2 (w : World) (p p2 : Nat) (n : Int) : Prop where
  one : ∃ v0 v1, w.heap[p]? = some (.cells #[v0, v1, .iface 23 (.pointer (some ⟨p2, 0, none⟩))] 28)
  two : ∃ v0 v1, w.heap[p2]? = some (.cells #[v0, v1, .iface 24 (.int .i64 n)] 28)
theorem Two2.below {w w' : World} {p p2 : Nat} {n : Int} (h : Two2 w p p2 n) (hb : Below w.heap.size w w') : Two2 w' p p2 n := by
  obtain ⟨⟨a, b, h1⟩, ⟨c, d, h2⟩⟩ := h
  exact ⟨⟨a, b, (hb.block _ (Array.getElem?_eq_some_iff.1 h1).1).trans h1⟩, ⟨c, d, (hb.block _ (Array.getElem?_eq_some_iff.1 h2).1).trans h2⟩⟩

set_option maxHeartbeats 4000000 in
theorem as2 {p p2 : Nat} {n : Int} {w : World} (H : Two2 w p p2 n) (t : Addr) (a : Nat) (old : Value) (ha : w.heap[a]? = some (.cells #[.pointer (some t)] 33)) (ht : w.cell? t = some old) (hf : w.frozen? t = false) :
    Calls Tryd.prog 20 #[.iface 23 (.pointer (some ⟨p, 0, none⟩)), .iface 33 (.pointer (some t)), .agg #[.pointer (some ⟨4, 33, none⟩), .pointer (some ⟨a, 0, none⟩), .int .u64 150], .iface 48 (.agg #[.pointer (some ⟨4, 24, none⟩)])] w fun e w' => e = .returned (.bool true) ∧ ∃ W0, Below w.heap.size w W0 ∧ w' = W0.setCell t (.int .i64 n) := by
  obtain ⟨w1, hw1⟩ : ∃ w1, w.alloc (.cells #[.pointer (some ⟨4, 33, none⟩), .pointer (some ⟨a, 0, none⟩), .int .u64 150] 38) = w1 := ⟨_, rfl⟩
  have k1 : Below w.heap.size w w1 := by rw [← hw1]; exact (Below.refl _ _).alloc (Nat.le_refl _) _
  have hq : w1.heap[w.heap.size]? = some (.cells #[.pointer (some ⟨4, 33, none⟩), .pointer (some ⟨a, 0, none⟩), .int .u64 150] 38) := by rw [← hw1]; exact heap_alloc_new _ _
  obtain ⟨w2, hw2⟩ : ∃ w2, w1.alloc (.cells #[.int .i64 n] 24) = w2 := ⟨_, rfl⟩
  have k2 : Below w1.heap.size w1 w2 := by rw [← hw2]; exact (Below.refl _ _).alloc (Nat.le_refl _) _
  have hv : w2.heap[w1.heap.size]? = some (.cells #[.int .i64 n] 24) := by rw [← hw2]; exact heap_alloc_new _ _
  obtain ⟨⟨a1, b1, h1⟩, ⟨c1, d1, h2⟩⟩ := H.below k1
  have ha1 := (k1.block _ (Array.getElem?_eq_some_iff.1 ha).1).trans ha
  have htl : t.block < w.heap.size := by
    rcases Nat.lt_or_ge t.block w.heap.size with h | h
    · exact h
    · simp [World.cell?, Array.getElem?_eq_none h] at ht
  have k12 : Below w.heap.size w w2 := k1.trans (k2.mono k1.size)
  have ht2 : w2.cell? t = some old := (k12.cell htl).trans ht
  have hf2 : w2.frozen? t = false := by
    unfold World.frozen? at hf ⊢
    rw [k12.block _ htl]
    exact hf
  have ev := elemVT ⟨a, 0, none⟩ t w1 (by rw [Lib.cell_of_heap ha1]; rfl)
  have st := setE t ⟨w1.heap.size, 0, none⟩ n old w2 (by rw [Lib.cell_of_heap hv]; rfl) ht2 hf2
  have u1 := unwrap_any p _ _ _ _ w1 h1
  have u2 := unwrap_any p2 _ _ _ _ w1 h2
  have v0 : w1.cell? ⟨w.heap.size, 0, none⟩ = some (.pointer (some ⟨4, 33, none⟩)) := by rw [Lib.cell_of_heap hq]; rfl
  have v1 : w1.cell? ⟨w.heap.size, 1, none⟩ = some (.pointer (some ⟨a, 0, none⟩)) := by rw [Lib.cell_of_heap hq]; rfl
  have v2 : w1.cell? ⟨w.heap.size, 2, none⟩ = some (.int .u64 150) := by rw [Lib.cell_of_heap hq]; rfl
  have h17 := @run_callFunc_extern Tryd.prog 17 _ (fun args => ReflectliteValue.unpack (args.getD 0 (.tuple #[]))) Tryd.func17 (by kernel_rfl) (by kernel_rfl) (by kernel_rfl) (by kernel_rfl)
  have h22 := @run_callFunc_extern Tryd.prog 22 _ ReflectliteType.typeOf Tryd.func22 (by kernel_rfl) (by kernel_rfl) (by kernel_rfl) (by kernel_rfl)
  have h23 := @run_callFunc_extern Tryd.prog 23 _ (ReflectliteValue.method (ReflectliteValue.valueError "reflectlite.Value.Elem" 0) ReflectliteValue.elem) Tryd.func23 (by kernel_rfl) (by kernel_rfl) (by kernel_rfl) (by kernel_rfl)
  have h24 := @run_callFunc_extern Tryd.prog 24 _ ReflectliteValue.set Tryd.func24 (by kernel_rfl) (by kernel_rfl) (by kernel_rfl) (by kernel_rfl)
  have h58 := @run_callFunc_extern Tryd.prog 58 _ (ReflectliteType.relation "AssignableTo" ReflectliteType.assignableTo) Tryd.func58 (by kernel_rfl) (by kernel_rfl) (by kernel_rfl) (by kernel_rfl)
  have tE := typeOfE
  have tF := typeOfF
  have aE := assignableE
  have aF := assignableF
  have mA := methodAssignableTo
  have mU := methodUnwrap
  have vE := valueOfE
  have nA := noAs
  have hU := hasUnwrap
  clear H hq ha ha1 ht hf hv h1 h2
  go_enter Tryd.func20, Tryd.ntmps20
  go_wp2
  refine wp_loop_rounds 3 ?_
  rw [rounds_succ]
  go_wp2_with (go_at_call 14; refine u1.mono ?_; rintro e w' ⟨rfl, rfl⟩)
  rw [rounds_succ]
  go_wp2_with (go_at_call 14; refine u2.mono ?_; rintro e w' ⟨rfl, rfl⟩)
  rw [rounds_succ]
  go_wp2
  go_ret
  exact ⟨rfl, w2, k12, rfl⟩

set_option maxHeartbeats 4000000 in
theorem As2 {p p2 : Nat} {n : Int} {w : World} (H : Two2 w p p2 n) (t : Addr) (old : Value) (hg : w.cell? ⟨0, 0, none⟩ = some (.iface 48 (.agg #[.pointer (some ⟨4, 26, none⟩)]))) (ht : w.cell? t = some old) (hf : w.frozen? t = false) :
    Calls Tryd.prog 15 #[.iface 23 (.pointer (some ⟨p, 0, none⟩)), .iface 33 (.pointer (some t))] w fun e w' => e = .returned (.bool true) ∧ ∃ W0, Below w.heap.size w W0 ∧ w' = W0.setCell t (.int .i64 n) := by
  obtain ⟨w1, hw1⟩ : ∃ w1, w.alloc (.cells #[.pointer (some t)] 33) = w1 := ⟨_, rfl⟩
  have k1 : Below w.heap.size w w1 := by rw [← hw1]; exact (Below.refl _ _).alloc (Nat.le_refl _) _
  have ha1 : w1.heap[w.heap.size]? = some (.cells #[.pointer (some t)] 33) := by rw [← hw1]; exact heap_alloc_new _ _
  obtain ⟨w2, hw2⟩ : ∃ w2, w1.alloc (.cells #[.pointer (some ⟨4, 33, none⟩), .pointer (some ⟨w.heap.size, 0, none⟩), .int .u64 150] 38) = w2 := ⟨_, rfl⟩
  have k2 : Below w1.heap.size w1 w2 := by rw [← hw2]; exact (Below.refl _ _).alloc (Nat.le_refl _) _
  have hq : w2.heap[w1.heap.size]? = some (.cells #[.pointer (some ⟨4, 33, none⟩), .pointer (some ⟨w.heap.size, 0, none⟩), .int .u64 150] 38) := by rw [← hw2]; exact heap_alloc_new _ _
  have htl : t.block < w.heap.size := by
    rcases Nat.lt_or_ge t.block w.heap.size with h | h
    · exact h
    · simp [World.cell?, Array.getElem?_eq_none h] at ht
  have hgl : 0 < w.heap.size := by
    rcases Nat.lt_or_ge 0 w.heap.size with h | h
    · exact h
    · simp [World.cell?, Array.getElem?_eq_none h] at hg
  have k12 : Below w.heap.size w w2 := k1.trans (k2.mono k1.size)
  have ht2 : w2.cell? t = some old := (k12.cell htl).trans ht
  have hf2 : w2.frozen? t = false := by
    unfold World.frozen? at hf ⊢
    rw [k12.block _ htl]
    exact hf
  have hg2 : w2.cell? ⟨0, 0, none⟩ = some (.iface 48 (.agg #[.pointer (some ⟨4, 26, none⟩)])) := (k12.cell (p := ⟨0, 0, none⟩) hgl).trans hg
  have ha2 := (k2.block _ (Array.getElem?_eq_some_iff.1 ha1).1).trans ha1
  have HS := as2 (H.below k12) t w.heap.size old ha2 ht2 hf2
  have v0 : w2.cell? ⟨w1.heap.size, 0, none⟩ = some (.pointer (some ⟨4, 33, none⟩)) := by rw [Lib.cell_of_heap hq]; rfl
  have v1 : w2.cell? ⟨w1.heap.size, 1, none⟩ = some (.pointer (some ⟨w.heap.size, 0, none⟩)) := by rw [Lib.cell_of_heap hq]; rfl
  have v2 : w2.cell? ⟨w1.heap.size, 2, none⟩ = some (.int .u64 150) := by rw [Lib.cell_of_heap hq]; rfl
  have n8 := isNilT ⟨w.heap.size, 0, none⟩ t w2 (by rw [Lib.cell_of_heap ha2]; rfl)
  have h17 := @run_callFunc_extern Tryd.prog 17 _ (fun args => ReflectliteValue.unpack (args.getD 0 (.tuple #[]))) Tryd.func17 (by kernel_rfl) (by kernel_rfl) (by kernel_rfl) (by kernel_rfl)
  have h18 := @run_callFunc_extern Tryd.prog 18 _ (ReflectliteValue.methodAny (ReflectliteValue.valueError "reflectlite.Value.Type" 0) (fun t _ _ _ => ReflectliteType.toType t)) Tryd.func18 (by kernel_rfl) (by kernel_rfl) (by kernel_rfl) (by kernel_rfl)
  have h19 := @run_callFunc_extern Tryd.prog 19 _ (ReflectliteValue.method (ReflectliteValue.valueError "reflectlite.Value.IsNil" 0) ReflectliteValue.isNil) Tryd.func19 (by kernel_rfl) (by kernel_rfl) (by kernel_rfl) (by kernel_rfl)
  have h51 := @run_callFunc_extern Tryd.prog 51 _ (ReflectliteType.abiMethod fun t => do pure (.int .u8 (← Rtype.kind t))) Tryd.func51 (by kernel_rfl) (by kernel_rfl) (by kernel_rfl) (by kernel_rfl)
  have h60 := @run_callFunc_extern Tryd.prog 60 _ (ReflectliteType.method ReflectliteType.elem) Tryd.func60 (by kernel_rfl) (by kernel_rfl) (by kernel_rfl) (by kernel_rfl)
  have h61 := @run_callFunc_extern Tryd.prog 61 _ (ReflectliteType.relation "Implements" ReflectliteType.implements_) Tryd.func61 (by kernel_rfl) (by kernel_rfl) (by kernel_rfl) (by kernel_rfl)
  have f6 := valueOfT
  have f7 := typeT
  have mK := methodKind
  have mE := methodElem
  have mI := methodImplements
  have kT := kindT
  have kE := kindE
  have eT := elemT
  have iE := implementsE
  clear H hq ha1 ha2 ht hf hg
  go_enter Tryd.func15, Tryd.ntmps15
  go_wp2_with (go_at_call 20; refine HS.mono ?_; rintro e w' ⟨rfl, W0, hW0, rfl⟩)
  go_ret
  exact ⟨rfl, W0, k12.trans (hW0.mono k12.size), rfl⟩
set_option maxHeartbeats 1000000 in
theorem code_nil (w : World) : Calls Tryd.prog 11 #[.nilIface] w fun e w' => e = .returned (.int .i64 0) ∧ w' = w := by
  go_enter Tryd.func11, Tryd.ntmps11
  go_wp2
  go_ret
  exact ⟨rfl, rfl⟩
set_option maxHeartbeats 4000000 in
theorem code2 {p p2 : Nat} {n : Int} {w : World} (H : Two2 w p p2 n) (hg : w.cell? ⟨0, 0, none⟩ = some (.iface 48 (.agg #[.pointer (some ⟨4, 26, none⟩)]))) :
    Calls Tryd.prog 11 #[.iface 23 (.pointer (some ⟨p, 0, none⟩))] w fun e w' => e = .returned (.int .i64 n) ∧ Below w.heap.size w w' := by
  obtain ⟨w1, hw1⟩ : ∃ w1, w.alloc (.cells #[.int .i64 0] 24) = w1 := ⟨_, rfl⟩
  have k1 : Below w.heap.size w w1 := by rw [← hw1]; exact (Below.refl _ _).alloc (Nat.le_refl _) _
  have ha1 : w1.heap[w.heap.size]? = some (.cells #[.int .i64 0] 24) := by rw [← hw1]; exact heap_alloc_new _ _
  have hgl : 0 < w.heap.size := by
    rcases Nat.lt_or_ge 0 w.heap.size with h | h
    · exact h
    · simp [World.cell?, Array.getElem?_eq_none h] at hg
  have HS := As2 (H.below k1) ⟨w.heap.size, 0, none⟩ (.int .i64 0) ((k1.cell (p := ⟨0, 0, none⟩) hgl).trans hg) (by rw [Lib.cell_of_heap ha1]; rfl) (Lib.frozen_of_heap ha1 0)
  have hl1 := (Array.getElem?_eq_some_iff.1 ha1).1
  clear H hg
  go_enter Tryd.func11, Tryd.ntmps11
  go_wp2_with fail
  refine HS.mono ?_
  rintro e w' ⟨rfl, W0, hW0, rfl⟩
  have hx : W0.heap[w.heap.size]? = some (.cells #[.int .i64 0] 24) := (hW0.block _ hl1).trans ha1
  have hb : Below w.heap.size w (W0.setCell ⟨w.heap.size, 0, none⟩ (.int .i64 n)) := (k1.trans (hW0.mono k1.size)).setCell (Nat.le_refl _) _
  have hc : (W0.setCell ⟨w.heap.size, 0, none⟩ (.int .i64 n)).cell? ⟨w.heap.size, 0, none⟩ = some (.int .i64 n) := by
    have h0 := heap_setCell_same _ _ 0 _ _ (.int .i64 n) hx
    rw [Lib.cell_of_heap h0]
    rfl
  clear HS hx hW0
  go_wp2_with fail
  go_ret
  exact ⟨rfl, hb⟩
end Go.Proofs.YtdplgkjcjcgboaaDoor
