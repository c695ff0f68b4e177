import Derived.Test.YtokkodkhkpgebaaDoorKbA
/-! Maps from ids to numbers. -/
namespace Go.Proofs.YtokkodkhkpgebaaDoor
open Go.RowKit Go.Lib
set_option maxRecDepth 100000

/-- The entries of a map read as M. -/
def Ents (es : List MapEntry) (M : List ((Int × Int) × Int)) : Prop := es.map (fun e => (e.key, e.val)) = M.map (fun p => (idA p.1, .int .i64 p.2))
def lookM (M : List ((Int × Int) × Int)) (x : Int × Int) : Option (Nat × Int) := (M.zipIdx.find? (fun p => p.1.1 == x)).map (fun p => (p.2, p.1.2))

theorem run_checkKey_int (b : Bool) (w : World) (n : Nat) (x : Int) : (Instr.checkKey b (n + 1) 3 (.int .i64 x)).run Tryd.prog w = .ok () w := by
  rw [Instr.checkKey]
  simp only [Sem.run_bind, run_underlying Tryd.underlying3, Result.andThen_ok, Sem.run_pure]
theorem run_checkKey (b : Bool) (w : World) (x y : Int) : (Instr.checkKey b 10000 23 (.agg #[.int .i64 x, .int .i64 y])).run Tryd.prog w = .ok () w := by
  have h1 := fun w x => run_checkKey_int b w 9998 x
  generalize hk : (9998 + 1 : Nat) = k at h1
  show (Instr.checkKey b (9998 + 1 + 1) _ _).run _ _ = _
  rw [hk, Instr.checkKey]
  simp only [Sem.run_bind, run_underlying Tryd.underlying23, Result.andThen_ok]
  simp [List.range', part, Tryd.isAgg3, Tryd.sizeOf3, Sem.run_bind, Result.andThen_ok, h1]

theorem run_findAsking (w : World) (x : Int × Int) : ∀ (es : List MapEntry) (M : List ((Int × Int) × Int)) (i : Nat), Ents es M →
    (Instr.findAsking 23 (idA x) es i).run Tryd.prog w = .ok (((M.zipIdx i).find? (fun p => p.1.1 == x)).map (fun p => (p.2, .int .i64 p.1.2))) w := by
  intro es
  induction es with
  | nil =>
    intro M i h
    cases M with
    | nil => simp [Instr.findAsking]
    | cons => simp [Ents] at h
  | cons e es ih =>
    intro M i h
    cases M with
    | nil => simp [Ents] at h
    | cons m M =>
      simp only [Ents, List.map_cons, List.cons.injEq, Prod.mk.injEq] at h
      obtain ⟨⟨hk, hv⟩, ht⟩ := h
      have heq : (Op.equal 23 (idA x) e.key).run Tryd.prog w = .ok (x == m.1) w := by
        rw [hk]
        have := run_eqI w x.1 x.2 m.1.1 m.1.2
        simp only [Op.equal, Op.maxDepth, idA]
        rw [this]
        congr 1
      rw [Instr.findAsking, Sem.run_bind, heq, Result.andThen_ok]
      simp only [List.zipIdx_cons, List.find?_cons]
      by_cases hxm : x = m.1
      · subst hxm
        simp [hv]
      · have h1 : (x == m.1) = false := beq_eq_false_iff_ne.2 hxm
        have h2 : (m.1 == x) = false := beq_eq_false_iff_ne.2 (fun e => hxm e.symm)
        simp only [h1, h2, Bool.false_eq_true, if_false]
        exact ih M (i + 1) ht

theorem run_findKey (w : World) (x : Int × Int) (es : List MapEntry) (M : List ((Int × Int) × Int)) (h : Ents es M) :
    (Instr.findKey 23 (idA x) es).run Tryd.prog w = .ok ((lookM M x).map (fun p => (p.1, .int .i64 p.2))) w := by
  have hf := run_findAsking w x es M 0 h
  unfold Instr.findKey
  rw [Sem.run_bind, run_underlying Tryd.underlying23, Result.andThen_ok]
  cases es with
  | nil =>
    cases M with
    | nil => simp [Instr.findNow, lookM]
    | cons => simp [Ents] at h
  | cons e es =>
    simp only [Instr.findNow, Instr.sameNow]
    rw [hf]
    congr 1
    unfold lookM
    rw [Option.map_map]
    rfl

theorem run_lookup (w : World) (x : Int × Int) (r : Nat) (es : Array MapEntry) (ck : Nat) (M : List ((Int × Int) × Int)) (hr : w.heap[r]? = some (.map es ck)) (h : Ents es.toList M) :
    (Instr.lookup 74 (.map (some r)) (idA x) true).run Tryd.prog w = .ok (.tuple #[.int .i64 (((lookM M x).map (·.2)).getD 0), .bool (lookM M x).isSome]) w := by
  have hf := run_findKey w x es.toList M h
  have hc := run_checkKey es.isEmpty w x.1 x.2
  unfold Instr.lookup
  have hg : (getObj r).run Tryd.prog w = .ok (.map es ck) w := by simp [getObj, Sem.run, hr]
  simp only [Sem.run_bind, run_underlying Tryd.underlying74, Result.andThen_ok]
  rw [hg]
  simp only [Result.andThen_ok, Sem.run_bind, Sem.run_pure]
  rw [show (Instr.checkKey es.isEmpty 10000 23 (idA x)).run Tryd.prog w = .ok () w from hc]
  simp only [Result.andThen_ok]
  rw [hf]
  simp only [Result.andThen_ok]
  cases hl : lookM M x with
  | none =>
    simp only [Option.map_none, Option.getD_none, Option.isSome_none]
    simp [go_sem]
  | some p =>
    simp
end Go.Proofs.YtokkodkhkpgebaaDoor
