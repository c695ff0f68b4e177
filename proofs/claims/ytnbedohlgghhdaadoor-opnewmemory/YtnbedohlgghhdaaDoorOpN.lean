import Derived.Test.YtnbedohlgghhdaaDoorOpM
import Derived.Deep.RegionHeld3
import Derived.Lib.ItoaLen
namespace Go.Proofs.YtnbedohlgghhdaaDoor
open Go.RowKit Go.Lib Sp
set_option maxRecDepth 100000

def bs (l : List UInt8) : ByteArray := ⟨l.toArray⟩
theorem bs_append (a b : List UInt8) : bs a ++ bs b = bs (a ++ b) := by
  apply ByteArray.ext
  rw [ByteArray.data_append]
  simp [bs]
theorem bs_append' (a b : List UInt8) : (⟨a.toArray⟩ : ByteArray) ++ ⟨b.toArray⟩ = ⟨(a ++ b).toArray⟩ := bs_append a b
theorem bs_size (a : List UInt8) : (bs a).size = a.length := by simp [bs, ByteArray.size]
theorem bs_itoa (n : Int) (h0 : -9223372036854775808 ≤ n) (h1 : n ≤ 9223372036854775807) : (bs (Lib.itoa n)).size ≤ 21 := by
  rw [bs_size]; exact Lib.itoa_length_le n h0 h1
def idB (c n : Int) : List UInt8 := if c = 0 ∧ n = 0 then [45] else Lib.itoa c ++ [46] ++ Lib.itoa n

set_option maxHeartbeats 1000000 in
theorem printID_any {c n : Int} (hc0 : 0 ≤ c) (hc1 : c ≤ 1048576) (hn0 : 0 ≤ n) (hn1 : n ≤ 1048576) (w : World) (hp : Pow w) :
    Calls Tryd.prog 16 #[.agg #[.int .i64 c, .int .i64 n]] w fun e w' => e = .returned (.string (bs (idB c n))) ∧ Below w.heap.size w w' := by
  have HG : Tryd.prog.eqGuardType Tryd.prog.depth 32 = false := by kernel_rfl
  have hw2 := (Below.refl w.heap.size w).alloc (Nat.le_refl _) (Obj.cells #[.int .i64 c, .int .i64 n] 32)
  by_cases hz : c = 0 ∧ n = 0
  · obtain ⟨rfl, rfl⟩ := hz
    have HI : ∀ w, (Op.equalIn 10000 32 (.agg #[.int .i64 0, .int .i64 0]) (.agg #[.int .i64 0, .int .i64 0])).run Tryd.prog w = .ok true w := fun w => run_eqID w 0 0 0 0
    go_enter Tryd.func16, Tryd.ntmps16
    go_wp2_with fail
    go_ret
    exact ⟨rfl, hw2⟩
  · have hz2 : (c == 0 && n == 0) = false := by
      rw [Bool.and_eq_false_iff]
      by_cases h1 : c = 0
      · right; exact beq_eq_false_iff_ne.2 fun e => hz ⟨h1, e⟩
      · left; exact beq_eq_false_iff_ne.2 h1
    have HI : ∀ w, (Op.equalIn 10000 32 (.agg #[.int .i64 c, .int .i64 n]) (.agg #[.int .i64 0, .int .i64 0])).run Tryd.prog w = .ok false w := fun w => by rw [run_eqID, hz2]
    have HR : Hid (idB c n = Lib.itoa c ++ [46] ++ Lib.itoa n) := by show _ = _; unfold idB; rw [if_neg hz]
    clear hz hz2
    have HT : Hid (∀ (x : Int) (w' : World), 0 ≤ x → x ≤ 1048576 → Below w.heap.size w w' → Calls Tryd.prog 23 #[.int .i64 x] w' fun e w'' => e = .returned (.string (bs (Lib.itoa x))) ∧ Below w'.heap.size w' w'') := fun x w' h0 h1 hb => itoa_any x (by omega) (by omega) w' (hp.below hb)
    have k0 : (w.alloc (Obj.cells #[.int .i64 c, .int .i64 n] 32)).cell? ⟨w.heap.size, 0, none⟩ = some (.int .i64 c) := World.cell?_alloc_mark ..
    have k1 : (w.alloc (Obj.cells #[.int .i64 c, .int .i64 n] 32)).cell? ⟨w.heap.size, 1, none⟩ = some (.int .i64 n) := World.cell?_alloc_mark ..
    have hcur : Below (w.alloc (Obj.cells #[.int .i64 c, .int .i64 n] 32)).heap.size (w.alloc (Obj.cells #[.int .i64 c, .int .i64 n] 32)) (w.alloc (Obj.cells #[.int .i64 c, .int .i64 n] 32)) := Below.refl _ _
    go_enter Tryd.func16, Tryd.ntmps16
    have q1 : (bs (Lib.itoa c)).size ≤ 21 := bs_itoa c (by omega) (by omega)
    have q2 : (bs (Lib.itoa n)).size ≤ 21 := bs_itoa n (by omega) (by omega)
    have g1 : ¬ 9223372036854775807 < (bs (Lib.itoa c)).size + 1 := by omega
    have g2 : ¬ 9223372036854775807 < (bs (Lib.itoa c)).size + 1 + (bs (Lib.itoa n)).size := by omega
    have hk : w.heap.size < (w.alloc (Obj.cells #[.int .i64 c, .int .i64 n] 32)).heap.size := by simp
    go_wp2_with fail
    go_region_held3 (fun W => W.cell? ⟨w.heap.size, 0, none⟩ = some (.int .i64 c) ∧ W.cell? ⟨w.heap.size, 1, none⟩ = some (.int .i64 n)) (first | exact ⟨k0, k1⟩ | exact ⟨e0, e1⟩)
      (first
        | (go_at_call 23; refine (HT.out _ _ (by assumption) (by assumption) ?_).mono ?_; (first | exact hw2.trans (hcur.mono hw2.size) | exact hw2.trans (hcur.drew.mono hw2.size)); rintro e w1 ⟨rfl, hb1⟩; have hcur : Below (w.alloc (Obj.cells #[.int .i64 c, .int .i64 n] 32)).heap.size (w.alloc (Obj.cells #[.int .i64 c, .int .i64 n] 32)) w1 := (by first | exact hcur.trans (hb1.mono hcur.size) | exact hcur.drew.trans (hb1.mono hcur.size)); have e0 := (hcur.cell (p := ⟨w.heap.size, 0, none⟩) hk).trans k0; have e1 := (hcur.cell (p := ⟨w.heap.size, 1, none⟩) hk).trans k1))
    all_goals
      go_wp2_with fail
      go_ret
      refine ⟨congrArg (fun b => Ending.returned (.string b)) ?_, hw2.trans (hcur.mono hw2.size)⟩
      rw [HR.out, ← bs_append, ← bs_append]
      rfl
end Go.Proofs.YtnbedohlgghhdaaDoor
