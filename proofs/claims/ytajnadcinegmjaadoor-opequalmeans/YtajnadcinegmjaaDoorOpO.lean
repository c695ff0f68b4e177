import Derived.Test.YtajnadcinegmjaaDoorOpN
import Derived.Test.YtajnadcinegmjaaDoorQuo
namespace Go.Proofs.YtajnadcinegmjaaDoor
open Go.RowKit Go.Lib Sp
set_option maxRecDepth 100000

def insB (p : Int) (s : ByteArray) : List UInt8 := [105, 110, 115, 32] ++ Lib.itoa p ++ [32] ++ quoted s
set_option maxHeartbeats 1000000 in
theorem printWord_1 {c n p : Int} {s : ByteArray} {l : List (Int × Int)} {tc tn : Int} {on : Bool} {v : Value} (hp0 : 0 ≤ p) (hp1 : p ≤ 1048576) (hs : s.size ≤ 4194304) (hq : (quoted s).length ≤ 1099511627776) (w : World) (hp : Pow w) (hd : Deb w) :
    Calls Tryd.prog 13 #[opVal ⟨c, n, 1, p, s, l, tc, tn, on⟩ v] w fun e w' => e = .returned (.string (bs (insB p s))) ∧ Below w.heap.size w w' := by
  have HT : Hid (∀ (w' : World), Below w.heap.size w w' → Calls Tryd.prog 18 #[.int .i64 p] w' fun e w'' => e = .returned (.string (bs (Lib.itoa p))) ∧ Below w'.heap.size w' w'') := fun w' hb => itoa_any p (by omega) (by omega) w' (hp.below hb)
  have HQ : Hid (∀ (w' : World), Below w.heap.size w w' → Calls Tryd.prog 19 #[.string s] w' fun e w'' => e = .returned (.string (bs (quoted s))) ∧ Below w'.heap.size w' w'') := fun w' hb => quote_any s (by omega) w' (hd.below hb)
  have q1 : (bs (Lib.itoa p)).size ≤ 21 := bs_itoa p (by omega) (by omega)
  have q2 : (bs (quoted s)).size ≤ 1099511627776 := by rw [bs_size]; exact hq
  have HR : Hid ((⟨#[105, 110, 115, 32]⟩ : ByteArray) ++ bs (Lib.itoa p) ++ ⟨#[32]⟩ ++ bs (quoted s) = bs (insB p s)) := by
    show _ = _
    unfold insB
    rw [← bs_append, ← bs_append, ← bs_append]
    rfl
  generalize bs (Lib.itoa p) = x at *
  generalize bs (quoted s) = y at *
  have g1 : ¬ 9223372036854775807 < 4 + x.size := by omega
  have g2 : ¬ 9223372036854775807 < 4 + x.size + 1 := by omega
  have g3 : ¬ 9223372036854775807 < 4 + x.size + 1 + y.size := by omega
  clear hp hd hq
  simp only [opVal]
  have hw2 := (Below.refl w.heap.size w).alloc (Nat.le_refl _) (Obj.cells #[.int .i64 c, .int .i64 n, .int .i64 1, .int .i64 p, .string s, v, .int .i64 tc, .int .i64 tn, .bool on] 34)
  have k3 : (w.alloc (Obj.cells #[.int .i64 c, .int .i64 n, .int .i64 1, .int .i64 p, .string s, v, .int .i64 tc, .int .i64 tn, .bool on] 34)).cell? ⟨w.heap.size, 3, none⟩ = some (.int .i64 p) := World.cell?_alloc_mark ..
  have k4 : (w.alloc (Obj.cells #[.int .i64 c, .int .i64 n, .int .i64 1, .int .i64 p, .string s, v, .int .i64 tc, .int .i64 tn, .bool on] 34)).cell? ⟨w.heap.size, 4, none⟩ = some (.string s) := World.cell?_alloc_mark ..
  have hk : w.heap.size < (w.alloc (Obj.cells #[.int .i64 c, .int .i64 n, .int .i64 1, .int .i64 p, .string s, v, .int .i64 tc, .int .i64 tn, .bool on] 34)).heap.size := by simp
  have hcur : Below (w.alloc (Obj.cells #[.int .i64 c, .int .i64 n, .int .i64 1, .int .i64 p, .string s, v, .int .i64 tc, .int .i64 tn, .bool on] 34)).heap.size (w.alloc (Obj.cells #[.int .i64 c, .int .i64 n, .int .i64 1, .int .i64 p, .string s, v, .int .i64 tc, .int .i64 tn, .bool on] 34)) (w.alloc (Obj.cells #[.int .i64 c, .int .i64 n, .int .i64 1, .int .i64 p, .string s, v, .int .i64 tc, .int .i64 tn, .bool on] 34)) := Below.refl _ _
  go_enter Tryd.func13, Tryd.ntmps13
  go_wp2_with fail
  go_region_held3 (fun W => W.cell? ⟨w.heap.size, 3, none⟩ = some (.int .i64 p) ∧ W.cell? ⟨w.heap.size, 4, none⟩ = some (.string s)) (first | exact ⟨k3, k4⟩ | exact ⟨e3, e4⟩)
      (first
        | (go_at_call 18; refine (HT.out _ ?_).mono ?_; (first | exact hw2.trans (hcur.mono hw2.size) | exact hw2.trans (hcur.drew.mono hw2.size)); rintro e w1 ⟨rfl, hb1⟩; have hcur : Below (w.alloc (Obj.cells #[.int .i64 c, .int .i64 n, .int .i64 1, .int .i64 p, .string s, v, .int .i64 tc, .int .i64 tn, .bool on] 34)).heap.size (w.alloc (Obj.cells #[.int .i64 c, .int .i64 n, .int .i64 1, .int .i64 p, .string s, v, .int .i64 tc, .int .i64 tn, .bool on] 34)) w1 := (by first | exact hcur.trans (hb1.mono hcur.size) | exact hcur.drew.trans (hb1.mono hcur.size)); have e3 := (hcur.cell (p := ⟨w.heap.size, 3, none⟩) hk).trans k3; have e4 := (hcur.cell (p := ⟨w.heap.size, 4, none⟩) hk).trans k4)
        | (go_at_call 19; refine (HQ.out _ ?_).mono ?_; (first | exact hw2.trans (hcur.mono hw2.size) | exact hw2.trans (hcur.drew.mono hw2.size)); rintro e w1 ⟨rfl, hb1⟩; have hcur : Below (w.alloc (Obj.cells #[.int .i64 c, .int .i64 n, .int .i64 1, .int .i64 p, .string s, v, .int .i64 tc, .int .i64 tn, .bool on] 34)).heap.size (w.alloc (Obj.cells #[.int .i64 c, .int .i64 n, .int .i64 1, .int .i64 p, .string s, v, .int .i64 tc, .int .i64 tn, .bool on] 34)) w1 := (by first | exact hcur.trans (hb1.mono hcur.size) | exact hcur.drew.trans (hb1.mono hcur.size)); have e3 := (hcur.cell (p := ⟨w.heap.size, 3, none⟩) hk).trans k3; have e4 := (hcur.cell (p := ⟨w.heap.size, 4, none⟩) hk).trans k4))
  all_goals
    go_wp2_with fail
    go_ret
    exact ⟨congrArg (fun b => Ending.returned (.string b)) HR.out, hw2.trans (hcur.mono hw2.size)⟩
end Go.Proofs.YtajnadcinegmjaaDoor
