import Derived.Test.YtokclnjaglklhaaDoorRtK
import Derived.Test.YtokclnjaglklhaaDoorRrKN
/-! RopeIsRow. -/
namespace Go.Proofs.YtokclnjaglklhaaDoor
open Go.RowKit Go.Lib
set_option maxRecDepth 100000

def actV (x : Int × Int × Int × Int) : List Value := [.int .i64 x.1, .int .i64 x.2.1, .int .i64 x.2.2.1, .int .i64 x.2.2.2]
theorem layA : Lay actV 4 := ⟨fun _ => rfl, by decide, fun x u hu => by simp [actV] at hu; rcases hu with rfl | rfl | rfl | rfl <;> rfl⟩
theorem acts_is {w2 : World} {q : Nat} {M : Int} {R : List (Int × Int)} {a : Option Addr} {cap : Nat} {W : World} (h : Both w2 q M R a cap W) (hq : w2.heap.size ≤ q) (hBar : Bar w2) (hM1 : 1 ≤ M) (hM : M ≤ 1000000) (hlen : R.length ≤ 32768) (k A B N : Int) :
    Calls Tryd.prog 9 #[.pointer (some ⟨q, 0, none⟩), .slice a R.length cap, .agg #[.int .i64 k, .int .i64 A, .int .i64 B, .int .i64 N]] W fun e W' => ∃ a' cap' R', e = .returned (.tuple #[.slice a' R'.length cap', .bool true]) ∧ Both w2 q (M + 1) R' a' cap' W' ∧ R'.length ≤ R.length + 48 ∧ Upd q W W' ∧ R' = actR R k A B N := by
  by_cases h0 : k = 0
  · subst h0; exact acts_put h hq hBar hM1 hlen A B N
  · by_cases h1 : k = 1
    · subst h1; exact acts_up h hq hM hlen A B N
    · exact acts_down h hq hM hlen k A B N h0 h1
theorem acts_any {w2 : World} {q : Nat} {M : Int} {R : List (Int × Int)} {a : Option Addr} {cap : Nat} {W : World} (h : Both w2 q M R a cap W) (hq : w2.heap.size ≤ q) (hBar : Bar w2) (hM1 : 1 ≤ M) (hM : M ≤ 1000000) (hlen : R.length ≤ 32768) (k A B N : Int) :
    Calls Tryd.prog 9 #[.pointer (some ⟨q, 0, none⟩), .slice a R.length cap, .agg #[.int .i64 k, .int .i64 A, .int .i64 B, .int .i64 N]] W fun e W' => ∃ a' cap' R', e = .returned (.tuple #[.slice a' R'.length cap', .bool true]) ∧ Both w2 q (M + 1) R' a' cap' W' ∧ R'.length ≤ R.length + 48 :=
  (acts_is h hq hBar hM1 hM hlen k A B N).mono fun _ _ ⟨a, c, R, h1, h2, h3, _, _⟩ => ⟨a, c, R, h1, h2, h3⟩
theorem Both.still {w2 : World} {q : Nat} {M : Int} {R : List (Int × Int)} {a : Option Addr} {cap : Nat} {W W' : World} (h : Both w2 q M R a cap W) (hb : Below W.heap.size W W') : Both w2 q M R a cap W' := ⟨h.rope.still hb, h.row.below hb, h.ok, h.cnt⟩
theorem Both.is {w2 : World} {q : Nat} {M : Int} {R : List (Int × Int)} {a : Option Addr} {cap : Nat} {W : World} (h : Both w2 q M R a cap W) (hlen : R.length ≤ 1048576) :
    Calls Tryd.prog 10 #[.pointer (some ⟨q, 0, none⟩), .slice a R.length cap] W fun e W' => e = .returned (.bool true) ∧ Both w2 q M R a cap W' :=
  (is_any h.rope.self h.row h.ok hlen).mono fun _ _ ⟨he, hb⟩ => ⟨he, h.still hb⟩
end Go.Proofs.YtokclnjaglklhaaDoor
