import Derived.Test.YtelcjhflopgojaaDoorMgC
import Derived.Test.YtelcjhflopgojaaDoorOpH
import Derived.Test.YtelcjhflopgojaaDoorOpI
/-! The sentence's own operations; Follow, Total over a book's list; marks compared. -/
namespace Go.Proofs.YtelcjhflopgojaaDoor
open Go.RowKit Go.Lib Sp
set_option maxRecDepth 100000

theorem check_eee : check ⟨#[195, 169, 195, 169, 195, 169]⟩ = (3, 0, 0) := by kernel_rfl
theorem ins_ok {z : Int} (h : 0 ≤ z ∧ z ≤ 1000) : opCheck ⟨0, 0, 1, z, ⟨#[195, 169, 195, 169, 195, 169]⟩, [], 0, 0, false⟩ ((1000 : Nat) : Int) = 0 := by
  rw [opCheck_ins (by omega) (.inl ⟨rfl, rfl⟩)]; simp only [insP, check_eee]; rw [if_neg (by decide), if_neg (by decide), if_neg (by decide), if_neg (by omega), if_neg (by omega)]
theorem rng_ok {k lo hi : Int} (hk : k = 2 ∨ k = 3) (h : 0 ≤ lo ∧ lo < hi ∧ hi ≤ 1003) : opCheck ⟨0, 0, k, 0, ⟨#[]⟩, [(lo, hi)], 0, 0, false⟩ ((1003 : Nat) : Int) = 0 := by
  rw [opCheck_rng hk (by omega) (.inl ⟨rfl, rfl⟩)]
  have hc : checkL [(lo, hi)] = (0, 0) := by
    unfold checkL; rw [if_neg (by simp)]; simp only [Sp.chk]; rw [if_neg (by omega), if_neg (by omega)]
  simp only [rngP, hc]; rw [if_neg (by simp), if_neg (by decide), if_neg (by simp [lastHi]; omega)]
theorem not_none {o : OpV} (h : o.k ≠ 0) : eqP o zeroOp = false := by
  unfold eqP
  refine decide_eq_false fun e => h ?_
  exact e.2.2.1
theorem is_none : eqP zeroOp zeroOp = true := by
  unfold eqP
  exact decide_eq_true ⟨rfl, rfl, rfl, rfl, rfl, rfl, rfl, rfl, rfl⟩
/-- Follow of an insert, over the book's list. -/
theorem follow_ins_B {B : Nat} {w : World} {p t m cap q wd : Nat} {L : List Mk} {a : Option Addr} {o : OpV} (h : Bk B w p t L) (hr : Rng w a m cap o.l) (hs : o.s.size ≤ 9223372036854775807) (hw : Bar w) (hck : opCheck o t = 0) (hk : o.k = 1) (hq : o.p = (q : Int)) (hwd : widthP o = (wd : Int)) (ht : t + wd ≤ 4611686018427387904) (hx : ∀ m ∈ L, m.lo + wd ≤ 4611686018427387904 ∧ m.hi + wd ≤ 4611686018427387904) :
    Calls Tryd.prog 7 #[.pointer (some ⟨p, 0, none⟩), opVal o (.slice a m cap)] w fun e w' => e = .returned (.int .i64 0) ∧ Bk B w' p (t + wd) (L.map (mvM q wd)) ∧ Below B w w' := by
  have hsz := h.size
  obtain ⟨b, xs, ck, h1, h2, h3, h4, h5, h6, h7⟩ := h
  refine (follow_ins h1 hr hs hw (not_none (by rw [hk]; decide)) hck hk hq hwd ht (fun x hxm => by
    have := hx x.mk1 (by rw [← h2]; exact List.mem_map.2 ⟨x, hxm, rfl⟩)
    exact this)).mono ?_
  rintro e w' ⟨rfl, hb, hC⟩
  refine ⟨rfl, ⟨b, _, ck, hb, ?_, h3, h4, ?_, ?_, by rw [List.length_map]; exact h7⟩, hC.below (fun g hg => ?_) hsz⟩
  · rw [← h2, List.map_map, List.map_map]
    rfl
  · intro x hx
    obtain ⟨y, hy, rfl⟩ := List.mem_map.1 hx
    exact h5 y hy
  · intro x hx
    obtain ⟨y, hy, rfl⟩ := List.mem_map.1 hx
    exact h6 y hy
  · rcases hg with rfl | rfl | ⟨y, hy, rfl⟩
    · exact h3
    · exact h4
    · exact h5 y hy
theorem follow_two_B {B : Nat} {w : World} {p t m cap : Nat} {L : List Mk} {a : Option Addr} {o : OpV} (h : Bk B w p t L) (hr : Rng w a m cap o.l) (hs : o.s.size ≤ 9223372036854775807) (hw : Bar w) (hck : opCheck o t = 0) (hk : o.k = 2 ∨ o.k = 3) :
    Calls Tryd.prog 7 #[.pointer (some ⟨p, 0, none⟩), opVal o (.slice a m cap)] w fun e w' => e = .returned (.int .i64 0) ∧ Below w.heap.size w w' := by
  obtain ⟨b, xs, ck, h1, -⟩ := h
  exact follow_two h1 hr hs hw (not_none (by omega)) hck hk
set_option maxHeartbeats 1000000 in
theorem total_B {B : Nat} {w : World} {p t : Nat} {L : List Mk} (h : Bk B w p t L) : Calls Tryd.prog 9 #[.pointer (some ⟨p, 0, none⟩)] w fun e w' => e = .returned (.int .i64 (t : Int)) ∧ w' = w := by
  obtain ⟨b, xs, ck, h1, -⟩ := h
  obtain ⟨c0, c1⟩ := box2 h1.box
  clear h1
  go_enter Tryd.func9, Tryd.ntmps9
  go_wp2_with fail
  go_ret
  exact ⟨rfl, rfl⟩
/-- A mark is equal to itself. -/
theorem run_eqMk (w : World) (s : ByteArray) (a b : Int) : (Op.equalIn 10000 29 (.agg #[.string s, .int .i64 a, .int .i64 b]) (.agg #[.string s, .int .i64 a, .int .i64 b])).run Tryd.prog w = .ok true w := by
  have e1 : (Op.equalIn 9999 9 (.string s) (.string s)).run Tryd.prog w = .ok true w := by
    have := run_equalIn_string (P := Tryd.prog) w 9998 9 s s Tryd.underlying9
    simpa using this
  have e2 : ∀ x : Int, (Op.equalIn 9999 3 (.int .i64 x) (.int .i64 x)).run Tryd.prog w = .ok true w := fun x => by
    have := run_equalIn_int (P := Tryd.prog) w 9998 3 .i64 .i64 x x Tryd.underlying3
    simpa using this
  show (Op.equalIn (9998 + 1 + 1) _ _ _).run _ _ = _
  rw [Op.equalIn]
  simp only [Sem.run_bind, run_underlying Tryd.underlying29, Result.andThen_ok]
  simp [part, Tryd.isAgg3, Tryd.isAgg9, Sem.run_bind, Result.andThen_ok, Sem.run_ite, e1, e2]
set_option maxHeartbeats 1000000 in
theorem pick_any (k : Int) (n : Int) (hn : 0 < n) (hk : -9223372036854775808 ≤ k ∧ k ≤ 9223372036854775807) (hm : n ≤ 9223372036854775807) (w : World) : Calls Tryd.prog 4 #[.int .i64 k, .int .i64 n] w fun e w' => e = .returned (.int .i64 (k % n)) ∧ w' = w := by
  obtain ⟨hk1, hk2⟩ := hk
  have hlt := Int.emod_lt_of_pos k hn
  have hge := Int.emod_nonneg k (show n ≠ 0 by omega)
  have hne : (n == 0) = false := beq_eq_false_iff_ne.2 (by omega)
  have hne1 : (n == -1) = false := beq_eq_false_iff_ne.2 (by omega)
  obtain ⟨r, hr⟩ : ∃ r, k % n = r := ⟨_, rfl⟩
  obtain ⟨q, hq⟩ : ∃ q, k.tmod n = q := ⟨_, rfl⟩
  have hqr : q = r ∨ (q < 0 ∧ q + n = r) := by
    rw [← hq, ← hr]
    by_cases h0 : 0 ≤ k
    · left
      exact Int.tmod_eq_emod_of_nonneg h0
    · have h1 : k.tmod n = k % n - (if (n ∣ k) then 0 else n) := by
        rw [Int.tmod_eq_emod]
        have : ¬ (0 ≤ k) := h0
        simp [this]
        split
        · rfl
        · omega
      by_cases h2 : n ∣ k
      · left; rw [h1, if_pos h2]; omega
      · right
        rw [h1, if_neg h2]
        omega
  have hqb : IntKind.i64.wrap q = q := IntWalk.i64_in _ (by omega)
  rw [hr] at hlt hge ⊢
  have H : Hid (q = r ∨ (q < 0 ∧ q + n = r)) := hqr
  have hn0 : ¬ n = 0 := by omega
  clear hqr hr
  go_enter Tryd.func4, Tryd.ntmps4
  rcases Int.lt_or_le q 0 with h0 | h0
  · have z : decide (q < 0) = true := decide_eq_true h0
    have y : IntKind.i64.wrap (q + n) = r := by
      rcases H.out with h | h
      · omega
      · rw [h.2]; exact IntWalk.i64_in _ (by omega)
    go_wp2_with fail
    go_ret
    exact ⟨rfl, rfl⟩
  · have z : decide (q < 0) = false := decide_eq_false (by omega)
    obtain rfl : q = r := by
      rcases H.out with h | h
      · exact h
      · omega
    go_wp2_with fail
    go_ret
    exact ⟨rfl, rfl⟩
end Go.Proofs.YtelcjhflopgojaaDoor
