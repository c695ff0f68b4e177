import Derived.Test.YtiaidmhobbeedaaWeA
/-! come. -/
namespace Go.Proofs.Ytiaidmhobbeedaa
open Go.RowKit Go.Lib
set_option maxRecDepth 100000

theorem sum3 (a c : Nat) : a + (c + 1) = a + 1 + c := by omega
/-- What come leaves: a list of the numbers 0 to m - 1, each once. -/
def ComeP (w : World) (m : Nat) (e : Ending) (w' : World) : Prop := ∃ v l, e = .returned v ∧ OwnF intV 1 3 w' w.heap.size v l ∧ l.length = m ∧ l.Nodup ∧ (∀ x ∈ l, 0 ≤ x ∧ x < (m : Int)) ∧ Below w.heap.size w w'
set_option maxHeartbeats 4000000 in
theorem come_any {w : World} {m : Nat} (hm1 : 1 ≤ m) (hm : m ≤ 1000) {a : Option Addr} {tn cap : Nat} {ts : List Int} (ht : Rw intV 1 w a tn cap ts) :
    Calls Try.prog 17 #[.int .i64 (m : Int), .slice a tn cap] w fun e w' => ComeP w m e w' := by
  have hroom := ht.room
  have htn : tn ≤ 9223372036854775807 := by simp only [maxLen] at hroom; omega
  obtain ⟨w1, hmk, hown, hB1, hlt1⟩ := makeB w m (by omega)
  go_enter Try.func17, Try.ntmps17
  go_wp2_with fail
  go_loopw [6, 7, 8, 9] (fun v vi _ _ W => ∃ (l : List Int) (B : List Bool), vi = .int .i64 (l.length : Int) ∧ l.length ≤ m ∧ OwnF intV 1 3 W (w.heap.size + 1) v l ∧ OwnF bool1 1 4 W w.heap.size (.slice (some ⟨w.heap.size, 0, none⟩) m m) B ∧ Hid (Cm m l B) ∧ Below w.heap.size w W ∧ w.heap.size < W.heap.size) (fun _ vi _ _ _ => m - (RowKit.intOf vi).toNat)
  case atStart => exact ⟨[], _, rfl, Nat.zero_le _, ownF_nil _ _, hown, Cm.start m, hB1, hlt1⟩
  case round =>
    obtain ⟨l, B, rfl, hlm, ho, hob, HC, hB, hlt⟩ := hrel
    obtain ⟨wo, hwo⟩ : ∃ wo, wo = wr := ⟨_, rfl⟩
    subst hwo
    by_cases hj : l.length < m
    · have b1 : (l.length : Int) < (m : Int) := by omega
      obtain ⟨va, vc, rfl⟩ := ho.shape
      by_cases hjt : l.length < tn
      · have b2 : (l.length : Int) < (tn : Int) := by omega
        obtain ⟨g, off, x, rfl, hg, hx, hc⟩ := ht.at l.length hjt
        have c0 := (hB.cell (p := ⟨g, off + l.length * 1 + 0, none⟩) hg).trans (hc 0 _ rfl)
        simp only [Nat.add_zero, Nat.mul_one] at c0
        clear hc hx
        obtain ⟨z, hz, _, HP⟩ := pk_nat x (m - l.length) (by omega) (by omega)
        have HP2 : Hid (∀ w, Calls Try.prog 10 #[.int .i64 x, .int .i64 ((m - l.length : Nat) : Int)] w fun e w' => e = .returned (.int .i64 (z : Int)) ∧ w' = w) := HP
        have HZ : Hid (z < m - l.length) := hz
        clear HP hz
        obtain ⟨d, hd⟩ : ∃ d : Nat, d = m - l.length := ⟨_, rfl⟩
        rw [← hd] at HP2
        have h4 : IntKind.i64.wrap ((m : Int) - (l.length : Int)) = (d : Int) := by rw [IntWalk.i64_in _ (by omega)]; omega
        have hd' : Hid (d = m - l.length) := hd
        clear hd
        go_wp2_with fail
        refine (HP2.out _).mono ?_
        rintro e w2 ⟨rfl, hw2⟩
        obtain rfl := hw2.symm
        clear hw2
        go_wp2_with fail
        go_loopw [6, 8, 9] (fun v6 vk vn W => v6 = .slice va l.length vc ∧ ∃ (k n : Nat), vk = .int .i64 (k : Int) ∧ vn = .int .i64 (n : Int) ∧ n ≤ m ∧ Hid (k + (B.take n).count false = z) ∧ W = wo) (fun _ _ vn _ => m - (RowKit.intOf vn).toNat)
        case atStart => exact ⟨rfl, z, 0, rfl, rfl, Nat.zero_le _, (by show z + _ = z; simp), rfl⟩
        case round =>
          obtain ⟨rfl, k, n, rfl, rfl, hnm, HK, rfl⟩ := hrel
          have hnm2 : n < m := by
            rcases Nat.lt_or_ge n m with h | h
            · exact h
            · exfalso
              have h1 : k + (B.take n).count false = z := HK.out
              have h2 := HC.out.cnt
              rw [List.take_of_length_le (by have := HC.out.len; omega)] at h1
              have := HZ.out
              omega
          have b3 : (n : Int) < (m : Int) := by omega
          obtain ⟨g2, off2, bb, e2, hg2, hb2, hc2⟩ := (hob.rw_ layB1).at n hnm2
          simp only [Option.some.injEq, Addr.mk.injEq, and_true] at e2
          obtain ⟨rfl, rfl⟩ := e2
          have c1 := hc2 0 _ rfl
          simp only [Nat.add_zero, Nat.mul_one, Nat.zero_add] at c1
          clear hc2
          have HBB : Hid (B[n]? = some bb) := hb2
          clear hb2
          cases bb with
          | true =>
            go_wp2_with fail
            refine ⟨⟨by trivial, k, n + 1, by trivial, by simp, by omega, ?_, by trivial⟩, by simp [RowKit.intOf]; omega⟩
            show k + _ = z
            rw [take_count B HBB.out]
            have := HK.out
            simp
            exact this
          | false =>
            by_cases hk : k = 0
            · subst hk
              have hfz : wr.frozen? ⟨w.heap.size, n, none⟩ = false := by
                rcases hob.2 with ⟨e, _⟩ | ⟨g', cap', cur, e, _, hh, _⟩
                · cases e
                · simp only [Value.slice.injEq, Option.some.injEq, Addr.mk.injEq] at e
                  obtain ⟨⟨rfl, _⟩, _⟩ := e
                  exact Lib.frozen_of_heap hh n
              have hob2 := ownB_set hob n true
              obtain ⟨w3, hw3⟩ : ∃ w3, wr.setCell ⟨w.heap.size, n, none⟩ (.bool true) = w3 := ⟨_, rfl⟩
              rw [hw3] at hob2
              have hC3 : Chg (fun g => g = w.heap.size) wr w3 := by rw [← hw3]; exact Chg.set (D := fun g => g = w.heap.size) (q := w.heap.size) n _ _ rfl
              have hs3 : w3.heap.size = wr.heap.size := by rw [← hw3]; simp
              have ho3 := ho.chg hC3 (fun g hg e => by have := ho.ge hg; omega)
              obtain ⟨g5, cap5, w6, hr, ho6, hb6, hk6, hs6, _⟩ := appendF_one kindI1 layI ho3 (by omega) (n : Int) #[.int .i64 (n : Int)] rfl 3 (by omega) (by omega) 29
              have hob6 : OwnF bool1 1 4 w6 w.heap.size (.slice (some ⟨w.heap.size, 0, none⟩) m m) (B.set n true) := by
                refine ⟨hob2.1, ?_⟩
                rcases hob2.2 with h0 | ⟨g', cap', cur, e, h1, hh, rest⟩
                · exact .inl h0
                · refine .inr ⟨g', cap', cur, e, h1, ?_, rest⟩
                  have e' := e
                  simp only [Value.slice.injEq, Option.some.injEq, Addr.mk.injEq] at e'
                  obtain ⟨⟨eg, _⟩, _⟩ := e'
                  refine (hk6 g' (by omega) (fun e5 => ?_)).trans hh
                  have := ho3.ge e5
                  omega
              have HX : Hid (OwnF intV 1 3 w6 (w.heap.size + 1) (.slice (some ⟨g5, 0, none⟩) (l.length + 1) cap5) (l ++ [(n : Int)]) ∧ OwnF bool1 1 4 w6 w.heap.size (.slice (some ⟨w.heap.size, 0, none⟩) m m) (B.set n true) ∧ Cm m (l ++ [(n : Int)]) (B.set n true) ∧ Below w.heap.size w w6 ∧ w.heap.size < w6.heap.size) :=
                ⟨ho6, hob6, HC.out.step HBB.out, (hB.trans (hC3.below (fun g e => by omega) (by omega))).trans (hb6.mono (by omega)), by omega⟩
              clear ho6 hob6 hk6 hb6 hob2 hC3 ho3 ho hob
              have hs3' : w3.heap.size ≤ wr.heap.size := by omega
              clear hs3 hs6
              go_wp2_with (at_builtin; refine wpList_append_hr rfl _ _ 29 rfl _ _ rfl rfl hr ?_)
              obtain ⟨x1, x2, x3, x4, x5⟩ := HX.out
              exact ⟨⟨l ++ [(n : Int)], B.set n true, by simp, by simp; omega, by simpa using x1, x2, x3, x4, x5⟩, by simp [RowKit.intOf]; omega⟩
            · have h5 : ((k : Int) == 0) = false := beq_eq_false_iff_ne.2 (by omega)
              obtain ⟨k2, hk2⟩ : ∃ k2, k2 + 1 = k := ⟨k - 1, by omega⟩
              have hkb : k ≤ 1000 := by have h1 := HK.out; have h2 := HZ.out; omega
              have h6 : IntKind.i64.wrap ((k : Int) - 1) = (k2 : Int) := by rw [IntWalk.i64_in _ (by omega)]; omega
              have hk2' : Hid (k2 + 1 = k) := hk2
              clear hk2 hkb
              go_wp2_with fail
              refine ⟨⟨by trivial, k2, n + 1, by trivial, by simp, by omega, ?_, by trivial⟩, by simp [RowKit.intOf]; omega⟩
              show k2 + _ = z
              rw [take_count B HBB.out, if_pos rfl]
              rw [sum3, hk2'.out]
              exact HK.out
      · have b2 : ¬ (l.length : Int) < (tn : Int) := by omega
        obtain ⟨z, hz0⟩ : ∃ z : Nat, z = 0 := ⟨_, rfl⟩
        have HZ : Hid (z < m - l.length) := by show z < _; omega
        go_wp2_with fail
        go_loopw [6, 8, 9] (fun v6 vk vn W => v6 = .slice va l.length vc ∧ ∃ (k n : Nat), vk = .int .i64 (k : Int) ∧ vn = .int .i64 (n : Int) ∧ n ≤ m ∧ Hid (k + (B.take n).count false = z) ∧ W = wo) (fun _ _ vn _ => m - (RowKit.intOf vn).toNat)
        case atStart => exact ⟨rfl, 0, 0, rfl, rfl, Nat.zero_le _, (by show 0 + _ = z; simp [hz0]), rfl⟩
        case round =>
          obtain ⟨rfl, k, n, rfl, rfl, hnm, HK, rfl⟩ := hrel
          have hnm2 : n < m := by
            rcases Nat.lt_or_ge n m with h | h
            · exact h
            · exfalso
              have h1 : k + (B.take n).count false = z := HK.out
              have h2 := HC.out.cnt
              rw [List.take_of_length_le (by have := HC.out.len; omega)] at h1
              have := HZ.out
              omega
          have b3 : (n : Int) < (m : Int) := by omega
          obtain ⟨g2, off2, bb, e2, hg2, hb2, hc2⟩ := (hob.rw_ layB1).at n hnm2
          simp only [Option.some.injEq, Addr.mk.injEq, and_true] at e2
          obtain ⟨rfl, rfl⟩ := e2
          have c1 := hc2 0 _ rfl
          simp only [Nat.add_zero, Nat.mul_one, Nat.zero_add] at c1
          clear hc2
          have HBB : Hid (B[n]? = some bb) := hb2
          clear hb2
          cases bb with
          | true =>
            go_wp2_with fail
            refine ⟨⟨by trivial, k, n + 1, by trivial, by simp, by omega, ?_, by trivial⟩, by simp [RowKit.intOf]; omega⟩
            show k + _ = z
            rw [take_count B HBB.out]
            have := HK.out
            simp
            exact this
          | false =>
            by_cases hk : k = 0
            · subst hk
              have hfz : wr.frozen? ⟨w.heap.size, n, none⟩ = false := by
                rcases hob.2 with ⟨e, _⟩ | ⟨g', cap', cur, e, _, hh, _⟩
                · cases e
                · simp only [Value.slice.injEq, Option.some.injEq, Addr.mk.injEq] at e
                  obtain ⟨⟨rfl, _⟩, _⟩ := e
                  exact Lib.frozen_of_heap hh n
              have hob2 := ownB_set hob n true
              obtain ⟨w3, hw3⟩ : ∃ w3, wr.setCell ⟨w.heap.size, n, none⟩ (.bool true) = w3 := ⟨_, rfl⟩
              rw [hw3] at hob2
              have hC3 : Chg (fun g => g = w.heap.size) wr w3 := by rw [← hw3]; exact Chg.set (D := fun g => g = w.heap.size) (q := w.heap.size) n _ _ rfl
              have hs3 : w3.heap.size = wr.heap.size := by rw [← hw3]; simp
              have ho3 := ho.chg hC3 (fun g hg e => by have := ho.ge hg; omega)
              obtain ⟨g5, cap5, w6, hr, ho6, hb6, hk6, hs6, _⟩ := appendF_one kindI1 layI ho3 (by omega) (n : Int) #[.int .i64 (n : Int)] rfl 3 (by omega) (by omega) 29
              have hob6 : OwnF bool1 1 4 w6 w.heap.size (.slice (some ⟨w.heap.size, 0, none⟩) m m) (B.set n true) := by
                refine ⟨hob2.1, ?_⟩
                rcases hob2.2 with h0 | ⟨g', cap', cur, e, h1, hh, rest⟩
                · exact .inl h0
                · refine .inr ⟨g', cap', cur, e, h1, ?_, rest⟩
                  have e' := e
                  simp only [Value.slice.injEq, Option.some.injEq, Addr.mk.injEq] at e'
                  obtain ⟨⟨eg, _⟩, _⟩ := e'
                  refine (hk6 g' (by omega) (fun e5 => ?_)).trans hh
                  have := ho3.ge e5
                  omega
              have HX : Hid (OwnF intV 1 3 w6 (w.heap.size + 1) (.slice (some ⟨g5, 0, none⟩) (l.length + 1) cap5) (l ++ [(n : Int)]) ∧ OwnF bool1 1 4 w6 w.heap.size (.slice (some ⟨w.heap.size, 0, none⟩) m m) (B.set n true) ∧ Cm m (l ++ [(n : Int)]) (B.set n true) ∧ Below w.heap.size w w6 ∧ w.heap.size < w6.heap.size) :=
                ⟨ho6, hob6, HC.out.step HBB.out, (hB.trans (hC3.below (fun g e => by omega) (by omega))).trans (hb6.mono (by omega)), by omega⟩
              clear ho6 hob6 hk6 hb6 hob2 hC3 ho3 ho hob
              have hs3' : w3.heap.size ≤ wr.heap.size := by omega
              clear hs3 hs6
              go_wp2_with (at_builtin; refine wpList_append_hr rfl _ _ 29 rfl _ _ rfl rfl hr ?_)
              obtain ⟨x1, x2, x3, x4, x5⟩ := HX.out
              exact ⟨⟨l ++ [(n : Int)], B.set n true, by simp, by simp; omega, by simpa using x1, x2, x3, x4, x5⟩, by simp [RowKit.intOf]; omega⟩
            · have h5 : ((k : Int) == 0) = false := beq_eq_false_iff_ne.2 (by omega)
              obtain ⟨k2, hk2⟩ : ∃ k2, k2 + 1 = k := ⟨k - 1, by omega⟩
              have hkb : k ≤ 1000 := by have h1 := HK.out; have h2 := HZ.out; omega
              have h6 : IntKind.i64.wrap ((k : Int) - 1) = (k2 : Int) := by rw [IntWalk.i64_in _ (by omega)]; omega
              have hk2' : Hid (k2 + 1 = k) := hk2
              clear hk2 hkb
              go_wp2_with fail
              refine ⟨⟨by trivial, k2, n + 1, by trivial, by simp, by omega, ?_, by trivial⟩, by simp [RowKit.intOf]; omega⟩
              show k2 + _ = z
              rw [take_count B HBB.out, if_pos rfl]
              rw [sum3, hk2'.out]
              exact HK.out
    · have b1 : ¬ (l.length : Int) < (m : Int) := by omega
      go_wp2_with fail
      go_ret
      exact ⟨_, l, rfl, ho.mono (by omega), by omega, HC.out.nodup, HC.out.rng, hB⟩
end Go.Proofs.Ytiaidmhobbeedaa
