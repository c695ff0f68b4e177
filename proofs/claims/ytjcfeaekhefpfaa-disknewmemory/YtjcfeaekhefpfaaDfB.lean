import Derived.Test.YtjcfeaekhefpfaaDfA
import Derived.Test.YtjcfeaekhefpfaaDcG
/-! fit. -/
namespace Go.Proofs.Ytjcfeaekhefpfaa
open Go.RowKit Go.Lib Go.Sort Go.Shelf
set_option maxRecDepth 100000

theorem set3 {W : World} {q : Nat} {T : TypeId} {u0 u1 u2 : Value} (h : W.heap[q]? = some (.cells #[u0, u1, u2] T)) (v0 v1 v2 : Value) :
    ∃ W9, ((W.setCell ⟨q, 0, none⟩ v0).setCell ⟨q, 1, none⟩ v1).setCell ⟨q, 2, none⟩ v2 = W9 ∧ W9.heap[q]? = some (.cells #[v0, v1, v2] T) ∧ Chg (fun g => g = q) W W9 := by
  have e0 := heap_setCell_cells h 0 v0
  have e1 := heap_setCell_cells e0 1 v1
  have e2 := heap_setCell_cells e1 2 v2
  have hs : ∀ (i : Nat) (W : World) (u : Value), Chg (fun g => g = q) W (W.setCell ⟨q, i, none⟩ u) := fun i W u => Chg.set (D := fun g => g = q) (q := q) i W u rfl
  exact ⟨_, rfl, e2, ((hs 0 _ _).trans (hs 1 _ _)).trans (hs 2 _ _)⟩
/-- the copy of a file that a range lays -/
theorem fbox (W : World) (s : ByteArray) (a : Option Addr) (n c : Nat) (y : Int) : ∃ V V2, W.alloc (.cells #[.string ⟨#[]⟩, .slice none 0 0, .int .i64 0] 39) = V ∧ ((V.setCell ⟨W.heap.size, 0, none⟩ (.string s)).setCell ⟨W.heap.size, 1, none⟩ (.slice a n c)).setCell ⟨W.heap.size, 2, none⟩ (.int .i64 y) = V2 ∧ V.heap[W.heap.size]? = some (.cells #[.string ⟨#[]⟩, .slice none 0 0, .int .i64 0] 39) ∧ V2.heap[W.heap.size]? = some (.cells #[.string s, .slice a n c, .int .i64 y] 39) ∧ Below W.heap.size W V2 := by
  obtain ⟨V, hV⟩ : ∃ V, W.alloc (.cells #[.string ⟨#[]⟩, .slice none 0 0, .int .i64 0] 39) = V := ⟨_, rfl⟩
  have hVb : Below W.heap.size W V := by rw [← hV]; exact (Below.refl _ _).alloc (Nat.le_refl _) _
  have hVh : V.heap[W.heap.size]? = some (.cells #[.string ⟨#[]⟩, .slice none 0 0, .int .i64 0] 39) := by rw [← hV]; exact (MapKept.heap_alloc W _).1
  obtain ⟨V2, h1, h2, h3⟩ := set3 hVh (.string s) (.slice a n c) (.int .i64 y)
  exact ⟨V, V2, hV, h1, hVh, h2, hVb.trans (h3.below (fun x e => by omega) hVb.size)⟩
def sumV (vs : List Fv) : Nat := (vs.map (·.n)).sum
theorem sumV_succ (vs : List Fv) (k : Nat) (v : Fv) (h : vs[k]? = some v) : sumV (vs.take (k + 1)) = sumV (vs.take k) + v.n := by
  unfold sumV
  rw [List.take_add_one, h]
  simp
theorem sumV_take_le (vs : List Fv) (k : Nat) : sumV (vs.take k) ≤ sumV vs := by
  unfold sumV
  conv => rhs; rw [← List.take_append_drop k vs, List.map_append, List.sum_append]
  omega
set_option maxHeartbeats 2000000 in
theorem fit_any {w : World} {a : Option Addr} {n c : Nat} {vs : List Fv} (h : Rw fvV 3 w a n c vs) (hn : n ≤ 4398046511104) (hc : ∀ v ∈ vs, v.n ≤ 9223372036854775807) (lim : Nat) (hl : lim ≤ 1099511627776) :
    Calls Try.prog 40 #[.slice a n c, .int .i64 (lim : Int)] w fun e w' => e = .returned (.bool (decide (sumV vs ≤ lim))) ∧ Below w.heap.size w w' := by
  have HR : Hid (Rw fvV 3 w a n c vs ∧ n ≤ 4398046511104 ∧ ∀ v ∈ vs, v.n ≤ 9223372036854775807) := ⟨h, hn, hc⟩
  have HL : Hid (lim ≤ 1099511627776) := hl
  clear h hc
  go_enter Try.func40, Try.ntmps40
  go_wp2_with fail
  go_loopw [5, 11] (fun vr vi wr => ∃ k : Nat, k ≤ n ∧ vi = .int .i64 (k : Int) ∧ vr = .int .i64 ((lim : Int) - (sumV (vs.take k) : Int)) ∧ Hid (sumV (vs.take k) ≤ lim ∧ Below w.heap.size w wr)) (fun _ vi _ => n - (RowKit.intOf vi).toNat)
  case atStart => exact ⟨0, Nat.zero_le _, rfl, by simp [sumV], by simp [sumV], Below.refl _ _⟩
  case round =>
    obtain ⟨k, hk, rfl, rfl, hS⟩ := hrel
    obtain ⟨sm, hsm⟩ : ∃ sm, sumV (vs.take k) = sm := ⟨_, rfl⟩
    have HSM : Hid (sumV (vs.take k) = sm ∧ sm ≤ lim) := ⟨hsm, hsm ▸ hS.out.1⟩
    rw [hsm]
    clear hsm
    by_cases hlt : k < n
    · have hlt2 : (k : Int) < (n : Int) := by omega
      obtain ⟨g, off, v, ha, hg, hv, hcell⟩ := (HR.out.1.below hS.out.2).at k hlt
      subst ha
      have o0 := hcell 0 _ rfl
      have o1 := hcell 1 _ rfl
      have o2 := hcell 2 _ rfl
      rw [Nat.add_zero] at o0
      obtain ⟨V, V2, hV, hV2, hVh, hh, hb⟩ := fbox wr ⟨v.nm.toArray⟩ v.a v.n v.cap (v.syn : Int)
      obtain ⟨z0, z1, z2⟩ := box3 hVh
      have k0 := Lib.frozen_of_heap hVh 0
      have k1 := Lib.frozen_of_heap hVh 1
      have k2 := Lib.frozen_of_heap hVh 2
      obtain ⟨e0, e1, e2⟩ := box3 hh
      have HB : Hid (Below w.heap.size w V2 ∧ vs[k]? = some v) := ⟨hS.out.2.trans (hb.mono hS.out.2.size), hv⟩
      have hvn : (v.n : Int) ≤ 9223372036854775807 := by have := HR.out.2.2 v (List.mem_of_getElem? hv); omega
      have gi : IntKind.i64.wrap ((k : Int) + 1) = ((k + 1 : Nat) : Int) := by rw [IntWalk.i64_in _ (by omega)]; omega
      have hsl := HSM.out.2
      clear hcell hv hVh hh hb hg
      by_cases hroom : (lim : Int) - (sm : Int) < (v.n : Int)
      · have HFA : Hid (decide (sumV vs ≤ lim) = false) := by
          have h1 := sumV_succ vs k v HB.out.2
          have h2 := sumV_take_le vs (k + 1)
          have h3 := HSM.out.1
          exact decide_eq_false (by omega)
        go_wp2_with fail
        go_ret
        rw [HFA.out]
        exact ⟨rfl, HB.out.1⟩
      · have g2 : IntKind.i64.wrap ((lim : Int) - (sm : Int) - (v.n : Int)) = (lim : Int) - (sm : Int) - (v.n : Int) := IntWalk.i64_in _ (by have := HL.out; omega)
        go_wp2_with fail
        go_roundw
        case rel =>
          have h1 := sumV_succ vs k v HB.out.2
          have h3 := HSM.out.1
          exact ⟨k + 1, by omega, by first | rfl | go_num, by rw [h1, h3]; first | rfl | (congr 1; omega), by rw [h1, h3]; omega, HB.out.1⟩
        case measure => simp [RowKit.intOf]; omega
    · obtain rfl : k = n := by omega
      have hlt2 : ¬ ((k : Int) < (k : Int)) := by omega
      have HFA : Hid (decide (sumV vs ≤ lim) = true) := by
        have h1 := HR.out.1.len
        have h2 := hS.out.1
        rw [List.take_of_length_le (by omega)] at h2
        exact decide_eq_true h2
      go_wp2_with fail
      go_ret
      rw [HFA.out]
      exact ⟨rfl, hS.out.2⟩
end Go.Proofs.Ytjcfeaekhefpfaa
