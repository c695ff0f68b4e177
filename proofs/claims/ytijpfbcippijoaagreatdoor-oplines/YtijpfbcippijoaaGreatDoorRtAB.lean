import Derived.Test.YtijpfbcippijoaaGreatDoorRpAC
import Derived.Shelf.Abstract
namespace Go.Proofs.YtijpfbcippijoaaGreatDoor
open Go.RowKit Go.Lib Go.Shelf
set_option maxRecDepth 100000
def Found (P : Nat → Bool) (n i : Nat) : Prop := i ≤ n ∧ (0 < i → P (i - 1) = false) ∧ (i < n → P i = true)
set_option maxHeartbeats 4000000 in
theorem search_any (k : Nat) (caps : Array Value) (n : Nat) (hn : n ≤ 4294967296) (P : Nat → Bool) (w : World) (hE : ∀ (args : Array Value) (w : World), (callFunc k args).run Tryz.prog w = .ok (.enter k args) w)
    (hC : ∀ h W, h < n → Below w.heap.size w W → Calls Tryz.prog k (#[.int .i64 (h : Int)] ++ caps) W fun e W' => e = .returned (.bool (P h)) ∧ Below W.heap.size W W') :
    Calls Tryz.prog 122 #[.int .i64 (n : Int), .func (.func k) #[] caps] w fun e w' => ∃ i : Nat, e = .returned (.int .i64 (i : Int)) ∧ Found P n i ∧ Below w.heap.size w w' := by
  go_enter Tryz.func122, Tryz.ntmps122
  go_wp2_with fail
  go_loopw [5, 6, 7] (fun v3 v4 _ W => ∃ i j : Nat, i ≤ j ∧ j ≤ n ∧ v3 = .int .i64 i ∧ v4 = .int .i64 j ∧ (0 < i → P (i - 1) = false) ∧ (j < n → P j = true) ∧ Below w.heap.size w W) (fun v3 v4 _ _ => (RowKit.intOf v4 - RowKit.intOf v3).toNat)
  case atStart => exact ⟨0, n, by omega, by omega, rfl, rfl, by omega, by omega, Below.refl _ _⟩
  case round =>
    obtain ⟨i, j, hij, hj, rfl, rfl, hi1, hj1, hB⟩ := hrel
    by_cases hlt : i < j
    · have b1 : decide ((i : Int) < (j : Int)) = true := decide_eq_true (by omega)
      obtain ⟨h, hh⟩ : ∃ h, (i + j) / 2 = h := ⟨_, rfl⟩
      have hhi : i ≤ h ∧ h < j := by omega
      have e1 : IntKind.i64.wrap ((i : Int) + (j : Int)) = (i : Int) + (j : Int) := IntWalk.i64_in _ (by omega)
      have e2 : IntKind.u64.wrap ((i : Int) + (j : Int)) = (i : Int) + (j : Int) := by rw [IntKind.wrap_u64]; omega
      have e3 : ((i : Int) + (j : Int)) / 2 = (h : Int) := by omega
      have e4 : IntKind.i64.wrap (h : Int) = (h : Int) := IntWalk.i64_in _ (by omega)
      have HCh := hC h wr (by omega) hB
      clear hC
      go_wp2_with fail
      refine HCh.mono ?_
      rintro e W1 ⟨rfl, hb1⟩
      clear HCh
      have hB1 : Below w.heap.size w W1 := hB.trans (hb1.mono hB.size)
      cases hp : P h with
      | true =>
        go_wp2_with fail
        exact ⟨⟨i, h, by omega, by omega, rfl, rfl, hi1, fun _ => hp, hB1⟩, by simp [RowKit.intOf]; omega⟩
      | false =>
        go_wp2_with fail
        exact ⟨⟨h + 1, j, by omega, by omega, by simp, rfl, fun _ => by simpa using hp, hj1, hB1⟩, by simp [RowKit.intOf]; omega⟩
    · have b1 : decide ((i : Int) < (j : Int)) = false := decide_eq_false (by omega)
      obtain rfl : i = j := by omega
      clear hC
      go_wp2_with fail
      go_ret
      exact ⟨i, rfl, ⟨hj, hi1, hj1⟩, hB⟩
def atP (l : List (Int × Int)) (j : Nat) : Int × Int := l.getD j (0, 0)
set_option maxHeartbeats 2000000 in
theorem meeting1_any {W : World} {a : Option Addr} {n cap : Nat} {l : List (Int × Int)} (h : Rw pieceV 2 W a n cap l) {bl bo : Nat} {lo : Int} (hl : W.heap[bl]? = some (.cells #[.slice a n cap] 42)) (ho : W.heap[bo]? = some (.cells #[.int .i64 lo] 3)) (j : Nat) (hj : j < n) :
    Calls Tryz.prog 123 #[.int .i64 (j : Int), .pointer (some ⟨bl, 0, none⟩), .pointer (some ⟨bo, 0, none⟩)] W fun e W' => e = .returned (.bool (decide (lo < (atP l j).2))) ∧ Below W.heap.size W W' := by
  obtain ⟨g, off, x, rfl, hg, hx, hc⟩ := h.at j hj
  have e : atP l j = x := by unfold atP; rw [List.getD_eq_getElem?_getD, hx]; rfl
  rw [e]
  have c1 := hc 1 _ rfl
  have k0 : W.cell? ⟨bl, 0, none⟩ = some (.slice (some ⟨g, off, none⟩) n cap) := by rw [Lib.cell_of_heap hl]; rfl
  have k1 : W.cell? ⟨bo, 0, none⟩ = some (.int .i64 lo) := by rw [Lib.cell_of_heap ho]; rfl
  clear h hc hx hl ho e
  go_enter Tryz.func123, Tryz.ntmps123
  go_wp2_with fail
  go_quiet (fail)
  go_wp2_with fail
  go_ret
  exact ⟨rfl, below_drewN (Below.refl _ _) _⟩
set_option maxHeartbeats 2000000 in
theorem meeting2_any {W : World} {a : Option Addr} {n cap : Nat} {l : List (Int × Int)} (h : Rw pieceV 2 W a n cap l) {bl bo : Nat} {hi : Int} (hl : W.heap[bl]? = some (.cells #[.slice a n cap] 42)) (ho : W.heap[bo]? = some (.cells #[.int .i64 hi] 3)) (j : Nat) (hj : j < n) :
    Calls Tryz.prog 124 #[.int .i64 (j : Int), .pointer (some ⟨bl, 0, none⟩), .pointer (some ⟨bo, 0, none⟩)] W fun e W' => e = .returned (.bool (decide (hi ≤ (atP l j).1))) ∧ Below W.heap.size W W' := by
  obtain ⟨g, off, x, rfl, hg, hx, hc⟩ := h.at j hj
  have e : atP l j = x := by unfold atP; rw [List.getD_eq_getElem?_getD, hx]; rfl
  rw [e]
  have c1 := hc 0 _ rfl
  simp only [Nat.add_zero] at c1
  have k0 : W.cell? ⟨bl, 0, none⟩ = some (.slice (some ⟨g, off, none⟩) n cap) := by rw [Lib.cell_of_heap hl]; rfl
  have k1 : W.cell? ⟨bo, 0, none⟩ = some (.int .i64 hi) := by rw [Lib.cell_of_heap ho]; rfl
  clear h hc hx hl ho e
  go_enter Tryz.func124, Tryz.ntmps124
  go_wp2_with fail
  go_quiet (fail)
  go_wp2_with fail
  go_ret
  exact ⟨rfl, below_drewN (Below.refl _ _) _⟩
theorem kindPc : Kind Tryz.prog 42 76 2 16 := kind_of Tryz.underlying42 (z := .agg #[.int .i64 0, .int .i64 0]) (by kernel_rfl) rfl
theorem elemPc : Tryz.prog.elem 42 = 76 := by kernel_rfl
theorem cut_list {w : World} {a : Option Addr} {n cap : Nat} {l : List (Int × Int)} (h : Rw pieceV 2 w a n cap l) (i j : Nat) (h1 : i ≤ j) (h2 : j ≤ n) :
    ∃ a' cap', (∀ W : World, (Instr.slice 42 (.slice a n cap) (some (.int .i64 (i : Int))) (some (.int .i64 (j : Int))) none).run Tryz.prog W = .ok (.slice a' (j - i) cap') W) ∧ Rw pieceV 2 w a' (j - i) cap' ((l.take j).drop i) := by
  obtain ⟨ti, z, hti, hz, hsz, hby, _⟩ := kindPc.info
  have hroom := h.room
  have hlen := h.len
  have hrun := fun W : World => run_slice_lh (P := Tryz.prog) W 42 a n cap (by rw [elemPc]; exact kindPc.under) .i64 .i64 (i : Int) (j : Int) (by omega) (by omega) (by omega)
  rcases Nat.eq_zero_or_pos n with h0 | h0
  · obtain rfl : j = 0 := by omega
    obtain rfl : i = 0 := by omega
    refine ⟨a, cap, fun W => ?_, ⟨by simp, ⟨by omega, hroom.2⟩, fun h => absurd h (by omega)⟩⟩
    rw [hrun W, elemPc]
    cases a <;> simp [sizeOf, typeInfo, hti, hsz, sliced, Addr.add]
  · obtain ⟨g, off, rfl, hg, _⟩ := h.cells h0
    by_cases hc : i < cap
    · refine ⟨some ⟨g, off + i * 2, none⟩, cap - i, fun W => ?_, (h.take j h2).drop i h1⟩
      rw [hrun W, elemPc]
      simp [sizeOf, typeInfo, hti, hsz, sliced, addr_add']
      omega
    · obtain rfl : i = cap := by omega
      obtain rfl : j = i := by omega
      refine ⟨some ⟨g, off, none⟩, j - j, fun W => ?_, ⟨by simp, ⟨by omega, by omega⟩, fun h0 => by omega⟩⟩
      rw [hrun W, elemPc]
      simp [sizeOf, typeInfo, hti, hsz, sliced]
set_option maxHeartbeats 4000000 in
theorem meeting_any {w : World} {a : Option Addr} {n cap : Nat} {l : List (Int × Int)} (h : Rw pieceV 2 w a n cap l) (hn : n ≤ 4294967296) (lo hi : Int) (hord : ∀ i j, Found (fun k => decide (lo < (atP l k).2)) n i → Found (fun k => decide (hi ≤ (atP l k).1)) n j → i ≤ j) :
    Calls Tryz.prog 97 #[.slice a n cap, .int .i64 lo, .int .i64 hi] w fun e w' => ∃ (i j : Nat) (a' : Option Addr) (cap' : Nat), Found (fun k => decide (lo < (atP l k).2)) n i ∧ Found (fun k => decide (hi ≤ (atP l k).1)) n j ∧ i ≤ j ∧ e = .returned (.slice a' (j - i) cap') ∧ Rw pieceV 2 w' a' (j - i) cap' ((l.take j).drop i) ∧ Below w.heap.size w w' := by
  obtain ⟨wa, ewa⟩ : ∃ W, ((w.alloc (.cells #[.slice a n cap] 42)).alloc (.cells #[.int .i64 lo] 3)).alloc (.cells #[.int .i64 hi] 3) = W := ⟨_, rfl⟩
  have hba : Below w.heap.size w wa := ewa ▸ ((((Below.refl _ w).alloc (Nat.le_refl _) _).alloc (by simp) _).alloc (by simp; omega) _)
  have h0 : wa.heap[w.heap.size]? = some (.cells #[.slice a n cap] 42) := by
    rw [← ewa]
    simp only [World.alloc, Array.getElem?_push, Array.size_push]
    rw [if_neg (by omega), if_neg (by omega), if_pos trivial]
  have h1 : wa.heap[w.heap.size + 1]? = some (.cells #[.int .i64 lo] 3) := by rw [← ewa]; simp only [World.alloc, Array.getElem?_push, Array.size_push]; simp
  have h2 : wa.heap[w.heap.size + 1 + 1]? = some (.cells #[.int .i64 hi] 3) := by rw [← ewa]; simp only [World.alloc, Array.getElem?_push, Array.size_push]; simp
  have hmf : ∀ (fn : Fn) (first cap : Array Value) (w : World), (Instr.makeFunc fn first cap).run Tryz.prog w = .ok (.func fn first cap) w := fun _ _ _ _ => rfl
  have bx : ∀ {W : World} {b : Nat} {T : TypeId} {v : Value}, wa.heap[b]? = some (.cells #[v] T) → Below wa.heap.size wa W → W.heap[b]? = some (.cells #[v] T) := fun hb hW => (hW.block _ (Array.getElem?_eq_some_iff.1 hb).1).trans hb
  have S1 : ∀ W, Below wa.heap.size wa W → Calls Tryz.prog 122 #[.int .i64 (n : Int), .func (.func 123) #[] #[.pointer (some ⟨w.heap.size, 0, none⟩), .pointer (some ⟨w.heap.size + 1, 0, none⟩)]] W fun e w' => ∃ i : Nat, e = .returned (.int .i64 (i : Int)) ∧ Found (fun k => decide (lo < (atP l k).2)) n i ∧ Below W.heap.size W w' := fun W hW =>
    search_any _ _ n hn _ W (enters_of Tryz.func123 (by kernel_rfl) rfl) (fun k X hk hX => meeting1_any ((h.below hba).below (hW.trans (hX.mono hW.size))) (bx h0 (hW.trans (hX.mono hW.size))) (bx h1 (hW.trans (hX.mono hW.size))) k hk)
  have S2 : ∀ W, Below wa.heap.size wa W → Calls Tryz.prog 122 #[.int .i64 (n : Int), .func (.func 124) #[] #[.pointer (some ⟨w.heap.size, 0, none⟩), .pointer (some ⟨w.heap.size + 1 + 1, 0, none⟩)]] W fun e w' => ∃ i : Nat, e = .returned (.int .i64 (i : Int)) ∧ Found (fun k => decide (hi ≤ (atP l k).1)) n i ∧ Below W.heap.size W w' := fun W hW =>
    search_any _ _ n hn _ W (enters_of Tryz.func124 (by kernel_rfl) rfl) (fun k X hk hX => meeting2_any ((h.below hba).below (hW.trans (hX.mono hW.size))) (bx h0 (hW.trans (hX.mono hW.size))) (bx h2 (hW.trans (hX.mono hW.size))) k hk)
  have c0 : wa.cell? ⟨w.heap.size, 0, none⟩ = some (.slice a n cap) := by rw [Lib.cell_of_heap h0]; rfl
  have hl0 := (Array.getElem?_eq_some_iff.1 h0).1
  have T1 := S1 wa (Below.refl _ _)
  have HS2 : Hid (∀ W, Below wa.heap.size wa W → Calls Tryz.prog 122 #[.int .i64 (n : Int), .func (.func 124) #[] #[.pointer (some ⟨w.heap.size, 0, none⟩), .pointer (some ⟨w.heap.size + 1 + 1, 0, none⟩)]] W fun e w' => ∃ i : Nat, e = .returned (.int .i64 (i : Int)) ∧ Found (fun k => decide (hi ≤ (atP l k).1)) n i ∧ Below W.heap.size W w') := S2
  have HX : Hid (Rw pieceV 2 w a n cap l ∧ Below w.heap.size w wa ∧ wa.heap[w.heap.size]? = some (.cells #[.slice a n cap] 42) ∧ (∀ i j, Found (fun k => decide (lo < (atP l k).2)) n i → Found (fun k => decide (hi ≤ (atP l k).1)) n j → i ≤ j)) := ⟨h, hba, h0, hord⟩
  clear S1 S2 bx h h1 h2 h0 hba hord
  go_enter Tryz.func97, Tryz.ntmps97
  go_wp2_with fail
  refine T1.mono ?_
  rintro e w1 ⟨i, rfl, hi1, hb1⟩
  clear T1
  obtain ⟨h, hba, h0, hord⟩ := HX.out
  have T2 := HS2.out w1 hb1
  have c1 := (hb1.cell (p := ⟨w.heap.size, 0, none⟩) hl0).trans c0
  clear HS2 c0
  go_wp2_with fail
  refine T2.mono ?_
  rintro e w2 ⟨j, rfl, hj1, hb2⟩
  clear T2
  have hij := hord i j hi1 hj1
  have c2 := (hb2.cell (p := ⟨w.heap.size, 0, none⟩) (Nat.lt_of_lt_of_le hl0 hb1.size)).trans c1
  have hB2 : Below w.heap.size w w2 := (hba.trans (hb1.mono hba.size)).trans (hb2.mono (Nat.le_trans hba.size hb1.size))
  obtain ⟨a', cap', hs, hr⟩ := cut_list h i j hij hj1.1
  have HZ : Hid (Found (fun k => decide (lo < (atP l k).2)) n i ∧ Found (fun k => decide (hi ≤ (atP l k).1)) n j ∧ i ≤ j ∧ Rw pieceV 2 w2 a' (j - i) cap' ((l.take j).drop i) ∧ Below w.heap.size w w2) := ⟨hi1, hj1, hij, hr.below hB2, hB2⟩
  clear h hba h0 hord hi1 hj1 hr hB2 hb1 hb2 c1
  go_wp2_with fail
  go_ret
  obtain ⟨z1, z2, z3, z4, z5⟩ := HZ.out
  exact ⟨i, j, a', cap', z1, z2, z3, rfl, z4, z5⟩
end Go.Proofs.YtijpfbcippijoaaGreatDoor

namespace Go.Proofs.YtijpfbcippijoaaGreatDoor
set_option maxRecDepth 100000
structure Srt (l : List (Int × Int)) : Prop where
  some_ : ∀ x ∈ l, x.1 < x.2
  apart : ∀ (i j : Nat) x y, i < j → l[i]? = some x → l[j]? = some y → x.2 < y.1
def meetL (lo hi : Int) (l : List (Int × Int)) : List (Int × Int) := l.filter fun x => decide (lo < x.2 ∧ x.1 < hi)
theorem atP_get {l : List (Int × Int)} {k : Nat} (h : k < l.length) : l[k]? = some (atP l k) := by
  unfold atP
  rw [List.getD_eq_getElem?_getD, List.getElem?_eq_getElem h]
  rfl
section
variable {l : List (Int × Int)} (h : Srt l) {lo hi : Int} {i j : Nat}
include h
theorem Srt.mono {k m : Nat} (hkm : k < m) (hm : m < l.length) : (atP l k).1 < (atP l m).1 ∧ (atP l k).2 < (atP l m).2 := by
  have h1 := h.apart k m _ _ hkm (atP_get (by omega)) (atP_get hm)
  have h2 := h.some_ _ (List.mem_of_getElem? (atP_get (k := k) (by omega)))
  have h3 := h.some_ _ (List.mem_of_getElem? (atP_get hm))
  omega
theorem Srt.found1 (hf : Found (fun k => decide (lo < (atP l k).2)) l.length i) : (∀ k, k < i → (atP l k).2 ≤ lo) ∧ ∀ k, i ≤ k → k < l.length → lo < (atP l k).2 := by
  obtain ⟨h1, h2, h3⟩ := hf
  refine ⟨fun k hk => ?_, fun k hk hl => ?_⟩
  · have h4 := h2 (by omega)
    simp only [decide_eq_false_iff_not] at h4
    rcases Nat.lt_or_ge k (i - 1) with e | e
    · have := (h.mono e (by omega)).2; omega
    · obtain rfl : k = i - 1 := by omega
      omega
  · have h4 := h3 (by omega)
    simp only [decide_eq_true_eq] at h4
    rcases Nat.lt_or_ge i k with e | e
    · have := (h.mono e hl).2; omega
    · obtain rfl : k = i := by omega
      exact h4
theorem Srt.found2 (hf : Found (fun k => decide (hi ≤ (atP l k).1)) l.length j) : (∀ k, k < j → (atP l k).1 < hi) ∧ ∀ k, j ≤ k → k < l.length → hi ≤ (atP l k).1 := by
  obtain ⟨h1, h2, h3⟩ := hf
  refine ⟨fun k hk => ?_, fun k hk hl => ?_⟩
  · have h4 := h2 (by omega)
    simp only [decide_eq_false_iff_not] at h4
    rcases Nat.lt_or_ge k (j - 1) with e | e
    · have := (h.mono e (by omega)).1; omega
    · obtain rfl : k = j - 1 := by omega
      omega
  · have h4 := h3 (by omega)
    simp only [decide_eq_true_eq] at h4
    rcases Nat.lt_or_ge j k with e | e
    · have := (h.mono e hl).1; omega
    · obtain rfl : k = j := by omega
      exact h4
theorem Srt.order (hlh : lo ≤ hi) (h1 : Found (fun k => decide (lo < (atP l k).2)) l.length i) (h2 : Found (fun k => decide (hi ≤ (atP l k).1)) l.length j) : i ≤ j := by
  rcases Nat.lt_or_ge j i with e | e
  · have a := (h.found1 h1).1 j e
    have b := (h.found2 h2).2 j (Nat.le_refl _) (by have := h1.1; omega)
    have c := h.some_ _ (List.mem_of_getElem? (atP_get (k := j) (by have := h1.1; omega)))
    omega
  · exact e
theorem Srt.cut (hij : i ≤ j) (h1 : Found (fun k => decide (lo < (atP l k).2)) l.length i) (h2 : Found (fun k => decide (hi ≤ (atP l k).1)) l.length j) : (l.take j).drop i = meetL lo hi l := by
  obtain ⟨f1, f2⟩ := h.found1 h1
  obtain ⟨g1, g2⟩ := h.found2 h2
  have hj := h2.1
  have e : l = l.take i ++ ((l.take j).drop i ++ l.drop j) := by
    have e1 : l = l.take j ++ l.drop j := (List.take_append_drop j l).symm
    have e2 : l.take j = (l.take j).take i ++ (l.take j).drop i := (List.take_append_drop i _).symm
    rw [List.take_take, Nat.min_eq_left hij] at e2
    conv => lhs; rw [e1, e2]
    rw [List.append_assoc]
  have mem : ∀ (m : List (Int × Int)) (P : Int × Int → Prop), (∀ k x, m[k]? = some x → P x) → ∀ x ∈ m, P x := fun m P hm x hx => by
    obtain ⟨k, hk⟩ := List.getElem?_of_mem hx
    exact hm k x hk
  have key : ∀ k x, l[k]? = some x → x = atP l k ∧ k < l.length := fun k x hx => by
    have hl := (List.getElem?_eq_some_iff.1 hx).1
    rw [atP_get hl] at hx
    exact ⟨(Option.some.inj hx).symm, hl⟩
  unfold meetL
  conv => rhs; rw [e]
  rw [List.filter_append, List.filter_append, List.filter_eq_nil_iff.2, List.filter_eq_self.2, List.filter_eq_nil_iff.2]
  · simp
  · refine mem _ _ fun k x hx => ?_
    rw [List.getElem?_drop] at hx
    obtain ⟨rfl, hl⟩ := key _ _ hx
    have := g2 (j + k) (by omega) hl
    simp only [decide_eq_true_eq]
    omega
  · refine mem _ _ fun k x hx => ?_
    rw [List.getElem?_drop, List.getElem?_take] at hx
    split at hx
    · obtain ⟨rfl, hl⟩ := key _ _ hx
      have a := f2 (i + k) (by omega) hl
      have b := g1 (i + k) (by omega)
      simp only [decide_eq_true_eq]
      omega
    · cases hx
  · refine mem _ _ fun k x hx => ?_
    rw [List.getElem?_take] at hx
    split at hx
    · obtain ⟨rfl, hl⟩ := key _ _ hx
      have := f1 k (by omega)
      simp only [decide_eq_true_eq]
      omega
    · cases hx
end
open Go.RowKit Go.Lib
theorem meeting_list {w : World} {a : Option Addr} {n cap : Nat} {l : List (Int × Int)} (h : Rw pieceV 2 w a n cap l) (hn : n ≤ 4294967296) (hs : Srt l) (lo hi : Int) (hlh : lo ≤ hi) :
    Calls Tryz.prog 97 #[.slice a n cap, .int .i64 lo, .int .i64 hi] w fun e w' => ∃ (a' : Option Addr) (cap' : Nat), e = .returned (.slice a' (meetL lo hi l).length cap') ∧ Rw pieceV 2 w' a' (meetL lo hi l).length cap' (meetL lo hi l) ∧ Below w.heap.size w w' := by
  have hl := h.len
  subst hl
  refine (meeting_any h hn lo hi (fun i j h1 h2 => hs.order hlh h1 h2)).mono ?_
  rintro e w' ⟨i, j, a', cap', h1, h2, hij, rfl, hr, hb⟩
  have ec := hs.cut hij h1 h2
  have el := hr.len
  rw [ec] at hr el
  rw [← el] at hr ⊢
  exact ⟨a', cap', rfl, hr, hb⟩
end Go.Proofs.YtijpfbcippijoaaGreatDoor
