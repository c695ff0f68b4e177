import Derived.Test.YtelcjhflopgojaaMkJ
import Derived.Shelf.SlSortCmp.NoneTotal
import Derived.Lib.SliceRun
/-! The sort of marks. -/
namespace Go.Proofs.Ytelcjhflopgojaa
open Go.RowKit Go.Lib Go.Sort Go.Shelf
set_option maxRecDepth 100000

instance : Inhabited Mk := ⟨⟨[], 0, 0⟩⟩
def mkV (m : Mk) : List Value := [.string ⟨m.nm.toArray⟩, .int .i64 (m.lo : Int), .int .i64 (m.hi : Int)]
theorem layMk : Lay mkV 3 := ⟨fun _ => rfl, by decide, fun x u hu => by simp [mkV] at hu; rcases hu with rfl | rfl | rfl <;> rfl⟩
theorem kindMk : Kind Try.prog 39 34 3 32 := kind_of Try.underlying39 (z := .agg #[.string ⟨#[]⟩, .int .i64 0, .int .i64 0]) (by kernel_rfl) rfl
theorem cmp_self : ∀ a : List UInt8, Lib.compareBytes a a = 0
  | [] => rfl
  | x :: a => by
    have : ¬ x < x := UInt8.lt_irrefl x
    simp [Lib.compareBytes, this, cmp_self a]
theorem cmp_trans : ∀ a b c : List UInt8, Lib.compareBytes a b < 0 → Lib.compareBytes b c < 0 → Lib.compareBytes a c < 0
  | [], [], _, h, _ => by simp [Lib.compareBytes] at h
  | [], _ :: _, [], _, h => by simp [Lib.compareBytes] at h
  | [], _ :: _, _ :: _, _, _ => by simp [Lib.compareBytes]
  | _ :: _, [], _, h, _ => by simp [Lib.compareBytes] at h
  | _ :: _, _ :: _, [], _, h => by simp [Lib.compareBytes] at h
  | x :: a, y :: b, z :: c, h1, h2 => by
    have ih := cmp_trans a b c
    simp only [Lib.compareBytes, UInt8.lt_iff_toNat_lt] at h1 h2 ⊢
    split at h1
    · split at h2
      · rw [if_pos (by omega)]; omega
      · split at h2
        · omega
        · rw [if_pos (by omega)]; omega
    · split at h1
      · omega
      · split at h2
        · rw [if_pos (by omega)]; omega
        · split at h2
          · omega
          · rw [if_neg (by omega), if_neg (by omega)]
            exact ih h1 h2
theorem cmp_ntrans : ∀ a b c : List UInt8, ¬ Lib.compareBytes a b < 0 → ¬ Lib.compareBytes b c < 0 → ¬ Lib.compareBytes a c < 0
  | [], [], [], _, _ => by simp [Lib.compareBytes]
  | [], [], _ :: _, _, h => by simp [Lib.compareBytes] at h
  | [], _ :: _, _, h, _ => by simp [Lib.compareBytes] at h
  | _ :: _, _, [], _, _ => by simp [Lib.compareBytes]
  | _ :: _, [], _ :: _, _, h => by simp [Lib.compareBytes] at h
  | x :: a, y :: b, z :: c, h1, h2 => by
    have ih := cmp_ntrans a b c
    simp only [Lib.compareBytes, UInt8.lt_iff_toNat_lt] at h1 h2 ⊢
    split at h1
    · omega
    · split at h1
      · split at h2
        · omega
        · split at h2
          · rw [if_neg (by omega), if_pos (by omega)]; omega
          · rw [if_neg (by omega), if_pos (by omega)]; omega
      · split at h2
        · omega
        · split at h2
          · rw [if_neg (by omega), if_pos (by omega)]; omega
          · rw [if_neg (by omega), if_neg (by omega)]
            exact ih h1 h2
theorem cmp_eq_of : ∀ a b : List UInt8, ¬ Lib.compareBytes a b < 0 → ¬ Lib.compareBytes b a < 0 → a = b
  | [], [], _, _ => rfl
  | [], _ :: _, h, _ => by simp [Lib.compareBytes] at h
  | _ :: _, [], _, h => by simp [Lib.compareBytes] at h
  | x :: a, y :: b, h1, h2 => by
    have ih := cmp_eq_of a b
    simp only [Lib.compareBytes, UInt8.lt_iff_toNat_lt] at h1 h2
    by_cases c1 : x.toNat < y.toNat
    · rw [if_pos c1] at h1; omega
    · by_cases c2 : y.toNat < x.toNat
      · rw [if_pos c2] at h2; omega
      · rw [if_neg c1, if_neg c2] at h1
        rw [if_neg c2, if_neg c1] at h2
        rw [ih h1 h2, UInt8.toNat_inj.1 (by omega : x.toNat = y.toNat)]
/-- a stands ahead of b. -/
def ltM (x y : Mk) : Prop := x.lo < y.lo ∨ (x.lo = y.lo ∧ (x.hi < y.hi ∨ (x.hi = y.hi ∧ Lib.compareBytes x.nm y.nm < 0)))
theorem cmpI_lt (a b : Nat) : cmpI (a : Int) b = (if a < b then -1 else if b < a then 1 else 0) := by
  unfold cmpI
  split
  · rw [if_pos (by omega)]
  · split
    · rw [if_neg (by omega), if_pos (by omega)]
    · rw [if_neg (by omega), if_neg (by omega)]
theorem cmpM_lt (x y : Mk) : cmpM x y < 0 ↔ ltM x y := by
  unfold cmpM ltM
  simp only [orL, cmpI_lt]
  by_cases h1 : x.lo < y.lo
  · simp [h1]
  · by_cases h2 : y.lo < x.lo
    · simp [h1, h2]; omega
    · have h3 : x.lo = y.lo := by omega
      by_cases h4 : x.hi < y.hi
      · simp [h3, h4]
      · by_cases h5 : y.hi < x.hi
        · simp [h3, h4, h5]; omega
        · have h6 : x.hi = y.hi := by omega
          simp only [h3, h6, Nat.lt_irrefl, if_false, if_true, false_or, true_and]
          by_cases h7 : Lib.compareBytes x.nm y.nm = 0
          · simp [h7]
          · rw [if_neg h7]
theorem ltFm (x y : Mk) : ltOf cmpM x y = decide (cmpM x y < 0) := rfl
theorem swoMk : SWO (ltOf cmpM) where
  irrefl x := by
    rw [ltFm]
    refine decide_eq_false fun h => ?_
    have := (cmpM_lt x x).1 h
    unfold ltM at this
    rw [cmp_self] at this
    omega
  trans x y z h1 h2 := by
    rw [ltFm, decide_eq_true_eq, cmpM_lt] at *
    unfold ltM at *
    have ht := cmp_trans x.nm y.nm z.nm
    by_cases g1 : Lib.compareBytes x.nm y.nm < 0 <;> by_cases g2 : Lib.compareBytes y.nm z.nm < 0
    · have := ht g1 g2; omega
    · omega
    · omega
    · omega
  ntrans x y z h1 h2 := by
    rw [ltFm, decide_eq_false_iff_not, cmpM_lt] at *
    unfold ltM at *
    have ht := cmp_ntrans x.nm y.nm z.nm
    by_cases g1 : Lib.compareBytes x.nm y.nm < 0 <;> by_cases g2 : Lib.compareBytes y.nm z.nm < 0
    · omega
    · omega
    · omega
    · have := ht g1 g2; omega
/-- In the order of marks. -/
def Rises (k : List Mk) : Prop := k.Pairwise (fun x y => ¬ cmpM y x < 0)
theorem holdsK_ofF {w : World} {B g n cap : Nat} {l : List Mk} (h : OwnF mkV 3 34 w B (.slice (some ⟨g, 0, none⟩) n cap) l) : HoldsK mkV 3 w g 0 l.toArray := by
  rcases h.2 with ⟨e, _⟩ | ⟨g', cap', cur, e, _, hh, h1, h2, h3, h4⟩
  · cases e
  · simp only [Value.slice.injEq, Option.some.injEq, Addr.mk.injEq, and_true] at e
    obtain ⟨rfl, rfl, rfl⟩ := e
    intro t ht
    simp only [size_flatK, List.size_toArray] at ht
    rw [get_flatK _ _ _ _ (by simpa using ht)]
    have hq : t / 3 < l.length := by omega
    have hget : l.toArray[t / 3]! = l[t / 3] := by
      rw [getElem!_pos _ _ (by simpa using hq)]
      simp
    have hf := flatF_get layMk l (t / 3) _ (List.getElem?_eq_getElem hq) (t % 3) (by omega)
    rw [show t / 3 * 3 + t % 3 = t by omega, ← h4, List.getElem?_take, if_pos (by omega)] at hf
    refine ⟨?_, Lib.frozen_of_heap hh _⟩
    rw [hget]
    simp only [World.cell?, hh, Nat.zero_add]
    rw [← Array.getElem?_toList, hf]
    have hl3 : (mkV l[t / 3]).length = 3 := rfl
    rw [List.getElem?_eq_getElem (by omega), getElem!_pos _ _ (by omega)]
    rfl
theorem rw_of_holdsK {w : World} {g n : Nat} {d : Array Mk} (h : HoldsK mkV 3 w g 0 d) (hg : g < w.heap.size) (hn : d.size = n) (hm : n ≤ maxLen) : Rw mkV 3 w (some ⟨g, 0, none⟩) n n d.toList := by
  refine ⟨by simpa using hn, ⟨Nat.le_refl _, hm⟩, fun h0 => ⟨g, 0, rfl, hg, fun j x hj i v hv => ?_⟩⟩
  have hjl : j < d.size := by
    have := (List.getElem?_eq_some_iff.1 hj).1
    simpa using this
  have hi : i < 3 := (List.getElem?_eq_some_iff.1 hv).1
  have := (h (j * 3 + i) (by simp; omega)).1
  rw [get_flatK _ _ _ _ (by omega), show (j * 3 + i) / 3 = j by omega, show (j * 3 + i) % 3 = i by omega] at this
  rw [Nat.add_assoc, this, getElem!_pos d j hjl]
  have hx : d[j] = x := by
    have := (List.getElem?_eq_some_iff.1 hj).2
    simpa using this
  rw [hx]
  have h3 : (mkV x).length = 3 := rfl
  rw [getElem!_pos _ _ (by omega)]
  rw [List.getElem?_eq_getElem (by omega)] at hv
  exact congrArg _ (Option.some.inj hv)
theorem chg_sortWorldK {blk off m : Nat} {w : World} {dk : Array Mk} {os : Array Obj} : Chg (fun q => q = blk) w (sortWorldK mkV 3 w blk off m dk os) := by
  refine ⟨⟨rfl, rfl, rfl, size_sortWorldK_c _ _ _ _ _ _ _ _, fun k hk => absurd hk (Nat.not_lt_zero _)⟩, fun g hg hne => ?_⟩
  unfold sortWorldK grow putRowK putRow mapBlock Sort.ahead
  simp only
  rw [Array.getElem?_append_left (by simp; omega), Array.getElem?_modify, if_neg (fun e => hne e.symm)]
theorem own_sortWorldK {blk off m : Nat} {w : World} {dk : Array Mk} {os : Array Obj} {cur : Array Value} {T : TypeId} (h : w.heap[blk]? = some (.cells cur T)) : ∃ cs, (sortWorldK mkV 3 w blk off m dk os).heap[blk]? = some (.cells cs T) := by
  have hlt := (Array.getElem?_eq_some_iff.1 h).1
  unfold sortWorldK grow putRowK putRow mapBlock Sort.ahead
  simp only
  rw [Array.getElem?_append_left (by simp; omega), Array.getElem?_modify, if_pos rfl]
  rw [h]
  exact ⟨_, rfl⟩
theorem sortM {w : World} {B g n cap : Nat} {l : List Mk} (h : OwnF mkV 3 34 w B (.slice (some ⟨g, 0, none⟩) n cap) l) (hn : n ≤ 4398046511104) :
    Calls Try.prog 23 #[.slice (some ⟨g, 0, none⟩) n cap, .func (.func 24) #[] #[]] w fun e w' => e = .returned (.tuple #[]) ∧ ∃ k : List Mk, k.Perm l ∧ Rises k ∧ Rw mkV 3 w' (some ⟨g, 0, none⟩) n n k ∧ Chg (fun q => q = g) w w' ∧ ∃ cs, w'.heap[g]? = some (.cells cs 34) := by
  have hlen := (h.rw_ layMk).len
  have hg : g < w.heap.size := h.lt rfl
  have eg : ∀ args w, (callFunc 24 args).run Try.prog w = .ok (.enter 24 args) w := enters_of Try.func24 (by kernel_rfl) rfl
  have hH := holdsK_ofF h
  have hcon := AnyQ.slices_SortFunc Try.sortRange 3 Try.isAgg34 Try.sizeOf34 mkV (fun _ => rfl) (fun x v hv => layMk.one x v hv) cmpM swoMk 24 #[] g 0 cap l.toArray w eg (fun _ _ _ _ x y => compareM x y _) hH hg (by simp; omega)
  have hsz : l.toArray.size = n := by simpa using hlen
  rw [hsz] at hcon
  refine Calls.mono hcon ?_
  rintro e w' ⟨he, d', m, os, hp, hs, rfl⟩
  obtain ⟨hp1, _, hp3⟩ := hp
  refine ⟨he, d'.toList, ?_, ?_, rw_of_holdsK (holdsK_sortWorldK_c _ _ _ _ _ l.toArray d' m os hH hg hp1) (Nat.lt_of_lt_of_le hg (size_sortWorldK_c _ _ _ _ _ _ _ _)) (hp1.trans hsz) (by simp only [maxLen]; omega), chg_sortWorldK, ?_⟩
  · have e1 : (d'.extract 0 n).toList = d'.toList := by rw [← hsz, ← hp1]; simp
    have e2 : (l.toArray.extract 0 n).toList = l := by rw [← hsz]; simp
    rw [e1, e2] at hp3
    exact hp3
  · refine List.pairwise_iff_getElem.2 fun i j hi hj hij => ?_
    have := hs i j (Nat.zero_le _) hij (by rw [← hsz, ← hp1]; simpa using hj)
    rw [ltFm, getElem!_pos d' i (by simpa using hi), getElem!_pos d' j (by simpa using hj)] at this
    simp only [decide_eq_false_iff_not] at this
    simpa using this
  · rcases h.2 with ⟨e, _⟩ | ⟨g1, cap1, cur, e, _, hh, _⟩
    · cases e
    · simp only [Value.slice.injEq, Option.some.injEq, Addr.mk.injEq, and_true] at e
      obtain ⟨rfl, _, _⟩ := e
      exact own_sortWorldK hh
/-- The sort of no mark. -/
theorem sortM_none (p : Option Addr) (cap : Nat) (w : World) : Calls Try.prog 23 #[.slice p 0 cap, .func (.func 24) #[] #[]] w fun e w' => e = .returned (.tuple #[]) ∧ w' = w := AnyF.slices_SortFunc_none Try.sortRange p cap _ w
end Go.Proofs.Ytelcjhflopgojaa
