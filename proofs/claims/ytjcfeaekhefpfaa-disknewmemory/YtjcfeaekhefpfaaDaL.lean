import Derived.Test.YtjcfeaekhefpfaaDaK
import Derived.Test.YtjcfeaekhefpfaaLayF
import Derived.Lib.Bytealg
/-! Files as values; strings.Compare; the sort by names; bytes.Clone. -/
namespace Go.Proofs.Ytjcfeaekhefpfaa
open Go.RowKit Go.Lib Go.Sort Go.Shelf
set_option maxRecDepth 100000

set_option maxHeartbeats 1000000 in
theorem cmpString_any (a b : ByteArray) (w : World) : Calls Try.prog 47 #[.string a, .string b] w fun e w' => e = .returned (.int .i64 (Lib.compareBytes a.data.toList b.data.toList)) ∧ w' = w := by
  go_enter Try.func47, Try.ntmps47
  go_wp2
  rw [run_callFunc_extern Try.func62 (by kernel_rfl) (by kernel_rfl) (by kernel_rfl) (e := Extern.BytealgCompare.compare) (by kernel_rfl), Lib.run_compareString]
  simp only [Result.andThen]
  rw [Oper.upon_value]
  go_wp2
  go_ret
  exact ⟨rfl, rfl⟩
set_option maxHeartbeats 1000000 in
theorem compare_any (a b : ByteArray) (w : World) : Calls Try.prog 31 #[.string a, .string b] w fun e w' => e = .returned (.int .i64 (Lib.compareBytes a.data.toList b.data.toList)) ∧ w' = w := by
  have HC : Hid (Calls Try.prog 47 #[.string a, .string b] w fun e w' => e = .returned (.int .i64 (Lib.compareBytes a.data.toList b.data.toList)) ∧ w' = w) := cmpString_any a b w
  generalize Lib.compareBytes a.data.toList b.data.toList = r at *
  go_enter Try.func31, Try.ntmps31
  go_wp2_with fail
  refine HC.out.mono ?_
  rintro e w1 ⟨rfl, rfl⟩
  go_wp2_with fail
  go_ret
  exact ⟨rfl, rfl⟩

/-- An api.File as it lies: its name, the slice of its bytes, how many are durable. -/
structure Fv where
  nm : List UInt8
  a : Option Addr
  n : Nat
  cap : Nat
  syn : Nat
instance : Inhabited Fv := ⟨⟨[], none, 0, 0, 0⟩⟩
def fvV (f : Fv) : List Value := [.string ⟨f.nm.toArray⟩, .slice f.a f.n f.cap, .int .i64 (f.syn : Int)]
theorem layFv : Lay fvV 3 := ⟨fun _ => rfl, by decide, fun x u hu => by simp [fvV] at hu; rcases hu with rfl | rfl | rfl <;> rfl⟩
theorem kindFv : Kind Try.prog 36 39 3 48 := kind_of Try.underlying36 (z := .agg #[.string ⟨#[]⟩, .slice none 0 0, .int .i64 0]) (by kernel_rfl) rfl
def cmpFv (x y : Fv) : Int := Lib.compareBytes x.nm y.nm
set_option maxHeartbeats 1000000 in
theorem closureFv (x y : Fv) (W : World) : Calls Try.prog 30 #[.agg #[.string ⟨x.nm.toArray⟩, .slice x.a x.n x.cap, .int .i64 (x.syn : Int)], .agg #[.string ⟨y.nm.toArray⟩, .slice y.a y.n y.cap, .int .i64 (y.syn : Int)]] W fun e w' => e = .returned (.int .i64 (cmpFv x y)) ∧ ∃ q os', w' = grow (W.drewN q) os' := by
  have HC : Hid (∀ W, Calls Try.prog 31 #[.string ⟨x.nm.toArray⟩, .string ⟨y.nm.toArray⟩] W fun e w' => e = .returned (.int .i64 (cmpFv x y)) ∧ w' = W) := fun W => compare_any _ _ W
  generalize cmpFv x y = r at *
  generalize (⟨x.nm.toArray⟩ : ByteArray) = s1 at *
  generalize (⟨y.nm.toArray⟩ : ByteArray) = s2 at *
  go_enter Try.func30, Try.ntmps30
  go_wp2_with fail
  refine (HC.out _).mono ?_
  rintro e w1 ⟨rfl, rfl⟩
  go_wp2_with fail
  go_ret
  exact ⟨rfl, 0, _, by rw [alloc_eq_grow, alloc_eq_grow, grow_grow]; rfl⟩
theorem cmp_self : ∀ a : List UInt8, Lib.compareBytes a a = 0
  | [] => rfl
  | x :: a => by
    have : ¬ x < x := UInt8.lt_irrefl x
    simp [Lib.compareBytes, this, cmp_self a]
theorem cmp_trans : ∀ a b c : List UInt8, Lib.compareBytes a b < 0 → Lib.compareBytes b c < 0 → Lib.compareBytes a c < 0
  | [], [], _, h, _ => by simp [Lib.compareBytes] at h
  | [], _ :: _, [], _, h => by simp [Lib.compareBytes] at h
  | [], _ :: _, _ :: _, _, _ => by simp [Lib.compareBytes]
  | _ :: _, [], _, h, _ => by simp [Lib.compareBytes] at h
  | _ :: _, _ :: _, [], _, h => by simp [Lib.compareBytes] at h
  | x :: a, y :: b, z :: c, h1, h2 => by
    have ih := cmp_trans a b c
    simp only [Lib.compareBytes, UInt8.lt_iff_toNat_lt] at h1 h2 ⊢
    split at h1
    · split at h2
      · rw [if_pos (by omega)]; omega
      · split at h2
        · omega
        · rw [if_pos (by omega)]; omega
    · split at h1
      · omega
      · split at h2
        · rw [if_pos (by omega)]; omega
        · split at h2
          · omega
          · rw [if_neg (by omega), if_neg (by omega)]
            exact ih h1 h2
theorem cmp_ntrans : ∀ a b c : List UInt8, ¬ Lib.compareBytes a b < 0 → ¬ Lib.compareBytes b c < 0 → ¬ Lib.compareBytes a c < 0
  | [], [], [], _, _ => by simp [Lib.compareBytes]
  | [], [], _ :: _, _, h => by simp [Lib.compareBytes] at h
  | [], _ :: _, _, h, _ => by simp [Lib.compareBytes] at h
  | _ :: _, _, [], _, _ => by simp [Lib.compareBytes]
  | _ :: _, [], _ :: _, _, h => by simp [Lib.compareBytes] at h
  | x :: a, y :: b, z :: c, h1, h2 => by
    have ih := cmp_ntrans a b c
    simp only [Lib.compareBytes, UInt8.lt_iff_toNat_lt] at h1 h2 ⊢
    split at h1
    · omega
    · split at h1
      · split at h2
        · omega
        · split at h2
          · rw [if_neg (by omega), if_pos (by omega)]; omega
          · rw [if_neg (by omega), if_pos (by omega)]; omega
      · split at h2
        · omega
        · split at h2
          · rw [if_neg (by omega), if_pos (by omega)]; omega
          · rw [if_neg (by omega), if_neg (by omega)]
            exact ih h1 h2
theorem cmp_eq_of : ∀ a b : List UInt8, ¬ Lib.compareBytes a b < 0 → ¬ Lib.compareBytes b a < 0 → a = b
  | [], [], _, _ => rfl
  | [], _ :: _, h, _ => by simp [Lib.compareBytes] at h
  | _ :: _, [], _, h => by simp [Lib.compareBytes] at h
  | x :: a, y :: b, h1, h2 => by
    have ih := cmp_eq_of a b
    simp only [Lib.compareBytes, UInt8.lt_iff_toNat_lt] at h1 h2
    by_cases c1 : x.toNat < y.toNat
    · rw [if_pos c1] at h1; omega
    · by_cases c2 : y.toNat < x.toNat
      · rw [if_pos c2] at h2; omega
      · rw [if_neg c1, if_neg c2] at h1
        rw [if_neg c2, if_neg c1] at h2
        rw [ih h1 h2, UInt8.toNat_inj.1 (by omega : x.toNat = y.toNat)]
theorem ltFv (x y : Fv) : ltOf cmpFv x y = decide (Lib.compareBytes x.nm y.nm < 0) := rfl
theorem swoFv : SWO (ltOf cmpFv) where
  irrefl x := by rw [ltFv, cmp_self]; simp
  trans x y z h1 h2 := by rw [ltFv, decide_eq_true_eq] at *; exact cmp_trans _ _ _ h1 h2
  ntrans x y z h1 h2 := by rw [ltFv, decide_eq_false_iff_not] at *; exact cmp_ntrans _ _ _ h1 h2
/-- Risen by names. -/
def Rises (k : List Fv) : Prop := k.Pairwise (fun x y => ¬ Lib.compareBytes y.nm x.nm < 0)
theorem holdsK_ofF {w : World} {B g n cap : Nat} {l : List Fv} (h : OwnF fvV 3 39 w B (.slice (some ⟨g, 0, none⟩) n cap) l) : HoldsK fvV 3 w g 0 l.toArray := by
  rcases h.2 with ⟨e, _⟩ | ⟨g', cap', cur, e, _, hh, h1, h2, h3, h4⟩
  · cases e
  · simp only [Value.slice.injEq, Option.some.injEq, Addr.mk.injEq, and_true] at e
    obtain ⟨rfl, rfl, rfl⟩ := e
    intro t ht
    simp only [size_flatK, List.size_toArray] at ht
    rw [get_flatK _ _ _ _ (by simpa using ht)]
    have hq : t / 3 < l.length := by omega
    have hget : l.toArray[t / 3]! = l[t / 3] := by
      rw [getElem!_pos _ _ (by simpa using hq)]
      simp
    have hf := flatF_get layFv l (t / 3) _ (List.getElem?_eq_getElem hq) (t % 3) (by omega)
    rw [show t / 3 * 3 + t % 3 = t by omega, ← h4, List.getElem?_take, if_pos (by omega)] at hf
    refine ⟨?_, Lib.frozen_of_heap hh _⟩
    rw [hget]
    simp only [World.cell?, hh, Nat.zero_add]
    rw [← Array.getElem?_toList, hf]
    have hl3 : (fvV l[t / 3]).length = 3 := rfl
    rw [List.getElem?_eq_getElem (by omega), getElem!_pos _ _ (by omega)]
    rfl
theorem rw_of_holdsK {w : World} {g n : Nat} {d : Array Fv} (h : HoldsK fvV 3 w g 0 d) (hg : g < w.heap.size) (hn : d.size = n) (hm : n ≤ maxLen) : Rw fvV 3 w (some ⟨g, 0, none⟩) n n d.toList := by
  refine ⟨by simpa using hn, ⟨Nat.le_refl _, hm⟩, fun h0 => ⟨g, 0, rfl, hg, fun j x hj i v hv => ?_⟩⟩
  have hjl : j < d.size := by
    have := (List.getElem?_eq_some_iff.1 hj).1
    simpa using this
  have hi : i < 3 := (List.getElem?_eq_some_iff.1 hv).1
  have := (h (j * 3 + i) (by simp; omega)).1
  rw [get_flatK _ _ _ _ (by omega), show (j * 3 + i) / 3 = j by omega, show (j * 3 + i) % 3 = i by omega] at this
  rw [Nat.add_assoc, this, getElem!_pos d j hjl]
  have hx : d[j] = x := by
    have := (List.getElem?_eq_some_iff.1 hj).2
    simpa using this
  rw [hx]
  have h3 : (fvV x).length = 3 := rfl
  rw [getElem!_pos _ _ (by omega)]
  rw [List.getElem?_eq_getElem (by omega)] at hv
  exact congrArg _ (Option.some.inj hv)
end Go.Proofs.Ytjcfeaekhefpfaa
