import Derived.Test.YtaaegedmilpcfaaDoorRtH
import Derived.Test.YtaaegedmilpcfaaDoorRrQ
/-! Bump, of a rope that holds a row; the statement's own row. -/
namespace Go.Proofs.YtaaegedmilpcfaaDoor
open Go.RowKit Go.Lib
set_option maxRecDepth 100000

theorem Holds.bump {w2 : World} {q : Nat} {R : List (Int × Int)} {W : World} (h : Holds w2 q R W) (hq : w2.heap.size ≤ q) {a : Option Addr} {m cap : Nat} {l : List (Int × Int)} (hl : Rw pieceV 2 W a m cap l) (hm : m ≤ 32768) (hs : Srt l) (hb : ∀ x ∈ l, 0 ≤ x.1 ∧ x.2 ≤ (R.length : Int)) (d : Int) (hd : d = 1 ∨ d = -1) (hok : ∀ c ∈ bmp l d 0 R, 0 ≤ c.2 ∧ c.2 ≤ 1048576) :
    Calls Tryd.prog 25 #[.pointer (some ⟨q, 0, none⟩), .slice a m cap, .int .i64 d] W fun e W' => e = .returned (.int .i64 0) ∧ Holds w2 q (bmp l d 0 R) W' := by
  obtain ⟨t, k1, k2, rfl, k3⟩ := h
  exact (bump_any k1 k2 hl hm hs hb d hd hok).mono fun e W' ⟨he, ⟨t', g1, g2, g3⟩, hu⟩ => ⟨he, t', g1, g2, g3, Upd.below k3 hu hq k3.size⟩
theorem upAll_bmp : ∀ (l : List (Int × Int)) (d : Int) (R : List (Int × Int)), Srt l → (∀ x ∈ l, 0 ≤ x.1) → upAll R l d = bmp l d 0 R
  | [], d, R, _, _ => (bmp_none R 0 fun _ _ _ => rfl).symm
  | x :: l, d, R, hs, hb => by
    show upAll (upTo R x.1.toNat x.2.toNat d) l d = _
    rw [upAll_bmp l d _ hs.tail fun y hy => hb y (List.mem_cons_of_mem _ hy)]
    have h0 := hb x (by simp)
    have h1 := hs.some_ x (by simp)
    have hf := hs.first
    apply List.ext_getElem?
    intro j
    rw [bmp_get, bmp_get, upTo_get, Option.map_map]
    congr 1
    funext c
    simp only [Function.comp, Int.zero_add]
    rw [inL_cons]
    by_cases e : x.1 ≤ (j : Int) ∧ (j : Int) < x.2
    · rw [if_pos (show x.1.toNat ≤ j ∧ j < x.2.toNat by omega), inL_false (l := l) fun y hy => by have := hf y hy; omega]
      simp [e]
    · rw [if_neg (show ¬ (x.1.toNat ≤ j ∧ j < x.2.toNat) by omega)]
      simp [e]
theorem Chs.srt {R : List (Int × Int)} {down : Bool} {q : Nat} {l : List (Int × Int)} (h : Chs R down q l) : Srt l := by
  refine ⟨fun x hx => (h.each x hx).2.1, ?_⟩
  have step : ∀ (k i : Nat) x y, l[i]? = some x → l[i + k + 1]? = some y → x.2 < y.1 := by
    intro k
    induction k with
    | zero => intro i x y hx hy; exact h.gap i x y hx hy
    | succ k ih =>
      intro i x y hx hy
      have hlt := (List.getElem?_eq_some_iff.1 hy).1
      have hz : l[i + k + 1]? = some l[i + k + 1] := List.getElem?_eq_getElem (by omega)
      have h1 := ih i x _ hx hz
      have h2 := h.gap (i + k + 1) _ y hz hy
      have h3 := (h.each _ (List.mem_of_getElem? hz)).2.1
      omega
  intro i j x y hij hx hy
  exact step (j - i - 1) i x y hx (by rw [show i + (j - i - 1) + 1 = j by omega]; exact hy)
/-- Counters within bounds. -/
def Cnt (M : Int) (R : List (Int × Int)) : Prop := ∀ c ∈ R, 0 ≤ c.2 ∧ c.2 ≤ M
theorem inL_mem {l : List (Int × Int)} {q : Int} (h : inL l q = true) : ∃ x ∈ l, x.1 ≤ q ∧ q < x.2 := by
  unfold inL at h
  rw [List.any_eq_true] at h
  obtain ⟨x, hx, h⟩ := h
  exact ⟨x, hx, by simpa using h⟩
theorem Cnt.bump {M : Int} {R : List (Int × Int)} (h : Cnt M R) {down : Bool} {q : Nat} {l : List (Int × Int)} (hc : Chs R down q l) {d : Int} (hd : d = 1 ∨ (d = -1 ∧ down = true)) : Cnt (M + 1) (bmp l d 0 R) := fun c hm => by
  obtain ⟨j, hj⟩ := List.getElem?_of_mem hm
  rw [bmp_get] at hj
  obtain ⟨x, hx, rfl⟩ := Option.map_eq_some_iff.1 hj
  have hx2 := h x (List.mem_of_getElem? hx)
  by_cases e : inL l (0 + (j : Int)) = true
  · rw [if_pos e]
    simp only
    obtain ⟨r, hr, h1, h2⟩ := inL_mem e
    rcases hd with rfl | ⟨rfl, hdn⟩
    · omega
    · have := hc.low hdn r hr j (by omega) (by omega) x hx
      omega
  · rw [if_neg e]
    omega
end Go.Proofs.YtaaegedmilpcfaaDoor
