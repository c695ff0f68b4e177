import Derived.Test.YtjnglghhcbdpmaaSpF
import Derived.Deep.DeepCutAuto
namespace Go.Proofs.Ytjnglghhcbdpmaa
open Go.RowKit Go.Lib
set_option maxRecDepth 100000

def vlen : Value → Nat
  | .slice _ n _ => n
  | _ => 0
/-- 'a[1:]' -/
theorem rng_tail {w : World} {g off n cap : Nat} {x : Int × Int} {l : List (Int × Int)} (h : Rng w (some ⟨g, off, none⟩) n cap (x :: l)) :
    ∃ a' n' cap', n = n' + 1 ∧ Rng w a' n' cap' l ∧ ∀ W : World, (Instr.slice 22 (.slice (some ⟨g, off, none⟩) n cap) (some (.int .i64 1)) none none).run Try.prog W = .ok (.slice a' n' cap') W := by
  have hlen := h.len
  have hroom := h.room
  simp only [List.length_cons] at hlen
  obtain ⟨i, hi, hz, hs, hby⟩ := info_parts rngInfo
  have hrun : ∀ W : World, (Instr.slice 22 (.slice (some ⟨g, off, none⟩) n cap) (some (.int .i64 1)) none none).run Try.prog W = .ok (.slice (if cap = 1 then some ⟨g, off, none⟩ else some ⟨g, off + 2, none⟩) (n - 1) (cap - 1)) W := fun W => by
    have hel : Try.prog.elem 22 = 39 := by kernel_rfl
    have := run_slice_l (P := Try.prog) W 22 (some ⟨g, off, none⟩) n cap (by rw [hel]; exact Try.underlying22) .i64 1 (by omega) (by omega)
    rw [this, hel]
    simp [sizeOf, typeInfo, hi, hs, sliced, Addr.add]
  refine ⟨_, n - 1, cap - 1, by omega, ?_, hrun⟩
  refine ⟨by omega, by omega, fun j hj => ?_⟩
  obtain ⟨g', off', ha, hg, hc, hd⟩ := h.cells (j + 1) (by omega)
  simp only [Option.some.injEq, Addr.mk.injEq, and_true] at ha
  obtain ⟨rfl, rfl⟩ := ha
  refine ⟨g, off + 2, by rw [if_neg (by omega)], hg, ?_, ?_⟩
  · rw [show off + 2 + j * 2 = off + (j + 1) * 2 by omega]; simpa using hc
  · rw [show off + 2 + j * 2 + 1 = off + (j + 1) * 2 + 1 by omega]; simpa using hd
theorem rng_head {w : World} {a : Option Addr} {n cap : Nat} {l : List (Int × Int)} (h : Rng w a n cap l) (hn : 0 < n) : ∃ x t g off, l = x :: t ∧ a = some ⟨g, off, none⟩ ∧ g < w.heap.size ∧ w.cell? ⟨g, off, none⟩ = some (.int .i64 x.1) ∧ w.cell? ⟨g, off + 1, none⟩ = some (.int .i64 x.2) := by
  have hlen := h.len
  obtain ⟨g, off, ha, hg, hc, hd⟩ := h.cells 0 hn
  cases l with
  | nil => simp at hlen; omega
  | cons x t => exact ⟨x, t, g, off, rfl, ha, hg, by simpa using hc, by simpa using hd⟩

/-- What holds in Union's loop: la and lb are what is left of l and k. -/
structure UInv (l k la lb lo : List (Int × Int)) : Prop where
  na : Norm (-1) la
  nb : Norm (-1) lb
  no : Norm (-1) lo
  ta : ∀ r ∈ la, r.2 ≤ 1048576
  tb : ∀ r ∈ lb, r.2 ≤ 1048576
  oa : ∀ r ∈ lo, ∀ x ∈ la, r.1 ≤ x.1
  ob : ∀ r ∈ lo, ∀ x ∈ lb, r.1 ≤ x.1
  mem : ∀ q, (Lies lo q ∨ Lies la q ∨ Lies lb q) ↔ (Lies l q ∨ Lies k q)
  len : lo.length + la.length + lb.length ≤ 65536
theorem UInv.swap {l k la lb lo : List (Int × Int)} (h : UInv l k la lb lo) : UInv l k lb la lo :=
  ⟨h.nb, h.na, h.no, h.tb, h.ta, h.ob, h.oa, fun q => by rw [← h.mem q]; constructor <;> rintro (h | h | h) <;> simp [h], by have := h.len; omega⟩
theorem UInv.step {l k la lb lo : List (Int × Int)} {x y : Int × Int} (h : UInv l k (x :: la) (y :: lb) lo) (hxy : x.1 ≤ y.1) : UInv l k la (y :: lb) (addedL lo x.1 x.2) := by
  have hx := h.na
  have ho : ∀ r ∈ lo, r.1 ≤ x.1 := fun r hr => h.oa r hr x List.mem_cons_self
  refine ⟨norm_mono hx.2.2 (by have := hx.1; have := hx.2.1; omega), h.nb, addedL_norm h.no ho (by have := hx.1; omega), fun r hr => h.ta r (List.mem_cons_of_mem _ hr), h.tb, fun r hr z hz => ?_, fun r hr z hz => ?_, fun q => ?_, ?_⟩
  · have := addedL_los ho r hr
    have := norm_lt hx.2.2 z hz
    have := hx.2.1
    omega
  · have := addedL_los ho r hr
    rcases List.mem_cons.1 hz with rfl | hz
    · omega
    · have := norm_lt h.nb.2.2 z hz
      have := h.nb.2.1
      omega
  · rw [← h.mem q, addedL_lies ho (fun r hr => (norm_lt h.no r hr).2), lies_cons x la]
    constructor
    · rintro ((h | h) | h | h) <;> simp [h]
    · rintro (h | (h | h) | h) <;> simp [h]
  · have := (addedL_length lo x.1 x.2).1
    have := h.len
    simp only [List.length_cons] at this ⊢
    omega
/-- Where one of the two is at its end: the other is taken. -/
theorem UInv.last {l k la lb lo : List (Int × Int)} (h : UInv l k la lb lo) (h0 : la = [] ∨ lb = []) :
    Norm (-1) (takenL (takenL lo la 0 1048576 0) lb 0 1048576 0) ∧ ∀ q, Lies (takenL (takenL lo la 0 1048576 0) lb 0 1048576 0) q ↔ Lies l q ∨ Lies k q := by
  have key : ∀ (lo la : List (Int × Int)), Norm (-1) la → Norm (-1) lo → (∀ r ∈ la, r.2 ≤ 1048576) → (∀ r ∈ lo, ∀ x ∈ la, r.1 ≤ x.1) →
      Norm (-1) (takenL lo la 0 1048576 0) ∧ ∀ q, Lies (takenL lo la 0 1048576 0) q ↔ Lies lo q ∨ Lies la q := fun lo la na no ta oa => by
    have := takenL_all (lo := 0) (hi := 1048576) (d := 0) (norm_los na) no (fun r hr x hx => by have := oa r hr x hx; omega) (fun x hx => by omega)
    refine ⟨this.1, fun q => ?_⟩
    rw [this.2 q, show q - 0 = q by omega]
    constructor
    · rintro (h | h)
      · exact .inl h
      · exact .inr h.1
    · rintro (h | h)
      · exact .inl h
      · refine .inr ⟨h, ?_, ?_⟩
        · have := norm_lies na h; omega
        · obtain ⟨r, hr, _, h2⟩ := h
          have := ta r hr
          omega
  rcases h0 with rfl | rfl
  · have := key lo lb h.nb h.no h.tb h.ob
    refine ⟨this.1, fun q => (this.2 q).trans ?_⟩
    rw [← h.mem q]
    simp [lies_nil]
  · have := key lo la h.na h.no h.ta h.oa
    refine ⟨this.1, fun q => (this.2 q).trans ?_⟩
    rw [← h.mem q]
    simp [lies_nil]
/-- An answer that is a list: or it would be too long. -/
def Answer (B : Nat) (e : Ending) (w' : World) (U : List (Int × Int)) : Prop :=
  (32768 < U.length ∧ e = .returned (.tuple #[.slice none 0 0, .int .i64 21])) ∨ (U.length ≤ 32768 ∧ ∃ a cap, e = .returned (.tuple #[.slice a U.length cap, .int .i64 0]) ∧ Own w' B (.slice a U.length cap) U)

set_option maxHeartbeats 400000 in
theorem checkBoth_any {w : World} {a : Option Addr} {n cap : Nat} {l : List (Int × Int)} (h : Rng w a n cap l) {b : Option Addr} {m capb : Nat} {k : List (Int × Int)} (hk : Rng w b m capb k) :
    Calls Try.prog 34 #[.slice a n cap, .slice b m capb] w fun e w' => e = .returned (.int .i64 (if (checkL l).2 = 0 then (checkL k).2 else (checkL l).2)) ∧ Below w.heap.size w w' := by
  have HA := check_any h
  have HB := fun w' (hb : Below w.heap.size w w') => check_any (hk.below hb)
  generalize checkL l = r at *
  generalize checkL k = s at *
  obtain ⟨r1, r2⟩ := r
  obtain ⟨s1, s2⟩ := s
  simp only at HA HB ⊢
  by_cases h0 : r2 = 0
  · subst h0
    rw [if_pos rfl]
    go_enter Try.func34, Try.ntmps34
    go_wp2_with fail
    refine HA.mono ?_
    rintro e w1 ⟨rfl, hb1⟩
    go_wp2_with fail
    refine (HB w1 hb1).mono ?_
    rintro e w2 ⟨rfl, hb2⟩
    go_wp2_with fail
    go_ret
    exact ⟨rfl, hb1.trans (hb2.mono hb1.size)⟩
  · rw [if_neg h0]
    have t1 : (r2 == 0) = false := by simp [h0]
    go_enter Try.func34, Try.ntmps34
    go_wp2_with fail
    refine HA.mono ?_
    rintro e w1 ⟨rfl, hb1⟩
    go_wp2_with fail
    go_ret
    exact ⟨rfl, hb1⟩
end Go.Proofs.Ytjnglghhcbdpmaa
