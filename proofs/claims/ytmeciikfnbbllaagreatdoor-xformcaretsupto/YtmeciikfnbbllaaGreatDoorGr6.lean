import Derived.Test.YtmeciikfnbbllaaGreatDoorSpE
import Derived.Deep.DeepCutAuto
namespace Go.Proofs.YtmeciikfnbbllaaGreatDoor.Sp
open Go.RowKit Go.Lib
set_option maxRecDepth 100000
theorem takenL_snoc (l a : List (Int × Int)) (x : Int × Int) (lo hi d : Int) : takenL l (a ++ [x]) lo hi d = addedL (takenL l a lo hi d) (max x.1 lo + d) (min x.2 hi + d) := by
  simp [takenL, List.foldl_append]
theorem take_getD (l : List (Int × Int)) (j : Nat) (hj : j < l.length) : l.take (j + 1) = l.take j ++ [l.getD j (0, 0)] := by
  rw [List.getD_eq_getElem?_getD, List.getElem?_eq_getElem hj]
  exact List.take_succ_eq_append_getElem hj
set_option maxHeartbeats 1000000 in
theorem taken_any {w : World} {B : Nat} {a : Option Addr} {n cap : Nat} {l : List (Int × Int)} (h : Own w B (.slice a n cap) l) (hB : B ≤ w.heap.size) {b : Option Addr} {m capb : Nat} {k : List (Int × Int)} (hk : Rng w b m capb k) (hu : Under B b m)
    (lo hi d : Int) (hn : n ≤ 2097152) (hm : m ≤ 2097152) (hr : ∀ r ∈ k, -4611686018427387904 ≤ r.1 ∧ r.1 ≤ 4611686018427387903 ∧ -4611686018427387904 ≤ r.2 ∧ r.2 ≤ 4611686018427387903)
    (hlo : -4611686018427387904 ≤ lo ∧ lo ≤ 4611686018427387903) (hhi : -4611686018427387904 ≤ hi ∧ hi ≤ 4611686018427387903) (hd : -4611686018427387904 ≤ d ∧ d ≤ 4611686018427387903) :
    Calls Tryz.prog 90 #[.slice a n cap, .slice b m capb, .int .i64 lo, .int .i64 hi, .int .i64 d] w fun e w' => ∃ a' n' cap', e = .returned (.slice a' n' cap') ∧ Own w' B (.slice a' n' cap') (takenL l k lo hi d) ∧ Below B w w' := by
  have hlen := hk.len
  have hroom := hk.room
  have hln := h.rng.len
  have hmx := max_run
  have hmn := min_run
  obtain ⟨l1, l2⟩ := hlo
  obtain ⟨h1, h2⟩ := hhi
  obtain ⟨d1, d2⟩ := hd
  have HR : Hid (∀ r ∈ k, -4611686018427387904 ≤ r.1 ∧ r.1 ≤ 4611686018427387903 ∧ -4611686018427387904 ≤ r.2 ∧ r.2 ≤ 4611686018427387903) := hr
  clear hr
  go_enter Tryz.func90, Tryz.ntmps90
  go_wp2_with fail
  go_loopw [0, 15] (fun v i w' => ∃ (j : Nat) (a' : Option Addr) (n' cap' : Nat), j ≤ m ∧ i = .int .i64 j ∧ v = .slice a' n' cap' ∧ Own w' B (.slice a' n' cap') (takenL l (k.take j) lo hi d) ∧ Below B w w') (fun _ i _ => m - (RowKit.intOf i).toNat)
  case atStart => exact ⟨0, a, n, cap, Nat.zero_le _, rfl, rfl, h, Below.refl _ _⟩
  case round =>
    obtain ⟨j, a', n', cap', hjm, rfl, rfl, ho, hb⟩ := hrel
    have hsz := hb.size
    by_cases hj : j < m
    · obtain ⟨g, off, rfl, hg, hc, hd⟩ := hk.cells j hj
      have hgB := hu (by omega) g off rfl
      have c0 := (hb.cell (p := ⟨g, off + j * 2, none⟩) hgB).trans hc
      have c1 := (hb.cell (p := ⟨g, off + j * 2 + 1, none⟩) hgB).trans hd
      have hmem : k.getD j (0, 0) ∈ k := by
        rw [List.getD_eq_getElem?_getD, List.getElem?_eq_getElem (by omega)]
        exact List.getElem_mem _
      obtain ⟨r1, r2, r3, r4⟩ := HR.out _ hmem
      have hnl := ho.rng.len
      have hle := takenL_length l (k.take j) lo hi d
      rw [List.length_take] at hle
      have HT : Hid (takenL l (k.take (j + 1)) lo hi d = addedL (takenL l (k.take j) lo hi d) (max (k.getD j (0, 0)).1 lo + d) (min (k.getD j (0, 0)).2 hi + d)) := by
        show _ = _
        rw [take_getD k j (by omega), takenL_snoc]
      have hn' : n' ≤ 8388608 := by omega
      clear hnl hle hmem hc hd
      generalize (k.getD j (0, 0)).1 = x at *
      generalize (k.getD j (0, 0)).2 = y at *
      have b1 : -9223372036854775808 ≤ max x lo + d ∧ max x lo + d ≤ 9223372036854775807 := by omega
      have b2 : -9223372036854775808 ≤ min y hi + d ∧ min y hi + d ≤ 9223372036854775807 := by omega
      have HA := fun (W : World) (hO : Own W B (.slice a' n' cap') (takenL l (k.take j) lo hi d)) (hBW : B ≤ W.heap.size) => added_any hO hBW (max x lo + d) (min y hi + d) hn'
      go_wp2_with fail
      refine (HA _ ((ho.below ((Below.refl _ _).alloc (Nat.le_refl _) _))) (by simp; omega)).mono ?_
      rintro e w2 ⟨a2, n2, cap2, rfl, ho2, hb2⟩
      rw [← HT.out] at ho2
      have hB2 : Below B w w2 := (hb.alloc (by omega) _).trans hb2
      clear hb2 HA HT
      go_wp2_with fail
      go_roundw
      case rel => exact ⟨j + 1, a2, n2, cap2, by omega, by go_num, rfl, ho2, hB2⟩
      case measure => simp [RowKit.intOf]; omega
    · have e1 : k.take j = k := List.take_of_length_le (by omega)
      rw [e1] at ho
      go_wp2_with fail
      go_ret
      exact ⟨_, _, _, rfl, ho, hb⟩
set_option maxHeartbeats 400000 in
theorem bounded_any {a : Option Addr} {n cap : Nat} {w : World} :
    Calls Tryz.prog 91 #[.slice a n cap] w fun e w' => e = .returned (.tuple (if 32768 < n then #[.slice none 0 0, .int .i64 21] else #[.slice a n cap, .int .i64 0])) ∧ w' = w := by
  by_cases h : 32768 < n
  · rw [if_pos h]
    go_enter Tryz.func91, Tryz.ntmps91
    go_wp2_with fail
    go_ret2
    exact ⟨rfl, rfl⟩
  · rw [if_neg h]
    go_enter Tryz.func91, Tryz.ntmps91
    go_wp2_with fail
    go_ret2
    exact ⟨rfl, rfl⟩
end Go.Proofs.YtmeciikfnbbllaaGreatDoor.Sp

namespace Go.Proofs.YtmeciikfnbbllaaGreatDoor.Sp
open Go.RowKit Go.Lib
set_option maxRecDepth 100000
def vlen : Value → Nat
  | .slice _ n _ => n
  | _ => 0
theorem rng_tail {w : World} {g off n cap : Nat} {x : Int × Int} {l : List (Int × Int)} (h : Rng w (some ⟨g, off, none⟩) n cap (x :: l)) :
    ∃ a' n' cap', n = n' + 1 ∧ Rng w a' n' cap' l ∧ ∀ W : World, (Instr.slice 31 (.slice (some ⟨g, off, none⟩) n cap) (some (.int .i64 1)) none none).run Tryz.prog W = .ok (.slice a' n' cap') W := by
  have hlen := h.len
  have hroom := h.room
  simp only [List.length_cons] at hlen
  obtain ⟨i, hi, hz, hs, hby⟩ := info_parts rngInfo
  have hrun : ∀ W : World, (Instr.slice 31 (.slice (some ⟨g, off, none⟩) n cap) (some (.int .i64 1)) none none).run Tryz.prog W = .ok (.slice (if cap = 1 then some ⟨g, off, none⟩ else some ⟨g, off + 2, none⟩) (n - 1) (cap - 1)) W := fun W => by
    have hel : Tryz.prog.elem 31 = 94 := by kernel_rfl
    have := run_slice_l (P := Tryz.prog) W 31 (some ⟨g, off, none⟩) n cap (by rw [hel]; exact Tryz.underlying31) .i64 1 (by omega) (by omega)
    rw [this, hel]
    simp [sizeOf, typeInfo, hi, hs, sliced, Addr.add]
  refine ⟨_, n - 1, cap - 1, by omega, ?_, hrun⟩
  refine ⟨by omega, by omega, fun j hj => ?_⟩
  obtain ⟨g', off', ha, hg, hc, hd⟩ := h.cells (j + 1) (by omega)
  simp only [Option.some.injEq, Addr.mk.injEq, and_true] at ha
  obtain ⟨rfl, rfl⟩ := ha
  refine ⟨g, off + 2, by rw [if_neg (by omega)], hg, ?_, ?_⟩
  · rw [show off + 2 + j * 2 = off + (j + 1) * 2 by omega]; simpa using hc
  · rw [show off + 2 + j * 2 + 1 = off + (j + 1) * 2 + 1 by omega]; simpa using hd
theorem rng_head {w : World} {a : Option Addr} {n cap : Nat} {l : List (Int × Int)} (h : Rng w a n cap l) (hn : 0 < n) : ∃ x t g off, l = x :: t ∧ a = some ⟨g, off, none⟩ ∧ g < w.heap.size ∧ w.cell? ⟨g, off, none⟩ = some (.int .i64 x.1) ∧ w.cell? ⟨g, off + 1, none⟩ = some (.int .i64 x.2) := by
  have hlen := h.len
  obtain ⟨g, off, ha, hg, hc, hd⟩ := h.cells 0 hn
  cases l with
  | nil => simp at hlen; omega
  | cons x t => exact ⟨x, t, g, off, rfl, ha, hg, by simpa using hc, by simpa using hd⟩
structure UInv (l k la lb lo : List (Int × Int)) : Prop where
  na : Norm (-1) la
  nb : Norm (-1) lb
  no : Norm (-1) lo
  ta : ∀ r ∈ la, r.2 ≤ 1048576
  tb : ∀ r ∈ lb, r.2 ≤ 1048576
  oa : ∀ r ∈ lo, ∀ x ∈ la, r.1 ≤ x.1
  ob : ∀ r ∈ lo, ∀ x ∈ lb, r.1 ≤ x.1
  mem : ∀ q, (Lies lo q ∨ Lies la q ∨ Lies lb q) ↔ (Lies l q ∨ Lies k q)
  len : lo.length + la.length + lb.length ≤ 65536
theorem UInv.swap {l k la lb lo : List (Int × Int)} (h : UInv l k la lb lo) : UInv l k lb la lo :=
  ⟨h.nb, h.na, h.no, h.tb, h.ta, h.ob, h.oa, fun q => by rw [← h.mem q]; constructor <;> rintro (h | h | h) <;> simp [h], by have := h.len; omega⟩
theorem UInv.step {l k la lb lo : List (Int × Int)} {x y : Int × Int} (h : UInv l k (x :: la) (y :: lb) lo) (hxy : x.1 ≤ y.1) : UInv l k la (y :: lb) (addedL lo x.1 x.2) := by
  have hx := h.na
  have ho : ∀ r ∈ lo, r.1 ≤ x.1 := fun r hr => h.oa r hr x List.mem_cons_self
  refine ⟨norm_mono hx.2.2 (by have := hx.1; have := hx.2.1; omega), h.nb, addedL_norm h.no ho (by have := hx.1; omega), fun r hr => h.ta r (List.mem_cons_of_mem _ hr), h.tb, fun r hr z hz => ?_, fun r hr z hz => ?_, fun q => ?_, ?_⟩
  · have := addedL_los ho r hr
    have := norm_lt hx.2.2 z hz
    have := hx.2.1
    omega
  · have := addedL_los ho r hr
    rcases List.mem_cons.1 hz with rfl | hz
    · omega
    · have := norm_lt h.nb.2.2 z hz
      have := h.nb.2.1
      omega
  · rw [← h.mem q, addedL_lies ho (fun r hr => (norm_lt h.no r hr).2), lies_cons x la]
    constructor
    · rintro ((h | h) | h | h) <;> simp [h]
    · rintro (h | (h | h) | h) <;> simp [h]
  · have := (addedL_length lo x.1 x.2).1
    have := h.len
    simp only [List.length_cons] at this ⊢
    omega
theorem UInv.last {l k la lb lo : List (Int × Int)} (h : UInv l k la lb lo) (h0 : la = [] ∨ lb = []) :
    Norm (-1) (takenL (takenL lo la 0 1048576 0) lb 0 1048576 0) ∧ ∀ q, Lies (takenL (takenL lo la 0 1048576 0) lb 0 1048576 0) q ↔ Lies l q ∨ Lies k q := by
  have key : ∀ (lo la : List (Int × Int)), Norm (-1) la → Norm (-1) lo → (∀ r ∈ la, r.2 ≤ 1048576) → (∀ r ∈ lo, ∀ x ∈ la, r.1 ≤ x.1) →
      Norm (-1) (takenL lo la 0 1048576 0) ∧ ∀ q, Lies (takenL lo la 0 1048576 0) q ↔ Lies lo q ∨ Lies la q := fun lo la na no ta oa => by
    have := takenL_all (lo := 0) (hi := 1048576) (d := 0) (norm_los na) no (fun r hr x hx => by have := oa r hr x hx; omega) (fun x hx => by omega)
    refine ⟨this.1, fun q => ?_⟩
    rw [this.2 q, show q - 0 = q by omega]
    constructor
    · rintro (h | h)
      · exact .inl h
      · exact .inr h.1
    · rintro (h | h)
      · exact .inl h
      · refine .inr ⟨h, ?_, ?_⟩
        · have := norm_lies na h; omega
        · obtain ⟨r, hr, _, h2⟩ := h
          have := ta r hr
          omega
  rcases h0 with rfl | rfl
  · have := key lo lb h.nb h.no h.tb h.ob
    refine ⟨this.1, fun q => (this.2 q).trans ?_⟩
    rw [← h.mem q]
    simp [lies_nil]
  · have := key lo la h.na h.no h.ta h.oa
    refine ⟨this.1, fun q => (this.2 q).trans ?_⟩
    rw [← h.mem q]
    simp [lies_nil]
def Answer (B : Nat) (e : Ending) (w' : World) (U : List (Int × Int)) : Prop :=
  (32768 < U.length ∧ e = .returned (.tuple #[.slice none 0 0, .int .i64 21])) ∨ (U.length ≤ 32768 ∧ ∃ a cap, e = .returned (.tuple #[.slice a U.length cap, .int .i64 0]) ∧ Own w' B (.slice a U.length cap) U)
end Go.Proofs.YtmeciikfnbbllaaGreatDoor.Sp
