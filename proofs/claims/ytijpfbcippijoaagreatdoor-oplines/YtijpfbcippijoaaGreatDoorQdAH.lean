import Derived.Test.YtijpfbcippijoaaGreatDoorQcAB
import Derived.Test.YtijpfbcippijoaaGreatDoorRvAK
import Derived.Test.YtijpfbcippijoaaGreatDoorQaAC
import Derived.Test.YtijpfbcippijoaaGreatDoorRrKN
namespace Go.Proofs.YtijpfbcippijoaaGreatDoor
open Go.RowKit Go.Lib
set_option maxRecDepth 100000
section
variable {w2 : World} {q : Nat} {R : List (Int × Int)} {W : World}
theorem Holds.bounds (h : Holds w2 q R W) : ∀ c ∈ R, 0 ≤ c.2 ∧ c.2 ≤ 1048576 := by
  obtain ⟨t, h1, h2, rfl, h3⟩ := h
  exact fun c hc => ⟨h2.lo c hc, h2.hi c hc⟩
theorem Holds.len (h : Holds w2 q R W) : R.length ≤ 1048576 := by
  obtain ⟨t, h1, h2, rfl, h3⟩ := h
  exact h2.len
theorem ck_ins {c n : Int} (hid : (c = 0 ∧ n = 0) ∨ isIdP c n = true) {m N : Nat} {s : ByteArray} {rs : List Int} (ht : IsText s rs) (hne : rs ≠ []) (hle : rs.length ≤ 256) (hm : m ≤ N) (hN : N + rs.length ≤ 1048576) : opCheck ⟨c, n, 1, (m : Int), s, [], 0, 0, false⟩ (N : Int) = 0 := by
  have hpos := List.length_pos_iff.2 hne
  unfold opCheck
  rw [if_neg (by omega), if_neg (by simp only; omega), if_neg (by simp only; rcases hid with h | h; exact fun e => e.1 h; exact fun e => by rw [h] at e; cases e.2), if_neg (by simp [extra, ext0, extT]), if_pos rfl]
  unfold insP
  simp only [ht.check]
  rw [if_neg (by simp), if_neg (by omega), if_neg (by omega), if_neg (by omega), if_neg (by omega)]
theorem lastHi_leq {l : List (Int × Int)} {N : Int} (hne : l ≠ []) (h : ∀ x ∈ l, x.2 ≤ N) : lastHi l ≤ N := by
  have hpos := List.length_pos_iff.2 hne
  unfold lastHi
  rw [List.getD_eq_getElem?_getD, List.getElem?_eq_getElem (by omega)]
  exact h _ (List.getElem_mem _)
theorem ck_rng {c n k : Int} (hid : (c = 0 ∧ n = 0) ∨ isIdP c n = true) (hk : k = 2 ∨ k = 3) {N : Nat} {l : List (Int × Int)} (hne : l ≠ []) (hs : Srt l) (hb : ∀ x ∈ l, 0 ≤ x.1 ∧ x.2 ≤ (N : Int)) (hn : l.length ≤ 32768) (hN : N ≤ 1048576) : opCheck ⟨c, n, k, 0, ⟨#[]⟩, l, 0, 0, false⟩ (N : Int) = 0 := by
  unfold opCheck
  rw [if_neg (by omega), if_neg (by simp only; omega), if_neg (by simp only; rcases hid with h | h; exact fun e => e.1 h; exact fun e => by rw [h] at e; cases e.2), if_neg (by unfold extra; rw [if_neg (by simp only; omega), if_neg (by simp only; omega)]; simp [extP, extT, ByteArray.size]), if_neg (by simp only; omega), if_neg (by simp only; omega)]
  unfold rngP
  rw [if_neg hne]
  simp only [check_srt hs (fun x hx => by have := hb x hx; omega) hn]
  have := lastHi_leq hne fun x hx => (hb x hx).2
  rw [if_neg (by simp), if_neg (by omega)]
theorem own_rng {c n k : Int} (hid : (c = 0 ∧ n = 0) ∨ isIdP c n = true) (hk : k = 2 ∨ k = 3) {N : Nat} {l : List (Int × Int)} (hne : l ≠ []) (hs : Srt l) (hb : ∀ x ∈ l, 0 ≤ x.1 ∧ x.2 ≤ (N : Int)) (hn : l.length ≤ 32768) (hN : N ≤ 1048576) : ownP ⟨c, n, k, 0, ⟨#[]⟩, l, 0, 0, false⟩ = 0 := by
  unfold ownP
  rw [if_neg (by simp only; omega)]
  exact ck_rng hid hk (N := 1048576) hne hs (fun x hx => by have := hb x hx; omega) hn (Nat.le_refl _)
theorem apply_insH (h : Holds w2 q R W) (hq : w2.heap.size ≤ q) (hBar : Bar w2) {c n : Int} (hid : (c = 0 ∧ n = 0) ∨ isIdP c n = true) {m : Nat} {s : ByteArray} {rs : List Int} (ht : IsText s rs) (hne : rs ≠ []) (hle : rs.length ≤ 256) (hm : m ≤ R.length) (hN : R.length + rs.length ≤ 1048576) :
    Calls Tryz.prog 11 #[.pointer (some ⟨q, 0, none⟩), opVal ⟨c, n, 1, (m : Int), s, [], 0, 0, false⟩ (.slice none 0 0)] W fun e W' => e = .returned (.int .i64 0) ∧ Holds w2 q (putL R m rs 0) W' ∧ Upd q W W' := by
  have hsz := ht.small
  refine (apply_ins_to h (rng_of_rw (rw_nil W)) (by omega) hBar (ck_ins hid ht hne hle hm hN) (Q := fun x W' => x = 0 ∧ Holds w2 q (putL R m rs 0) W' ∧ Upd q W W') fun W1 hb => ?_).mono ?_
  · exact ((h.still hb).insertU hq m hm ht hne 0 (Int.le_refl _) (by decide) hN hBar).mono fun e W' ⟨he, h1, h2⟩ => ⟨0, he, rfl, h1, (Upd.ofBelow hb).trans h2⟩
  · rintro e W' ⟨x, rfl, rfl, h1, h2⟩
    exact ⟨rfl, h1, h2⟩
theorem rw_piece {a : Option Addr} {m cap : Nat} {l : List (Int × Int)} (h : Sp.Rng W a m cap l) : Rw pieceV 2 W a m cap l := rw_of_rng h
theorem apply_hideH (h : Holds w2 q R W) (hq : w2.heap.size ≤ q) (hBar : Bar w2) {c n : Int} (hid : (c = 0 ∧ n = 0) ∨ isIdP c n = true) {a : Option Addr} {cap : Nat} {l : List (Int × Int)} (hl : Rw pieceV 2 W a l.length cap l) (hne : l ≠ []) (hs : Srt l) (hb : ∀ x ∈ l, 0 ≤ x.1 ∧ x.2 ≤ (R.length : Int)) (hn : l.length ≤ 32768) (hok : ∀ c ∈ bmp l 1 0 R, 0 ≤ c.2 ∧ c.2 ≤ 1048576) :
    Calls Tryz.prog 11 #[.pointer (some ⟨q, 0, none⟩), opVal ⟨c, n, 2, 0, ⟨#[]⟩, l, 0, 0, false⟩ (.slice a l.length cap)] W fun e W' => e = .returned (.int .i64 0) ∧ Holds w2 q (bmp l 1 0 R) W' ∧ Upd q W W' := by
  refine (apply_hide_to h hl.rng (by simp [ByteArray.size]) hBar (ck_rng hid (.inl rfl) hne hs hb hn h.len) (Q := fun x W' => x = 0 ∧ Holds w2 q (bmp l 1 0 R) W' ∧ Upd q W W') fun W1 hb1 => ?_).mono ?_
  · exact ((h.still hb1).bumpU hq (hl.below hb1) hn hs hb 1 (.inl rfl) hok).mono fun e W' ⟨he, h1, h2⟩ => ⟨0, he, rfl, h1, (Upd.ofBelow hb1).trans h2⟩
  · rintro e W' ⟨x, rfl, rfl, h1, h2⟩
    exact ⟨rfl, h1, h2⟩
theorem apply_showH (h : Holds w2 q R W) (hq : w2.heap.size ≤ q) (hBar : Bar w2) {c n : Int} (hid : (c = 0 ∧ n = 0) ∨ isIdP c n = true) {a : Option Addr} {cap : Nat} {l : List (Int × Int)} (hl : Rw pieceV 2 W a l.length cap l) (hne : l ≠ []) (hs : Srt l) (hb : ∀ x ∈ l, 0 ≤ x.1 ∧ x.2 ≤ (R.length : Int)) (hn : l.length ≤ 32768) (hok : ∀ c ∈ bmp l (-1) 0 R, 0 ≤ c.2 ∧ c.2 ≤ 1048576) :
    Calls Tryz.prog 11 #[.pointer (some ⟨q, 0, none⟩), opVal ⟨c, n, 3, 0, ⟨#[]⟩, l, 0, 0, false⟩ (.slice a l.length cap)] W fun e W' => e = .returned (.int .i64 0) ∧ Holds w2 q (bmp l (-1) 0 R) W' ∧ Upd q W W' := by
  refine (apply_show_to h hl.rng (by simp [ByteArray.size]) hBar (ck_rng hid (.inr rfl) hne hs hb hn h.len) (Q := fun x W' => x = 0 ∧ Holds w2 q (bmp l (-1) 0 R) W' ∧ Upd q W W') fun W1 hb1 => ?_).mono ?_
  · exact ((h.still hb1).bumpU hq (hl.below hb1) hn hs hb (-1) (.inr rfl) hok).mono fun e W' ⟨he, h1, h2⟩ => ⟨0, he, rfl, h1, (Upd.ofBelow hb1).trans h2⟩
  · rintro e W' ⟨x, rfl, rfl, h1, h2⟩
    exact ⟨rfl, h1, h2⟩
end
end Go.Proofs.YtijpfbcippijoaaGreatDoor

namespace Go.Proofs.YtijpfbcippijoaaGreatDoor
open Go.RowKit Go.Lib
set_option maxRecDepth 100000
def deedF (x : (Int × Int) × (Option Addr × Nat × Nat) × (Option Addr × Nat × Nat)) : List Value := [.int .i64 x.1.1, .int .i64 x.1.2, .slice x.2.1.1 x.2.1.2.1 x.2.1.2.2, .slice x.2.2.1 x.2.2.2.1 x.2.2.2.2]
theorem layD : Lay deedF 4 := ⟨fun _ => rfl, by decide, fun x u hu => by simp [deedF] at hu; rcases hu with rfl | rfl | rfl | rfl <;> rfl⟩
def DeedT (W : World) (x : (Int × Int) × (Option Addr × Nat × Nat) × (Option Addr × Nat × Nat)) : Prop := ∃ zs, Rw rune1 1 W x.2.1.1 x.2.1.2.1 x.2.1.2.2 zs
theorem fixR_ok (r : Int) : okR (fixR r) := by
  refine okL_okR ?_
  unfold fixR okL
  split <;> omega
theorem madeP_len (zs : List (Int × Int)) : (madeP zs).length ≤ 400 := by
  unfold madeP
  rw [List.length_map, List.length_take]
  omega
theorem madeP_ok (zs : List (Int × Int)) : ∀ c ∈ madeP zs, okR c.1 := fun c hc => by
  obtain ⟨x, _, rfl⟩ := List.mem_map.1 hc
  exact fixR_ok x.1
theorem madeP_cnt (zs : List (Int × Int)) : ∀ c ∈ madeP zs, 0 ≤ c.2 ∧ c.2 ≤ 1048576 := fun c hc => by
  obtain ⟨x, _, rfl⟩ := List.mem_map.1 hc
  simp only [fixC]
  unfold fixH
  split <;> omega
theorem visR_okR {R : List (Int × Int)} (h : ∀ c ∈ R, okR c.1) : ∀ r ∈ visR R, okR r := fun r hr => by
  obtain ⟨c, hc, rfl⟩ := visR_sub R r hr
  exact h c hc
theorem visR_le {R : List (Int × Int)} (h : Nonneg R) : (visR R).length ≤ R.length := by
  rw [visR_vis h]
  exact vis_le R
theorem num_rune (x : Int) : ∃ kd i, (rune1 x)[0]? = some (.int kd i) := ⟨_, _, rfl⟩
theorem Upd.box {q : Nat} {w w' : World} (h : Upd q w w') {b : Nat} {o : Obj} (hb : w.heap[b]? = some o) (hne : b ≠ q) : w'.heap[b]? = some o := (h.block b (Array.getElem?_eq_some_iff.1 hb).1 hne).trans hb
theorem Holds.ne {w2 : World} {q : Nat} {R : List (Int × Int)} {W : World} (h : Holds w2 q R W) {b : Nat} (hb : W.heap.size ≤ b) : b ≠ q := by
  obtain ⟨t, ⟨g, hq, _⟩, _⟩ := h
  have := (Array.getElem?_eq_some_iff.1 hq).1
  omega
theorem Holds.rowU {w2 : World} {q : Nat} {R : List (Int × Int)} {W W' : World} (h : Holds w2 q R W) (hu : Upd q W W') {a : Option Addr} {n cap : Nat} {rs : List Int} (hr : Rw rune1 1 W a n cap rs) : Rw rune1 1 W' a n cap rs := by
  obtain ⟨t, h1, _⟩ := h
  exact hr.upd num_rune h1 hu
theorem Holds.pieceU {w2 : World} {q : Nat} {R : List (Int × Int)} {W W' : World} (h : Holds w2 q R W) (hu : Upd q W W') {a : Option Addr} {n cap : Nat} {l : List (Int × Int)} (hr : Rw pieceV 2 W a n cap l) : Rw pieceV 2 W' a n cap l := by
  obtain ⟨t, h1, _⟩ := h
  exact hr.upd num_piece h1 hu
theorem elemU : Tryz.prog.elem 74 = 21 := by kernel_rfl
theorem Holds.cellU {w2 : World} {q : Nat} {R : List (Int × Int)} {W W' : World} (h : Holds w2 q R W) (hu : Upd q W W') {a : Option Addr} {n cap : Nat} {l : List (Int × Int)} (hr : Rw cellV 2 W a n cap l) : Rw cellV 2 W' a n cap l := by
  obtain ⟨t, h1, _⟩ := h
  exact hr.upd num_cell h1 hu
theorem bmp_fwd (R l : List (Int × Int)) : bmp l 1 0 (bmp l (-1) 0 R) = R := by
  apply List.ext_getElem?
  intro j
  rw [bmp_get, bmp_get, Option.map_map]
  rcases R[j]? with _ | c
  · rfl
  simp only [Function.comp, Option.map_some, Option.some.injEq]
  by_cases e : inL l (0 + (j : Int)) = true
  · rw [if_pos e, if_pos e]
    exact Prod.ext rfl (by simp only; omega)
  · rw [if_neg e, if_neg e]
theorem bmp_bwd (R l : List (Int × Int)) : bmp l (-1) 0 (bmp l 1 0 R) = R := by
  apply List.ext_getElem?
  intro j
  rw [bmp_get, bmp_get, Option.map_map]
  rcases R[j]? with _ | c
  · rfl
  simp only [Function.comp, Option.map_some, Option.some.injEq]
  by_cases e : inL l (0 + (j : Int)) = true
  · rw [if_pos e, if_pos e]
    exact Prod.ext rfl (by simp only; omega)
  · rw [if_neg e, if_neg e]
theorem bmp_nil (R : List (Int × Int)) (d : Int) : bmp [] d 0 R = R := by
  apply List.ext_getElem?
  intro j
  rw [bmp_get]
  rcases R[j]? with _ | c
  · rfl
  · simp [inL]
theorem bmp_okR {R : List (Int × Int)} {l : List (Int × Int)} {d : Int} (ho : ∀ c ∈ R, okR c.1) : ∀ c ∈ bmp l d 0 R, okR c.1 := fun c hcm => by
  obtain ⟨x, hx, e⟩ := bmp_mem hcm
  rcases e with rfl | rfl
  · exact ho _ hx
  · exact ho x hx
theorem srt_nil : Srt [] := ⟨fun x hx => (by cases hx), fun i j x y _ hx => (by simp at hx)⟩
theorem eqP_self (o : OpV) : eqP o o = true := by unfold eqP; simp
theorem bmp_put {R : List (Int × Int)} {m : Nat} (hm : m ≤ R.length) (rs : List Int) : bmp [((m : Int), (m : Int) + (rs.length : Int))] 1 0 (putL R m rs 0) = putL R m rs 1 := by
  have hl : (R.take m).length = m := by rw [List.length_take]; omega
  have key : ∀ (A : List (Int × Int)) (f : Int), (∀ j : Nat, j < A.length → inL [((m : Int), (m : Int) + (rs.length : Int))] (f + j) = false) → bmp [((m : Int), (m : Int) + (rs.length : Int))] 1 f A = A := fun A f h => by
    apply List.ext_getElem?
    intro j
    rw [bmp_get]
    cases hj : A[j]? with
    | none => rfl
    | some c =>
      have := h j (List.getElem?_eq_some_iff.1 hj).1
      simp [this]
  have key2 : ∀ (A : List Int) (f : Int), (∀ j : Nat, j < A.length → inL [((m : Int), (m : Int) + (rs.length : Int))] (f + j) = true) → bmp [((m : Int), (m : Int) + (rs.length : Int))] 1 f (A.map fun c => (c, (0 : Int))) = A.map fun c => (c, (1 : Int)) := fun A f h => by
    apply List.ext_getElem?
    intro j
    rw [bmp_get, List.getElem?_map, List.getElem?_map]
    cases hj : A[j]? with
    | none => rfl
    | some c =>
      have := h j (List.getElem?_eq_some_iff.1 hj).1
      simp [this]
  unfold putL
  rw [bmp_append, bmp_append]
  congr 1
  · congr 1
    · refine key _ _ fun j hj => ?_
      rw [hl] at hj
      simp [inL]
      omega
    · refine key2 _ _ fun j hj => ?_
      rw [hl]
      simp [inL]
      omega
  · refine key _ _ fun j hj => ?_
    rw [List.length_append, List.length_map, hl]
    simp [inL]
    omega
end Go.Proofs.YtijpfbcippijoaaGreatDoor
