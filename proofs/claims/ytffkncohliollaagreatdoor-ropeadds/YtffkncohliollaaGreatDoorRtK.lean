import Derived.Test.YtffkncohliollaaGreatDoorRtJ
/-! One act of the statement. -/
namespace Go.Proofs.YtffkncohliollaaGreatDoor
open Go.RowKit Go.Lib
set_option maxRecDepth 100000

theorem Upd.cell {q : Nat} {w w' : World} (hu : Upd q w w') {p : Addr} (h1 : p.block < w.heap.size) (h2 : p.block ≠ q) : w'.cell? p = w.cell? p := by
  unfold World.cell?
  rw [hu.block p.block h1 h2]
/-- A row of numbers isn't a rope's box. -/
theorem Rw.upd {α : Type} {f : α → List Value} {k : Nat} (hv : ∀ x : α, ∃ kd i, (f x)[0]? = some (.int kd i)) {w w' : World} {a : Option Addr} {n cap : Nat} {l : List α} (h : Rw f k w a n cap l) {q : Nat} {t : Tr} (hq : RopeAt w q t) (hu : Upd q w w') : Rw f k w' a n cap l :=
  ⟨h.len, h.room, fun hn => by
    obtain ⟨g, off, ha, hg, hc⟩ := h.cells hn
    have hl0 : 0 < l.length := by have := h.len; omega
    have hx : l[0]? = some l[0] := List.getElem?_eq_getElem hl0
    obtain ⟨kd, i, hvi⟩ := hv l[0]
    have h0 := hc 0 _ hx 0 _ hvi
    obtain ⟨gr, hb, _⟩ := hq
    have hne : g ≠ q := by
      rintro rfl
      simp only [World.cell?, hb] at h0
      match off, h0 with
      | 0, h0 => simp at h0
      | j + 1, h0 => simp at h0
    exact ⟨g, off, ha, by have := hu.size; omega, fun j x hj i v hv => (hu.cell (p := ⟨g, off + j * k + i, none⟩) hg hne).trans (hc j x hj i v hv)⟩⟩
theorem num_cell (x : Int × Int) : ∃ kd i, (cellV x)[0]? = some (.int kd i) := ⟨_, _, rfl⟩
theorem num_piece (x : Int × Int) : ∃ kd i, (pieceV x)[0]? = some (.int kd i) := ⟨_, _, rfl⟩
theorem Holds.insertU {w2 : World} {q : Nat} {R : List (Int × Int)} {W : World} (h : Holds w2 q R W) (hq : w2.heap.size ≤ q) (m : Nat) (hm : m ≤ R.length) {s : ByteArray} {rs : List Int} (ht : IsText s rs) (hne : rs ≠ []) (hid : Int) (h0 : 0 ≤ hid) (h1 : hid ≤ 1048576) (hn : R.length + rs.length ≤ 1048576) (hBar : Bar w2) :
    Calls Tryz.prog 22 #[.pointer (some ⟨q, 0, none⟩), .int .i64 (m : Int), .string s, .int .i64 hid] W fun e W' => e = .returned (.int .i64 0) ∧ Holds w2 q (putL R m rs hid) W' ∧ Upd q W W' := by
  obtain ⟨t, k1, k2, rfl, k3⟩ := h
  exact (insert_any k1 k2 m hm ht hne hid h0 h1 hn (hBar.below k3)).mono fun e W' ⟨he, ⟨t', g1, g2, g3⟩, hu⟩ => ⟨he, ⟨t', g1, g2, g3, Upd.below k3 hu hq k3.size⟩, hu⟩
theorem Holds.bumpU {w2 : World} {q : Nat} {R : List (Int × Int)} {W : World} (h : Holds w2 q R W) (hq : w2.heap.size ≤ q) {a : Option Addr} {m cap : Nat} {l : List (Int × Int)} (hl : Rw pieceV 2 W a m cap l) (hm : m ≤ 32768) (hs : Srt l) (hb : ∀ x ∈ l, 0 ≤ x.1 ∧ x.2 ≤ (R.length : Int)) (d : Int) (hd : d = 1 ∨ d = -1) (hok : ∀ c ∈ bmp l d 0 R, 0 ≤ c.2 ∧ c.2 ≤ 1048576) :
    Calls Tryz.prog 13 #[.pointer (some ⟨q, 0, none⟩), .slice a m cap, .int .i64 d] W fun e W' => e = .returned (.int .i64 0) ∧ Holds w2 q (bmp l d 0 R) W' ∧ Upd q W W' := by
  obtain ⟨t, k1, k2, rfl, k3⟩ := h
  exact (bump_any k1 k2 hl hm hs hb d hd hok).mono fun e W' ⟨he, ⟨t', g1, g2, g3⟩, hu⟩ => ⟨he, ⟨t', g1, g2, g3, Upd.below k3 hu hq k3.size⟩, hu⟩
/-- The row, in the statement and in the rope. -/
structure Both (w2 : World) (q : Nat) (M : Int) (R : List (Int × Int)) (a : Option Addr) (cap : Nat) (W : World) : Prop where
  rope : Holds w2 q R W
  row : Rw cellV 2 W a R.length cap R
  ok : ∀ c ∈ R, okR c.1
  cnt : Cnt M R
theorem Cnt.put {M : Int} {R : List (Int × Int)} (h : Cnt M R) {m : Nat} {rs : List Int} {hid : Int} (h0 : 0 ≤ hid) (h1 : hid ≤ M + 1) : Cnt (M + 1) (putL R m rs hid) := fun c hc => by
  unfold putL at hc
  rcases List.mem_append.1 hc with hc | hc
  · rcases List.mem_append.1 hc with hc | hc
    · have := h c (List.mem_of_mem_take hc); omega
    · obtain ⟨x, _, rfl⟩ := List.mem_map.1 hc; exact ⟨h0, h1⟩
  · have := h c (List.mem_of_mem_drop hc); omega
/-- The row behind an act. -/
def actR (R : List (Int × Int)) (k A B N : Int) : List (Int × Int) := if k = 0 then putL R (A % ((R.length : Int) + 1)).toNat (wrds B (1 + N % 48).toNat) (B % 3) else bmp (chL R A B (decide (k ≠ 1)) R.length) (if k = 1 then 1 else -1) 0 R
end Go.Proofs.YtffkncohliollaaGreatDoor
