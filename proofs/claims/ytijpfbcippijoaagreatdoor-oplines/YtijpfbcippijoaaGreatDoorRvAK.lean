import Derived.Test.YtijpfbcippijoaaGreatDoorRrEJ
import Derived.Test.YtijpfbcippijoaaGreatDoorRrPI
namespace Go.Proofs.YtijpfbcippijoaaGreatDoor
open Go.RowKit Go.Lib
set_option maxRecDepth 100000
def sgn (k : Int) : Int := if k % 5 = 1 then 233 else if k % 5 = 2 then 8364 else if k % 5 = 3 then 128512 else 97 + k % 26
theorem sgn_ok (k : Int) : okR (sgn k) := by
  have h7 := Int.emod_nonneg k (show (26 : Int) ≠ 0 by decide)
  have h8 := Int.emod_lt_of_pos k (show (0 : Int) < 26 by decide)
  refine IsSign.ok ⟨?_⟩
  unfold sgn
  split
  · omega
  · split
    · omega
    · split
      · omega
      · omega
def wrds (k : Int) (n : Nat) : List Int := (List.range n).map fun i : Nat => sgn (wrap64 (k + (i : Int)))
theorem wrds_succ (k : Int) (n : Nat) : wrds k (n + 1) = wrds k n ++ [sgn (wrap64 (k + (n : Int)))] := by simp [wrds, List.range_succ]
theorem wrds_len (k : Int) (n : Nat) : (wrds k n).length = n := by simp [wrds]
theorem wrds_ok (k : Int) (n : Nat) : ∀ r ∈ wrds k n, okR r := fun r hr => by
  obtain ⟨i, _, rfl⟩ := List.mem_map.1 hr
  exact sgn_ok _
theorem wrds_text (k : Int) (n : Nat) : IsText (strOf (wrds k n)) (wrds k n) := ⟨by simp [strOf], wrds_ok k n⟩
theorem strOf_snoc {rs : List Int} (h : ∀ r ∈ rs, okR r) {r : Int} (hr : okR r) : strOf rs ++ Utf8.encode r = strOf (rs ++ [r]) :=
  tx_eq (IsText.snoc (s := strOf rs) ⟨by simp [strOf], h⟩ hr).bytes
def pick (R : List (Int × Int)) (A B : Int) (down : Bool) (q : Nat) : Bool := decide (((q : Int) * (A % 7) + B % 11) % 11 < 5) && !(down && ((R[q]?.map fun c => c.2 == 0).getD false))
def addP (l : List (Int × Int)) (q : Nat) : List (Int × Int) := match l.getLast? with
  | some r => if r.2 = (q : Int) then l.dropLast ++ [(r.1, (q : Int) + 1)] else l ++ [((q : Int), (q : Int) + 1)]
  | none => l ++ [((q : Int), (q : Int) + 1)]
def chL (R : List (Int × Int)) (A B : Int) (down : Bool) : Nat → List (Int × Int)
  | 0 => []
  | q + 1 => if pick R A B down q then addP (chL R A B down q) q else chL R A B down q
theorem addP_last (l : List (Int × Int)) (x q : Nat) (a : Int) (h : x = q) : addP (l ++ [(a, (x : Int))]) q = l ++ [(a, (q : Int) + 1)] := by
  subst h
  simp [addP]
section
variable {R : List (Int × Int)} {A B : Int} {down : Bool} {q : Nat} {l : List (Int × Int)}
theorem chL_far (hl : l = chL R A B down q) {z : Int} (hz : ((q : Int) * (A % 7) + B % 11) % 11 = z) (h : ¬ z < 5) : l = chL R A B down (q + 1) := by
  have e : pick R A B down q = false := by simp [pick, hz, h]
  simp [chL, e, hl]
theorem chL_low (hl : l = chL R A B true q) {c : Int × Int} (hc : R[q]? = some c) (h : c.2 = 0) : l = chL R A B true (q + 1) := by
  have e : pick R A B true q = false := by simp [pick, hc, h]
  simp [chL, e, hl]
theorem pick_yes {z : Int} (hz : ((q : Int) * (A % 7) + B % 11) % 11 = z) (h : z < 5) {c : Int × Int} (hc : R[q]? = some c) (hd : (down && (c.2 == 0)) = false) : pick R A B down q = true := by
  simp [pick, hz, h, hc, hd]
theorem chL_one (hl : l = chL R A B down q) (hp : pick R A B down q = true) (h : ∀ r, l.getLast? = some r → r.2 ≠ (q : Int)) : l ++ [((q : Int), (q : Int) + 1)] = chL R A B down (q + 1) := by
  rw [chL, if_pos hp, ← hl]
  unfold addP
  cases e : l.getLast? with
  | none => rfl
  | some r => simp only; rw [if_neg (h r e)]
theorem chL_longer {a : Int} (hl : l ++ [(a, (q : Int))] = chL R A B down q) (hp : pick R A B down q = true) : l ++ [(a, (q : Int) + 1)] = chL R A B down (q + 1) := by
  rw [chL, if_pos hp, ← hl]
  exact (addP_last l q q a rfl).symm
end
end Go.Proofs.YtijpfbcippijoaaGreatDoor

namespace Go.Proofs.YtijpfbcippijoaaGreatDoor
open Go.RowKit Go.Lib
set_option maxRecDepth 100000
end Go.Proofs.YtijpfbcippijoaaGreatDoor

namespace Go.Proofs.YtijpfbcippijoaaGreatDoor
open Go.RowKit Go.Lib
set_option maxRecDepth 100000
theorem Upd.cell {q : Nat} {w w' : World} (hu : Upd q w w') {p : Addr} (h1 : p.block < w.heap.size) (h2 : p.block ≠ q) : w'.cell? p = w.cell? p := by
  unfold World.cell?
  rw [hu.block p.block h1 h2]
theorem Rw.upd {α : Type} {f : α → List Value} {k : Nat} (hv : ∀ x : α, ∃ kd i, (f x)[0]? = some (.int kd i)) {w w' : World} {a : Option Addr} {n cap : Nat} {l : List α} (h : Rw f k w a n cap l) {q : Nat} {t : Tr} (hq : RopeAt w q t) (hu : Upd q w w') : Rw f k w' a n cap l :=
  ⟨h.len, h.room, fun hn => by
    obtain ⟨g, off, ha, hg, hc⟩ := h.cells hn
    have hl0 : 0 < l.length := by have := h.len; omega
    have hx : l[0]? = some l[0] := List.getElem?_eq_getElem hl0
    obtain ⟨kd, i, hvi⟩ := hv l[0]
    have h0 := hc 0 _ hx 0 _ hvi
    obtain ⟨gr, hb, _⟩ := hq
    have hne : g ≠ q := by
      rintro rfl
      simp only [World.cell?, hb] at h0
      match off, h0 with
      | 0, h0 => simp at h0
      | j + 1, h0 => simp at h0
    exact ⟨g, off, ha, by have := hu.size; omega, fun j x hj i v hv => (hu.cell (p := ⟨g, off + j * k + i, none⟩) hg hne).trans (hc j x hj i v hv)⟩⟩
theorem num_cell (x : Int × Int) : ∃ kd i, (cellV x)[0]? = some (.int kd i) := ⟨_, _, rfl⟩
theorem num_piece (x : Int × Int) : ∃ kd i, (pieceV x)[0]? = some (.int kd i) := ⟨_, _, rfl⟩
theorem Holds.insertU {w2 : World} {q : Nat} {R : List (Int × Int)} {W : World} (h : Holds w2 q R W) (hq : w2.heap.size ≤ q) (m : Nat) (hm : m ≤ R.length) {s : ByteArray} {rs : List Int} (ht : IsText s rs) (hne : rs ≠ []) (hid : Int) (h0 : 0 ≤ hid) (h1 : hid ≤ 1048576) (hn : R.length + rs.length ≤ 1048576) (hBar : Bar w2) :
    Calls Tryz.prog 25 #[.pointer (some ⟨q, 0, none⟩), .int .i64 (m : Int), .string s, .int .i64 hid] W fun e W' => e = .returned (.int .i64 0) ∧ Holds w2 q (putL R m rs hid) W' ∧ Upd q W W' := by
  obtain ⟨t, k1, k2, rfl, k3⟩ := h
  exact (insert_any k1 k2 m hm ht hne hid h0 h1 hn (hBar.below k3)).mono fun e W' ⟨he, ⟨t', g1, g2, g3⟩, hu⟩ => ⟨he, ⟨t', g1, g2, g3, Upd.below k3 hu hq k3.size⟩, hu⟩
theorem Holds.bumpU {w2 : World} {q : Nat} {R : List (Int × Int)} {W : World} (h : Holds w2 q R W) (hq : w2.heap.size ≤ q) {a : Option Addr} {m cap : Nat} {l : List (Int × Int)} (hl : Rw pieceV 2 W a m cap l) (hm : m ≤ 32768) (hs : Srt l) (hb : ∀ x ∈ l, 0 ≤ x.1 ∧ x.2 ≤ (R.length : Int)) (d : Int) (hd : d = 1 ∨ d = -1) (hok : ∀ c ∈ bmp l d 0 R, 0 ≤ c.2 ∧ c.2 ≤ 1048576) :
    Calls Tryz.prog 26 #[.pointer (some ⟨q, 0, none⟩), .slice a m cap, .int .i64 d] W fun e W' => e = .returned (.int .i64 0) ∧ Holds w2 q (bmp l d 0 R) W' ∧ Upd q W W' := by
  obtain ⟨t, k1, k2, rfl, k3⟩ := h
  exact (bump_any k1 k2 hl hm hs hb d hd hok).mono fun e W' ⟨he, ⟨t', g1, g2, g3⟩, hu⟩ => ⟨he, ⟨t', g1, g2, g3, Upd.below k3 hu hq k3.size⟩, hu⟩
structure Both (w2 : World) (q : Nat) (M : Int) (R : List (Int × Int)) (a : Option Addr) (cap : Nat) (W : World) : Prop where
  rope : Holds w2 q R W
  row : Rw cellV 2 W a R.length cap R
  ok : ∀ c ∈ R, okR c.1
  cnt : Cnt M R
theorem Cnt.put {M : Int} {R : List (Int × Int)} (h : Cnt M R) {m : Nat} {rs : List Int} {hid : Int} (h0 : 0 ≤ hid) (h1 : hid ≤ M + 1) : Cnt (M + 1) (putL R m rs hid) := fun c hc => by
  unfold putL at hc
  rcases List.mem_append.1 hc with hc | hc
  · rcases List.mem_append.1 hc with hc | hc
    · have := h c (List.mem_of_mem_take hc); omega
    · obtain ⟨x, _, rfl⟩ := List.mem_map.1 hc; exact ⟨h0, h1⟩
  · have := h c (List.mem_of_mem_drop hc); omega
def actR (R : List (Int × Int)) (k A B N : Int) : List (Int × Int) := if k = 0 then putL R (A % ((R.length : Int) + 1)).toNat (wrds B (1 + N % 48).toNat) (B % 3) else bmp (chL R A B (decide (k ≠ 1)) R.length) (if k = 1 then 1 else -1) 0 R
end Go.Proofs.YtijpfbcippijoaaGreatDoor
