import Derived.Test.YtajnadcinegmjaaDoorOpN
import Derived.Test.YtajnadcinegmjaaDoorQuo
namespace Go.Proofs.YtajnadcinegmjaaDoor
open Go.RowKit Go.Lib Sp
set_option maxRecDepth 100000

def oneB (r : Int × Int) : List UInt8 := Lib.itoa r.1 ++ [45] ++ Lib.itoa r.2
def rngB : List (Int × Int) → List UInt8
  | [] => []
  | r :: t => oneB r ++ t.flatMap fun r => [44] ++ oneB r
theorem rngB_snoc (l : List (Int × Int)) (r : Int × Int) (h : l ≠ []) : rngB (l ++ [r]) = rngB l ++ [44] ++ Lib.itoa r.1 ++ [45] ++ Lib.itoa r.2 := by
  cases l with
  | nil => exact absurd rfl h
  | cons x t => simp [rngB, oneB]
theorem rngB_one (r : Int × Int) : rngB [r] = Lib.itoa r.1 ++ [45] ++ Lib.itoa r.2 := by simp [rngB, oneB]
/-- A list whose numbers are places. -/
def Places (l : List (Int × Int)) : Prop := ∀ r ∈ l, 0 ≤ r.1 ∧ r.1 ≤ 1048576 ∧ 0 ≤ r.2 ∧ r.2 ≤ 1048576
theorem oneB_length {r : Int × Int} (h : 0 ≤ r.1 ∧ r.1 ≤ 1048576 ∧ 0 ≤ r.2 ∧ r.2 ≤ 1048576) : (oneB r).length ≤ 43 := by
  have h1 := Lib.itoa_length_le r.1 (by omega) (by omega)
  have h2 := Lib.itoa_length_le r.2 (by omega) (by omega)
  simp only [oneB, List.length_append, List.length_cons, List.length_nil]; omega
theorem rngB_length {l : List (Int × Int)} (h : Places l) : (rngB l).length ≤ l.length * 44 := by
  cases l with
  | nil => simp [rngB]
  | cons x t =>
    have h1 := oneB_length (h x (by simp))
    have h2 : ∀ t : List (Int × Int), Places t → (t.flatMap fun r => [44] ++ oneB r).length ≤ t.length * 44 := by
      intro t
      induction t with
      | nil => intro _; simp
      | cons y u ih =>
        intro hy
        have h3 := oneB_length (hy y (by simp))
        have h4 := ih fun r hr => hy r (by simp [hr])
        simp only [List.flatMap_cons, List.length_append, List.length_cons, List.length_nil] at h4 ⊢
        omega
    have h5 := h2 t fun r hr => h r (by simp [hr])
    simp only [rngB, List.length_append, List.length_cons]; omega
theorem take_getD (l : List (Int × Int)) (j : Nat) (hj : j < l.length) : l.take (j + 1) = l.take j ++ [l.getD j (0, 0)] := by
  rw [List.take_succ_eq_append_getElem hj, List.getD_eq_getElem?_getD, List.getElem?_eq_getElem hj]
  rfl
theorem strCells_bs (l : List UInt8) : Lib.strCells (bs l) = Lib.byteCells l := by simp [Lib.strCells, Lib.byteCells, bs]

/-- The builder in block w.heap.size holds acc. -/
structure Bu (w W : World) (acc : List UInt8) : Prop where
  isB : Lib.IsBuilderF 61 5 w.heap.size w.heap.size (Lib.byteCells acc) W
  below : Below w.heap.size w W
  lt : w.heap.size < W.heap.size
theorem Bu.alloc {w W : World} {acc : List UInt8} (h : Bu w W acc) (o : Obj) : Bu w (W.alloc o) acc := ⟨h.isB.alloc o, h.below.alloc h.below.size o, by have := h.lt; simp; omega⟩
theorem Bu.keep {w W W' : World} {acc : List UInt8} (h : Bu w W acc) (hb : Below W.heap.size W W') : Bu w W' acc := ⟨builder_keep h.isB hb, h.below.trans (hb.mono h.below.size), by have := h.lt; have := hb.size; omega⟩
theorem box_keep {w W W' : World} (k : Lib.OthersKept 5 (some w.heap.size) W W') {g : Nat} {c : Array Value} (hg : W.heap[g]? = some (.cells c 42)) (hne : g ≠ w.heap.size) : W'.heap[g]? = some (.cells c 42) :=
  k g _ hg (by simpa using hne) (fun c fz e => by injection e with _ e2; exact absurd e2 (by decide))
theorem bu_byte {w W : World} {acc : List UInt8} (h : Bu w W acc) (c : UInt8) (hl : acc.length ≤ 1000000000) :
    Calls Tryd.prog 28 #[.pointer (some ⟨w.heap.size, 0, none⟩), .int .u8 (c.toNat : Int)] W fun e W' => e = .returned .nilIface ∧ Bu w W' (acc ++ [c]) ∧ Lib.OthersKept 5 (some w.heap.size) W W' := by
  refine (writeByte_any w.heap.size w.heap.size _ (c.toNat : Int) W h.isB (by rw [Lib.byteCells_length]; omega) h.below.size).mono ?_
  rintro e W' ⟨rfl, h1, b1, k1⟩
  refine ⟨rfl, ⟨?_, h.below.trans b1, by have := h.lt; have := b1.size; omega⟩, k1⟩
  rw [Lib.byteCells_append]
  exact .inr h1
theorem bu_str {w W : World} {acc : List UInt8} (h : Bu w W acc) (l : List UInt8) (hl : acc.length ≤ 1000000000) (hl2 : l.length ≤ 1000000000) :
    Calls Tryd.prog 30 #[.pointer (some ⟨w.heap.size, 0, none⟩), .string (bs l)] W fun e W' => e = .returned (.tuple #[.int .i64 (bs l).size, .nilIface]) ∧ Bu w W' (acc ++ l) ∧ Lib.OthersKept 5 (some w.heap.size) W W' := by
  refine (writeString_any w.heap.size w.heap.size _ (bs l) W h.isB (by rw [Lib.byteCells_length, bs_size]; omega) h.below.size).mono ?_
  rintro e W' ⟨rfl, h1, b1, k1⟩
  refine ⟨rfl, ⟨?_, h.below.trans b1, by have := h.lt; have := b1.size; omega⟩, k1⟩
  rw [Lib.byteCells_append, ← strCells_bs l]
  exact .inr h1

set_option maxHeartbeats 2000000 in
theorem printRanges_any {w : World} {a : Option Addr} {n cap : Nat} {l : List (Int × Int)} (h : Rng w a n cap l) (hP : Places l) (hn : n ≤ 32768) (hp : Pow w) :
    Calls Tryd.prog 20 #[.slice a n cap] w fun e w' => e = .returned (.string (bs (rngB l))) ∧ Below w.heap.size w w' := by
  have hlen := h.len
  have HT : Hid (∀ (x : Int) (w' : World), 0 ≤ x → x ≤ 1048576 → Below w.heap.size w w' → Calls Tryd.prog 18 #[.int .i64 x] w' fun e w'' => e = .returned (.string (bs (Lib.itoa x))) ∧ Below w'.heap.size w' w'') := fun x w' h0 h1 hb => itoa_any x (by omega) (by omega) w' (hp.below hb)
  clear hp
  go_enter Tryd.func20, Tryd.ntmps20
  go_wp2_with fail
  go_loopw [4, 5, 8] (fun _ _ vi W => ∃ j : Nat, vi = .int .i64 j ∧ j ≤ n ∧ Bu w W (rngB (l.take j))) (fun _ _ vi _ => n - (RowKit.intOf vi).toNat)
  case atStart => exact ⟨0, rfl, Nat.zero_le _, ⟨Lib.IsBuilderF.of (Lib.fresh_isBuilder 61 5 w), (Below.refl _ _).alloc (Nat.le_refl _) _, by simp⟩⟩
  case round =>
    obtain ⟨j, rfl, hjn, hB⟩ := hrel
    by_cases hj : j < n
    · obtain ⟨g, off, rfl, hg, hc, hd⟩ := h.cells j hj
      have c0 := (hB.below.cell (p := ⟨g, off + j * 2, none⟩) hg).trans hc
      have c1 := (hB.below.cell (p := ⟨g, off + j * 2 + 1, none⟩) hg).trans hd
      have hm : l.getD j (0, 0) ∈ l := by rw [List.getD_eq_getElem?_getD, List.getElem?_eq_getElem (by omega)]; exact List.getElem_mem (by omega)
      have hpl := hP _ hm
      have htk := take_getD l j (by omega)
      have hll : (rngB (l.take j)).length ≤ 1500000 := by
        have h1 := rngB_length (l := l.take j) fun r hr => hP r (List.mem_of_mem_take hr)
        rw [List.length_take] at h1
        omega
      generalize l.getD j (0, 0) = r at *
      obtain ⟨lo, hi⟩ := r
      simp only at c0 c1 hpl
      obtain ⟨p0, p1, p2, p3⟩ := hpl
      have i0 := Lib.itoa_length_le lo (by omega) (by omega)
      have i1 := Lib.itoa_length_le hi (by omega) (by omega)
      have HTK : Hid (l.take (j + 1) = l.take j ++ [(lo, hi)]) := htk
      clear hc hd hm htk
      by_cases hj0 : j = 0
      · have HJ : Hid (j = 0) := hj0
        have hd0 : decide (0 < j) = false := decide_eq_false (by omega)
        have hd1 : ¬ (0 : Int) < (j : Int) := by omega
        clear hj0
        have hB0 := hB.alloc (Obj.cells #[.int .i64 lo, .int .i64 hi] 42)
        have x0 : (wr.alloc (Obj.cells #[.int .i64 lo, .int .i64 hi] 42)).heap[wr.heap.size]? = some (Obj.cells #[.int .i64 lo, .int .i64 hi] 42) := by show (wr.heap.push _)[wr.heap.size]? = _; simp
        have hne : wr.heap.size ≠ w.heap.size := by have := hB.lt; omega
        go_wp2_with fail
        refine (HT.out lo _ p0 p1 hB0.below).mono ?_
        rintro e w1 ⟨rfl, b1⟩
        have hB1 := hB0.keep b1
        have x1 := (b1.block _ (Array.getElem?_eq_some_iff.1 x0).1).trans x0
        have f1 : w1.cell? ⟨wr.heap.size, 0, none⟩ = some (.int .i64 lo) := by rw [Lib.cell_of_heap x1]; rfl
        have g1 : w1.cell? ⟨wr.heap.size, 1, none⟩ = some (.int .i64 hi) := by rw [Lib.cell_of_heap x1]; rfl
        clear b1
        go_wp2_with fail
        refine (bu_str hB1 (Lib.itoa lo) (by first | omega | (simp; omega)) (by omega)).mono ?_
        rintro e w2 ⟨rfl, hB2, k2⟩
        have x2 := box_keep k2 x1 hne
        have f2 : w2.cell? ⟨wr.heap.size, 0, none⟩ = some (.int .i64 lo) := by rw [Lib.cell_of_heap x2]; rfl
        have g2 : w2.cell? ⟨wr.heap.size, 1, none⟩ = some (.int .i64 hi) := by rw [Lib.cell_of_heap x2]; rfl
        clear k2
        go_wp2_with fail
        refine (bu_byte hB2 45 (by first | omega | (simp; omega))).mono ?_
        rintro e w3 ⟨rfl, hB3, k3⟩
        have x3 := box_keep k3 x2 hne
        have f3 : w3.cell? ⟨wr.heap.size, 0, none⟩ = some (.int .i64 lo) := by rw [Lib.cell_of_heap x3]; rfl
        have g3 : w3.cell? ⟨wr.heap.size, 1, none⟩ = some (.int .i64 hi) := by rw [Lib.cell_of_heap x3]; rfl
        clear k3
        go_wp2_with fail
        refine (HT.out hi _ p2 p3 hB3.below).mono ?_
        rintro e w4 ⟨rfl, b4⟩
        have hB4 := hB3.keep b4
        have x4 := (b4.block _ (Array.getElem?_eq_some_iff.1 x3).1).trans x3
        have f4 : w4.cell? ⟨wr.heap.size, 0, none⟩ = some (.int .i64 lo) := by rw [Lib.cell_of_heap x4]; rfl
        have g4 : w4.cell? ⟨wr.heap.size, 1, none⟩ = some (.int .i64 hi) := by rw [Lib.cell_of_heap x4]; rfl
        clear b4
        go_wp2_with fail
        refine (bu_str hB4 (Lib.itoa hi) (by first | omega | (simp; omega)) (by omega)).mono ?_
        rintro e w5 ⟨rfl, hB5, k5⟩
        have x5 := box_keep k5 x4 hne
        have f5 : w5.cell? ⟨wr.heap.size, 0, none⟩ = some (.int .i64 lo) := by rw [Lib.cell_of_heap x5]; rfl
        have g5 : w5.cell? ⟨wr.heap.size, 1, none⟩ = some (.int .i64 hi) := by rw [Lib.cell_of_heap x5]; rfl
        clear k5
        go_wp2_with fail
        have HF : Bu w w5 (rngB (l.take (j + 1))) := by
          rw [HTK.out, HJ.out, List.take_zero, List.nil_append, rngB_one]
          have := hB5
          rw [HJ.out] at this
          simpa [rngB] using this
        go_roundw
        case rel => exact ⟨j + 1, by go_num, by omega, HF⟩
        case measure => simp [RowKit.intOf]; omega
      · have HJ : Hid (l.take j ≠ []) := fun e => by
          have h0 : (l.take j).length = 0 := by rw [e]; rfl
          rw [List.length_take] at h0
          omega
        have hd0 : 0 < j := by omega
        have hd1 : (0 : Int) < (j : Int) := by omega
        clear hj0
        have hB0 := hB.alloc (Obj.cells #[.int .i64 lo, .int .i64 hi] 42)
        have x0 : (wr.alloc (Obj.cells #[.int .i64 lo, .int .i64 hi] 42)).heap[wr.heap.size]? = some (Obj.cells #[.int .i64 lo, .int .i64 hi] 42) := by show (wr.heap.push _)[wr.heap.size]? = _; simp
        have hne : wr.heap.size ≠ w.heap.size := by have := hB.lt; omega
        go_wp2_with fail
        refine (bu_byte hB0 44 (by first | omega | (simp; omega))).mono ?_
        rintro e w1 ⟨rfl, hB1, k1⟩
        have x1 := box_keep k1 x0 hne
        have f1 : w1.cell? ⟨wr.heap.size, 0, none⟩ = some (.int .i64 lo) := by rw [Lib.cell_of_heap x1]; rfl
        have g1 : w1.cell? ⟨wr.heap.size, 1, none⟩ = some (.int .i64 hi) := by rw [Lib.cell_of_heap x1]; rfl
        clear k1
        go_wp2_with fail
        refine (HT.out lo _ p0 p1 hB1.below).mono ?_
        rintro e w2 ⟨rfl, b2⟩
        have hB2 := hB1.keep b2
        have x2 := (b2.block _ (Array.getElem?_eq_some_iff.1 x1).1).trans x1
        have f2 : w2.cell? ⟨wr.heap.size, 0, none⟩ = some (.int .i64 lo) := by rw [Lib.cell_of_heap x2]; rfl
        have g2 : w2.cell? ⟨wr.heap.size, 1, none⟩ = some (.int .i64 hi) := by rw [Lib.cell_of_heap x2]; rfl
        clear b2
        go_wp2_with fail
        refine (bu_str hB2 (Lib.itoa lo) (by first | omega | (simp; omega)) (by omega)).mono ?_
        rintro e w3 ⟨rfl, hB3, k3⟩
        have x3 := box_keep k3 x2 hne
        have f3 : w3.cell? ⟨wr.heap.size, 0, none⟩ = some (.int .i64 lo) := by rw [Lib.cell_of_heap x3]; rfl
        have g3 : w3.cell? ⟨wr.heap.size, 1, none⟩ = some (.int .i64 hi) := by rw [Lib.cell_of_heap x3]; rfl
        clear k3
        go_wp2_with fail
        refine (bu_byte hB3 45 (by first | omega | (simp; omega))).mono ?_
        rintro e w4 ⟨rfl, hB4, k4⟩
        have x4 := box_keep k4 x3 hne
        have f4 : w4.cell? ⟨wr.heap.size, 0, none⟩ = some (.int .i64 lo) := by rw [Lib.cell_of_heap x4]; rfl
        have g4 : w4.cell? ⟨wr.heap.size, 1, none⟩ = some (.int .i64 hi) := by rw [Lib.cell_of_heap x4]; rfl
        clear k4
        go_wp2_with fail
        refine (HT.out hi _ p2 p3 hB4.below).mono ?_
        rintro e w5 ⟨rfl, b5⟩
        have hB5 := hB4.keep b5
        have x5 := (b5.block _ (Array.getElem?_eq_some_iff.1 x4).1).trans x4
        have f5 : w5.cell? ⟨wr.heap.size, 0, none⟩ = some (.int .i64 lo) := by rw [Lib.cell_of_heap x5]; rfl
        have g5 : w5.cell? ⟨wr.heap.size, 1, none⟩ = some (.int .i64 hi) := by rw [Lib.cell_of_heap x5]; rfl
        clear b5
        go_wp2_with fail
        refine (bu_str hB5 (Lib.itoa hi) (by first | omega | (simp; omega)) (by omega)).mono ?_
        rintro e w6 ⟨rfl, hB6, k6⟩
        have x6 := box_keep k6 x5 hne
        have f6 : w6.cell? ⟨wr.heap.size, 0, none⟩ = some (.int .i64 lo) := by rw [Lib.cell_of_heap x6]; rfl
        have g6 : w6.cell? ⟨wr.heap.size, 1, none⟩ = some (.int .i64 hi) := by rw [Lib.cell_of_heap x6]; rfl
        clear k6
        go_wp2_with fail
        have HF : Bu w w6 (rngB (l.take (j + 1))) := by
          rw [HTK.out, rngB_snoc _ _ HJ.out]
          exact hB6
        go_roundw
        case rel => exact ⟨j + 1, by go_num, by omega, HF⟩
        case measure => simp [RowKit.intOf]; omega
    · have hjn2 : j = n := by omega
      have e1 : l.take j = l := List.take_of_length_le (by omega)
      rw [e1] at hB
      clear hjn e1 h HT
      go_wp2_with fail
      refine (Tryd.Builder_String_any_k w.heap.size w.heap.size (rngB l) _ hB.isB hB.below.size).mono ?_
      rintro e w1 ⟨rfl, _, b1, _⟩
      have hb1 := hB.below.trans b1
      clear b1 hB
      go_wp2_with fail
      go_ret
      exact ⟨rfl, hb1⟩
end Go.Proofs.YtajnadcinegmjaaDoor
