import Derived.Test.YtkdhcokefnffaaaDoorMcC
import Derived.Test.YtkdhcokefnffaaaDoorMbG
import Derived.Test.YtkdhcokefnffaaaDoorMbL
/-! Encode and Decode of any message and command; slices cut to their length, and a byte behind them. -/
namespace Go.Proofs.YtkdhcokefnffaaaDoor
open Go.RowKit Go.Lib Sp
set_option maxRecDepth 100000

def Ms.enc : Ms → List Nat
  | .hello k r => encP 1 ++ (encP k ++ encP r)
  | .submit r x => encP 2 ++ (encP x.op.c.toNat ++ (encP r ++ x.enc))
  | .ack k r q => encP 3 ++ (encP k ++ (encP r ++ encP q))
  | .cast k r x => encP 4 ++ (encP k ++ (encP r ++ x.enc))
theorem encF_lt : ∀ f n, ∀ b ∈ encF f n, b < 256
  | 0, _, _, h => by simp [encF] at h
  | f + 1, n, b, h => by
    rw [encF] at h
    split at h
    · simp at h; omega
    · rcases List.mem_cons.1 h with rfl | h
      · omega
      · exact encF_lt f _ b h
theorem encP_byte (n : Nat) : ∀ b ∈ encP n, b < 256 := encF_lt 4 n
theorem app_byte {a b : List Nat} (ha : ∀ x ∈ a, x < 256) (hb : ∀ x ∈ b, x < 256) : ∀ x ∈ a ++ b, x < 256 := fun x hx => by
  rcases List.mem_append.1 hx with h | h
  · exact ha x h
  · exact hb x h
theorem rngL_byte : ∀ (l : List (Nat × Nat)) (e : Nat), ∀ b ∈ rngL e l, b < 256
  | [], _, _, h => by simp [rngL] at h
  | (lo, hi) :: r, e, b, h => app_byte (encP_byte _) (app_byte (encP_byte _) (rngL_byte r hi)) b h
theorem Cm.byte {x : Cm} (h : x.Ok) : ∀ b ∈ x.enc, b < 256 := by
  cases x with
  | ins c m t S => exact app_byte (encP_byte _) (app_byte (encP_byte _) (app_byte (encP_byte _) (app_byte (encP_byte _) (app_byte (encP_byte _) h.2.2.2.1))))
  | hide c m l => exact app_byte (encP_byte _) (app_byte (encP_byte _) (app_byte (encP_byte _) (app_byte (encP_byte _) (rngL_byte _ _))))
  | stat c m x y on => exact app_byte (encP_byte _) (app_byte (encP_byte _) (app_byte (encP_byte _) (app_byte (encP_byte _) (app_byte (encP_byte _) (encP_byte _)))))
theorem Ms.byte {y : Ms} (h : y.Ok) : ∀ b ∈ y.enc, b < 256 := by
  cases y with
  | hello k r => exact app_byte (encP_byte _) (app_byte (encP_byte _) (encP_byte _))
  | submit r x => exact app_byte (encP_byte _) (app_byte (encP_byte _) (app_byte (encP_byte _) (Cm.byte h.2)))
  | ack k r q => exact app_byte (encP_byte _) (app_byte (encP_byte _) (app_byte (encP_byte _) (encP_byte _)))
  | cast k r x => exact app_byte (encP_byte _) (app_byte (encP_byte _) (app_byte (encP_byte _) (Cm.byte h.2.2)))
theorem encP_size (n : Nat) : 1 ≤ (encP n).length ∧ (encP n).length ≤ 4 := ⟨encF_pos 3 n, encF_len 4 n⟩
theorem Cm.size {x : Cm} (h : x.Ok) : 1 ≤ x.enc.length ∧ x.enc.length ≤ 20000 := by
  cases x with
  | ins c m t S =>
    obtain ⟨_, _, h3, _⟩ := h
    have h1 := encP_size 1
    have h2 := encP_size c
    have h4 := encP_size m
    have h5 := encP_size t
    have h6 := encP_size S.length
    simp only [Cm.enc, List.length_append]
    omega
  | hide c m l =>
    obtain ⟨_, _, h3, _⟩ := h
    have h1 := encP_size 2
    have h2 := encP_size c
    have h4 := encP_size m
    have h6 := encP_size l.length
    have h7 := rngL_len l 0
    simp only [Cm.enc, List.length_append]
    omega
  | stat c m x y on =>
    have h1 := encP_size 4
    have h2 := encP_size c
    have h4 := encP_size m
    have h5 := encP_size x
    have h6 := encP_size y
    have h7 := encP_size (onN on)
    simp only [Cm.enc, List.length_append]
    omega
theorem Ms.size {y : Ms} (h : y.Ok) : 1 ≤ y.enc.length ∧ y.enc.length ≤ 30000 := by
  cases y with
  | hello k r =>
    have h1 := encP_size 1
    have h2 := encP_size k
    have h3 := encP_size r
    simp only [Ms.enc, List.length_append]
    omega
  | submit r x =>
    have h1 := encP_size 2
    have h2 := encP_size x.op.c.toNat
    have h3 := encP_size r
    have h4 := Cm.size h.2
    simp only [Ms.enc, List.length_append]
    omega
  | ack k r q =>
    have h1 := encP_size 3
    have h2 := encP_size k
    have h3 := encP_size r
    have h4 := encP_size q
    simp only [Ms.enc, List.length_append]
    omega
  | cast k r x =>
    have h1 := encP_size 4
    have h2 := encP_size k
    have h3 := encP_size r
    have h4 := Cm.size h.2.2
    simp only [Ms.enc, List.length_append]
    omega

theorem encodeS {y : Ms} (hy : y.Ok) {w : World} (hw : Bar w) {b : Option Addr} {m cp : Nat} (hm : y.Mem w b m cp) :
    Calls Tryd.prog 8 #[y.val (.slice b m cp)] w fun e w' => ∃ v', e = .returned (.tuple #[v', .int .i64 0]) ∧ OwnF byV 1 5 w' w.heap.size v' y.enc ∧ Below w.heap.size w w' := by
  cases y with
  | hello k r =>
    refine (encode_ok w k r hy.1 hy.2).mono ?_
    rintro e w' ⟨v', rfl, ho, hb⟩
    exact ⟨v', rfl, by simpa [encL, Ms.enc] using ho, hb⟩
  | submit r x =>
    obtain ⟨f1, f2, f3⟩ := Cm.facts hy.2
    exact encode_2 r f2 ⟨Nat.zero_le _, hy.1⟩ hy.2 (hop := rfl) (hE := rfl) hw hm.1 hm.2
  | ack k r q => exact encode_3 k r hy.1 hy.2.1 q hy.2.2
  | cast k r x => exact encode_4 k r hy.1 hy.2.1 hy.2.2 (hop := rfl) (hE := rfl) hw hm.1 hm.2
theorem decodeS {y : Ms} (hy : y.Ok) {w : World} (hw : Bar w) {n cap : Nat} {a : Option Addr} {bs : List Nat} (h : Rw byV 1 w a n cap bs) (ha : ∀ g, a = some g → g.block < w.heap.size) (hb : ∀ x ∈ bs, x < 256) (hA : Agr bs y.enc) (hn : n ≠ y.enc.length) :
    Calls Tryd.prog 9 #[.slice a n cap] w fun e w' => EndsV zeroV n y.enc.length e ∧ Below w.heap.size w w' := by
  refine decode_cut h ha hb y.enc.length fun W p hbW hR => ?_
  have ha2 : ∀ g, a = some g → g.block < W.heap.size := fun g e => by have := ha g e; have := hbW.size; omega
  cases y with
  | hello k r => exact message_1 hR ha2 hA hy.1 hy.2 _ (by rw [Nat.zero_add]; rfl) hn
  | submit r x =>
    obtain ⟨f1, f2, f3⟩ := Cm.facts hy.2
    exact message_2 hR ha2 hA (by omega) hy.1 hy.2 (hw.below hbW) _ (by rw [Nat.zero_add]; rfl) hn
  | ack k r q => exact message_3 hR ha2 hA hy.1 hy.2.1 hy.2.2 _ (by rw [Nat.zero_add]; rfl) hn
  | cast k r x => exact message_4 hR ha2 hA hy.1 hy.2.1 hy.2.2 (hw.below hbW) _ (by rw [Nat.zero_add]; rfl) hn
def zeroO : Value := .agg #[.int .i64 0, .int .i64 0, .int .i64 0, .int .i64 0, .string ⟨#[]⟩, .slice none 0 0, .int .i64 0, .int .i64 0, .bool false]
theorem decodeOpS {x : Cm} (hx : x.Ok) {w : World} (hw : Bar w) {n cap : Nat} {a : Option Addr} {bs : List Nat} (h : Rw byV 1 w a n cap bs) (ha : ∀ g, a = some g → g.block < w.heap.size) (hb : ∀ x ∈ bs, x < 256) (hA : Agr bs x.enc) (hn : n ≠ x.enc.length) :
    Calls Tryd.prog 14 #[.slice a n cap] w fun e w' => EndsV zeroO n x.enc.length e ∧ Below w.heap.size w w' := by
  refine decodeOp_cut h ha hb x.enc.length fun W p hbW hR => ?_
  have ha2 : ∀ g, a = some g → g.block < W.heap.size := fun g e => by have := ha g e; have := hbW.size; omega
  exact command_cut hR ha2 hA hx (hw.below hbW) _ (by rw [Nat.zero_add]) hn

theorem cut_full (W : World) (a : Option Addr) (n cap m : Nat) (hm : m ≤ cap) : (Instr.slice 39 (.slice a n cap) none (some (.int .i64 (m : Int))) (some (.int .i64 (m : Int)))).run Tryd.prog W = .ok (.slice a m m) W := by
  obtain ⟨i, z, hi, hz, hsz, hby, _⟩ := kindB.info
  have := run_slice_hm (P := Tryd.prog) W 39 a n cap (by rw [elemB]; exact kindB.under) .i64 .i64 (m : Int) (m : Int) (by omega) (by omega) (by omega)
  rw [this, elemB]
  simp [sizeOf, typeInfo, hi, hsz, sliced, Addr.add]
theorem Rw.recap {α : Type} {f : α → List Value} {k : Nat} {w : World} {a : Option Addr} {n cap : Nat} {l : List α} (h : Rw f k w a n cap l) (cap' : Nat) (h1 : n ≤ cap') (h2 : cap' ≤ maxLen) : Rw f k w a n cap' l := ⟨h.len, ⟨h1, h2⟩, h.cells⟩
/-- 'append(b[:len(b):len(b)], x)' -/
theorem append_full {w : World} {a : Option Addr} {n : Nat} {l : List Nat} (h : Rw byV 1 w a n n l) (hn : 0 < n) (hn2 : n ≤ 1048576) (x : Nat) :
    ∃ cap' w', (Builtin.append_ #[39, 39] 39 #[.slice a n n, .slice (some ⟨w.heap.size, 0, none⟩) 1 1]).run Tryd.prog (w.alloc (.cells #[.int .u8 x] 5)) = .ok (.slice (some ⟨w.heap.size + 1, 0, none⟩) (n + 1) cap') w' ∧ Rw byV 1 w' (some ⟨w.heap.size + 1, 0, none⟩) (n + 1) cap' (l ++ [x]) ∧ Below w.heap.size w w' ∧ w.heap.size + 1 < w'.heap.size := by
  obtain ⟨i, z, hi, hz, hsz, hby, hzc⟩ := kindB.info
  have hba : Below w.heap.size w (w.alloc (.cells #[.int .u8 x] 5)) := (Below.refl _ _).alloc (Nat.le_refl _) _
  have h1 := h.below hba
  have h2 := rw_lit (f := byV) (k := 1) w x #[.int .u8 x] rfl 5
  obtain ⟨g, off, rfl, hg, hc⟩ := h1.row layB hn
  obtain ⟨g', off', e', hg', hc'⟩ := h2.row layB (by omega)
  have hl := h.len
  have hr := run_append_grow (P := Tryd.prog) (w.alloc (.cells #[.int .u8 x] 5)) 39 39 5 i z kindB.under hi hz ⟨g, off, none⟩ n n (flatF byV l) (by rw [flatF_length layB, hl, hsz]) hc ⟨w.heap.size, 0, none⟩ 1 1 (flatF byV [x]) (by rw [flatF_length layB, hsz]; rfl) (by cases e'; exact hc') (by omega) (by omega) (by
    have h1 := nextslicecap_le (need := n + 1) (old := n) (by omega)
    have h2 := Nat.mul_le_mul_right i.bytes h1
    rw [hby] at h2 ⊢
    omega)
  rw [World.size_alloc] at hr
  refine ⟨_, _, hr, ?_, ?_, by simp⟩
  · have hge := grownCap_ge (w.alloc (.cells #[.int .u8 x] 5)) (n + 1) n 5
    have hcm : grownCap (w.alloc (.cells #[.int .u8 x] 5)) (n + 1) n 5 ≤ maxLen := grownCap_le_maxLen _ _ _ _ (by simp only [maxLen]; omega)
    refine ⟨by simp [hl], ⟨hge, hcm⟩, fun _ => ⟨w.heap.size + 1, 0, rfl, by simp, fun j y hj q v hv => ?_⟩⟩
    have hh := heap_alloc_new (w.alloc (.cells #[.int .u8 x] 5)).drew (.cells ((flatF byV l).toArray ++ (flatF byV [x]).toArray ++ Builtin.zeroCells z.cells (grownCap (w.alloc (.cells #[.int .u8 x] 5)) (n + 1) n 5 - (n + 1))) 5)
    have hs : (w.alloc (.cells #[.int .u8 x] 5)).drew.heap.size = w.heap.size + 1 := by simp
    rw [hs] at hh
    rw [Lib.cell_of_heap hh]
    have hq : q < 1 := by
      have := (List.getElem?_eq_some_iff.1 hv).1
      rwa [layB.len] at this
    have hfl := flatF_get layB (l ++ [x]) j y hj q hq
    have hfe : flatF byV (l ++ [x]) = flatF byV l ++ flatF byV [x] := by simp [flatF]
    rw [hfe, hv] at hfl
    have hlt := (List.getElem?_eq_some_iff.1 hfl).1
    rw [Nat.zero_add, ← Array.getElem?_toList, Array.toList_append, List.getElem?_append_left (by simpa using hlt)]
    simpa using hfl
  · have hdr : Below w.heap.size w (w.alloc (.cells #[.int .u8 x] 5)).drew := hba.drew
    exact hdr.alloc (by simp) _
end Go.Proofs.YtkdhcokefnffaaaDoor
