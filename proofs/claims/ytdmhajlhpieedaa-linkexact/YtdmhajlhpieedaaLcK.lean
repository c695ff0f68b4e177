import Derived.Test.YtdmhajlhpieedaaLcJ
/-! Flights. -/
namespace Go.Proofs.Ytdmhajlhpieedaa
open Go.RowKit Go.Lib Go.Shelf
set_option maxRecDepth 100000

def zeroX : X := ⟨0, 0, 0, none, 0, [], false⟩
def catX (xs : List X) : List UInt8 := xs.flatMap (fun x => x.bs)
theorem catX_length (xs : List X) : (catX xs).length = sumX xs := by simp [catX, sumX, List.length_flatMap]
/-- Where Flights lays a flight's bytes. -/
def pX (gb lo : Nat) (x : X) : X := { x with a := some ⟨gb, if x.bs.length = 0 then 0 else lo, none⟩, cap := x.bs.length }
def layX (gb : Nat) : Nat → List X → List X
  | _, [] => []
  | lo, x :: xs => pX gb lo x :: layX gb (lo + x.bs.length) xs
theorem layX_append (gb : Nat) : ∀ (A B : List X) (lo : Nat), layX gb lo (A ++ B) = layX gb lo A ++ layX gb (lo + sumX A) B
  | [], B, lo => by simp [layX, sumX]
  | x :: A, B, lo => by
    simp only [List.cons_append, layX, layX_append gb A B]
    rw [show lo + x.bs.length + sumX A = lo + sumX (x :: A) by simp [sumX]; omega]
theorem layX_length (gb : Nat) : ∀ (A : List X) (lo : Nat), (layX gb lo A).length = A.length
  | [], _ => rfl
  | x :: A, lo => by simp [layX, layX_length gb A]
theorem layX_fg (gb : Nat) : ∀ (A : List X) (lo : Nat), (layX gb lo A).map X.fg = A.map X.fg
  | [], _ => rfl
  | x :: A, lo => by simp [layX, layX_fg gb A]; rfl
theorem madeV (n : Nat) : (madeCells (Value.agg #[.int .i64 0, .int .i64 0, .int .i64 0, .slice none 0 0, .bool false]).cells (n * 5)).toList = flatF fv (List.replicate n zeroX) := by
  apply List.ext_getElem?
  intro i
  have hl := flatF_length layV (List.replicate n zeroX)
  rw [List.length_replicate] at hl
  by_cases hi : i < n * 5
  · have hq : i / 5 < n := by omega
    have hx : (List.replicate n zeroX)[i / 5]? = some zeroX := by simp [hq]
    have h2 := flatF_get layV _ (i / 5) zeroX hx (i % 5) (Nat.mod_lt _ (by decide))
    rw [show i / 5 * 5 + i % 5 = i by omega] at h2
    rw [h2]
    have h5 : i % 5 = 0 ∨ i % 5 = 1 ∨ i % 5 = 2 ∨ i % 5 = 3 ∨ i % 5 = 4 := by omega
    rcases h5 with h5 | h5 | h5 | h5 | h5 <;> simp [madeCells, hi, Value.cells, h5, fv, zeroX]
  · rw [List.getElem?_eq_none (by simp [madeCells]; omega), List.getElem?_eq_none (by omega)]
theorem madeU (n : Nat) : (madeCells (Value.int .u8 0).cells n).toList.length = n := by simp [madeCells]
/-- 'append(block, bytes...)' with room. -/
theorem app_bytes {w : World} {g k cap : Nat} {post : List Value} {bs ys : List UInt8} (hh : w.heap[g]? = some (.cells (flatF byU bs ++ post).toArray 5)) (hk : bs.length = k) {b : Option Addr} {m c : Nat} (hR : Rw byU 1 w b m c ys) (hroom : k + m ≤ cap) (hfit : m ≤ post.length) :
    ∃ W', (Builtin.append_ #[34, 34] 34 #[.slice (some ⟨g, 0, none⟩) k cap, .slice b m c]).run Try.prog w = .ok (.slice (some ⟨g, 0, none⟩) (k + m) cap) W' ∧ W'.heap[g]? = some (.cells (flatF byU (bs ++ ys) ++ post.drop m).toArray 5) ∧ Chg (fun x => x = g) w W' ∧ W'.heap.size = w.heap.size := by
  have hl := hR.len
  have hfl : (flatF byU ys).length = m := by rw [flatF_length layU, hl, Nat.mul_one]
  by_cases h0 : 0 < m
  · obtain ⟨ga, off, rfl, _, hc⟩ := hR.row layU h0
    have hr := run_append_off kindU layU (pre := []) (cap := cap) (ys := ys) (by simpa using hh) hk ⟨ga, off, none⟩ m c hl hc hroom (by rw [hfl]; exact hfit) 34
    simp only [List.length_nil, hfl, List.nil_append] at hr
    exact ⟨_, hr, setRow_heap _ _ _ _ _ _ hh, Chg.setRow (D := fun x => x = g) (q := g) _ _ rfl, by simp⟩
  · obtain rfl : m = 0 := by omega
    obtain rfl : ys = [] := List.length_eq_zero_iff.1 hl
    refine ⟨w, ?_, by simpa using hh, Chg.refl _ _, rfl⟩
    obtain ⟨i, z, hi, hz, hsz, hby, _⟩ := kindU.info
    have hroom' : k ≤ cap := by omega
    cases b with
    | none => simp [Builtin.append_, run_underlying kindU.under, sizeOf, typeInfo, hi, Builtin.lenOf, hroom', run_firstCells_none, storeCells]
    | some ad =>
      have hfc := run_firstCells_some (P := Try.prog) w i.size 0 ad 0 c [] (by simp) (fun j u hu => by simp at hu)
      simp [Builtin.append_, run_underlying kindU.under, sizeOf, typeInfo, hi, Builtin.lenOf, hroom', hfc, storeCells]
theorem cut3 (W : World) (g k cap l h : Nat) (hlh : l ≤ h) (hh : h ≤ cap) : (Instr.slice 34 (.slice (some ⟨g, 0, none⟩) k cap) (some (.int .i64 (l : Int))) (some (.int .i64 (h : Int))) (some (.int .i64 (h : Int)))).run Try.prog W = .ok (.slice (some ⟨g, if h - l = 0 then 0 else l, none⟩) (h - l) (h - l)) W := by
  obtain ⟨i, z, hi, hz, hsz, hby, _⟩ := kindU.info
  have := run_slice_lhm (P := Try.prog) W 34 (some ⟨g, 0, none⟩) k cap (by rw [elemU]; exact kindU.under) .i64 .i64 .i64 (l : Int) (h : Int) (h : Int) (by omega) (by omega) (by omega) (by omega)
  rw [this, elemU]
  simp [sizeOf, typeInfo, hi, hsz, sliced]
  by_cases e : h = l
  · subst e; simp
  · rw [if_neg e, if_neg (by omega)]
    simp [Addr.add]
    exact fun e => e.symm
/-- Where Flights' loop stands. -/
structure FI (W : World) (xs : List X) (n Z go gb k : Nat) (wr : World) : Prop where
  bel : Below W.heap.size W wr
  gon : W.heap.size ≤ go
  gbn : W.heap.size ≤ gb
  out : wr.heap[go]? = some (.cells (flatF fv (layX gb 0 (xs.take k) ++ List.replicate (n - k) zeroX)).toArray 73)
  blk : ∃ post, wr.heap[gb]? = some (.cells (flatF byU (catX (xs.take k)) ++ post).toArray 5) ∧ post.length = Z - sumX (xs.take k)
theorem FI.ne {W : World} {xs : List X} {n Z go gb k : Nat} {wr : World} (h : FI W xs n Z go gb k wr) : go ≠ gb := by
  rintro rfl
  obtain ⟨post, h1, _⟩ := h.blk
  rw [h.out] at h1
  simp at h1
/-- A round of it, in memory. -/
theorem FI.step {W : World} {q : Nat} {S : Lk} {rv : Value} {xs : List X} (hL : LinkAt W q S rv xs) {n Z go gb k sm bl : Nat} {wr V2 : World} {x : X} (h : FI W xs n Z go gb k wr) (hx : xs[k]? = some x) (hn : xs.length = n) (hZ : sumX xs = Z) (hsm : sumX (xs.take k) = sm) (hbl : x.bs.length = bl)
    (hB2 : Below wr.heap.size wr V2) (hs2 : V2.heap.size = wr.heap.size + 1) (hh2 : V2.heap[wr.heap.size]? = some (.cells #[.int .i64 (x.num : Int), .int .i64 x.fr, .int .i64 x.tt, .slice x.a bl x.cap, .bool x.sp] 73)) :
    ∃ W3 W4 W5, (Builtin.append_ #[34, 34] 34 #[.slice (some ⟨gb, 0, none⟩) sm Z, .slice x.a bl x.cap]).run Try.prog V2 = .ok (.slice (some ⟨gb, 0, none⟩) (sm + bl) Z) W3 ∧
      (W3.heap[wr.heap.size]? = some (.cells #[.int .i64 (x.num : Int), .int .i64 x.fr, .int .i64 x.tt, .slice x.a bl x.cap, .bool x.sp] 73)) ∧
      W3.setCell ⟨wr.heap.size, 3, none⟩ (.slice (some ⟨gb, if sm + bl - sm = 0 then 0 else sm, none⟩) (sm + bl - sm) (sm + bl - sm)) = W4 ∧
      (W4.heap[wr.heap.size]? = some (.cells #[.int .i64 (x.num : Int), .int .i64 x.fr, .int .i64 x.tt, .slice (some ⟨gb, if sm + bl - sm = 0 then 0 else sm, none⟩) (sm + bl - sm) (sm + bl - sm), .bool x.sp] 73)) ∧
      ((∃ u0 u1 u2 u3 u4, W4.cell? ⟨go, k * 5, none⟩ = some u0 ∧ W4.cell? ⟨go, k * 5 + 1, none⟩ = some u1 ∧ W4.cell? ⟨go, k * 5 + 2, none⟩ = some u2 ∧ W4.cell? ⟨go, k * 5 + 3, none⟩ = some u3 ∧ W4.cell? ⟨go, k * 5 + 4, none⟩ = some u4) ∧ ∀ j, W4.frozen? ⟨go, j, none⟩ = false) ∧
      ((((W4.setCell ⟨go, k * 5, none⟩ (.int .i64 (x.num : Int))).setCell ⟨go, k * 5 + 1, none⟩ (.int .i64 x.fr)).setCell ⟨go, k * 5 + 2, none⟩ (.int .i64 x.tt)).setCell ⟨go, k * 5 + 3, none⟩ (.slice (some ⟨gb, if sm + bl - sm = 0 then 0 else sm, none⟩) (sm + bl - sm) (sm + bl - sm))).setCell ⟨go, k * 5 + 4, none⟩ (.bool x.sp) = W5 ∧
      FI W xs n Z go gb (k + 1) W5 := by
  have hne := h.ne
  have hk : k < n := by rw [← hn]; exact (List.getElem?_eq_some_iff.1 hx).1
  obtain ⟨post, hbk, hpl⟩ := h.blk
  have hgbl : gb < wr.heap.size := (Array.getElem?_eq_some_iff.1 hbk).1
  have hgol : go < wr.heap.size := (Array.getElem?_eq_some_iff.1 h.out).1
  have hxm := List.mem_of_getElem? hx
  have hBW : Below W.heap.size W V2 := h.bel.trans (hB2.mono h.bel.size)
  have hRx : Rw byU 1 V2 x.a bl x.cap x.bs := by
    have := ((hL.own x hxm).below hBW).rw_ layU
    rw [hbl] at this; exact this
  have hsucc := sumX_succ xs k x hx
  have htl := sumX_take_le xs (k + 1)
  rw [hsm, hbl] at hsucc
  have hbk2 := (hB2.block gb hgbl).trans hbk
  obtain ⟨W3, hr, hh3, hC3, hs3⟩ := app_bytes (cap := Z) hbk2 (by rw [catX_length, hsm]) hRx (by omega) (by omega)
  have hx3 := hC3.block hh2 (by omega)
  obtain ⟨W4, hW4⟩ : ∃ W4, W3.setCell ⟨wr.heap.size, 3, none⟩ (.slice (some ⟨gb, if sm + bl - sm = 0 then 0 else sm, none⟩) (sm + bl - sm) (sm + bl - sm)) = W4 := ⟨_, rfl⟩
  have hx4 := heap_setCell_cells hx3 3 (.slice (some ⟨gb, if sm + bl - sm = 0 then 0 else sm, none⟩) (sm + bl - sm) (sm + bl - sm))
  rw [hW4] at hx4
  have hC4 : Chg (fun y => y = wr.heap.size) W3 W4 := by rw [← hW4]; exact Chg.set (D := fun y => y = wr.heap.size) (q := wr.heap.size) 3 _ _ rfl
  have ho2 := (hB2.block go hgol).trans h.out
  have ho4 := hC4.block (hC3.block ho2 hne) (by omega)
  have hb4 := hC4.block hh3 (by omega)
  have hly := layX_length gb (xs.take k) 0
  rw [List.length_take, show min k xs.length = k by omega] at hly
  have hlf := flatF_length layV (layX gb 0 (xs.take k))
  rw [hly] at hlf
  have e1 : flatF fv (layX gb 0 (xs.take k) ++ List.replicate (n - k) zeroX) = flatF fv (layX gb 0 (xs.take k)) ++ [.int .i64 0, .int .i64 0, .int .i64 0, .slice none 0 0, .bool false] ++ flatF fv (List.replicate (n - (k + 1)) zeroX) := by
    rw [show n - k = (n - (k + 1)) + 1 by omega, List.replicate_succ, flatF_append, List.append_assoc]
    rfl
  rw [e1] at ho4
  obtain ⟨W5, hW5, hh5, hC5⟩ := set5 ho4 hlf (.int .i64 (x.num : Int)) (.int .i64 x.fr) (.int .i64 x.tt) (.slice (some ⟨gb, if sm + bl - sm = 0 then 0 else sm, none⟩) (sm + bl - sm) (sm + bl - sm)) (.bool x.sp)
  refine ⟨W3, W4, W5, hr, hx3, hW4, hx4, ⟨⟨.int .i64 0, .int .i64 0, .int .i64 0, .slice none 0 0, .bool false, ?_, ?_, ?_, ?_, ?_⟩, fun j => Lib.frozen_of_heap ho4 j⟩, hW5, ⟨?_, h.gon, h.gbn, ?_, ?_⟩⟩
  · rw [Lib.cell_of_heap ho4, ← hlf]; simp
  · rw [Lib.cell_of_heap ho4, ← hlf]; simp
  · rw [Lib.cell_of_heap ho4, ← hlf]; simp
  · rw [Lib.cell_of_heap ho4, ← hlf]; simp
  · rw [Lib.cell_of_heap ho4, ← hlf]; simp
  · have hbs := h.bel.size
    have hg1 := h.gon
    have hg2 := h.gbn
    exact hBW.trans ((hC3.below (fun y e => by omega) (by omega)).trans ((hC4.below (fun y e => by omega) (by omega)).trans (hC5.below (fun y e => by omega) (by have := hC4.size; omega))))
  · rw [hh5]
    congr 2
    rw [List.take_add_one, hx]
    simp only [Option.toList]
    rw [layX_append, Nat.zero_add, hsm]
    have e2 : layX gb sm [x] = [pX gb sm x] := rfl
    rw [e2, flatF_append, flatF_append]
    have e3 : flatF fv [pX gb sm x] = [.int .i64 (x.num : Int), .int .i64 x.fr, .int .i64 x.tt, .slice (some ⟨gb, if sm + bl - sm = 0 then 0 else sm, none⟩) (sm + bl - sm) (sm + bl - sm), .bool x.sp] := by
      simp only [flatF, List.flatMap_cons, List.flatMap_nil, List.append_nil, fv, pX, hbl, Nat.add_sub_cancel_left]
    rw [e3]
  · refine ⟨post.drop bl, ?_, ?_⟩
    · have := hC5.block hb4 (fun e => hne e.symm)
      rw [this, List.take_add_one, hx]
      simp [catX]
    · rw [List.length_drop, hpl, hsucc, hsm]; omega
end Go.Proofs.Ytdmhajlhpieedaa
