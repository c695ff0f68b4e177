import Derived.Test.YtijpfbcippijoaaGreatDoorQaAC
import Derived.Test.YtijpfbcippijoaaGreatDoorQcAB
import Derived.Test.YtijpfbcippijoaaGreatDoorRpL
namespace Go.Proofs.YtijpfbcippijoaaGreatDoor
open Go.RowKit Go.Lib
set_option maxRecDepth 100000
theorem conv_runesT {s : ByteArray} {rs : List Int} (h : IsText s rs) (hl : rs.length ≤ 70368744177664) (w : World) : ∃ cap W',
    (convert 9 74 (.string s)).run Tryz.prog w = .ok (.slice (some ⟨w.heap.size, 0, none⟩) rs.length cap) W' ∧ Rw rune1 1 W' (some ⟨w.heap.size, 0, none⟩) rs.length cap rs ∧ Below w.heap.size w W' ∧ ∃ arr, W'.heap[w.heap.size]? = some (.cells arr 21) := by
  have hsz : ((runesV rs).toArray).size = rs.length := by simp [runesV]
  have := run_runes_of_string (P := Tryz.prog) w 9 74 21 s Tryz.underlying9 Tryz.underlying74 Tryz.underlying21 (by rw [runesFrom_all h, hsz]; exact hl)
  rw [runesFrom_all h, hsz] at this
  refine ⟨_, _, this, ⟨rfl, ⟨grownCap_ge _ _ _ _, grownCap_le_maxLen _ _ _ _ (by unfold maxLen; omega)⟩, fun _ => ⟨w.heap.size, 0, rfl, by simp, fun j x hx i v hv => ?_⟩⟩, ((Below.refl _ _).drew).alloc (Nat.le_refl _) _, _, heap_alloc_new w.drew _⟩
  obtain ⟨hj, rfl⟩ := List.getElem?_eq_some_iff.1 hx
  obtain ⟨rfl, rfl⟩ : i = 0 ∧ v = .int .i32 rs[j] := by
    cases i with
    | zero => simp [rune1] at hv; exact ⟨rfl, hv.symm⟩
    | succ i => simp [rune1] at hv
  rw [show 0 + j * 1 + 0 = j by omega]
  refine (World.cell?_alloc_mark w.drew _ _ _ j).trans ?_
  rw [Array.getElem?_append_left (by simpa [runesV] using hj)]
  simp [runesV, List.getElem?_eq_getElem hj]
theorem OwnF.notAt {α : Type} {f : α → List Value} {k : Nat} {T U : TypeId} {w : World} {B b : Nat} {v : Value} {l : List α} {arr : Array Value} (h : OwnF f k T w B v l) (hb : w.heap[b]? = some (.cells arr U)) (hne : T ≠ U) : v.ownBlock ≠ some b := by
  intro e
  rcases h.2 with ⟨rfl, _⟩ | ⟨g1, c1, cur1, rfl, _, hh, _⟩
  · simp [Value.ownBlock] at e
  · simp only [Value.ownBlock, Option.some.injEq] at e
    subst e
    rw [hb] at hh
    injection hh with e
    injection e with _ e2
    exact hne e2.symm
theorem Rw.stands {α : Type} {f : α → List Value} {k : Nat} {w w' : World} {b off n cap : Nat} {l : List α} (h : Rw f k w (some ⟨b, off, none⟩) n cap l) {o : Obj} (h1 : w.heap[b]? = some o) (h2 : w'.heap[b]? = some o) : Rw f k w' (some ⟨b, off, none⟩) n cap l :=
  ⟨h.len, h.room, fun hn => by
    obtain ⟨g, off', e, _, hc⟩ := h.cells hn
    obtain ⟨rfl, rfl⟩ : b = g ∧ off = off' := by simpa using e
    refine ⟨b, off, rfl, (Array.getElem?_eq_some_iff.1 h2).1, fun j x hj i v hv => ?_⟩
    have := hc j x hj i v hv
    simp only [World.cell?, h1, h2] at this ⊢
    exact this⟩
end Go.Proofs.YtijpfbcippijoaaGreatDoor

namespace Go.Proofs.YtijpfbcippijoaaGreatDoor
open Go.RowKit Go.Lib
set_option maxRecDepth 100000
theorem wr9 {W : World} {b : Nat} {T : TypeId} {v0 v1 v2 v3 v4 v5 v6 v7 v8 : Value} (h : W.heap[b]? = some (.cells #[v0, v1, v2, v3, v4, v5, v6, v7, v8] T)) :
    W.frozen? ⟨b, 0, none⟩ = false ∧ W.frozen? ⟨b, 1, none⟩ = false ∧ W.frozen? ⟨b, 2, none⟩ = false ∧ W.frozen? ⟨b, 3, none⟩ = false ∧ W.frozen? ⟨b, 4, none⟩ = false ∧ W.frozen? ⟨b, 5, none⟩ = false ∧ W.frozen? ⟨b, 6, none⟩ = false ∧ W.frozen? ⟨b, 7, none⟩ = false ∧ W.frozen? ⟨b, 8, none⟩ = false :=
  ⟨Lib.frozen_of_heap h 0, Lib.frozen_of_heap h 1, Lib.frozen_of_heap h 2, Lib.frozen_of_heap h 3, Lib.frozen_of_heap h 4, Lib.frozen_of_heap h 5, Lib.frozen_of_heap h 6, Lib.frozen_of_heap h 7, Lib.frozen_of_heap h 8⟩
def But (b : Nat) (w w' : World) : Prop := w'.heap.size = w.heap.size ∧ ∀ k, k ≠ b → w'.heap[k]? = w.heap[k]?
theorem But.refl (b : Nat) (w : World) : But b w w := ⟨rfl, fun _ _ => rfl⟩
theorem But.trans {b : Nat} {w w' w'' : World} (h : But b w w') (h' : But b w' w'') : But b w w'' := ⟨h'.1.trans h.1, fun k hk => (h'.2 k hk).trans (h.2 k hk)⟩
theorem But.set (b i : Nat) (w : World) (u : Value) : But b w (w.setCell ⟨b, i, none⟩ u) := ⟨by simp [World.setCell], fun k hk => Below.heap_setCell _ _ _ _ (by simp only; omega)⟩
theorem But.own {b : Nat} {w w' : World} (h : But b w w') {α : Type} {f : α → List Value} {k : Nat} {T : TypeId} {B : Nat} {v : Value} {l : List α} (ho : OwnF f k T w B v l) (hb : b < B) : OwnF f k T w' B v l := by
  refine ⟨ho.1, ?_⟩
  rcases ho.2 with h0 | ⟨g, cap, cur, e, h1, hh, rest⟩
  · exact .inl h0
  · exact .inr ⟨g, cap, cur, e, h1, (h.2 g (by omega)).trans hh, rest⟩
theorem But.block {b : Nat} {w w' : World} (h : But b w w') {k : Nat} {o : Obj} (hk : w.heap[k]? = some o) (hb : k ≠ b) : w'.heap[k]? = some o := (h.2 k hb).trans hk
theorem store9 {W : World} {b n : Nat} {w0 : World} {T : TypeId} {u0 u1 u2 u3 u4 u5 u6 u7 u8 : Value} (h : W.heap[b]? = some (.cells #[u0, u1, u2, u3, u4, u5, u6, u7, u8] T)) (hB : Below n w0 W) (hn : n ≤ b) (v0 v1 v2 v3 v4 v5 v6 v7 v8 : Value) :
    ∃ W9, (((((((((W.setCell ⟨b, 0, none⟩ v0).setCell ⟨b, 1, none⟩ v1).setCell ⟨b, 2, none⟩ v2).setCell ⟨b, 3, none⟩ v3).setCell ⟨b, 4, none⟩ v4).setCell ⟨b, 5, none⟩ v5).setCell ⟨b, 6, none⟩ v6).setCell ⟨b, 7, none⟩ v7).setCell ⟨b, 8, none⟩ v8) = W9 ∧
      W9.heap[b]? = some (.cells #[v0, v1, v2, v3, v4, v5, v6, v7, v8] T) ∧ Below n w0 W9 ∧ But b W W9 :=
  ⟨_, rfl, set9g h, by
    refine Below.setCell ?_ (by simp only; omega) _
    refine Below.setCell ?_ (by simp only; omega) _
    refine Below.setCell ?_ (by simp only; omega) _
    refine Below.setCell ?_ (by simp only; omega) _
    refine Below.setCell ?_ (by simp only; omega) _
    refine Below.setCell ?_ (by simp only; omega) _
    refine Below.setCell ?_ (by simp only; omega) _
    refine Below.setCell ?_ (by simp only; omega) _
    exact Below.setCell hB (by simp only; omega) _,
    ((((((((But.set _ _ _ _).trans (But.set _ _ _ _)).trans (But.set _ _ _ _)).trans (But.set _ _ _ _)).trans (But.set _ _ _ _)).trans (But.set _ _ _ _)).trans (But.set _ _ _ _)).trans (But.set _ _ _ _)).trans (But.set _ _ _ _)⟩
theorem rw_lit2 {α : Type} {f : α → List Value} {k : Nat} (hf : Lay f k) (w : World) (x y : α) (cs : Array Value) (hcs : f x ++ f y = cs.toList) (t : TypeId) : Rw f k (w.alloc (.cells cs t)) (some ⟨w.heap.size, 0, none⟩) 2 2 [x, y] := by
  refine ⟨rfl, ⟨Nat.le_refl _, by simp [maxLen]⟩, fun _ => ⟨w.heap.size, 0, rfl, by simp, fun j z hj i v hv => ?_⟩⟩
  have hh := heap_alloc_new w (.cells cs t)
  have hlx := hf.len x
  simp only [World.cell?, hh]
  match j, hj with
  | 0, hj =>
    simp at hj; subst hj
    have hi := (List.getElem?_eq_some_iff.1 hv).1
    have : cs.toList[i]? = some v := by rw [← hcs, List.getElem?_append_left hi]; exact hv
    simpa using this
  | 1, hj =>
    simp at hj; subst hj
    have : cs.toList[k + i]? = some v := by rw [← hcs, List.getElem?_append_right (by omega), hlx, Nat.add_sub_cancel_left]; exact hv
    simpa using this
theorem elemG4 : Tryz.prog.elem 42 = 76 := by kernel_rfl
set_option maxHeartbeats 4000000 in
theorem copied4S_any {o : OpV} {w : World} {a : Option Addr} {m cap : Nat} (h : Sp.Rng w a m cap o.l) (hm : m * 16 ≤ 140737488351232) :
    Calls Tryz.prog 10 #[opVal o (.slice a m cap)] w fun e w' => ∃ a' cap', e = .returned (opVal o (.slice a' m cap')) ∧ Rw rngV 2 w' a' (m + 2) cap' (o.l ++ [(-7, -8), (-9, -9)]) ∧ Below w.heap.size w w' := by
  obtain ⟨c, n, k, p, s, l, tc, tn, on⟩ := o
  simp only [opVal] at *
  have hl := rw_of_rng h
  have HLL : Hid (l.length = m) := hl.len
  clear h
  go_enter Tryz.func10, Tryz.ntmps10
  go_wp2_with fail
  generalize hW0 : (w.alloc (Obj.cells #[.int .i64 c, .int .i64 n, .int .i64 k, .int .i64 p, .string s, .slice a m cap, .int .i64 tc, .int .i64 tn, .bool on] 44)).alloc (Obj.cells #[.int .i64 0, .int .i64 0, .int .i64 0, .int .i64 0, .string ⟨#[]⟩, .slice none 0 0, .int .i64 0, .int .i64 0, .bool false] 44) = W0
  have hX : W0.heap[w.heap.size]? = some (Obj.cells #[.int .i64 c, .int .i64 n, .int .i64 k, .int .i64 p, .string s, .slice a m cap, .int .i64 tc, .int .i64 tn, .bool on] 44) := by rw [← hW0]; exact (Below.heap_alloc _ _ _ (by simp)).trans (alloc_last _ _ _ rfl)
  have hZ : W0.heap[w.heap.size + 1]? = some (Obj.cells #[.int .i64 0, .int .i64 0, .int .i64 0, .int .i64 0, .string ⟨#[]⟩, .slice none 0 0, .int .i64 0, .int .i64 0, .bool false] 44) := by rw [← hW0]; exact alloc_last _ _ _ (by simp)
  have hB0 : Below w.heap.size w W0 := by rw [← hW0]; exact ((Below.refl w.heap.size w).alloc (Nat.le_refl _) _).alloc (by simp) _
  have hl0 := hl.below hB0
  have hlt : w.heap.size + 1 < W0.heap.size := (Array.getElem?_eq_some_iff.1 hZ).1
  clear hW0 hl
  go_loopw [3, 4] (fun v vi W => ∃ i : Nat, vi = .int .i64 (i : Int) ∧ i ≤ m ∧ OwnF rngV 2 76 W W0.heap.size v (l.take i) ∧ Below W0.heap.size W0 W) (fun _ vi _ => m - (RowKit.intOf vi).toNat)
  case atStart => exact ⟨0, rfl, Nat.zero_le _, by rw [List.take_zero]; exact ownF_nil _ _, Below.refl _ _⟩
  case round =>
    obtain ⟨i, rfl, him, ho, hB⟩ := hrel
    have hX1 := (hB.block _ (by omega)).trans hX
    obtain ⟨d0, d1, d2, d3, d4, d5, d6, d7, d8⟩ := box9 hX1
    have hli : (l.take i).length = i := by rw [List.length_take]; have := HLL.out; omega
    by_cases hi : i < m
    · obtain ⟨g, off, x, rfl, hg, hx, hc⟩ := hl0.at i hi
      have ht : l.take i ++ [x] = l.take (i + 1) := by
        obtain ⟨hj, rfl⟩ := List.getElem?_eq_some_iff.1 hx
        rw [List.take_succ_eq_append_getElem hj]
      have HT : Hid (l.take i ++ [x] = l.take (i + 1)) := ht
      clear ht
      obtain ⟨xlo, xhi⟩ := x
      have k0 : wr.cell? ⟨g, off + i * 2, none⟩ = some (.int .i64 xlo) := (hB.cell (p := ⟨g, off + i * 2 + 0, none⟩) hg).trans (hc 0 _ rfl)
      have k1 : wr.cell? ⟨g, off + i * 2 + 1, none⟩ = some (.int .i64 xhi) := (hB.cell (p := ⟨g, off + i * 2 + 1, none⟩) hg).trans (hc 1 _ rfl)
      have hBs := hB.size
      obtain ⟨av, cv, rfl⟩ := ho.shape
      obtain ⟨g5, cap5, w6, hr, ho6, hb6, _, _⟩ := appendF_one kindRo layRo ho hBs (xlo, xhi) #[.int .i64 xlo, .int .i64 xhi] rfl 76 (by rw [hli]; omega) (by rw [hli]; omega) 42
      rw [HT.out] at ho6
      rw [hli] at hr ho6
      rw [hli]
      clear hc hx ho
      go_wp2_with (at_builtin; refine wpList_append_hr rfl _ _ 42 rfl _ _ rfl rfl hr ?_)
      go_roundw
      case rel => exact ⟨i + 1, by go_num, by omega, ho6, hB.trans hb6⟩
      case measure => simp [RowKit.intOf]; omega
    · obtain rfl : i = m := by omega
      rw [show l.take i = l from List.take_of_length_le (by have := HLL.out; omega)] at ho
      have hBs := hB.size
      obtain ⟨av, cv, rfl⟩ := ho.shape
      have hlm := HLL.out
      rw [hlm] at ho
      rw [hlm]
      have hX2 := ((Below.refl wr.heap.size wr).alloc (Nat.le_refl _) (Obj.cells #[.int .i64 (-7), .int .i64 (-8), .int .i64 (-9), .int .i64 (-9)] 76))
      obtain ⟨g7, cap7, w7, hr7, ho7, hb7, hk7, hat7⟩ := appendF kindRo layRo (ho.below hX2) (by have := hX2.size; omega) (rw_lit2 layRo wr (-7, -8) (-9, -9) #[.int .i64 (-7), .int .i64 (-8), .int .i64 (-9), .int .i64 (-9)] rfl 76) (by omega) (by rw [hlm]; omega) (by rw [hlm]; omega) 42
      rw [hlm] at hr7 ho7
      have hro := (ho7.rw_ layRo)
      have hroom := hro.room
      have hrw : Rw rngV 2 w7 (some ⟨g7, 0, none⟩) (i + 2) cap7 (l ++ [(-7, -8), (-9, -9)]) := hro
      have hge : W0.heap.size ≤ g7 := ho7.ge rfl
      have hlt7 : g7 < w7.heap.size := ho7.lt rfl
      have hB7 : Below W0.heap.size W0 w7 := (hB.trans (hX2.mono hBs)).trans hb7
      have hct := fun W => cut_high kindRo elemG4 W (some ⟨g7, 0, none⟩) (i + 2) cap7 i (by omega)
      have hX7 := (hB7.block _ (by omega)).trans hX
      have hZ7 := (hB7.block _ (by omega)).trans hZ
      have hC7 : Below w.heap.size w w7 := hB0.trans (hB7.mono hB0.size)
      have HRW : Hid (Rw rngV 2 w7 (some ⟨g7, 0, none⟩) (i + 2) cap7 (l ++ [(-7, -8), (-9, -9)])) := hrw
      clear hrw hro ho7 ho hX1 hX hZ hB0 hl0 hk7 hat7 hb7
      obtain ⟨bk0, bk1, bk2, bk3, bk4, bk5, bk6, bk7, bk8⟩ := box9 hX7
      obtain ⟨bz0, bz1, bz2, bz3, bz4, bz5, bz6, bz7, bz8⟩ := wr9 hX7
      have hB2 := hC7.setCell (p := ⟨w.heap.size, 5, none⟩) (Nat.le_refl _) (.slice (some ⟨g7, 0, none⟩) i cap7)
      have hZ2 : (w7.setCell ⟨w.heap.size, 5, none⟩ (.slice (some ⟨g7, 0, none⟩) i cap7)).heap[w.heap.size + 1]? = some (Obj.cells #[.int .i64 0, .int .i64 0, .int .i64 0, .int .i64 0, .string ⟨#[]⟩, .slice none 0 0, .int .i64 0, .int .i64 0, .bool false] 44) := (Below.heap_setCell _ _ _ _ (by simp)).trans hZ7
      have hR2 : Rw rngV 2 (w7.setCell ⟨w.heap.size, 5, none⟩ (.slice (some ⟨g7, 0, none⟩) i cap7)) (some ⟨g7, 0, none⟩) (i + 2) cap7 (l ++ [(-7, -8), (-9, -9)]) := by
        obtain ⟨ob, hob⟩ : ∃ ob, w7.heap[g7]? = some ob := ⟨_, Array.getElem?_eq_getElem hlt7⟩
        exact HRW.out.stands hob ((Below.heap_setCell _ _ _ _ (by simp only; omega)).trans hob)
      obtain ⟨W9, e9, hx9, hB9, hK9⟩ := store9 hZ2 hB2 (by omega) (.int .i64 c) (.int .i64 n) (.int .i64 k) (.int .i64 p) (.string s) (.slice (some ⟨g7, 0, none⟩) i cap7) (.int .i64 tc) (.int .i64 tn) (.bool on)
      have HR9 : Hid (Rw rngV 2 W9 (some ⟨g7, 0, none⟩) (i + 2) cap7 (l ++ [(-7, -8), (-9, -9)])) := by
        obtain ⟨ob, hob⟩ : ∃ ob, (w7.setCell ⟨w.heap.size, 5, none⟩ (.slice (some ⟨g7, 0, none⟩) i cap7)).heap[g7]? = some ob := ⟨_, Array.getElem?_eq_getElem (by simpa [World.setCell] using hlt7)⟩
        exact hR2.stands hob ((hK9.2 g7 (by omega)).trans hob)
      obtain ⟨zz0, zz1, zz2, zz3, zz4, zz5, zz6, zz7, zz8⟩ := box9 hZ2
      obtain ⟨dz0, dz1, dz2, dz3, dz4, dz5, dz6, dz7, dz8⟩ := wr9 hZ2
      obtain ⟨d10, d11, d12, d13, d14, d15, d16, d17, d18⟩ := box9 hZ7
      obtain ⟨dy0, dy1, dy2, dy3, dy4, dy5, dy6, dy7, dy8⟩ := wr9 hZ7
      obtain ⟨r0, r1, r2, r3, r4, r5, r6, r7, r8⟩ := box9 hx9
      clear hR2 HRW hX7 hZ7 hZ2 hK9 hx9 hB2
      go_wp2_with (at_builtin; refine wpList_append_hr rfl _ _ 42 rfl _ _ rfl rfl hr7 ?_)
      try rw [e9]
      refine bodyPost_ret (v := .agg #[.int .i64 c, .int .i64 n, .int .i64 k, .int .i64 p, .string s, .slice (some ⟨g7, 0, none⟩) i cap7, .int .i64 tc, .int .i64 tn, .bool on]) (by simp [results, Tryz.results10, go_sem, r0, r1, r2, r3, r4, r5, r6, r7, r8]) rfl ⟨_, _, rfl, HR9.out, hB9⟩
theorem copied4_any {o : OpV} {w : World} {a : Option Addr} {m cap : Nat} (h : Sp.Rng w a m cap o.l) (hm : m * 16 ≤ 140737488351232) :
    Calls Tryz.prog 10 #[opVal o (.slice a m cap)] w fun e w' => ∃ a' cap', e = .returned (opVal o (.slice a' m cap')) ∧ Rw rngV 2 w' a' m cap' o.l ∧ Below w.heap.size w w' := by
  have hl := h.len
  refine (copied4S_any h hm).mono ?_
  rintro e w' ⟨a', cap', rfl, hr, hb⟩
  have := hr.take m (by omega)
  rw [List.take_left' hl] at this
  exact ⟨a', cap', rfl, this, hb⟩
end Go.Proofs.YtijpfbcippijoaaGreatDoor
