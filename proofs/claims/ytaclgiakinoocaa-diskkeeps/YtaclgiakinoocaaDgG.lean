import Derived.Test.YtaclgiakinoocaaDgF
/-! The reference's did: synced, cut, gone. -/
namespace Go.Proofs.Ytaclgiakinoocaa
open Go.RowKit Go.Lib
set_option maxRecDepth 100000

variable {w : World} {r c : Nat} {T : Dk} {Kk : Int} {a : Option Addr} {xs : List Rf}
theorem rw_take {W : World} {b : Option Addr} {n c N : Nat} {l : List UInt8} (h : Rw byU 1 W b n c l) (hN : N ≤ n) : Rw byU 1 W b N c (l.take N) := by
  have hl := h.len
  have hroom := h.room
  refine ⟨by rw [List.length_take]; omega, ⟨by omega, hroom.2⟩, fun h0 => ?_⟩
  obtain ⟨g, off, e, hg, hc⟩ := h.cells (by omega)
  refine ⟨g, off, e, hg, fun j x hj i v hv => hc j x ?_ i v hv⟩
  rw [List.getElem?_take] at hj
  split at hj
  · exact hj
  · cases hj
set_option maxHeartbeats 4000000 in
theorem rDid_sync (h : RefAt w r T Kk a c xs) (hn : xs.length ≤ 1073741823) (x : Rf) (hx : x ∈ xs) (hfa : fileA xs x.nm = rfA x)  :
    Calls Try.prog 96 #[.pointer (some ⟨r, 0, none⟩), .agg #[.int .i64 2, .string ⟨x.nm.toArray⟩, .slice none 0 0, .int .i64 0, .int .u8 0]] w fun e w' => e = .returned (.tuple #[]) ∧ RNx w w' r a xs { T with fs := (storeL ⟨x.nm, x.a, x.cap, x.bs, x.bs.length⟩ false xs).map Rf.fl } := by
  obtain ⟨W0, hW0⟩ : ∃ W0, w.alloc (.cells #[.int .i64 2, .string ⟨x.nm.toArray⟩, .slice none 0 0, .int .i64 0, .int .u8 0] 144) = W0 := ⟨_, rfl⟩
  have hs0 : W0.heap.size = w.heap.size + 1 := by rw [← hW0, World.size_alloc]
  have hb0 : Below w.heap.size w W0 := by rw [← hW0]; exact (Below.refl _ _).alloc (Nat.le_refl _) _
  have hq0 : W0.heap[w.heap.size]? = some (.cells #[.int .i64 2, .string ⟨x.nm.toArray⟩, .slice none 0 0, .int .i64 0, .int .u8 0] 144) := by rw [← hW0]; exact (MapKept.heap_alloc w _).1
  have hR := h.below hb0
  obtain ⟨d0, d1, d2, d3, d4⟩ := box5 hq0
  have HFI : Hid (Calls Try.prog 91 #[.pointer (some ⟨r, 0, none⟩), .string ⟨x.nm.toArray⟩] W0 fun e w' => e = .returned (.agg #[.string ⟨x.nm.toArray⟩, .bool true, .slice x.a x.bs.length x.cap, .int .i64 (x.syn : Int)]) ∧ Below W0.heap.size W0 w') := by have := rFile hR (by omega) x.nm; rwa [hfa] at this
  have HH : Hid (RefAt w r T Kk a c xs ∧ Below w.heap.size w W0 ∧ W0.heap[w.heap.size]? = some (.cells #[.int .i64 2, .string ⟨x.nm.toArray⟩, .slice none 0 0, .int .i64 0, .int .u8 0] 144) ∧ xs.length ≤ 1073741823 ∧ W0.heap.size = w.heap.size + 1) := ⟨h, hb0, hq0, hn, hs0⟩
  have HX : Hid (x ∈ xs ∧ Rw byU 1 w x.a x.bs.length x.cap x.bs ∧ x.syn ≤ x.bs.length) := ⟨hx, h.bys x hx, h.syn x hx⟩
  clear h hb0 hq0 hs0 hR hfa hn hx 
  go_enter Try.func96, Try.ntmps96
  go_wp2_with fail
  refine (HFI.out).mono ?_
  rintro e w1 ⟨rfl, hb1⟩
  obtain ⟨V5, hV5⟩ : ∃ V5, w1.alloc (.cells #[.string ⟨#[]⟩, .bool false, .slice none 0 0, .int .i64 0] 134) = V5 := ⟨_, rfl⟩
  have hV5b : Below w1.heap.size w1 V5 := by rw [← hV5]; exact (Below.refl _ _).alloc (Nat.le_refl _) _
  have hV5h : V5.heap[w1.heap.size]? = some (.cells #[.string ⟨#[]⟩, .bool false, .slice none 0 0, .int .i64 0] 134) := by rw [← hV5]; exact (MapKept.heap_alloc w1 _).1
  obtain ⟨V6, hV6, hh9, hC9⟩ := set4 hV5h (.string ⟨x.nm.toArray⟩) (.bool true) (.slice x.a x.bs.length x.cap) (.int .i64 (x.syn : Int))
  obtain ⟨y0, y1, y2, y3⟩ := box4 hV5h
  have k0 := Lib.frozen_of_heap hV5h 0
  have k1 := Lib.frozen_of_heap hV5h 1
  have k2 := Lib.frozen_of_heap hV5h 2
  have k3 := Lib.frozen_of_heap hV5h 3
  obtain ⟨t0, t1, t2, t3⟩ := box4 hh9
  have hb6 : Below W0.heap.size W0 V6 := (hb1.trans (hV5b.mono hb1.size)).trans (hC9.below (fun g e => by have := hb1.size; omega) (by have := hb1.size; have := hV5b.size; omega))
  have hd6 : V6.heap[w.heap.size]? = some (.cells #[.int .i64 2, .string ⟨x.nm.toArray⟩, .slice none 0 0, .int .i64 0, .int .u8 0] 144) := (hb6.block _ (by have := HH.out.2.2.2.2; omega)).trans HH.out.2.2.1
  have H6 : Hid (V6.heap[w1.heap.size]? = some (.cells #[.string ⟨x.nm.toArray⟩, .bool true, .slice x.a x.bs.length x.cap, .int .i64 (x.syn : Int)] 134) ∧ V6.heap[w.heap.size]? = some (.cells #[.int .i64 2, .string ⟨x.nm.toArray⟩, .slice none 0 0, .int .i64 0, .int .u8 0] 144) ∧ Below W0.heap.size W0 V6 ∧ W0.heap.size ≤ w1.heap.size ∧ w1.heap.size < V6.heap.size) := ⟨hh9, hd6, hb6, hb1.size, (Array.getElem?_eq_some_iff.1 hh9).1⟩
  obtain ⟨e0, e1, e2, e3, e4⟩ := box5 hd6
  have j0 := Lib.frozen_of_heap hh9 0
  have j1 := Lib.frozen_of_heap hh9 1
  have j2 := Lib.frozen_of_heap hh9 2
  have j3 := Lib.frozen_of_heap hh9 3
  clear hb1 hV5b hV5h hC9 hh9 hb6 hd6
  obtain ⟨V8, hV8, hf8, hC8⟩ : ∃ V8, V6.setCell ⟨w1.heap.size, 3, none⟩ (.int .i64 (x.bs.length : Int)) = V8 ∧ V8.heap[w1.heap.size]? = some (.cells #[.string ⟨x.nm.toArray⟩, .bool true, .slice x.a x.bs.length x.cap, .int .i64 (x.bs.length : Int)] 134) ∧ Chg (fun g => g = w1.heap.size) V6 V8 := by
    have e0 := heap_setCell_cells H6.out.1 3 (.int .i64 (x.bs.length : Int))
    have hs : ∀ (i : Nat) (W : World) (u : Value), Chg (fun g => g = w1.heap.size) W (W.setCell ⟨w1.heap.size, i, none⟩ u) := fun i W u => Chg.set (D := fun g => g = w1.heap.size) (q := w1.heap.size) i W u rfl
    exact ⟨_, rfl, e0, hs 3 _ _⟩
  obtain ⟨h0, h1, h2, h3⟩ := box4 hf8
  have hbw8 : Below w.heap.size w V8 := HH.out.2.1.trans ((H6.out.2.2.1.trans (hC8.below (fun g e => by have := H6.out.2.2.2.1; omega) H6.out.2.2.1.size)).mono HH.out.2.1.size)
  have HST : Hid (Calls Try.prog 92 #[.pointer (some ⟨r, 0, none⟩), .agg #[.string ⟨x.nm.toArray⟩, .bool true, .slice x.a x.bs.length x.cap, .int .i64 (x.bs.length : Int)]] V8 fun e w' => e = .returned (.tuple #[]) ∧ StoreP V8 w' r T Kk (storeL ⟨x.nm, x.a, x.cap, x.bs, x.bs.length⟩ (!true) xs)) := by
    exact rStore (HH.out.1.below hbw8) (by have := HH.out.2.2.2.1; omega) ⟨x.nm, x.a, x.cap, x.bs, x.bs.length⟩ true (fun _ => ⟨HX.out.2.1.below hbw8, Nat.le_refl _, fun q e => ⟨HH.out.1.rx x HX.out.1 q e, by have := HH.out.1.lt _ (.inr (.inr ⟨x, HX.out.1, q, e, rfl⟩)); have := hbw8.size; omega⟩⟩)
  have HEND : Hid (∀ w', StoreP V8 w' r T Kk (storeL ⟨x.nm, x.a, x.cap, x.bs, x.bs.length⟩ (!true) xs) → RNx w w' r a xs { T with fs := (storeL ⟨x.nm, x.a, x.cap, x.bs, x.bs.length⟩ false xs).map Rf.fl }) := fun w' hS => StoreP.nx HH.out.1 hbw8 hS (fun _ q e => .inr (.inr (.inr ⟨x, HX.out.1, q, e, rfl⟩)))
  clear hf8 hC8 hbw8
  go_wp2_with fail
  refine HST.out.mono ?_
  rintro e w9 ⟨rfl, hSP⟩
  have HFN : Hid (RNx w w9 r a xs { T with fs := (storeL ⟨x.nm, x.a, x.cap, x.bs, x.bs.length⟩ false xs).map Rf.fl }) := HEND.out w9 hSP
  clear hSP
  go_wp2_with fail
  go_end0
  exact ⟨rfl, HFN.out⟩
set_option maxHeartbeats 4000000 in
theorem rDid_cut (h : RefAt w r T Kk a c xs) (hn : xs.length ≤ 1073741823) (x : Rf) (hx : x ∈ xs) (hfa : fileA xs x.nm = rfA x) (N : Nat) (hN : N ≤ x.bs.length) :
    Calls Try.prog 96 #[.pointer (some ⟨r, 0, none⟩), .agg #[.int .i64 3, .string ⟨x.nm.toArray⟩, .slice none 0 0, .int .i64 (N : Int), .int .u8 0]] w fun e w' => e = .returned (.tuple #[]) ∧ RNx w w' r a xs { T with fs := (storeL ⟨x.nm, x.a, x.cap, x.bs.take N, min x.syn N⟩ false xs).map Rf.fl } := by
  obtain ⟨W0, hW0⟩ : ∃ W0, w.alloc (.cells #[.int .i64 3, .string ⟨x.nm.toArray⟩, .slice none 0 0, .int .i64 (N : Int), .int .u8 0] 144) = W0 := ⟨_, rfl⟩
  have hs0 : W0.heap.size = w.heap.size + 1 := by rw [← hW0, World.size_alloc]
  have hb0 : Below w.heap.size w W0 := by rw [← hW0]; exact (Below.refl _ _).alloc (Nat.le_refl _) _
  have hq0 : W0.heap[w.heap.size]? = some (.cells #[.int .i64 3, .string ⟨x.nm.toArray⟩, .slice none 0 0, .int .i64 (N : Int), .int .u8 0] 144) := by rw [← hW0]; exact (MapKept.heap_alloc w _).1
  have hR := h.below hb0
  obtain ⟨d0, d1, d2, d3, d4⟩ := box5 hq0
  have HFI : Hid (Calls Try.prog 91 #[.pointer (some ⟨r, 0, none⟩), .string ⟨x.nm.toArray⟩] W0 fun e w' => e = .returned (.agg #[.string ⟨x.nm.toArray⟩, .bool true, .slice x.a x.bs.length x.cap, .int .i64 (x.syn : Int)]) ∧ Below W0.heap.size W0 w') := by have := rFile hR (by omega) x.nm; rwa [hfa] at this
  have HH : Hid (RefAt w r T Kk a c xs ∧ Below w.heap.size w W0 ∧ W0.heap[w.heap.size]? = some (.cells #[.int .i64 3, .string ⟨x.nm.toArray⟩, .slice none 0 0, .int .i64 (N : Int), .int .u8 0] 144) ∧ xs.length ≤ 1073741823 ∧ W0.heap.size = w.heap.size + 1) := ⟨h, hb0, hq0, hn, hs0⟩
  have HX : Hid (x ∈ xs ∧ Rw byU 1 w x.a x.bs.length x.cap x.bs ∧ x.syn ≤ x.bs.length) := ⟨hx, h.bys x hx, h.syn x hx⟩
  have hcut : ∀ W, (Instr.slice 22 (.slice x.a x.bs.length x.cap) none (some (.int .i64 (N : Int))) none).run Try.prog W = .ok (.slice x.a N x.cap) W := fun W => cutU W x.a _ x.cap N (by have := (h.bys x hx).room; omega)
  have HM : ∀ ats ty W, (Builtin.min_ ats ty #[.int .i64 (x.syn : Int), .int .i64 (N : Int)]).run Try.prog W = .ok (.int .i64 ((min x.syn N : Nat) : Int)) W := fun ats ty W => by
    rw [min_run]; congr 2; omega
  have HNN : Hid (N ≤ x.bs.length ∧ (x.bs.take N).length = N) := ⟨hN, by rw [List.length_take]; omega⟩
  clear h hb0 hq0 hs0 hR hfa hn hx hN
  go_enter Try.func96, Try.ntmps96
  go_wp2_with fail
  refine (HFI.out).mono ?_
  rintro e w1 ⟨rfl, hb1⟩
  obtain ⟨V5, hV5⟩ : ∃ V5, w1.alloc (.cells #[.string ⟨#[]⟩, .bool false, .slice none 0 0, .int .i64 0] 134) = V5 := ⟨_, rfl⟩
  have hV5b : Below w1.heap.size w1 V5 := by rw [← hV5]; exact (Below.refl _ _).alloc (Nat.le_refl _) _
  have hV5h : V5.heap[w1.heap.size]? = some (.cells #[.string ⟨#[]⟩, .bool false, .slice none 0 0, .int .i64 0] 134) := by rw [← hV5]; exact (MapKept.heap_alloc w1 _).1
  obtain ⟨V6, hV6, hh9, hC9⟩ := set4 hV5h (.string ⟨x.nm.toArray⟩) (.bool true) (.slice x.a x.bs.length x.cap) (.int .i64 (x.syn : Int))
  obtain ⟨y0, y1, y2, y3⟩ := box4 hV5h
  have k0 := Lib.frozen_of_heap hV5h 0
  have k1 := Lib.frozen_of_heap hV5h 1
  have k2 := Lib.frozen_of_heap hV5h 2
  have k3 := Lib.frozen_of_heap hV5h 3
  obtain ⟨t0, t1, t2, t3⟩ := box4 hh9
  have hb6 : Below W0.heap.size W0 V6 := (hb1.trans (hV5b.mono hb1.size)).trans (hC9.below (fun g e => by have := hb1.size; omega) (by have := hb1.size; have := hV5b.size; omega))
  have hd6 : V6.heap[w.heap.size]? = some (.cells #[.int .i64 3, .string ⟨x.nm.toArray⟩, .slice none 0 0, .int .i64 (N : Int), .int .u8 0] 144) := (hb6.block _ (by have := HH.out.2.2.2.2; omega)).trans HH.out.2.2.1
  have H6 : Hid (V6.heap[w1.heap.size]? = some (.cells #[.string ⟨x.nm.toArray⟩, .bool true, .slice x.a x.bs.length x.cap, .int .i64 (x.syn : Int)] 134) ∧ V6.heap[w.heap.size]? = some (.cells #[.int .i64 3, .string ⟨x.nm.toArray⟩, .slice none 0 0, .int .i64 (N : Int), .int .u8 0] 144) ∧ Below W0.heap.size W0 V6 ∧ W0.heap.size ≤ w1.heap.size ∧ w1.heap.size < V6.heap.size) := ⟨hh9, hd6, hb6, hb1.size, (Array.getElem?_eq_some_iff.1 hh9).1⟩
  obtain ⟨e0, e1, e2, e3, e4⟩ := box5 hd6
  have j0 := Lib.frozen_of_heap hh9 0
  have j1 := Lib.frozen_of_heap hh9 1
  have j2 := Lib.frozen_of_heap hh9 2
  have j3 := Lib.frozen_of_heap hh9 3
  clear hb1 hV5b hV5h hC9 hh9 hb6 hd6
  obtain ⟨V8, hV8, hf8, hC8⟩ : ∃ V8, (V6.setCell ⟨w1.heap.size, 2, none⟩ (.slice x.a N x.cap)).setCell ⟨w1.heap.size, 3, none⟩ (.int .i64 ((min x.syn N : Nat) : Int)) = V8 ∧ V8.heap[w1.heap.size]? = some (.cells #[.string ⟨x.nm.toArray⟩, .bool true, .slice x.a N x.cap, .int .i64 ((min x.syn N : Nat) : Int)] 134) ∧ Chg (fun g => g = w1.heap.size) V6 V8 := by
    have e0 := heap_setCell_cells H6.out.1 2 (.slice x.a N x.cap)
    have e1 := heap_setCell_cells e0 3 (.int .i64 ((min x.syn N : Nat) : Int))
    have hs : ∀ (i : Nat) (W : World) (u : Value), Chg (fun g => g = w1.heap.size) W (W.setCell ⟨w1.heap.size, i, none⟩ u) := fun i W u => Chg.set (D := fun g => g = w1.heap.size) (q := w1.heap.size) i W u rfl
    exact ⟨_, rfl, e1, (hs 2 _ _).trans (hs 3 _ _)⟩
  obtain ⟨h0, h1, h2, h3⟩ := box4 hf8
  have hbw8 : Below w.heap.size w V8 := HH.out.2.1.trans ((H6.out.2.2.1.trans (hC8.below (fun g e => by have := H6.out.2.2.2.1; omega) H6.out.2.2.1.size)).mono HH.out.2.1.size)
  have HST : Hid (Calls Try.prog 92 #[.pointer (some ⟨r, 0, none⟩), .agg #[.string ⟨x.nm.toArray⟩, .bool true, .slice x.a N x.cap, .int .i64 ((min x.syn N : Nat) : Int)]] V8 fun e w' => e = .returned (.tuple #[]) ∧ StoreP V8 w' r T Kk (storeL ⟨x.nm, x.a, x.cap, x.bs.take N, min x.syn N⟩ (!true) xs)) := by
    have hc := rStore (HH.out.1.below hbw8) (by have := HH.out.2.2.2.1; omega) ⟨x.nm, x.a, x.cap, x.bs.take N, min x.syn N⟩ true (fun _ => ⟨by simp only [HNN.out.2]; exact rw_take (HX.out.2.1.below hbw8) HNN.out.1, by simp only [HNN.out.2]; omega, fun q e => ⟨HH.out.1.rx x HX.out.1 q e, by have := HH.out.1.lt _ (.inr (.inr ⟨x, HX.out.1, q, e, rfl⟩)); have := hbw8.size; omega⟩⟩)
    simp only [HNN.out.2] at hc
    exact hc
  have HEND : Hid (∀ w', StoreP V8 w' r T Kk (storeL ⟨x.nm, x.a, x.cap, x.bs.take N, min x.syn N⟩ (!true) xs) → RNx w w' r a xs { T with fs := (storeL ⟨x.nm, x.a, x.cap, x.bs.take N, min x.syn N⟩ false xs).map Rf.fl }) := fun w' hS => StoreP.nx HH.out.1 hbw8 hS (fun _ q e => .inr (.inr (.inr ⟨x, HX.out.1, q, e, rfl⟩)))
  clear hf8 hC8 hbw8
  go_wp2_with fail
  refine HST.out.mono ?_
  rintro e w9 ⟨rfl, hSP⟩
  have HFN : Hid (RNx w w9 r a xs { T with fs := (storeL ⟨x.nm, x.a, x.cap, x.bs.take N, min x.syn N⟩ false xs).map Rf.fl }) := HEND.out w9 hSP
  clear hSP
  go_wp2_with fail
  go_end0
  exact ⟨rfl, HFN.out⟩
set_option maxHeartbeats 4000000 in
theorem rDid_gone (h : RefAt w r T Kk a c xs) (hn : xs.length ≤ 1073741823) (x : Rf) (hx : x ∈ xs) (hfa : fileA xs x.nm = rfA x)  :
    Calls Try.prog 96 #[.pointer (some ⟨r, 0, none⟩), .agg #[.int .i64 4, .string ⟨x.nm.toArray⟩, .slice none 0 0, .int .i64 0, .int .u8 0]] w fun e w' => e = .returned (.tuple #[]) ∧ RNx w w' r a xs { T with fs := (storeL x true xs).map Rf.fl } := by
  obtain ⟨W0, hW0⟩ : ∃ W0, w.alloc (.cells #[.int .i64 4, .string ⟨x.nm.toArray⟩, .slice none 0 0, .int .i64 0, .int .u8 0] 144) = W0 := ⟨_, rfl⟩
  have hs0 : W0.heap.size = w.heap.size + 1 := by rw [← hW0, World.size_alloc]
  have hb0 : Below w.heap.size w W0 := by rw [← hW0]; exact (Below.refl _ _).alloc (Nat.le_refl _) _
  have hq0 : W0.heap[w.heap.size]? = some (.cells #[.int .i64 4, .string ⟨x.nm.toArray⟩, .slice none 0 0, .int .i64 0, .int .u8 0] 144) := by rw [← hW0]; exact (MapKept.heap_alloc w _).1
  have hR := h.below hb0
  obtain ⟨d0, d1, d2, d3, d4⟩ := box5 hq0
  have HFI : Hid (Calls Try.prog 91 #[.pointer (some ⟨r, 0, none⟩), .string ⟨x.nm.toArray⟩] W0 fun e w' => e = .returned (.agg #[.string ⟨x.nm.toArray⟩, .bool true, .slice x.a x.bs.length x.cap, .int .i64 (x.syn : Int)]) ∧ Below W0.heap.size W0 w') := by have := rFile hR (by omega) x.nm; rwa [hfa] at this
  have HH : Hid (RefAt w r T Kk a c xs ∧ Below w.heap.size w W0 ∧ W0.heap[w.heap.size]? = some (.cells #[.int .i64 4, .string ⟨x.nm.toArray⟩, .slice none 0 0, .int .i64 0, .int .u8 0] 144) ∧ xs.length ≤ 1073741823 ∧ W0.heap.size = w.heap.size + 1) := ⟨h, hb0, hq0, hn, hs0⟩
  have HX : Hid (x ∈ xs ∧ Rw byU 1 w x.a x.bs.length x.cap x.bs ∧ x.syn ≤ x.bs.length) := ⟨hx, h.bys x hx, h.syn x hx⟩
  clear h hb0 hq0 hs0 hR hfa hn hx 
  go_enter Try.func96, Try.ntmps96
  go_wp2_with fail
  refine (HFI.out).mono ?_
  rintro e w1 ⟨rfl, hb1⟩
  obtain ⟨V5, hV5⟩ : ∃ V5, w1.alloc (.cells #[.string ⟨#[]⟩, .bool false, .slice none 0 0, .int .i64 0] 134) = V5 := ⟨_, rfl⟩
  have hV5b : Below w1.heap.size w1 V5 := by rw [← hV5]; exact (Below.refl _ _).alloc (Nat.le_refl _) _
  have hV5h : V5.heap[w1.heap.size]? = some (.cells #[.string ⟨#[]⟩, .bool false, .slice none 0 0, .int .i64 0] 134) := by rw [← hV5]; exact (MapKept.heap_alloc w1 _).1
  obtain ⟨V6, hV6, hh9, hC9⟩ := set4 hV5h (.string ⟨x.nm.toArray⟩) (.bool true) (.slice x.a x.bs.length x.cap) (.int .i64 (x.syn : Int))
  obtain ⟨y0, y1, y2, y3⟩ := box4 hV5h
  have k0 := Lib.frozen_of_heap hV5h 0
  have k1 := Lib.frozen_of_heap hV5h 1
  have k2 := Lib.frozen_of_heap hV5h 2
  have k3 := Lib.frozen_of_heap hV5h 3
  obtain ⟨t0, t1, t2, t3⟩ := box4 hh9
  have hb6 : Below W0.heap.size W0 V6 := (hb1.trans (hV5b.mono hb1.size)).trans (hC9.below (fun g e => by have := hb1.size; omega) (by have := hb1.size; have := hV5b.size; omega))
  have hd6 : V6.heap[w.heap.size]? = some (.cells #[.int .i64 4, .string ⟨x.nm.toArray⟩, .slice none 0 0, .int .i64 0, .int .u8 0] 144) := (hb6.block _ (by have := HH.out.2.2.2.2; omega)).trans HH.out.2.2.1
  have H6 : Hid (V6.heap[w1.heap.size]? = some (.cells #[.string ⟨x.nm.toArray⟩, .bool true, .slice x.a x.bs.length x.cap, .int .i64 (x.syn : Int)] 134) ∧ V6.heap[w.heap.size]? = some (.cells #[.int .i64 4, .string ⟨x.nm.toArray⟩, .slice none 0 0, .int .i64 0, .int .u8 0] 144) ∧ Below W0.heap.size W0 V6 ∧ W0.heap.size ≤ w1.heap.size ∧ w1.heap.size < V6.heap.size) := ⟨hh9, hd6, hb6, hb1.size, (Array.getElem?_eq_some_iff.1 hh9).1⟩
  obtain ⟨e0, e1, e2, e3, e4⟩ := box5 hd6
  have j0 := Lib.frozen_of_heap hh9 0
  have j1 := Lib.frozen_of_heap hh9 1
  have j2 := Lib.frozen_of_heap hh9 2
  have j3 := Lib.frozen_of_heap hh9 3
  clear hb1 hV5b hV5h hC9 hh9 hb6 hd6
  obtain ⟨V8, hV8, hf8, hC8⟩ : ∃ V8, V6.setCell ⟨w1.heap.size, 1, none⟩ (.bool false) = V8 ∧ V8.heap[w1.heap.size]? = some (.cells #[.string ⟨x.nm.toArray⟩, .bool false, .slice x.a x.bs.length x.cap, .int .i64 (x.syn : Int)] 134) ∧ Chg (fun g => g = w1.heap.size) V6 V8 := by
    have e0 := heap_setCell_cells H6.out.1 1 (.bool false)
    have hs : ∀ (i : Nat) (W : World) (u : Value), Chg (fun g => g = w1.heap.size) W (W.setCell ⟨w1.heap.size, i, none⟩ u) := fun i W u => Chg.set (D := fun g => g = w1.heap.size) (q := w1.heap.size) i W u rfl
    exact ⟨_, rfl, e0, hs 1 _ _⟩
  obtain ⟨h0, h1, h2, h3⟩ := box4 hf8
  have hbw8 : Below w.heap.size w V8 := HH.out.2.1.trans ((H6.out.2.2.1.trans (hC8.below (fun g e => by have := H6.out.2.2.2.1; omega) H6.out.2.2.1.size)).mono HH.out.2.1.size)
  have HST : Hid (Calls Try.prog 92 #[.pointer (some ⟨r, 0, none⟩), .agg #[.string ⟨x.nm.toArray⟩, .bool false, .slice x.a x.bs.length x.cap, .int .i64 (x.syn : Int)]] V8 fun e w' => e = .returned (.tuple #[]) ∧ StoreP V8 w' r T Kk (storeL x (!false) xs)) := by
    exact rStore (HH.out.1.below hbw8) (by have := HH.out.2.2.2.1; omega) x false (fun e => by cases e)
  have HEND : Hid (∀ w', StoreP V8 w' r T Kk (storeL x (!false) xs) → RNx w w' r a xs { T with fs := (storeL x true xs).map Rf.fl }) := fun w' hS => StoreP.nx HH.out.1 hbw8 hS (fun _ q e => .inr (.inr (.inr ⟨x, HX.out.1, q, e, rfl⟩)))
  clear hf8 hC8 hbw8
  go_wp2_with fail
  refine HST.out.mono ?_
  rintro e w9 ⟨rfl, hSP⟩
  have HFN : Hid (RNx w w9 r a xs { T with fs := (storeL x true xs).map Rf.fl }) := HEND.out w9 hSP
  clear hSP
  go_wp2_with fail
  go_end0
  exact ⟨rfl, HFN.out⟩
end Go.Proofs.Ytaclgiakinoocaa
