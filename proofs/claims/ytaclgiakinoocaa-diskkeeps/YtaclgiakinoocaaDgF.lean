import Derived.Test.YtaclgiakinoocaaDgE
/-! The reference's did: put. -/
namespace Go.Proofs.Ytaclgiakinoocaa
open Go.RowKit Go.Lib
set_option maxRecDepth 100000

variable {w : World} {r c : Nat} {T : Dk} {Kk : Int} {a : Option Addr} {xs : List Rf}
theorem StoreP.nx {W4 w9 : World} {f : Rf} {dn : Bool} (h : RefAt w r T Kk a c xs) (hb : Below w.heap.size w W4) (hS : StoreP W4 w9 r T Kk (storeL f dn xs)) (hf : dn = false → ∀ q, f.a = some q → w.heap.size ≤ q.block ∨ RB r a xs q.block) : RNx w w9 r a xs { T with fs := (storeL f dn xs).map Rf.fl } := by
  obtain ⟨a', c', h1, h2, h3⟩ := hS
  have hsz := hb.size
  refine ⟨Kk, a', c', _, h1, (Chg.of_below hb).trans h2, fun g hg => ?_⟩
  rcases hg with rfl | ⟨q, e, rfl⟩ | ⟨x, hx, q, e, rfl⟩
  · exact .inl (.inl rfl)
  · exact .inr (by have := h3 q e; omega)
  · rcases mem_storeL hx with hx | ⟨hd, rfl⟩
    · exact .inl (.inr (.inr ⟨x, hx, q, e, rfl⟩))
    · rcases hf hd q e with h | h
      · exact .inr h
      · exact .inl h
/-- The same with what the last cell holds. -/
def RNk (w w' : World) (r : Nat) (K : Int) (a : Option Addr) (xs : List Rf) (T' : Dk) : Prop := ∃ a' c' xs', RefAt w' r T' K a' c' xs' ∧ Chg (fun g => g = r) w w' ∧ ∀ g, RB r a' xs' g → RB r a xs g ∨ w.heap.size ≤ g
theorem RNk.x {w w' : World} {r : Nat} {K : Int} {a : Option Addr} {xs : List Rf} {T' : Dk} (h : RNk w w' r K a xs T') : RNx w w' r a xs T' := by
  obtain ⟨a', c', xs', h⟩ := h
  exact ⟨K, a', c', xs', h⟩
theorem StoreP.nk {W4 w9 : World} {f : Rf} {dn : Bool} (h : RefAt w r T Kk a c xs) (hb : Below w.heap.size w W4) (hS : StoreP W4 w9 r T Kk (storeL f dn xs)) (hf : dn = false → ∀ q, f.a = some q → w.heap.size ≤ q.block ∨ RB r a xs q.block) : RNk w w9 r Kk a xs { T with fs := (storeL f dn xs).map Rf.fl } := by
  obtain ⟨a', c', h1, h2, h3⟩ := hS
  have hsz := hb.size
  refine ⟨a', c', _, h1, (Chg.of_below hb).trans h2, fun g hg => ?_⟩
  rcases hg with rfl | ⟨q, e, rfl⟩ | ⟨x, hx, q, e, rfl⟩
  · exact .inl (.inl rfl)
  · exact .inr (by have := h3 q e; omega)
  · rcases mem_storeL hx with hx | ⟨hd, rfl⟩
    · exact .inl (.inr (.inr ⟨x, hx, q, e, rfl⟩))
    · rcases hf hd q e with h | h
      · exact .inr h
      · exact .inl h
/-- What did leaves where a file takes its place. -/
def DidP (w w' : World) (r : Nat) (K : Int) (a : Option Addr) (xs : List Rf) (T : Dk) (nm bs : List UInt8) (y : Nat) : Prop := ∃ f : Rf, f.nm = nm ∧ f.bs = bs ∧ f.syn = y ∧ RNk w w' r K a xs { T with fs := (storeL f false xs).map Rf.fl }
set_option maxHeartbeats 4000000 in
theorem rDid_put (h : RefAt w r T Kk a c xs) (hn : xs.length ≤ 1073741823) (nm : List UInt8) (th : Bool) (xa : Option Addr) (xn xc y : Nat) (hfa : fileA xs nm = .agg #[.string ⟨nm.toArray⟩, .bool th, .slice xa xn xc, .int .i64 (y : Int)]) (l0 : List UInt8) (hl0 : Rw byU 1 w xa xn xc l0) (b : Option Addr) (bn bc : Nat) (B : List UInt8) (hB : Rw byU 1 w b bn bc B) (hsum : xn + bn ≤ 1099511627776) (hy : y ≤ xn) :
    Calls Try.prog 96 #[.pointer (some ⟨r, 0, none⟩), .agg #[.int .i64 1, .string ⟨nm.toArray⟩, .slice b bn bc, .int .i64 0, .int .u8 0]] w fun e w' => e = .returned (.tuple #[]) ∧ DidP w w' r Kk a xs T nm (l0 ++ B) y := by
  obtain ⟨W0, hW0⟩ : ∃ W0, w.alloc (.cells #[.int .i64 1, .string ⟨nm.toArray⟩, .slice b bn bc, .int .i64 0, .int .u8 0] 144) = W0 := ⟨_, rfl⟩
  have hs0 : W0.heap.size = w.heap.size + 1 := by rw [← hW0, World.size_alloc]
  have hb0 : Below w.heap.size w W0 := by rw [← hW0]; exact (Below.refl _ _).alloc (Nat.le_refl _) _
  have hq0 : W0.heap[w.heap.size]? = some (.cells #[.int .i64 1, .string ⟨nm.toArray⟩, .slice b bn bc, .int .i64 0, .int .u8 0] 144) := by rw [← hW0]; exact (MapKept.heap_alloc w _).1
  have hR := h.below hb0
  obtain ⟨d0, d1, d2, d3, d4⟩ := box5 hq0
  have HFI : Hid (Calls Try.prog 91 #[.pointer (some ⟨r, 0, none⟩), .string ⟨nm.toArray⟩] W0 fun e w' => e = .returned (.agg #[.string ⟨nm.toArray⟩, .bool th, .slice xa xn xc, .int .i64 (y : Int)]) ∧ Below W0.heap.size W0 w') := by have := rFile hR (by omega) nm; rwa [hfa] at this
  have HH : Hid (RefAt w r T Kk a c xs ∧ Below w.heap.size w W0 ∧ W0.heap[w.heap.size]? = some (.cells #[.int .i64 1, .string ⟨nm.toArray⟩, .slice b bn bc, .int .i64 0, .int .u8 0] 144) ∧ xs.length ≤ 1073741823 ∧ W0.heap.size = w.heap.size + 1) := ⟨h, hb0, hq0, hn, hs0⟩
  have HSM : Hid (xn + bn ≤ 1099511627776 ∧ y ≤ xn ∧ l0.length = xn ∧ B.length = bn) := ⟨hsum, hy, hl0.len, hB.len⟩
  have HRW : Hid (Rw byU 1 w xa xn xc l0 ∧ Rw byU 1 w b bn bc B) := ⟨hl0, hB⟩
  clear h hb0 hq0 hs0 hR hfa hn hl0 hB hsum hy
  go_enter Try.func96, Try.ntmps96
  go_wp2_with fail
  refine (HFI.out).mono ?_
  rintro e w1 ⟨rfl, hb1⟩
  obtain ⟨V5, hV5⟩ : ∃ V5, w1.alloc (.cells #[.string ⟨#[]⟩, .bool false, .slice none 0 0, .int .i64 0] 134) = V5 := ⟨_, rfl⟩
  have hV5b : Below w1.heap.size w1 V5 := by rw [← hV5]; exact (Below.refl _ _).alloc (Nat.le_refl _) _
  have hV5h : V5.heap[w1.heap.size]? = some (.cells #[.string ⟨#[]⟩, .bool false, .slice none 0 0, .int .i64 0] 134) := by rw [← hV5]; exact (MapKept.heap_alloc w1 _).1
  obtain ⟨V6, hV6, hh9, hC9⟩ := set4 hV5h (.string ⟨nm.toArray⟩) (.bool th) (.slice xa xn xc) (.int .i64 (y : Int))
  obtain ⟨y0, y1, y2, y3⟩ := box4 hV5h
  have k0 := Lib.frozen_of_heap hV5h 0
  have k1 := Lib.frozen_of_heap hV5h 1
  have k2 := Lib.frozen_of_heap hV5h 2
  have k3 := Lib.frozen_of_heap hV5h 3
  obtain ⟨t0, t1, t2, t3⟩ := box4 hh9
  have hb6 : Below W0.heap.size W0 V6 := (hb1.trans (hV5b.mono hb1.size)).trans (hC9.below (fun g e => by have := hb1.size; omega) (by have := hb1.size; have := hV5b.size; omega))
  have hd6 : V6.heap[w.heap.size]? = some (.cells #[.int .i64 1, .string ⟨nm.toArray⟩, .slice b bn bc, .int .i64 0, .int .u8 0] 144) := (hb6.block _ (by have := HH.out.2.2.2.2; omega)).trans HH.out.2.2.1
  have H6 : Hid (V6.heap[w1.heap.size]? = some (.cells #[.string ⟨nm.toArray⟩, .bool th, .slice xa xn xc, .int .i64 (y : Int)] 134) ∧ V6.heap[w.heap.size]? = some (.cells #[.int .i64 1, .string ⟨nm.toArray⟩, .slice b bn bc, .int .i64 0, .int .u8 0] 144) ∧ Below W0.heap.size W0 V6 ∧ W0.heap.size ≤ w1.heap.size ∧ w1.heap.size < V6.heap.size) := ⟨hh9, hd6, hb6, hb1.size, (Array.getElem?_eq_some_iff.1 hh9).1⟩
  obtain ⟨e0, e1, e2, e3, e4⟩ := box5 hd6
  have j0 := Lib.frozen_of_heap hh9 0
  have j1 := Lib.frozen_of_heap hh9 1
  have j2 := Lib.frozen_of_heap hh9 2
  have j3 := Lib.frozen_of_heap hh9 3
  clear hb1 hV5b hV5h hC9 hh9 hb6 hd6
  go_wp2_with fail
  obtain ⟨V7, hV7⟩ : ∃ V7, V6.setCell ⟨w1.heap.size, 1, none⟩ (.bool true) = V7 := ⟨_, rfl⟩
  have hC7 : Chg (fun g => g = w1.heap.size) V6 V7 := by rw [← hV7]; exact Chg.set 1 V6 _ rfl
  have hf7 : V7.heap[w1.heap.size]? = some (.cells #[.string ⟨nm.toArray⟩, .bool true, .slice xa xn xc, .int .i64 (y : Int)] 134) := by
    rw [← hV7, heap_setCell_cells H6.out.1 1 (.bool true)]; rfl
  have hb7 : Below W0.heap.size W0 V7 := H6.out.2.2.1.trans (hC7.below (fun g e => by have := H6.out.2.2.2.1; omega) H6.out.2.2.1.size)
  have hbw7 : Below w.heap.size w V7 := HH.out.2.1.trans (hb7.mono HH.out.2.1.size)
  have hs7 := hbw7.size
  have H7 : Hid (V7.heap[w1.heap.size]? = some (.cells #[.string ⟨nm.toArray⟩, .bool true, .slice xa xn xc, .int .i64 (y : Int)] 134) ∧ Below w.heap.size w V7 ∧ Below W0.heap.size W0 V7 ∧ Rw byU 1 V7 xa xn xc l0 ∧ Rw byU 1 V7 b bn bc B ∧ W0.heap.size ≤ V7.heap.size) := ⟨hf7, hbw7, hb7, HRW.out.1.below hbw7, HRW.out.2.below hbw7, hb7.size⟩
  have HKP : Hid (∀ W, Below W0.heap.size W0 W → W.cell? ⟨w.heap.size, 2, none⟩ = some (.slice b bn bc)) := fun W hb => (box5 ((hb.block _ (by have := HH.out.2.2.2.2; omega)).trans HH.out.2.2.1)).2.2.1
  obtain ⟨f0, f1, f2, f3⟩ := box4 hf7
  rw [hV7]
  clear hC7 hf7 hb7 hbw7 hs7 hV7 hV6 hV5 e0 e1 e2 e3 e4 j0 j1 j2 j3 t0 t1 t2 t3 k0 k1 k2 k3 y0 y1 y2 y3 d0 d1 d2 d3 d4
  refine wp_region_held_drew (S := (fun W => W.cell? ⟨w.heap.size, 2, none⟩ = some (.slice b bn bc))) (by kernel_rfl) ?hS1 (fun hHeld => ?rest1)
  case hS1 => exact HKP.out _ (H7.out.2.2.1.drew)
  refine takeD (i := 0) (d := some 38) (v := ?vT2) rfl rfl (by kernel_rfl) (by kernel_rfl) (by kernel_rfl) (fun _ _ _ h => h) (Or.inl ⟨by rfl, ?hyT2⟩) (by assumption) ?rstT2
  case hyT2 => (intro w hSw; (try dsimp only at hSw); go_simp; (try with_reducible rfl))
  try simp only [Act.put, List.setIfInBounds_toArray, List.set_cons_zero, List.set_cons_succ]
  refine takeD (i := 3) (d := some 41) (v := ?vT3) rfl rfl (by kernel_rfl) (by kernel_rfl) (by kernel_rfl) (fun _ _ _ h => h) (Or.inl ⟨by rfl, ?hyT3⟩) (by assumption) ?rstT3
  case hyT3 => (intro w hSw; (try dsimp only at hSw); go_simp; (try with_reducible rfl))
  try simp only [Act.put, List.setIfInBounds_toArray, List.set_cons_zero, List.set_cons_succ]
  refine takeD (i := 4) (d := some 42) (v := ?vT4) rfl rfl (by kernel_rfl) (by kernel_rfl) (by kernel_rfl) (fun _ _ _ h => h) (Or.inl ⟨by rfl, ?hyT4⟩) (by assumption) ?rstT4
  case hyT4 => (intro w hSw; (try dsimp only at hSw); go_simp; (try with_reducible rfl))
  try simp only [Act.put, List.setIfInBounds_toArray, List.set_cons_zero, List.set_cons_succ]
  refine wpAnyH_ready (rs := [1]) (by kernel_rfl) (by simp) ?_
  refine AllReadyH.cons rfl (fun K hK => ?_) AllReadyH.nil
  go_simp
  clear hHeld
  refine hK.out _ _ ?hS5 (fun hHeld => ?rest5)
  case hS5 => exact HKP.out _ (H7.out.2.2.1.drew)
  clear hK K
  try simp only [Act.put, List.setIfInBounds_toArray, List.set_cons_zero, List.set_cons_succ]
  refine wpAnyH_ready (rs := [2]) (by kernel_rfl) (by simp) ?_
  refine AllReadyH.cons rfl (fun K hK => ?_) AllReadyH.nil
  go_simp
  refine (rCopied (H7.out.2.2.2.1.below ((Below.refl _ _).drew)) (by have := HSM.out; omega)).mono ?_
  rintro e w2 ⟨a2, c2, rfl, ho2, hb2⟩
  have hb72 : Below V7.heap.size V7 w2 := ((Below.refl _ _).drew).trans hb2
  have H2 : Hid (OwnF byU 1 5 w2 V7.heap.size (.slice a2 xn c2) l0 ∧ Below V7.heap.size V7 w2 ∧ V7.heap.size ≤ w2.heap.size ∧ Rw byU 1 w2 b bn bc B ∧ l0.length = xn) := ⟨ho2, hb72, hb72.size, H7.out.2.2.2.2.1.below hb72, HSM.out.2.2.1⟩
  clear ho2 hb2 hb72
  clear hHeld
  refine hK.out _ _ ?hS6 (fun hHeld => ?rest6)
  case hS6 => exact HKP.out _ (H7.out.2.2.1.trans (H2.out.2.1.mono H7.out.2.2.2.2.2))
  clear hK K
  try simp only [Act.put, List.setIfInBounds_toArray, List.set_cons_zero, List.set_cons_succ]
  refine wpAnyH_ready (rs := [5]) (by kernel_rfl) (by simp) ?_
  refine AllReadyH.cons rfl (fun K hK => ?_) AllReadyH.nil
  obtain ⟨a3, c3, w3, hr3, ho3, hb3, hk3⟩ := appendU kindU layU H2.out.1 H2.out.2.2.1 H2.out.2.2.2.1 (by simp only [H2.out.2.2.2.2]; have := HSM.out; omega) (by simp only [H2.out.2.2.2.2]; have := HSM.out; omega) 22
  rw [H2.out.2.2.2.2] at hr3 ho3
  rw [if_pos (by rfl)]
  refine wp_append_hr (.tmp 40) (.tmp 42) 22 (some 43) rfl rfl _ _ rfl rfl hr3 ?_
  have H3 : Hid (OwnF byU 1 5 w3 V7.heap.size (.slice a3 (xn + bn) c3) (l0 ++ B) ∧ Below V7.heap.size V7 w3) := ⟨ho3, H2.out.2.1.trans hb3⟩
  clear ho3 hb3 hk3
  clear hHeld
  refine hK.out _ _ ?hS7 (fun hHeld => ?rest7)
  case hS7 => exact HKP.out _ (H7.out.2.2.1.trans (H3.out.2.mono H7.out.2.2.2.2.2))
  clear hK K
  try simp only [Act.put, List.setIfInBounds_toArray, List.set_cons_zero, List.set_cons_succ]
  refine takeD (i := 6) (d := some 44) (v := ?vT8) rfl rfl (by kernel_rfl) (by kernel_rfl) (by kernel_rfl) (fun _ _ _ h => h) (Or.inl ⟨by rfl, ?hyT8⟩) (by assumption) ?rstT8
  case hyT8 => (intro w hSw; (try dsimp only at hSw); go_simp; (try with_reducible rfl))
  try simp only [Act.put, List.setIfInBounds_toArray, List.set_cons_zero, List.set_cons_succ]
  have hf3 : w3.heap[w1.heap.size]? = some (.cells #[.string ⟨nm.toArray⟩, .bool true, .slice xa xn xc, .int .i64 (y : Int)] 134) := (H3.out.2.block _ (Array.getElem?_eq_some_iff.1 H7.out.1).1).trans H7.out.1
  obtain ⟨g0, g1, g2, g3⟩ := box4 hf3
  have q2 := Lib.frozen_of_heap hf3 2
  obtain ⟨V8, hV8⟩ : ∃ V8, w3.setCell ⟨w1.heap.size, 2, none⟩ (.slice a3 (xn + bn) c3) = V8 := ⟨_, rfl⟩
  have hf8 : V8.heap[w1.heap.size]? = some (.cells #[.string ⟨nm.toArray⟩, .bool true, .slice a3 (xn + bn) c3, .int .i64 (y : Int)] 134) := by rw [← hV8, heap_setCell_cells hf3 2 _]; rfl
  have hC8 : Chg (fun g => g = w1.heap.size) w3 V8 := by rw [← hV8]; exact Chg.set 2 w3 _ rfl
  have hb8 : Below W0.heap.size W0 V8 := (H7.out.2.2.1.trans (H3.out.2.mono H7.out.2.2.2.2.2)).trans (hC8.below (fun g e => by have := H6.out.2.2.2.1; omega) (by have := H7.out.2.2.2.2.2; have := H3.out.2.size; omega))
  have ho8 : OwnF byU 1 5 V8 V7.heap.size (.slice a3 (xn + bn) c3) (l0 ++ B) := H3.out.1.chg hC8 (fun g hg e => by have := H3.out.1.ge hg; have := (Array.getElem?_eq_some_iff.1 H7.out.1).1; omega)
  have H8 : Hid (Below W0.heap.size W0 V8 ∧ OwnF byU 1 5 V8 V7.heap.size (.slice a3 (xn + bn) c3) (l0 ++ B)) := ⟨hb8, ho8⟩
  obtain ⟨h0, h1, h2, h3⟩ := box4 hf8
  clear hf3 hf8 hC8 hb8 ho8
  refine wpAnyH_ready (rs := [7]) (by kernel_rfl) (by simp) ?_
  refine AllReadyH.cons rfl (fun K hK => ?_) AllReadyH.nil
  go_simp
  clear hHeld
  refine hK.out _ _ ?hS9 (fun hHeld => ?rest9)
  case hS9 => exact HKP.out _ H8.out.1
  clear hK K
  try simp only [Act.put, List.setIfInBounds_toArray, List.set_cons_zero, List.set_cons_succ]
  refine wpAnyH_done (by kernel_rfl) ?_ _
  clear g0 g1 g2 g3 q2 hV8 f0 f1 f2 f3
  have hbw8 : Below w.heap.size w V8 := HH.out.2.1.trans (H8.out.1.mono HH.out.2.1.size)
  have hrow8 := H8.out.2.rw_ layU
  have hlen8 : (l0 ++ B).length = xn + bn := by rw [List.length_append, HSM.out.2.2.1, HSM.out.2.2.2]
  have hge8 : ∀ q, a3 = some q → w.heap.size < q.block ∧ q.block < V8.heap.size := fun q e => by
    have h1 := H8.out.2.ge (g := q.block) (by rw [e]; rfl)
    have h2 := H8.out.2.lt (g := q.block) (by rw [e]; rfl)
    have := H7.out.2.2.2.2.2
    have := HH.out.2.2.2.2
    exact ⟨by omega, h2⟩
  have hcst : Calls Try.prog 92 #[.pointer (some ⟨r, 0, none⟩), .agg #[.string ⟨nm.toArray⟩, .bool true, .slice a3 (l0 ++ B).length c3, .int .i64 (y : Int)]] V8 fun e w' => e = .returned (.tuple #[]) ∧ StoreP V8 w' r T Kk (storeL ⟨nm, a3, c3, l0 ++ B, y⟩ (!true) xs) :=
    rStore (HH.out.1.below hbw8) (by have := HH.out.2.2.2.1; omega) ⟨nm, a3, c3, l0 ++ B, y⟩ true (fun _ => ⟨by simp only [hlen8]; exact hrow8, by simp only [hlen8]; have := HSM.out.2.1; omega, fun q e => ⟨by have := hge8 q e; have := HH.out.1.lt r (.inl rfl); omega, (hge8 q e).2⟩⟩)
  rw [hlen8] at hcst
  have HST : Hid (Calls Try.prog 92 #[.pointer (some ⟨r, 0, none⟩), .agg #[.string ⟨nm.toArray⟩, .bool true, .slice a3 (xn + bn) c3, .int .i64 (y : Int)]] V8 fun e w' => e = .returned (.tuple #[]) ∧ StoreP V8 w' r T Kk (storeL ⟨nm, a3, c3, l0 ++ B, y⟩ (!true) xs)) := hcst
  have HEND : Hid (∀ w', StoreP V8 w' r T Kk (storeL ⟨nm, a3, c3, l0 ++ B, y⟩ (!true) xs) → DidP w w' r Kk a xs T nm (l0 ++ B) y) := fun w' hS => ⟨⟨nm, a3, c3, l0 ++ B, y⟩, rfl, rfl, rfl, StoreP.nk HH.out.1 hbw8 hS (fun _ q e => .inl (by have := hge8 q e; omega))⟩
  clear hbw8 hrow8 hlen8 hge8 hcst
  go_wp2_with fail
  refine HST.out.mono ?_
  rintro e w9 ⟨rfl, hSP⟩
  have HFIN := HEND.out w9 hSP
  clear hSP
  have HFN : Hid (DidP w w9 r Kk a xs T nm (l0 ++ B) y) := HFIN
  clear HFIN
  go_wp2_with fail
  go_end0
  exact ⟨rfl, HFN.out⟩
end Go.Proofs.Ytaclgiakinoocaa
