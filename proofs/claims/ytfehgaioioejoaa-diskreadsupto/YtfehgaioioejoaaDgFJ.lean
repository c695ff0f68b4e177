import Derived.Test.YtfehgaioioejoaaDgAE
import Derived.Test.YtfehgaioioejoaaDcB
import Derived.Test.YtfehgaioioejoaaDfA
/-! The reference's did: put. -/
namespace Go.Proofs.Ytfehgaioioejoaa
open Go.RowKit Go.Lib
set_option maxRecDepth 100000

variable {w : World} {r c : Nat} {T : Dk} {Kk : Int} {a : Option Addr} {xs : List Rf}
theorem StoreP.nx {W4 w9 : World} {f : Rf} {dn : Bool} (h : RefAt w r T Kk a c xs) (hb : Below w.heap.size w W4) (hS : StoreP W4 w9 r T Kk (storeL f dn xs)) (hf : dn = false → ∀ q, f.a = some q → w.heap.size ≤ q.block ∨ RB r a xs q.block) : RNx w w9 r a xs { T with fs := (storeL f dn xs).map Rf.fl } := by
  obtain ⟨a', c', h1, h2, h3⟩ := hS
  have hsz := hb.size
  refine ⟨Kk, a', c', _, h1, (Chg.of_below hb).trans h2, fun g hg => ?_⟩
  rcases hg with rfl | ⟨q, e, rfl⟩ | ⟨x, hx, q, e, rfl⟩
  · exact .inl (.inl rfl)
  · exact .inr (by have := h3 q e; omega)
  · rcases mem_storeL hx with hx | ⟨hd, rfl⟩
    · exact .inl (.inr (.inr ⟨x, hx, q, e, rfl⟩))
    · rcases hf hd q e with h | h
      · exact .inr h
      · exact .inl h
/-- The same with what the last cell holds. -/
def RNk (w w' : World) (r : Nat) (K : Int) (a : Option Addr) (xs : List Rf) (T' : Dk) : Prop := ∃ a' c' xs', RefAt w' r T' K a' c' xs' ∧ Chg (fun g => g = r) w w' ∧ ∀ g, RB r a' xs' g → RB r a xs g ∨ w.heap.size ≤ g
theorem RNk.x {w w' : World} {r : Nat} {K : Int} {a : Option Addr} {xs : List Rf} {T' : Dk} (h : RNk w w' r K a xs T') : RNx w w' r a xs T' := by
  obtain ⟨a', c', xs', h⟩ := h
  exact ⟨K, a', c', xs', h⟩
theorem StoreP.nk {W4 w9 : World} {f : Rf} {dn : Bool} (h : RefAt w r T Kk a c xs) (hb : Below w.heap.size w W4) (hS : StoreP W4 w9 r T Kk (storeL f dn xs)) (hf : dn = false → ∀ q, f.a = some q → w.heap.size ≤ q.block ∨ RB r a xs q.block) : RNk w w9 r Kk a xs { T with fs := (storeL f dn xs).map Rf.fl } := by
  obtain ⟨a', c', h1, h2, h3⟩ := hS
  have hsz := hb.size
  refine ⟨a', c', _, h1, (Chg.of_below hb).trans h2, fun g hg => ?_⟩
  rcases hg with rfl | ⟨q, e, rfl⟩ | ⟨x, hx, q, e, rfl⟩
  · exact .inl (.inl rfl)
  · exact .inr (by have := h3 q e; omega)
  · rcases mem_storeL hx with hx | ⟨hd, rfl⟩
    · exact .inl (.inr (.inr ⟨x, hx, q, e, rfl⟩))
    · rcases hf hd q e with h | h
      · exact .inr h
      · exact .inl h
/-- What did leaves where a file takes its place. -/
def DidP (w w' : World) (r : Nat) (K : Int) (a : Option Addr) (xs : List Rf) (T : Dk) (nm bs : List UInt8) (y : Nat) : Prop := ∃ f : Rf, f.nm = nm ∧ f.bs = bs ∧ f.syn = y ∧ RNk w w' r K a xs { T with fs := (storeL f false xs).map Rf.fl }
set_option maxHeartbeats 4000000 in
theorem rDid_put (h : RefAt w r T Kk a c xs) (hn : xs.length ≤ 1073741823) (nm : List UInt8) (th : Bool) (xa : Option Addr) (xn xc y : Nat) (hfa : fileA xs nm = .agg #[.string ⟨nm.toArray⟩, .bool th, .slice xa xn xc, .int .i64 (y : Int)]) (l0 : List UInt8) (hl0 : Rw byU 1 w xa xn xc l0) (b : Option Addr) (bn bc : Nat) (B : List UInt8) (hB : Rw byU 1 w b bn bc B) (hsum : xn + bn ≤ 1099511627776) (hy : y ≤ xn) :
    Calls Try.prog 95 #[.pointer (some ⟨r, 0, none⟩), .agg #[.int .i64 1, .string ⟨nm.toArray⟩, .slice b bn bc, .int .i64 0, .int .u8 0]] w fun e w' => e = .returned (.tuple #[]) ∧ DidP w w' r Kk a xs T nm (l0 ++ B) y := by
  obtain ⟨W0, hW0⟩ : ∃ W0, w.alloc (.cells #[.int .i64 1, .string ⟨nm.toArray⟩, .slice b bn bc, .int .i64 0, .int .u8 0] 136) = W0 := ⟨_, rfl⟩
  have hs0 : W0.heap.size = w.heap.size + 1 := by rw [← hW0, World.size_alloc]
  have hb0 : Below w.heap.size w W0 := by rw [← hW0]; exact (Below.refl _ _).alloc (Nat.le_refl _) _
  have hq0 : W0.heap[w.heap.size]? = some (.cells #[.int .i64 1, .string ⟨nm.toArray⟩, .slice b bn bc, .int .i64 0, .int .u8 0] 136) := by rw [← hW0]; exact (MapKept.heap_alloc w _).1
  have hR := h.below hb0
  obtain ⟨d0, d1, d2, d3, d4⟩ := box5 hq0
  have HFI : Hid (Calls Try.prog 90 #[.pointer (some ⟨r, 0, none⟩), .string ⟨nm.toArray⟩] W0 fun e w' => e = .returned (.agg #[.string ⟨nm.toArray⟩, .bool th, .slice xa xn xc, .int .i64 (y : Int)]) ∧ Below W0.heap.size W0 w') := by have := rFile hR (by omega) nm; rwa [hfa] at this
  have HH : Hid (RefAt w r T Kk a c xs ∧ Below w.heap.size w W0 ∧ W0.heap[w.heap.size]? = some (.cells #[.int .i64 1, .string ⟨nm.toArray⟩, .slice b bn bc, .int .i64 0, .int .u8 0] 136) ∧ xs.length ≤ 1073741823 ∧ W0.heap.size = w.heap.size + 1) := ⟨h, hb0, hq0, hn, hs0⟩
  have HSM : Hid (xn + bn ≤ 1099511627776 ∧ y ≤ xn ∧ l0.length = xn ∧ B.length = bn) := ⟨hsum, hy, hl0.len, hB.len⟩
  have HRW : Hid (Rw byU 1 w xa xn xc l0 ∧ Rw byU 1 w b bn bc B) := ⟨hl0, hB⟩
  clear h hb0 hq0 hs0 hR hfa hn hl0 hB hsum hy
  go_enter Try.func95, Try.ntmps95
  go_wp2_with fail
  refine (HFI.out).mono ?_
  rintro e w1 ⟨rfl, hb1⟩
  obtain ⟨V5, hV5⟩ : ∃ V5, w1.alloc (.cells #[.string ⟨#[]⟩, .bool false, .slice none 0 0, .int .i64 0] 126) = V5 := ⟨_, rfl⟩
  have hV5b : Below w1.heap.size w1 V5 := by rw [← hV5]; exact (Below.refl _ _).alloc (Nat.le_refl _) _
  have hV5h : V5.heap[w1.heap.size]? = some (.cells #[.string ⟨#[]⟩, .bool false, .slice none 0 0, .int .i64 0] 126) := by rw [← hV5]; exact (MapKept.heap_alloc w1 _).1
  obtain ⟨V6, hV6, hh9, hC9⟩ := set4 hV5h (.string ⟨nm.toArray⟩) (.bool th) (.slice xa xn xc) (.int .i64 (y : Int))
  obtain ⟨y0, y1, y2, y3⟩ := box4 hV5h
  have k0 := Lib.frozen_of_heap hV5h 0
  have k1 := Lib.frozen_of_heap hV5h 1
  have k2 := Lib.frozen_of_heap hV5h 2
  have k3 := Lib.frozen_of_heap hV5h 3
  obtain ⟨t0, t1, t2, t3⟩ := box4 hh9
  have hb6 : Below W0.heap.size W0 V6 := (hb1.trans (hV5b.mono hb1.size)).trans (hC9.below (fun g e => by have := hb1.size; omega) (by have := hb1.size; have := hV5b.size; omega))
  have hd6 : V6.heap[w.heap.size]? = some (.cells #[.int .i64 1, .string ⟨nm.toArray⟩, .slice b bn bc, .int .i64 0, .int .u8 0] 136) := (hb6.block _ (by have := HH.out.2.2.2.2; omega)).trans HH.out.2.2.1
  have H6 : Hid (V6.heap[w1.heap.size]? = some (.cells #[.string ⟨nm.toArray⟩, .bool th, .slice xa xn xc, .int .i64 (y : Int)] 126) ∧ V6.heap[w.heap.size]? = some (.cells #[.int .i64 1, .string ⟨nm.toArray⟩, .slice b bn bc, .int .i64 0, .int .u8 0] 136) ∧ Below W0.heap.size W0 V6 ∧ W0.heap.size ≤ w1.heap.size ∧ w1.heap.size < V6.heap.size) := ⟨hh9, hd6, hb6, hb1.size, (Array.getElem?_eq_some_iff.1 hh9).1⟩
  obtain ⟨e0, e1, e2, e3, e4⟩ := box5 hd6
  have j0 := Lib.frozen_of_heap hh9 0
  have j1 := Lib.frozen_of_heap hh9 1
  have j2 := Lib.frozen_of_heap hh9 2
  have j3 := Lib.frozen_of_heap hh9 3
  clear hb1 hV5b hV5h hC9 hh9 hb6 hd6
  go_wp2_with fail
  obtain ⟨V7, hV7⟩ : ∃ V7, V6.setCell ⟨w1.heap.size, 1, none⟩ (.bool true) = V7 := ⟨_, rfl⟩
  have hC7 : Chg (fun g => g = w1.heap.size) V6 V7 := by rw [← hV7]; exact Chg.set 1 V6 _ rfl
  have hf7 : V7.heap[w1.heap.size]? = some (.cells #[.string ⟨nm.toArray⟩, .bool true, .slice xa xn xc, .int .i64 (y : Int)] 126) := by
    rw [← hV7, heap_setCell_cells H6.out.1 1 (.bool true)]; rfl
  have hb7 : Below W0.heap.size W0 V7 := H6.out.2.2.1.trans (hC7.below (fun g e => by have := H6.out.2.2.2.1; omega) H6.out.2.2.1.size)
  have hbw7 : Below w.heap.size w V7 := HH.out.2.1.trans (hb7.mono HH.out.2.1.size)
  have hs7 := hbw7.size
  have H7 : Hid (V7.heap[w1.heap.size]? = some (.cells #[.string ⟨nm.toArray⟩, .bool true, .slice xa xn xc, .int .i64 (y : Int)] 126) ∧ Below w.heap.size w V7 ∧ Below W0.heap.size W0 V7 ∧ Rw byU 1 V7 xa xn xc l0 ∧ Rw byU 1 V7 b bn bc B ∧ W0.heap.size ≤ V7.heap.size) := ⟨hf7, hbw7, hb7, HRW.out.1.below hbw7, HRW.out.2.below hbw7, hb7.size⟩
  have HKP : Hid (∀ W, Below W0.heap.size W0 W → W.cell? ⟨w.heap.size, 2, none⟩ = some (.slice b bn bc)) := fun W hb => (box5 ((hb.block _ (by have := HH.out.2.2.2.2; omega)).trans HH.out.2.2.1)).2.2.1
  obtain ⟨f0, f1, f2, f3⟩ := box4 hf7
  rw [hV7]
  clear hC7 hf7 hb7 hbw7 hs7 hV7 hV6 hV5 e0 e1 e2 e3 e4 j0 j1 j2 j3 t0 t1 t2 t3 k0 k1 k2 k3 y0 y1 y2 y3 d0 d1 d2 d3 d4
  refine wp_region_held_drew (S := (fun W => W.cell? ⟨w.heap.size, 2, none⟩ = some (.slice b bn bc))) (by kernel_rfl) ?hS1 (fun hHeld => ?rest1)
  case hS1 => exact HKP.out _ (H7.out.2.2.1.drew)
  refine takeD (i := 0) (d := some 38) (v := ?vT2) rfl rfl (by kernel_rfl) (by kernel_rfl) (by kernel_rfl) (fun _ _ _ h => h) (Or.inl ⟨by rfl, ?hyT2⟩) (by assumption) ?rstT2
  case hyT2 => (intro w hSw; (try dsimp only at hSw); go_simp; (try with_reducible rfl))
  try simp only [Act.put, List.setIfInBounds_toArray, List.set_cons_zero, List.set_cons_succ]
  refine takeD (i := 3) (d := some 41) (v := ?vT3) rfl rfl (by kernel_rfl) (by kernel_rfl) (by kernel_rfl) (fun _ _ _ h => h) (Or.inl ⟨by rfl, ?hyT3⟩) (by assumption) ?rstT3
  case hyT3 => (intro w hSw; (try dsimp only at hSw); go_simp; (try with_reducible rfl))
  try simp only [Act.put, List.setIfInBounds_toArray, List.set_cons_zero, List.set_cons_succ]
  refine takeD (i := 4) (d := some 42) (v := ?vT4) rfl rfl (by kernel_rfl) (by kernel_rfl) (by kernel_rfl) (fun _ _ _ h => h) (Or.inl ⟨by rfl, ?hyT4⟩) (by assumption) ?rstT4
  case hyT4 => (intro w hSw; (try dsimp only at hSw); go_simp; (try with_reducible rfl))
  try simp only [Act.put, List.setIfInBounds_toArray, List.set_cons_zero, List.set_cons_succ]
  refine wpAnyH_ready (rs := [1]) (by kernel_rfl) (by simp) ?_
  refine AllReadyH.cons rfl (fun K hK => ?_) AllReadyH.nil
  go_simp
  clear hHeld
  refine hK.out _ _ ?hS5 (fun hHeld => ?rest5)
  case hS5 => exact HKP.out _ (H7.out.2.2.1.drew)
  clear hK K
  try simp only [Act.put, List.setIfInBounds_toArray, List.set_cons_zero, List.set_cons_succ]
  refine wpAnyH_ready (rs := [2]) (by kernel_rfl) (by simp) ?_
  refine AllReadyH.cons rfl (fun K hK => ?_) AllReadyH.nil
  go_simp
  refine (rCopied (H7.out.2.2.2.1.below ((Below.refl _ _).drew)) (by have := HSM.out; omega)).mono ?_
  rintro e w2 ⟨a2, c2, rfl, ho2, hb2⟩
  have hb72 : Below V7.heap.size V7 w2 := ((Below.refl _ _).drew).trans hb2
  have H2 : Hid (OwnF byU 1 5 w2 V7.heap.size (.slice a2 xn c2) l0 ∧ Below V7.heap.size V7 w2 ∧ V7.heap.size ≤ w2.heap.size ∧ Rw byU 1 w2 b bn bc B ∧ l0.length = xn) := ⟨ho2, hb72, hb72.size, H7.out.2.2.2.2.1.below hb72, HSM.out.2.2.1⟩
  clear ho2 hb2 hb72
  clear hHeld
  refine hK.out _ _ ?hS6 (fun hHeld => ?rest6)
  case hS6 => exact HKP.out _ (H7.out.2.2.1.trans (H2.out.2.1.mono H7.out.2.2.2.2.2))
  clear hK K
  try simp only [Act.put, List.setIfInBounds_toArray, List.set_cons_zero, List.set_cons_succ]
  refine wpAnyH_ready (rs := [5]) (by kernel_rfl) (by simp) ?_
  refine AllReadyH.cons rfl (fun K hK => ?_) AllReadyH.nil
  obtain ⟨a3, c3, w3, hr3, ho3, hb3, hk3⟩ := appendU kindU layU H2.out.1 H2.out.2.2.1 H2.out.2.2.2.1 (by simp only [H2.out.2.2.2.2]; have := HSM.out; omega) (by simp only [H2.out.2.2.2.2]; have := HSM.out; omega) 36
  rw [H2.out.2.2.2.2] at hr3 ho3
  rw [if_pos (by rfl)]
  refine wp_append_hr (.tmp 40) (.tmp 42) 36 (some 43) rfl rfl _ _ rfl rfl hr3 ?_
  have H3 : Hid (OwnF byU 1 5 w3 V7.heap.size (.slice a3 (xn + bn) c3) (l0 ++ B) ∧ Below V7.heap.size V7 w3) := ⟨ho3, H2.out.2.1.trans hb3⟩
  clear ho3 hb3 hk3
  clear hHeld
  refine hK.out _ _ ?hS7 (fun hHeld => ?rest7)
  case hS7 => exact HKP.out _ (H7.out.2.2.1.trans (H3.out.2.mono H7.out.2.2.2.2.2))
  clear hK K
  try simp only [Act.put, List.setIfInBounds_toArray, List.set_cons_zero, List.set_cons_succ]
  refine takeD (i := 6) (d := some 44) (v := ?vT8) rfl rfl (by kernel_rfl) (by kernel_rfl) (by kernel_rfl) (fun _ _ _ h => h) (Or.inl ⟨by rfl, ?hyT8⟩) (by assumption) ?rstT8
  case hyT8 => (intro w hSw; (try dsimp only at hSw); go_simp; (try with_reducible rfl))
  try simp only [Act.put, List.setIfInBounds_toArray, List.set_cons_zero, List.set_cons_succ]
  have hf3 : w3.heap[w1.heap.size]? = some (.cells #[.string ⟨nm.toArray⟩, .bool true, .slice xa xn xc, .int .i64 (y : Int)] 126) := (H3.out.2.block _ (Array.getElem?_eq_some_iff.1 H7.out.1).1).trans H7.out.1
  obtain ⟨g0, g1, g2, g3⟩ := box4 hf3
  have q2 := Lib.frozen_of_heap hf3 2
  obtain ⟨V8, hV8⟩ : ∃ V8, w3.setCell ⟨w1.heap.size, 2, none⟩ (.slice a3 (xn + bn) c3) = V8 := ⟨_, rfl⟩
  have hf8 : V8.heap[w1.heap.size]? = some (.cells #[.string ⟨nm.toArray⟩, .bool true, .slice a3 (xn + bn) c3, .int .i64 (y : Int)] 126) := by rw [← hV8, heap_setCell_cells hf3 2 _]; rfl
  have hC8 : Chg (fun g => g = w1.heap.size) w3 V8 := by rw [← hV8]; exact Chg.set 2 w3 _ rfl
  have hb8 : Below W0.heap.size W0 V8 := (H7.out.2.2.1.trans (H3.out.2.mono H7.out.2.2.2.2.2)).trans (hC8.below (fun g e => by have := H6.out.2.2.2.1; omega) (by have := H7.out.2.2.2.2.2; have := H3.out.2.size; omega))
  have ho8 : OwnF byU 1 5 V8 V7.heap.size (.slice a3 (xn + bn) c3) (l0 ++ B) := H3.out.1.chg hC8 (fun g hg e => by have := H3.out.1.ge hg; have := (Array.getElem?_eq_some_iff.1 H7.out.1).1; omega)
  have H8 : Hid (Below W0.heap.size W0 V8 ∧ OwnF byU 1 5 V8 V7.heap.size (.slice a3 (xn + bn) c3) (l0 ++ B)) := ⟨hb8, ho8⟩
  obtain ⟨h0, h1, h2, h3⟩ := box4 hf8
  clear hf3 hf8 hC8 hb8 ho8
  refine wpAnyH_ready (rs := [7]) (by kernel_rfl) (by simp) ?_
  refine AllReadyH.cons rfl (fun K hK => ?_) AllReadyH.nil
  go_simp
  clear hHeld
  refine hK.out _ _ ?hS9 (fun hHeld => ?rest9)
  case hS9 => exact HKP.out _ H8.out.1
  clear hK K
  try simp only [Act.put, List.setIfInBounds_toArray, List.set_cons_zero, List.set_cons_succ]
  refine wpAnyH_done (by kernel_rfl) ?_ _
  clear g0 g1 g2 g3 q2 hV8 f0 f1 f2 f3
  have hbw8 : Below w.heap.size w V8 := HH.out.2.1.trans (H8.out.1.mono HH.out.2.1.size)
  have hrow8 := H8.out.2.rw_ layU
  have hlen8 : (l0 ++ B).length = xn + bn := by rw [List.length_append, HSM.out.2.2.1, HSM.out.2.2.2]
  have hge8 : ∀ q, a3 = some q → w.heap.size < q.block ∧ q.block < V8.heap.size := fun q e => by
    have h1 := H8.out.2.ge (g := q.block) (by rw [e]; rfl)
    have h2 := H8.out.2.lt (g := q.block) (by rw [e]; rfl)
    have := H7.out.2.2.2.2.2
    have := HH.out.2.2.2.2
    exact ⟨by omega, h2⟩
  have hcst : Calls Try.prog 91 #[.pointer (some ⟨r, 0, none⟩), .agg #[.string ⟨nm.toArray⟩, .bool true, .slice a3 (l0 ++ B).length c3, .int .i64 (y : Int)]] V8 fun e w' => e = .returned (.tuple #[]) ∧ StoreP V8 w' r T Kk (storeL ⟨nm, a3, c3, l0 ++ B, y⟩ (!true) xs) :=
    rStore (HH.out.1.below hbw8) (by have := HH.out.2.2.2.1; omega) ⟨nm, a3, c3, l0 ++ B, y⟩ true (fun _ => ⟨by simp only [hlen8]; exact hrow8, by simp only [hlen8]; have := HSM.out.2.1; omega, fun q e => ⟨by have := hge8 q e; have := HH.out.1.lt r (.inl rfl); omega, (hge8 q e).2⟩⟩)
  rw [hlen8] at hcst
  have HST : Hid (Calls Try.prog 91 #[.pointer (some ⟨r, 0, none⟩), .agg #[.string ⟨nm.toArray⟩, .bool true, .slice a3 (xn + bn) c3, .int .i64 (y : Int)]] V8 fun e w' => e = .returned (.tuple #[]) ∧ StoreP V8 w' r T Kk (storeL ⟨nm, a3, c3, l0 ++ B, y⟩ (!true) xs)) := hcst
  have HEND : Hid (∀ w', StoreP V8 w' r T Kk (storeL ⟨nm, a3, c3, l0 ++ B, y⟩ (!true) xs) → DidP w w' r Kk a xs T nm (l0 ++ B) y) := fun w' hS => ⟨⟨nm, a3, c3, l0 ++ B, y⟩, rfl, rfl, rfl, StoreP.nk HH.out.1 hbw8 hS (fun _ q e => .inl (by have := hge8 q e; omega))⟩
  clear hbw8 hrow8 hlen8 hge8 hcst
  go_wp2_with fail
  refine HST.out.mono ?_
  rintro e w9 ⟨rfl, hSP⟩
  have HFIN := HEND.out w9 hSP
  clear hSP
  have HFN : Hid (DidP w w9 r Kk a xs T nm (l0 ++ B) y) := HFIN
  clear HFIN
  go_wp2_with fail
  go_end0
  exact ⟨rfl, HFN.out⟩
end Go.Proofs.Ytfehgaioioejoaa

/-! The reference's did: synced, cut, gone. -/
namespace Go.Proofs.Ytfehgaioioejoaa
open Go.RowKit Go.Lib
set_option maxRecDepth 100000

variable {w : World} {r c : Nat} {T : Dk} {Kk : Int} {a : Option Addr} {xs : List Rf}
theorem rw_take {W : World} {b : Option Addr} {n c N : Nat} {l : List UInt8} (h : Rw byU 1 W b n c l) (hN : N ≤ n) : Rw byU 1 W b N c (l.take N) := by
  have hl := h.len
  have hroom := h.room
  refine ⟨by rw [List.length_take]; omega, ⟨by omega, hroom.2⟩, fun h0 => ?_⟩
  obtain ⟨g, off, e, hg, hc⟩ := h.cells (by omega)
  refine ⟨g, off, e, hg, fun j x hj i v hv => hc j x ?_ i v hv⟩
  rw [List.getElem?_take] at hj
  split at hj
  · exact hj
  · cases hj
set_option maxHeartbeats 4000000 in
theorem rDid_sync (h : RefAt w r T Kk a c xs) (hn : xs.length ≤ 1073741823) (x : Rf) (hx : x ∈ xs) (hfa : fileA xs x.nm = rfA x)  :
    Calls Try.prog 95 #[.pointer (some ⟨r, 0, none⟩), .agg #[.int .i64 2, .string ⟨x.nm.toArray⟩, .slice none 0 0, .int .i64 0, .int .u8 0]] w fun e w' => e = .returned (.tuple #[]) ∧ RNx w w' r a xs { T with fs := (storeL ⟨x.nm, x.a, x.cap, x.bs, x.bs.length⟩ false xs).map Rf.fl } := by
  obtain ⟨W0, hW0⟩ : ∃ W0, w.alloc (.cells #[.int .i64 2, .string ⟨x.nm.toArray⟩, .slice none 0 0, .int .i64 0, .int .u8 0] 136) = W0 := ⟨_, rfl⟩
  have hs0 : W0.heap.size = w.heap.size + 1 := by rw [← hW0, World.size_alloc]
  have hb0 : Below w.heap.size w W0 := by rw [← hW0]; exact (Below.refl _ _).alloc (Nat.le_refl _) _
  have hq0 : W0.heap[w.heap.size]? = some (.cells #[.int .i64 2, .string ⟨x.nm.toArray⟩, .slice none 0 0, .int .i64 0, .int .u8 0] 136) := by rw [← hW0]; exact (MapKept.heap_alloc w _).1
  have hR := h.below hb0
  obtain ⟨d0, d1, d2, d3, d4⟩ := box5 hq0
  have HFI : Hid (Calls Try.prog 90 #[.pointer (some ⟨r, 0, none⟩), .string ⟨x.nm.toArray⟩] W0 fun e w' => e = .returned (.agg #[.string ⟨x.nm.toArray⟩, .bool true, .slice x.a x.bs.length x.cap, .int .i64 (x.syn : Int)]) ∧ Below W0.heap.size W0 w') := by have := rFile hR (by omega) x.nm; rwa [hfa] at this
  have HH : Hid (RefAt w r T Kk a c xs ∧ Below w.heap.size w W0 ∧ W0.heap[w.heap.size]? = some (.cells #[.int .i64 2, .string ⟨x.nm.toArray⟩, .slice none 0 0, .int .i64 0, .int .u8 0] 136) ∧ xs.length ≤ 1073741823 ∧ W0.heap.size = w.heap.size + 1) := ⟨h, hb0, hq0, hn, hs0⟩
  have HX : Hid (x ∈ xs ∧ Rw byU 1 w x.a x.bs.length x.cap x.bs ∧ x.syn ≤ x.bs.length) := ⟨hx, h.bys x hx, h.syn x hx⟩
  clear h hb0 hq0 hs0 hR hfa hn hx 
  go_enter Try.func95, Try.ntmps95
  go_wp2_with fail
  refine (HFI.out).mono ?_
  rintro e w1 ⟨rfl, hb1⟩
  obtain ⟨V5, hV5⟩ : ∃ V5, w1.alloc (.cells #[.string ⟨#[]⟩, .bool false, .slice none 0 0, .int .i64 0] 126) = V5 := ⟨_, rfl⟩
  have hV5b : Below w1.heap.size w1 V5 := by rw [← hV5]; exact (Below.refl _ _).alloc (Nat.le_refl _) _
  have hV5h : V5.heap[w1.heap.size]? = some (.cells #[.string ⟨#[]⟩, .bool false, .slice none 0 0, .int .i64 0] 126) := by rw [← hV5]; exact (MapKept.heap_alloc w1 _).1
  obtain ⟨V6, hV6, hh9, hC9⟩ := set4 hV5h (.string ⟨x.nm.toArray⟩) (.bool true) (.slice x.a x.bs.length x.cap) (.int .i64 (x.syn : Int))
  obtain ⟨y0, y1, y2, y3⟩ := box4 hV5h
  have k0 := Lib.frozen_of_heap hV5h 0
  have k1 := Lib.frozen_of_heap hV5h 1
  have k2 := Lib.frozen_of_heap hV5h 2
  have k3 := Lib.frozen_of_heap hV5h 3
  obtain ⟨t0, t1, t2, t3⟩ := box4 hh9
  have hb6 : Below W0.heap.size W0 V6 := (hb1.trans (hV5b.mono hb1.size)).trans (hC9.below (fun g e => by have := hb1.size; omega) (by have := hb1.size; have := hV5b.size; omega))
  have hd6 : V6.heap[w.heap.size]? = some (.cells #[.int .i64 2, .string ⟨x.nm.toArray⟩, .slice none 0 0, .int .i64 0, .int .u8 0] 136) := (hb6.block _ (by have := HH.out.2.2.2.2; omega)).trans HH.out.2.2.1
  have H6 : Hid (V6.heap[w1.heap.size]? = some (.cells #[.string ⟨x.nm.toArray⟩, .bool true, .slice x.a x.bs.length x.cap, .int .i64 (x.syn : Int)] 126) ∧ V6.heap[w.heap.size]? = some (.cells #[.int .i64 2, .string ⟨x.nm.toArray⟩, .slice none 0 0, .int .i64 0, .int .u8 0] 136) ∧ Below W0.heap.size W0 V6 ∧ W0.heap.size ≤ w1.heap.size ∧ w1.heap.size < V6.heap.size) := ⟨hh9, hd6, hb6, hb1.size, (Array.getElem?_eq_some_iff.1 hh9).1⟩
  obtain ⟨e0, e1, e2, e3, e4⟩ := box5 hd6
  have j0 := Lib.frozen_of_heap hh9 0
  have j1 := Lib.frozen_of_heap hh9 1
  have j2 := Lib.frozen_of_heap hh9 2
  have j3 := Lib.frozen_of_heap hh9 3
  clear hb1 hV5b hV5h hC9 hh9 hb6 hd6
  obtain ⟨V8, hV8, hf8, hC8⟩ : ∃ V8, V6.setCell ⟨w1.heap.size, 3, none⟩ (.int .i64 (x.bs.length : Int)) = V8 ∧ V8.heap[w1.heap.size]? = some (.cells #[.string ⟨x.nm.toArray⟩, .bool true, .slice x.a x.bs.length x.cap, .int .i64 (x.bs.length : Int)] 126) ∧ Chg (fun g => g = w1.heap.size) V6 V8 := by
    have e0 := heap_setCell_cells H6.out.1 3 (.int .i64 (x.bs.length : Int))
    have hs : ∀ (i : Nat) (W : World) (u : Value), Chg (fun g => g = w1.heap.size) W (W.setCell ⟨w1.heap.size, i, none⟩ u) := fun i W u => Chg.set (D := fun g => g = w1.heap.size) (q := w1.heap.size) i W u rfl
    exact ⟨_, rfl, e0, hs 3 _ _⟩
  obtain ⟨h0, h1, h2, h3⟩ := box4 hf8
  have hbw8 : Below w.heap.size w V8 := HH.out.2.1.trans ((H6.out.2.2.1.trans (hC8.below (fun g e => by have := H6.out.2.2.2.1; omega) H6.out.2.2.1.size)).mono HH.out.2.1.size)
  have HST : Hid (Calls Try.prog 91 #[.pointer (some ⟨r, 0, none⟩), .agg #[.string ⟨x.nm.toArray⟩, .bool true, .slice x.a x.bs.length x.cap, .int .i64 (x.bs.length : Int)]] V8 fun e w' => e = .returned (.tuple #[]) ∧ StoreP V8 w' r T Kk (storeL ⟨x.nm, x.a, x.cap, x.bs, x.bs.length⟩ (!true) xs)) := by
    exact rStore (HH.out.1.below hbw8) (by have := HH.out.2.2.2.1; omega) ⟨x.nm, x.a, x.cap, x.bs, x.bs.length⟩ true (fun _ => ⟨HX.out.2.1.below hbw8, Nat.le_refl _, fun q e => ⟨HH.out.1.rx x HX.out.1 q e, by have := HH.out.1.lt _ (.inr (.inr ⟨x, HX.out.1, q, e, rfl⟩)); have := hbw8.size; omega⟩⟩)
  have HEND : Hid (∀ w', StoreP V8 w' r T Kk (storeL ⟨x.nm, x.a, x.cap, x.bs, x.bs.length⟩ (!true) xs) → RNx w w' r a xs { T with fs := (storeL ⟨x.nm, x.a, x.cap, x.bs, x.bs.length⟩ false xs).map Rf.fl }) := fun w' hS => StoreP.nx HH.out.1 hbw8 hS (fun _ q e => .inr (.inr (.inr ⟨x, HX.out.1, q, e, rfl⟩)))
  clear hf8 hC8 hbw8
  go_wp2_with fail
  refine HST.out.mono ?_
  rintro e w9 ⟨rfl, hSP⟩
  have HFN : Hid (RNx w w9 r a xs { T with fs := (storeL ⟨x.nm, x.a, x.cap, x.bs, x.bs.length⟩ false xs).map Rf.fl }) := HEND.out w9 hSP
  clear hSP
  go_wp2_with fail
  go_end0
  exact ⟨rfl, HFN.out⟩
set_option maxHeartbeats 4000000 in
theorem rDid_cut (h : RefAt w r T Kk a c xs) (hn : xs.length ≤ 1073741823) (x : Rf) (hx : x ∈ xs) (hfa : fileA xs x.nm = rfA x) (N : Nat) (hN : N ≤ x.bs.length) :
    Calls Try.prog 95 #[.pointer (some ⟨r, 0, none⟩), .agg #[.int .i64 3, .string ⟨x.nm.toArray⟩, .slice none 0 0, .int .i64 (N : Int), .int .u8 0]] w fun e w' => e = .returned (.tuple #[]) ∧ RNx w w' r a xs { T with fs := (storeL ⟨x.nm, x.a, x.cap, x.bs.take N, min x.syn N⟩ false xs).map Rf.fl } := by
  obtain ⟨W0, hW0⟩ : ∃ W0, w.alloc (.cells #[.int .i64 3, .string ⟨x.nm.toArray⟩, .slice none 0 0, .int .i64 (N : Int), .int .u8 0] 136) = W0 := ⟨_, rfl⟩
  have hs0 : W0.heap.size = w.heap.size + 1 := by rw [← hW0, World.size_alloc]
  have hb0 : Below w.heap.size w W0 := by rw [← hW0]; exact (Below.refl _ _).alloc (Nat.le_refl _) _
  have hq0 : W0.heap[w.heap.size]? = some (.cells #[.int .i64 3, .string ⟨x.nm.toArray⟩, .slice none 0 0, .int .i64 (N : Int), .int .u8 0] 136) := by rw [← hW0]; exact (MapKept.heap_alloc w _).1
  have hR := h.below hb0
  obtain ⟨d0, d1, d2, d3, d4⟩ := box5 hq0
  have HFI : Hid (Calls Try.prog 90 #[.pointer (some ⟨r, 0, none⟩), .string ⟨x.nm.toArray⟩] W0 fun e w' => e = .returned (.agg #[.string ⟨x.nm.toArray⟩, .bool true, .slice x.a x.bs.length x.cap, .int .i64 (x.syn : Int)]) ∧ Below W0.heap.size W0 w') := by have := rFile hR (by omega) x.nm; rwa [hfa] at this
  have HH : Hid (RefAt w r T Kk a c xs ∧ Below w.heap.size w W0 ∧ W0.heap[w.heap.size]? = some (.cells #[.int .i64 3, .string ⟨x.nm.toArray⟩, .slice none 0 0, .int .i64 (N : Int), .int .u8 0] 136) ∧ xs.length ≤ 1073741823 ∧ W0.heap.size = w.heap.size + 1) := ⟨h, hb0, hq0, hn, hs0⟩
  have HX : Hid (x ∈ xs ∧ Rw byU 1 w x.a x.bs.length x.cap x.bs ∧ x.syn ≤ x.bs.length) := ⟨hx, h.bys x hx, h.syn x hx⟩
  have hcut : ∀ W, (Instr.slice 36 (.slice x.a x.bs.length x.cap) none (some (.int .i64 (N : Int))) none).run Try.prog W = .ok (.slice x.a N x.cap) W := fun W => cutU W x.a _ x.cap N (by have := (h.bys x hx).room; omega)
  have HM : ∀ ats ty W, (Builtin.min_ ats ty #[.int .i64 (x.syn : Int), .int .i64 (N : Int)]).run Try.prog W = .ok (.int .i64 ((min x.syn N : Nat) : Int)) W := fun ats ty W => by
    rw [min_run]; congr 2; omega
  have HNN : Hid (N ≤ x.bs.length ∧ (x.bs.take N).length = N) := ⟨hN, by rw [List.length_take]; omega⟩
  clear h hb0 hq0 hs0 hR hfa hn hx hN
  go_enter Try.func95, Try.ntmps95
  go_wp2_with fail
  refine (HFI.out).mono ?_
  rintro e w1 ⟨rfl, hb1⟩
  obtain ⟨V5, hV5⟩ : ∃ V5, w1.alloc (.cells #[.string ⟨#[]⟩, .bool false, .slice none 0 0, .int .i64 0] 126) = V5 := ⟨_, rfl⟩
  have hV5b : Below w1.heap.size w1 V5 := by rw [← hV5]; exact (Below.refl _ _).alloc (Nat.le_refl _) _
  have hV5h : V5.heap[w1.heap.size]? = some (.cells #[.string ⟨#[]⟩, .bool false, .slice none 0 0, .int .i64 0] 126) := by rw [← hV5]; exact (MapKept.heap_alloc w1 _).1
  obtain ⟨V6, hV6, hh9, hC9⟩ := set4 hV5h (.string ⟨x.nm.toArray⟩) (.bool true) (.slice x.a x.bs.length x.cap) (.int .i64 (x.syn : Int))
  obtain ⟨y0, y1, y2, y3⟩ := box4 hV5h
  have k0 := Lib.frozen_of_heap hV5h 0
  have k1 := Lib.frozen_of_heap hV5h 1
  have k2 := Lib.frozen_of_heap hV5h 2
  have k3 := Lib.frozen_of_heap hV5h 3
  obtain ⟨t0, t1, t2, t3⟩ := box4 hh9
  have hb6 : Below W0.heap.size W0 V6 := (hb1.trans (hV5b.mono hb1.size)).trans (hC9.below (fun g e => by have := hb1.size; omega) (by have := hb1.size; have := hV5b.size; omega))
  have hd6 : V6.heap[w.heap.size]? = some (.cells #[.int .i64 3, .string ⟨x.nm.toArray⟩, .slice none 0 0, .int .i64 (N : Int), .int .u8 0] 136) := (hb6.block _ (by have := HH.out.2.2.2.2; omega)).trans HH.out.2.2.1
  have H6 : Hid (V6.heap[w1.heap.size]? = some (.cells #[.string ⟨x.nm.toArray⟩, .bool true, .slice x.a x.bs.length x.cap, .int .i64 (x.syn : Int)] 126) ∧ V6.heap[w.heap.size]? = some (.cells #[.int .i64 3, .string ⟨x.nm.toArray⟩, .slice none 0 0, .int .i64 (N : Int), .int .u8 0] 136) ∧ Below W0.heap.size W0 V6 ∧ W0.heap.size ≤ w1.heap.size ∧ w1.heap.size < V6.heap.size) := ⟨hh9, hd6, hb6, hb1.size, (Array.getElem?_eq_some_iff.1 hh9).1⟩
  obtain ⟨e0, e1, e2, e3, e4⟩ := box5 hd6
  have j0 := Lib.frozen_of_heap hh9 0
  have j1 := Lib.frozen_of_heap hh9 1
  have j2 := Lib.frozen_of_heap hh9 2
  have j3 := Lib.frozen_of_heap hh9 3
  clear hb1 hV5b hV5h hC9 hh9 hb6 hd6
  obtain ⟨V8, hV8, hf8, hC8⟩ : ∃ V8, (V6.setCell ⟨w1.heap.size, 2, none⟩ (.slice x.a N x.cap)).setCell ⟨w1.heap.size, 3, none⟩ (.int .i64 ((min x.syn N : Nat) : Int)) = V8 ∧ V8.heap[w1.heap.size]? = some (.cells #[.string ⟨x.nm.toArray⟩, .bool true, .slice x.a N x.cap, .int .i64 ((min x.syn N : Nat) : Int)] 126) ∧ Chg (fun g => g = w1.heap.size) V6 V8 := by
    have e0 := heap_setCell_cells H6.out.1 2 (.slice x.a N x.cap)
    have e1 := heap_setCell_cells e0 3 (.int .i64 ((min x.syn N : Nat) : Int))
    have hs : ∀ (i : Nat) (W : World) (u : Value), Chg (fun g => g = w1.heap.size) W (W.setCell ⟨w1.heap.size, i, none⟩ u) := fun i W u => Chg.set (D := fun g => g = w1.heap.size) (q := w1.heap.size) i W u rfl
    exact ⟨_, rfl, e1, (hs 2 _ _).trans (hs 3 _ _)⟩
  obtain ⟨h0, h1, h2, h3⟩ := box4 hf8
  have hbw8 : Below w.heap.size w V8 := HH.out.2.1.trans ((H6.out.2.2.1.trans (hC8.below (fun g e => by have := H6.out.2.2.2.1; omega) H6.out.2.2.1.size)).mono HH.out.2.1.size)
  have HST : Hid (Calls Try.prog 91 #[.pointer (some ⟨r, 0, none⟩), .agg #[.string ⟨x.nm.toArray⟩, .bool true, .slice x.a N x.cap, .int .i64 ((min x.syn N : Nat) : Int)]] V8 fun e w' => e = .returned (.tuple #[]) ∧ StoreP V8 w' r T Kk (storeL ⟨x.nm, x.a, x.cap, x.bs.take N, min x.syn N⟩ (!true) xs)) := by
    have hc := rStore (HH.out.1.below hbw8) (by have := HH.out.2.2.2.1; omega) ⟨x.nm, x.a, x.cap, x.bs.take N, min x.syn N⟩ true (fun _ => ⟨by simp only [HNN.out.2]; exact rw_take (HX.out.2.1.below hbw8) HNN.out.1, by simp only [HNN.out.2]; omega, fun q e => ⟨HH.out.1.rx x HX.out.1 q e, by have := HH.out.1.lt _ (.inr (.inr ⟨x, HX.out.1, q, e, rfl⟩)); have := hbw8.size; omega⟩⟩)
    simp only [HNN.out.2] at hc
    exact hc
  have HEND : Hid (∀ w', StoreP V8 w' r T Kk (storeL ⟨x.nm, x.a, x.cap, x.bs.take N, min x.syn N⟩ (!true) xs) → RNx w w' r a xs { T with fs := (storeL ⟨x.nm, x.a, x.cap, x.bs.take N, min x.syn N⟩ false xs).map Rf.fl }) := fun w' hS => StoreP.nx HH.out.1 hbw8 hS (fun _ q e => .inr (.inr (.inr ⟨x, HX.out.1, q, e, rfl⟩)))
  clear hf8 hC8 hbw8
  go_wp2_with fail
  refine HST.out.mono ?_
  rintro e w9 ⟨rfl, hSP⟩
  have HFN : Hid (RNx w w9 r a xs { T with fs := (storeL ⟨x.nm, x.a, x.cap, x.bs.take N, min x.syn N⟩ false xs).map Rf.fl }) := HEND.out w9 hSP
  clear hSP
  go_wp2_with fail
  go_end0
  exact ⟨rfl, HFN.out⟩
set_option maxHeartbeats 4000000 in
theorem rDid_gone (h : RefAt w r T Kk a c xs) (hn : xs.length ≤ 1073741823) (x : Rf) (hx : x ∈ xs) (hfa : fileA xs x.nm = rfA x)  :
    Calls Try.prog 95 #[.pointer (some ⟨r, 0, none⟩), .agg #[.int .i64 4, .string ⟨x.nm.toArray⟩, .slice none 0 0, .int .i64 0, .int .u8 0]] w fun e w' => e = .returned (.tuple #[]) ∧ RNx w w' r a xs { T with fs := (storeL x true xs).map Rf.fl } := by
  obtain ⟨W0, hW0⟩ : ∃ W0, w.alloc (.cells #[.int .i64 4, .string ⟨x.nm.toArray⟩, .slice none 0 0, .int .i64 0, .int .u8 0] 136) = W0 := ⟨_, rfl⟩
  have hs0 : W0.heap.size = w.heap.size + 1 := by rw [← hW0, World.size_alloc]
  have hb0 : Below w.heap.size w W0 := by rw [← hW0]; exact (Below.refl _ _).alloc (Nat.le_refl _) _
  have hq0 : W0.heap[w.heap.size]? = some (.cells #[.int .i64 4, .string ⟨x.nm.toArray⟩, .slice none 0 0, .int .i64 0, .int .u8 0] 136) := by rw [← hW0]; exact (MapKept.heap_alloc w _).1
  have hR := h.below hb0
  obtain ⟨d0, d1, d2, d3, d4⟩ := box5 hq0
  have HFI : Hid (Calls Try.prog 90 #[.pointer (some ⟨r, 0, none⟩), .string ⟨x.nm.toArray⟩] W0 fun e w' => e = .returned (.agg #[.string ⟨x.nm.toArray⟩, .bool true, .slice x.a x.bs.length x.cap, .int .i64 (x.syn : Int)]) ∧ Below W0.heap.size W0 w') := by have := rFile hR (by omega) x.nm; rwa [hfa] at this
  have HH : Hid (RefAt w r T Kk a c xs ∧ Below w.heap.size w W0 ∧ W0.heap[w.heap.size]? = some (.cells #[.int .i64 4, .string ⟨x.nm.toArray⟩, .slice none 0 0, .int .i64 0, .int .u8 0] 136) ∧ xs.length ≤ 1073741823 ∧ W0.heap.size = w.heap.size + 1) := ⟨h, hb0, hq0, hn, hs0⟩
  have HX : Hid (x ∈ xs ∧ Rw byU 1 w x.a x.bs.length x.cap x.bs ∧ x.syn ≤ x.bs.length) := ⟨hx, h.bys x hx, h.syn x hx⟩
  clear h hb0 hq0 hs0 hR hfa hn hx 
  go_enter Try.func95, Try.ntmps95
  go_wp2_with fail
  refine (HFI.out).mono ?_
  rintro e w1 ⟨rfl, hb1⟩
  obtain ⟨V5, hV5⟩ : ∃ V5, w1.alloc (.cells #[.string ⟨#[]⟩, .bool false, .slice none 0 0, .int .i64 0] 126) = V5 := ⟨_, rfl⟩
  have hV5b : Below w1.heap.size w1 V5 := by rw [← hV5]; exact (Below.refl _ _).alloc (Nat.le_refl _) _
  have hV5h : V5.heap[w1.heap.size]? = some (.cells #[.string ⟨#[]⟩, .bool false, .slice none 0 0, .int .i64 0] 126) := by rw [← hV5]; exact (MapKept.heap_alloc w1 _).1
  obtain ⟨V6, hV6, hh9, hC9⟩ := set4 hV5h (.string ⟨x.nm.toArray⟩) (.bool true) (.slice x.a x.bs.length x.cap) (.int .i64 (x.syn : Int))
  obtain ⟨y0, y1, y2, y3⟩ := box4 hV5h
  have k0 := Lib.frozen_of_heap hV5h 0
  have k1 := Lib.frozen_of_heap hV5h 1
  have k2 := Lib.frozen_of_heap hV5h 2
  have k3 := Lib.frozen_of_heap hV5h 3
  obtain ⟨t0, t1, t2, t3⟩ := box4 hh9
  have hb6 : Below W0.heap.size W0 V6 := (hb1.trans (hV5b.mono hb1.size)).trans (hC9.below (fun g e => by have := hb1.size; omega) (by have := hb1.size; have := hV5b.size; omega))
  have hd6 : V6.heap[w.heap.size]? = some (.cells #[.int .i64 4, .string ⟨x.nm.toArray⟩, .slice none 0 0, .int .i64 0, .int .u8 0] 136) := (hb6.block _ (by have := HH.out.2.2.2.2; omega)).trans HH.out.2.2.1
  have H6 : Hid (V6.heap[w1.heap.size]? = some (.cells #[.string ⟨x.nm.toArray⟩, .bool true, .slice x.a x.bs.length x.cap, .int .i64 (x.syn : Int)] 126) ∧ V6.heap[w.heap.size]? = some (.cells #[.int .i64 4, .string ⟨x.nm.toArray⟩, .slice none 0 0, .int .i64 0, .int .u8 0] 136) ∧ Below W0.heap.size W0 V6 ∧ W0.heap.size ≤ w1.heap.size ∧ w1.heap.size < V6.heap.size) := ⟨hh9, hd6, hb6, hb1.size, (Array.getElem?_eq_some_iff.1 hh9).1⟩
  obtain ⟨e0, e1, e2, e3, e4⟩ := box5 hd6
  have j0 := Lib.frozen_of_heap hh9 0
  have j1 := Lib.frozen_of_heap hh9 1
  have j2 := Lib.frozen_of_heap hh9 2
  have j3 := Lib.frozen_of_heap hh9 3
  clear hb1 hV5b hV5h hC9 hh9 hb6 hd6
  obtain ⟨V8, hV8, hf8, hC8⟩ : ∃ V8, V6.setCell ⟨w1.heap.size, 1, none⟩ (.bool false) = V8 ∧ V8.heap[w1.heap.size]? = some (.cells #[.string ⟨x.nm.toArray⟩, .bool false, .slice x.a x.bs.length x.cap, .int .i64 (x.syn : Int)] 126) ∧ Chg (fun g => g = w1.heap.size) V6 V8 := by
    have e0 := heap_setCell_cells H6.out.1 1 (.bool false)
    have hs : ∀ (i : Nat) (W : World) (u : Value), Chg (fun g => g = w1.heap.size) W (W.setCell ⟨w1.heap.size, i, none⟩ u) := fun i W u => Chg.set (D := fun g => g = w1.heap.size) (q := w1.heap.size) i W u rfl
    exact ⟨_, rfl, e0, hs 1 _ _⟩
  obtain ⟨h0, h1, h2, h3⟩ := box4 hf8
  have hbw8 : Below w.heap.size w V8 := HH.out.2.1.trans ((H6.out.2.2.1.trans (hC8.below (fun g e => by have := H6.out.2.2.2.1; omega) H6.out.2.2.1.size)).mono HH.out.2.1.size)
  have HST : Hid (Calls Try.prog 91 #[.pointer (some ⟨r, 0, none⟩), .agg #[.string ⟨x.nm.toArray⟩, .bool false, .slice x.a x.bs.length x.cap, .int .i64 (x.syn : Int)]] V8 fun e w' => e = .returned (.tuple #[]) ∧ StoreP V8 w' r T Kk (storeL x (!false) xs)) := by
    exact rStore (HH.out.1.below hbw8) (by have := HH.out.2.2.2.1; omega) x false (fun e => by cases e)
  have HEND : Hid (∀ w', StoreP V8 w' r T Kk (storeL x (!false) xs) → RNx w w' r a xs { T with fs := (storeL x true xs).map Rf.fl }) := fun w' hS => StoreP.nx HH.out.1 hbw8 hS (fun _ q e => .inr (.inr (.inr ⟨x, HX.out.1, q, e, rfl⟩)))
  clear hf8 hC8 hbw8
  go_wp2_with fail
  refine HST.out.mono ?_
  rintro e w9 ⟨rfl, hSP⟩
  have HFN : Hid (RNx w w9 r a xs { T with fs := (storeL x true xs).map Rf.fl }) := HEND.out w9 hSP
  clear hSP
  go_wp2_with fail
  go_end0
  exact ⟨rfl, HFN.out⟩
end Go.Proofs.Ytfehgaioioejoaa

/-! The reference's did: turned, crash. -/
namespace Go.Proofs.Ytfehgaioioejoaa
open Go.RowKit Go.Lib
set_option maxRecDepth 100000

variable {w : World} {r c : Nat} {T : Dk} {Kk : Int} {a : Option Addr} {xs : List Rf}
set_option maxHeartbeats 4000000 in
theorem rDid_turn (h : RefAt w r T Kk a c xs) (hn : xs.length ≤ 1073741823) (x : Rf) (hx : x ∈ xs) (hfa : fileA xs x.nm = rfA x) (N : Nat) (hN : N < x.bs.length) (hm : x.bs.length ≤ 1099511627776) (mk : UInt8) :
    Calls Try.prog 95 #[.pointer (some ⟨r, 0, none⟩), .agg #[.int .i64 5, .string ⟨x.nm.toArray⟩, .slice none 0 0, .int .i64 (N : Int), .int .u8 (mk.toNat : Int)]] w fun e w' => e = .returned (.tuple #[]) ∧ DidP w w' r Kk a xs T x.nm (x.bs.set N ((x.bs.getD N 0) ^^^ mk)) x.syn := by
  obtain ⟨W0, hW0⟩ : ∃ W0, w.alloc (.cells #[.int .i64 5, .string ⟨x.nm.toArray⟩, .slice none 0 0, .int .i64 (N : Int), .int .u8 (mk.toNat : Int)] 136) = W0 := ⟨_, rfl⟩
  have hs0 : W0.heap.size = w.heap.size + 1 := by rw [← hW0, World.size_alloc]
  have hb0 : Below w.heap.size w W0 := by rw [← hW0]; exact (Below.refl _ _).alloc (Nat.le_refl _) _
  have hq0 : W0.heap[w.heap.size]? = some (.cells #[.int .i64 5, .string ⟨x.nm.toArray⟩, .slice none 0 0, .int .i64 (N : Int), .int .u8 (mk.toNat : Int)] 136) := by rw [← hW0]; exact (MapKept.heap_alloc w _).1
  have hR := h.below hb0
  obtain ⟨d0, d1, d2, d3, d4⟩ := box5 hq0
  have HFI : Hid (Calls Try.prog 90 #[.pointer (some ⟨r, 0, none⟩), .string ⟨x.nm.toArray⟩] W0 fun e w' => e = .returned (.agg #[.string ⟨x.nm.toArray⟩, .bool true, .slice x.a x.bs.length x.cap, .int .i64 (x.syn : Int)]) ∧ Below W0.heap.size W0 w') := by have := rFile hR (by omega) x.nm; rwa [hfa] at this
  have HH : Hid (RefAt w r T Kk a c xs ∧ Below w.heap.size w W0 ∧ W0.heap[w.heap.size]? = some (.cells #[.int .i64 5, .string ⟨x.nm.toArray⟩, .slice none 0 0, .int .i64 (N : Int), .int .u8 (mk.toNat : Int)] 136) ∧ xs.length ≤ 1073741823 ∧ W0.heap.size = w.heap.size + 1) := ⟨h, hb0, hq0, hn, hs0⟩
  have HX : Hid (x ∈ xs ∧ Rw byU 1 w x.a x.bs.length x.cap x.bs ∧ x.syn ≤ x.bs.length ∧ N < x.bs.length ∧ x.bs.length ≤ 1099511627776) := ⟨hx, h.bys x hx, h.syn x hx, hN, hm⟩
  clear h hb0 hq0 hs0 hR hfa hn hx hN hm
  go_enter Try.func95, Try.ntmps95
  go_wp2_with fail
  refine (HFI.out).mono ?_
  rintro e w1 ⟨rfl, hb1⟩
  obtain ⟨V5, hV5⟩ : ∃ V5, w1.alloc (.cells #[.string ⟨#[]⟩, .bool false, .slice none 0 0, .int .i64 0] 126) = V5 := ⟨_, rfl⟩
  have hV5b : Below w1.heap.size w1 V5 := by rw [← hV5]; exact (Below.refl _ _).alloc (Nat.le_refl _) _
  have hV5h : V5.heap[w1.heap.size]? = some (.cells #[.string ⟨#[]⟩, .bool false, .slice none 0 0, .int .i64 0] 126) := by rw [← hV5]; exact (MapKept.heap_alloc w1 _).1
  obtain ⟨V6, hV6, hh9, hC9⟩ := set4 hV5h (.string ⟨x.nm.toArray⟩) (.bool true) (.slice x.a x.bs.length x.cap) (.int .i64 (x.syn : Int))
  obtain ⟨y0, y1, y2, y3⟩ := box4 hV5h
  have k0 := Lib.frozen_of_heap hV5h 0
  have k1 := Lib.frozen_of_heap hV5h 1
  have k2 := Lib.frozen_of_heap hV5h 2
  have k3 := Lib.frozen_of_heap hV5h 3
  obtain ⟨t0, t1, t2, t3⟩ := box4 hh9
  have hb6 : Below W0.heap.size W0 V6 := (hb1.trans (hV5b.mono hb1.size)).trans (hC9.below (fun g e => by have := hb1.size; omega) (by have := hb1.size; have := hV5b.size; omega))
  have hd6 : V6.heap[w.heap.size]? = some (.cells #[.int .i64 5, .string ⟨x.nm.toArray⟩, .slice none 0 0, .int .i64 (N : Int), .int .u8 (mk.toNat : Int)] 136) := (hb6.block _ (by have := HH.out.2.2.2.2; omega)).trans HH.out.2.2.1
  have H6 : Hid (V6.heap[w1.heap.size]? = some (.cells #[.string ⟨x.nm.toArray⟩, .bool true, .slice x.a x.bs.length x.cap, .int .i64 (x.syn : Int)] 126) ∧ V6.heap[w.heap.size]? = some (.cells #[.int .i64 5, .string ⟨x.nm.toArray⟩, .slice none 0 0, .int .i64 (N : Int), .int .u8 (mk.toNat : Int)] 136) ∧ Below W0.heap.size W0 V6 ∧ W0.heap.size ≤ w1.heap.size ∧ w1.heap.size < V6.heap.size) := ⟨hh9, hd6, hb6, hb1.size, (Array.getElem?_eq_some_iff.1 hh9).1⟩
  obtain ⟨e0, e1, e2, e3, e4⟩ := box5 hd6
  have j0 := Lib.frozen_of_heap hh9 0
  have j1 := Lib.frozen_of_heap hh9 1
  have j2 := Lib.frozen_of_heap hh9 2
  have j3 := Lib.frozen_of_heap hh9 3
  clear hb1 hV5b hV5h hC9 hh9 hb6 hd6
  go_wp2_with fail
  have hbw6 : Below w.heap.size w V6 := HH.out.2.1.trans (H6.out.2.2.1.mono HH.out.2.1.size)
  have HB6 : Hid (Below w.heap.size w V6) := hbw6
  refine (rCopied (HX.out.2.1.below hbw6) (by have := HX.out.2.2.2.2; omega)).mono ?_
  rintro e w2 ⟨a2, c2, rfl, ho2, hb2⟩
  obtain ⟨g2, off, y, hg, hglt, hyy, hcc⟩ := (ho2.rw_ layU).at N HX.out.2.2.2.1
  have hoff : off = 0 := by
    rcases ho2.2 with ⟨e, h9⟩ | ⟨g', cap', cur, e, _⟩
    · have := HX.out.2.2.2.1; omega
    · rw [hg] at e
      simp only [Value.slice.injEq, Option.some.injEq, Addr.mk.injEq, and_true] at e
      exact e.1.2
  subst hg hoff
  have hf2 : w2.heap[w1.heap.size]? = some (.cells #[.string ⟨x.nm.toArray⟩, .bool true, .slice x.a x.bs.length x.cap, .int .i64 (x.syn : Int)] 126) := (hb2.block _ H6.out.2.2.2.2).trans H6.out.1
  have hd2 : w2.heap[w.heap.size]? = some (.cells #[.int .i64 5, .string ⟨x.nm.toArray⟩, .slice none 0 0, .int .i64 (N : Int), .int .u8 (mk.toNat : Int)] 136) := (hb2.block _ (Array.getElem?_eq_some_iff.1 H6.out.2.1).1).trans H6.out.2.1
  have hg2 : V6.heap.size ≤ g2 := ho2.ge rfl
  obtain ⟨V7, hV7⟩ : ∃ V7, w2.setCell ⟨w1.heap.size, 2, none⟩ (.slice (some ⟨g2, 0, none⟩) x.bs.length c2) = V7 := ⟨_, rfl⟩
  have hC7 : Chg (fun g => g = w1.heap.size) w2 V7 := by rw [← hV7]; exact Chg.set 2 w2 _ rfl
  have hf7 : V7.heap[w1.heap.size]? = some (.cells #[.string ⟨x.nm.toArray⟩, .bool true, .slice (some ⟨g2, 0, none⟩) x.bs.length c2, .int .i64 (x.syn : Int)] 126) := by rw [← hV7, heap_setCell_cells hf2 2 _]; rfl
  have hd7 : V7.heap[w.heap.size]? = some (.cells #[.int .i64 5, .string ⟨x.nm.toArray⟩, .slice none 0 0, .int .i64 (N : Int), .int .u8 (mk.toNat : Int)] 136) := hC7.block hd2 (by have := H6.out.2.2.2.1; have := HH.out.2.2.2.2; omega)
  have ho7 := ho2.chg hC7 (fun g hg e => by have := ho2.ge hg; have := H6.out.2.2.2.2; omega)
  have hx7 : V7.cell? ⟨g2, N, none⟩ = some (.int .u8 (y.toNat : Int)) := by
    have h1 := (hC7.cell (p := ⟨g2, N, none⟩) hglt (by have := H6.out.2.2.2.2; show ¬ g2 = _; omega)).trans (by simpa using hcc 0 _ rfl)
    exact h1
  obtain ⟨cur, hcur⟩ := own_blockU ho7 (g := g2) rfl
  have z0 := Lib.frozen_of_heap hcur N
  have hxor := bits_xor_u8 y mk
  obtain ⟨z, hz⟩ : ∃ z, y ^^^ mk = z := ⟨_, rfl⟩
  rw [hz] at hxor
  have hyd : x.bs.getD N 0 = y := by rw [List.getD_eq_getElem?_getD, hyy]; rfl
  obtain ⟨V8, hV8⟩ : ∃ V8, (V7.setCell ⟨g2, N, none⟩ (.int .u8 (z.toNat : Int))).drew = V8 := ⟨_, rfl⟩
  have hC8 : Chg (fun g => g = g2) V7 V8 := by rw [← hV8]; exact (Chg.set (D := fun g => g = g2) N V7 _ rfl).drew
  have ho8 : OwnF byU 1 5 V8 V6.heap.size (.slice (some ⟨g2, 0, none⟩) x.bs.length c2) (x.bs.set N ((x.bs.getD N 0) ^^^ mk)) := by rw [← hV8, hyd, hz]; exact (own_setU ho7 N z).chg (D := fun _ => False) (Chg.refl _ _).drew (fun _ _ f => f)
  have hf8 : V8.heap[w1.heap.size]? = some (.cells #[.string ⟨x.nm.toArray⟩, .bool true, .slice (some ⟨g2, 0, none⟩) x.bs.length c2, .int .i64 (x.syn : Int)] 126) := hC8.block hf7 (by have := H6.out.2.2.2.2; omega)
  have hbw8 : Below w.heap.size w V8 := ((hbw6.trans (hb2.mono hbw6.size)).trans (hC7.below (fun g e => by have := H6.out.2.2.2.1; have := HH.out.2.2.2.2; omega) (by have := hbw6.size; have := hb2.size; omega))).trans (hC8.below (fun g e => by have := hbw6.size; omega) (by have := hbw6.size; have := hb2.size; have := hC7.size; omega))
  have HS8 : Hid (V8.cell? ⟨w1.heap.size, 2, none⟩ = some (.slice (some ⟨g2, 0, none⟩) x.bs.length c2) ∧ V8.cell? ⟨w.heap.size, 3, none⟩ = some (.int .i64 (N : Int)) ∧ V8.cell? ⟨w.heap.size, 4, none⟩ = some (.int .u8 (mk.toNat : Int))) := ⟨(box4 hf8).2.2.1, (box5 (hC8.block hd7 (by have := hbw6.size; have := H6.out.2.2.2.2; have := H6.out.2.2.2.1; have := HH.out.2.2.2.2; omega))).2.2.2.1, (box5 (hC8.block hd7 (by have := hbw6.size; have := H6.out.2.2.2.2; have := H6.out.2.2.2.1; have := HH.out.2.2.2.2; omega))).2.2.2.2⟩
  have hlt8 : g2 < V8.heap.size := ho8.lt rfl
  have hgw : w.heap.size ≤ g2 := Nat.le_trans hbw6.size hg2
  obtain ⟨f0, f1, f2, f3⟩ := box4 hf2
  have q2 := Lib.frozen_of_heap hf2 2
  obtain ⟨p0, p1, p2, p3, p4⟩ := box5 hd7
  obtain ⟨n0, n1, n2, n3⟩ := box4 hf7
  obtain ⟨h0, h1, h2, h3⟩ := box4 hf8
  have hlen : (x.bs.set N ((x.bs.getD N 0) ^^^ mk)).length = x.bs.length := List.length_set ..
  have hcst := rStore (HH.out.1.below hbw8) (by have := HH.out.2.2.2.1; omega) ⟨x.nm, some ⟨g2, 0, none⟩, c2, x.bs.set N ((x.bs.getD N 0) ^^^ mk), x.syn⟩ true (fun _ => ⟨by simp only [hlen]; exact ho8.rw_ layU, by simp only [hlen]; exact HX.out.2.2.1, fun q e => by cases e; exact ⟨by have := HH.out.1.lt r (.inl rfl); show g2 ≠ r; omega, hlt8⟩⟩)
  simp only [hlen] at hcst
  have HST : Hid (Calls Try.prog 91 #[.pointer (some ⟨r, 0, none⟩), .agg #[.string ⟨x.nm.toArray⟩, .bool true, .slice (some ⟨g2, 0, none⟩) x.bs.length c2, .int .i64 (x.syn : Int)]] V8 fun e w' => e = .returned (.tuple #[]) ∧ StoreP V8 w' r T Kk (storeL ⟨x.nm, some ⟨g2, 0, none⟩, c2, x.bs.set N ((x.bs.getD N 0) ^^^ mk), x.syn⟩ (!true) xs)) := hcst
  have HEND : Hid (∀ w', StoreP V8 w' r T Kk (storeL ⟨x.nm, some ⟨g2, 0, none⟩, c2, x.bs.set N ((x.bs.getD N 0) ^^^ mk), x.syn⟩ (!true) xs) → DidP w w' r Kk a xs T x.nm (x.bs.set N ((x.bs.getD N 0) ^^^ mk)) x.syn) := fun w' hS => ⟨⟨x.nm, some ⟨g2, 0, none⟩, c2, x.bs.set N ((x.bs.getD N 0) ^^^ mk), x.syn⟩, rfl, rfl, rfl, StoreP.nk HH.out.1 hbw8 hS (fun _ q e => by cases e; exact .inl hgw)⟩
  have hN2 : (N : Int) < (x.bs.length : Int) := by have := HX.out.2.2.2.1; omega
  have hq : (⟨g2, 0, none⟩ : Addr).add N = ⟨g2, N, none⟩ := by rw [addr_add', Nat.zero_add]
  clear hbw6 ho2 hb2 hglt hyy hcc hf2 hd2 hg2 hC7 hf7 hd7 ho7 hcur hyd hC8 ho8 hf8 hbw8 hlt8 hgw hlen hcst hz
  generalize hb9 : x.bs.set N ((x.bs.getD N 0) ^^^ mk) = b9 at *
  have HB9 : Hid (x.bs.set N ((x.bs.getD N 0) ^^^ mk) = b9) := hb9
  clear hb9
  go_wp2_with fail
  refine wp_region_held_drew (S := (fun W => W.cell? ⟨w1.heap.size, 2, none⟩ = some (.slice (some ⟨g2, 0, none⟩) x.bs.length c2) ∧ W.cell? ⟨w.heap.size, 3, none⟩ = some (.int .i64 (N : Int)) ∧ W.cell? ⟨w.heap.size, 4, none⟩ = some (.int .u8 (mk.toNat : Int)))) (by kernel_rfl) ?hS1 (fun hHeld => ?rest1)
  case hS1 => exact ⟨n2, p3, p4⟩
  refine takeD (i := 0) (d := some 74) (v := ?vT2) rfl rfl (by kernel_rfl) (by kernel_rfl) (by kernel_rfl) (fun _ _ _ h => h) (Or.inl ⟨by rfl, ?hyT2⟩) (by assumption) ?rstT2
  case hyT2 => (intro w hSw; (try dsimp only at hSw); go_simp; (try with_reducible rfl))
  try simp only [Act.put, List.setIfInBounds_toArray, List.set_cons_zero, List.set_cons_succ]
  refine takeD (i := 1) (d := some 75) (v := ?vT3) rfl rfl (by kernel_rfl) (by kernel_rfl) (by kernel_rfl) (fun _ _ _ h => h) (Or.inl ⟨by rfl, ?hyT3⟩) (by assumption) ?rstT3
  case hyT3 => (intro w hSw; (try dsimp only at hSw); go_simp; (try with_reducible rfl))
  try simp only [Act.put, List.setIfInBounds_toArray, List.set_cons_zero, List.set_cons_succ]
  refine takeD (i := 2) (d := some 76) (v := ?vT4) rfl rfl (by kernel_rfl) (by kernel_rfl) (by kernel_rfl) (fun _ _ _ h => h) (Or.inl ⟨by rfl, ?hyT4⟩) (by assumption) ?rstT4
  case hyT4 => (intro w hSw; (try dsimp only at hSw); go_simp; (try with_reducible rfl))
  try simp only [Act.put, List.setIfInBounds_toArray, List.set_cons_zero, List.set_cons_succ]
  refine takeD (i := 3) (d := some 77) (v := ?vT5) rfl rfl (by kernel_rfl) (by kernel_rfl) (by kernel_rfl) (fun _ _ _ h => h) (Or.inl ⟨by rfl, ?hyT5⟩) (by assumption) ?rstT5
  case hyT5 => (intro w hSw; (try dsimp only at hSw); go_simp; (try with_reducible rfl))
  try simp only [Act.put, List.setIfInBounds_toArray, List.set_cons_zero, List.set_cons_succ]
  refine takeD (i := 4) (d := some 78) (v := ?vT6) rfl rfl (by kernel_rfl) (by kernel_rfl) (by kernel_rfl) (fun _ _ _ h => h) (Or.inl ⟨by rfl, ?hyT6⟩) (by assumption) ?rstT6
  case hyT6 => (intro w hSw; (try dsimp only at hSw); go_simp; (try with_reducible rfl))
  try simp only [Act.put, List.setIfInBounds_toArray, List.set_cons_zero, List.set_cons_succ]
  refine takeD (i := 5) (d := some 79) (v := ?vT7) rfl rfl (by kernel_rfl) (by kernel_rfl) (by kernel_rfl) (fun _ _ _ h => h) (Or.inl ⟨by rfl, ?hyT7⟩) (by assumption) ?rstT7
  case hyT7 => (intro w hSw; (try dsimp only at hSw); go_simp; (try with_reducible rfl))
  try simp only [Act.put, List.setIfInBounds_toArray, List.set_cons_zero, List.set_cons_succ]
  refine takeD (i := 6) (d := some 80) (v := ?vT8) rfl rfl (by kernel_rfl) (by kernel_rfl) (by kernel_rfl) (fun _ _ _ h => h) (Or.inl ⟨by rfl, ?hyT8⟩) (by assumption) ?rstT8
  case hyT8 => (intro w hSw; (try dsimp only at hSw); go_simp; (try with_reducible rfl))
  try simp only [Act.put, List.setIfInBounds_toArray, List.set_cons_zero, List.set_cons_succ]
  refine takeD (i := 7) (d := some 81) (v := ?vT9) rfl rfl (by kernel_rfl) (by kernel_rfl) (by kernel_rfl) (fun _ _ _ h => h) (Or.inl ⟨by rfl, ?hyT9⟩) (by assumption) ?rstT9
  case hyT9 => (intro w hSw; (try dsimp only at hSw); go_simp; (try with_reducible rfl))
  try simp only [Act.put, List.setIfInBounds_toArray, List.set_cons_zero, List.set_cons_succ]
  refine takeD (i := 8) (d := some 82) (v := ?vT10) rfl rfl (by kernel_rfl) (by kernel_rfl) (by kernel_rfl) (fun _ _ _ h => h) (Or.inl ⟨by rfl, ?hyT10⟩) (by assumption) ?rstT10
  case hyT10 => (intro w hSw; (try dsimp only at hSw); go_simp; (try with_reducible rfl))
  try simp only [Act.put, List.setIfInBounds_toArray, List.set_cons_zero, List.set_cons_succ]
  refine takeD (i := 10) (d := some 84) (v := ?vT11) rfl rfl (by kernel_rfl) (by kernel_rfl) (by kernel_rfl) (fun _ _ _ h => h) (Or.inl ⟨by rfl, ?hyT11⟩) (by assumption) ?rstT11
  case hyT11 => (intro w hSw; (try dsimp only at hSw); go_simp; (try with_reducible rfl))
  try simp only [Act.put, List.setIfInBounds_toArray, List.set_cons_zero, List.set_cons_succ]
  refine takeD (i := 11) (d := some 85) (v := ?vT12) rfl rfl (by kernel_rfl) (by kernel_rfl) (by kernel_rfl) (fun _ _ _ h => h) (Or.inl ⟨by rfl, ?hyT12⟩) (by assumption) ?rstT12
  case hyT12 => (intro w hSw; (try dsimp only at hSw); go_simp; (try with_reducible rfl))
  try simp only [Act.put, List.setIfInBounds_toArray, List.set_cons_zero, List.set_cons_succ]
  refine wpAnyH_ready (rs := [9]) (by kernel_rfl) (by simp) ?_
  refine AllReadyH.cons rfl (fun K hK => ?_) AllReadyH.nil
  go_simp
  clear hHeld
  refine hK.out _ _ ?hS13 (fun hHeld => ?rest13)
  case hS13 => exact ⟨n2, p3, p4⟩
  clear hK K
  try simp only [Act.put, List.setIfInBounds_toArray, List.set_cons_zero, List.set_cons_succ]
  refine takeD (i := 12) (d := some 86) (v := ?vT14) rfl rfl (by kernel_rfl) (by kernel_rfl) (by kernel_rfl) (fun _ _ _ h => h) (Or.inl ⟨by rfl, ?hyT14⟩) (by assumption) ?rstT14
  case hyT14 => (intro w hSw; (try dsimp only at hSw); go_simp; (try with_reducible rfl))
  try simp only [Act.put, List.setIfInBounds_toArray, List.set_cons_zero, List.set_cons_succ]
  refine takeD (i := 13) (d := some 87) (v := ?vT15) rfl rfl (by kernel_rfl) (by kernel_rfl) (by kernel_rfl) (fun _ _ _ h => h) (Or.inl ⟨by rfl, ?hyT15⟩) (by assumption) ?rstT15
  case hyT15 => (intro w hSw; (try dsimp only at hSw); go_simp; (try with_reducible rfl))
  try simp only [Act.put, List.setIfInBounds_toArray, List.set_cons_zero, List.set_cons_succ]
  refine wpAnyH_ready (rs := [14]) (by kernel_rfl) (by simp) ?_
  refine AllReadyH.cons rfl (fun K hK => ?_) AllReadyH.nil
  go_simp
  clear hHeld
  refine hK.out _ _ ?hS16 (fun hHeld => ?rest16)
  case hS16 => exact HS8.out
  clear hK K
  try simp only [Act.put, List.setIfInBounds_toArray, List.set_cons_zero, List.set_cons_succ]
  refine wpAnyH_done (by kernel_rfl) ?_ _
  go_wp2_with fail
  refine HST.out.mono ?_
  rintro e w9 ⟨rfl, hSP⟩
  have HFN : Hid (DidP w w9 r Kk a xs T x.nm b9 x.syn) := HEND.out w9 hSP
  clear hSP
  go_wp2_with fail
  go_end0
  exact ⟨rfl, by rw [HB9.out]; exact HFN.out⟩
end Go.Proofs.Ytfehgaioioejoaa

/-! The reference's did: crash. -/
namespace Go.Proofs.Ytfehgaioioejoaa
open Go.RowKit Go.Lib
set_option maxRecDepth 100000

/-- What a crash leaves of a file. -/
def survN (k : Nat) (x : Rf) : Nat := x.syn + min k (x.bs.length - x.syn)
def survF (k : Nat) (x : Rf) : Rf := ⟨x.nm, x.a, x.cap, x.bs.take (survN k x), survN k x⟩
def survL (k : Nat) (xs : List Rf) : List Rf := (xs.map (survF k)).filter (fun x => decide (0 < x.syn))
theorem storeL_true {f : Rf} : ∀ {B : List Rf}, (∀ y ∈ B, y.nm ≠ f.nm) → storeL f true B = B
  | [], _ => rfl
  | g :: t, h => by
    unfold storeL
    have h1 := h g (List.mem_cons_self ..)
    simp only [Bool.not_true, Bool.false_and, Bool.true_or, if_neg h1]
    have := storeL_true (f := f) (B := t) (fun y hy => h y (List.mem_cons_of_mem _ hy))
    simp [this]
theorem storeL_hit {f x : Rf} (hx : x.nm = f.nm) {B : List Rf} (hB : ∀ y ∈ B, y.nm ≠ f.nm) : ∀ {A : List Rf} (dn : Bool), (∀ y ∈ A, y.nm ≠ f.nm ∧ Op.bytesLess f.nm y.nm = false) → storeL f dn (A ++ x :: B) = A ++ ((if dn then [] else [f]) ++ B)
  | [], dn, _ => by
    rw [List.nil_append, List.nil_append, storeL, hx, less_irrefl]
    cases dn <;> simp [storeL_true hB]
  | g :: t, dn, h => by
    have h1 := h g (List.mem_cons_self ..)
    have := storeL_hit hx hB (A := t) dn (fun y hy => h y (List.mem_cons_of_mem _ hy))
    rw [List.cons_append, storeL, h1.2, if_neg h1.1]
    simp [this, h1.1]
def Str (xs : List Rf) : Prop := xs.Pairwise (fun x y => Lib.compareBytes x.nm y.nm < 0)
theorem less_asymm {a b : List UInt8} (h : Lib.compareBytes a b < 0) : b ≠ a ∧ a ≠ b ∧ Op.bytesLess b a = false := by
  have h1 : ¬ Lib.compareBytes b a < 0 := fun h2 => by
    have := cmp_trans a b a h h2
    rw [cmp_self] at this
    omega
  refine ⟨fun e => ?_, fun e => ?_, by rw [bytesLess_cmp]; exact decide_eq_false h1⟩
  · subst e; exact h1 h
  · subst e; exact h1 h
theorem survL_nm {k : Nat} {xs : List Rf} {y : Rf} (h : y ∈ survL k xs) : ∃ x ∈ xs, x.nm = y.nm ∧ x.a = y.a := by
  obtain ⟨h1, _⟩ := List.mem_filter.1 h
  obtain ⟨x, hx, rfl⟩ := List.mem_map.1 h1
  exact ⟨x, hx, rfl, rfl⟩
theorem survL_step {k i : Nat} {xs : List Rf} {o : Rf} (hs : Str xs) (ho : xs[i]? = some o) : storeL (survF k o) (!(decide (0 < survN k o))) (survL k (xs.take i) ++ xs.drop i) = survL k (xs.take (i + 1)) ++ xs.drop (i + 1) := by
  have e := drop_at ho
  have hsplit : xs = xs.take i ++ o :: xs.drop (i + 1) := by rw [← e, List.take_append_drop]
  unfold Str at hs
  rw [hsplit, List.pairwise_append, List.pairwise_cons] at hs
  obtain ⟨_, ⟨h2, _⟩, h3⟩ := hs
  rw [e, storeL_hit (f := survF k o) (x := o) rfl (fun y hy => (less_asymm (h2 y hy)).1) _ (fun y hy => by
    obtain ⟨z, hz, hn, _⟩ := survL_nm hy
    have := less_asymm (h3 z hz o (List.mem_cons_self ..))
    rw [← hn]
    exact ⟨this.2.1, this.2.2⟩)]
  rw [← List.append_assoc]
  congr 1
  unfold survL
  rw [List.take_add_one, ho]
  simp only [Option.toList_some, List.map_append, List.map_cons, List.map_nil, List.filter_append]
  congr 1
  by_cases h0 : 0 < survN k o
  · simp [h0, survF]
  · simp [h0, survF]
variable {w : World} {r c : Nat} {T : Dk} {Kk : Int} {a : Option Addr} {xs : List Rf}
/-- Where the crash stands. -/
structure CrI (w W0 wr : World) (r : Nat) (T : Dk) (Kk : Int) (a : Option Addr) (xs : List Rf) (L : List Rf) : Prop where
  at_ : ∃ a' c', RefAt wr r { T with fs := L.map Rf.fl } Kk a' c' L ∧ ∀ g, RB r a' L g → RB r a xs g ∨ w.heap.size ≤ g
  chg : Chg (fun g => g = r) W0 wr
/-- One store of the crash. -/
theorem crash_store {W0 wo w2 : World} {k i N : Nat} {o : Rf} (h : RefAt w r T Kk a c xs) (hb0 : Below w.heap.size w W0) (hn : xs.length ≤ 1073741823) (hst : Str xs) (hS : CrI w W0 wo r T Kk a xs (survL k (xs.take i) ++ xs.drop i)) (ho : xs[i]? = some o) (hN : survN k o = N) (h2 : Below wo.heap.size wo w2) :
    Calls Try.prog 91 #[.pointer (some ⟨r, 0, none⟩), .agg #[.string ⟨o.nm.toArray⟩, .bool (decide (0 < N)), .slice o.a N o.cap, .int .i64 (N : Int)]] w2 fun e w' => e = .returned (.tuple #[]) ∧ CrI w W0 w' r T Kk a xs (survL k (xs.take (i + 1)) ++ xs.drop (i + 1)) := by
  have hmem : o ∈ xs := List.mem_of_getElem? ho
  have hsy := h.syn o hmem
  have hNl : N ≤ o.bs.length := by rw [← hN]; unfold survN; omega
  have htk : (o.bs.take N).length = N := by rw [List.length_take]; omega
  obtain ⟨a', c', h1, hr1⟩ := hS.at_
  have hsz := hS.chg.size
  have hszw := hb0.size
  have hs2 := h2.size
  have hall : Chg (fun g => g = r) w w2 := (Chg.of_below hb0).trans (hS.chg.trans (Chg.of_below h2))
  have hlen : (survL k (xs.take i) ++ xs.drop i).length ≤ 1073741824 := by
    have h5 : (survL k (xs.take i)).length ≤ (xs.take i).length := Nat.le_trans (List.length_filter_le _ _) (by rw [List.length_map]; exact Nat.le_refl _)
    have h6 := congrArg List.length (List.take_append_drop i xs)
    rw [List.length_append] at h6 ⊢
    omega
  have hsf : survF k o = ⟨o.nm, o.a, o.cap, o.bs.take N, N⟩ := by unfold survF; rw [hN]
  have hstep := survL_step (k := k) hst ho
  rw [hsf, hN] at hstep
  have hcs := rStore (h1.below h2) hlen ⟨o.nm, o.a, o.cap, o.bs.take N, N⟩ (decide (0 < N)) (fun _ => ⟨by simp only [htk]; exact (rw_take (h.bys o hmem) hNl).chg hall (fun q e => h.rx o hmem q e), by simp only [htk]; exact Nat.le_refl _, fun q e => ⟨h.rx o hmem q e, by have := h.lt _ (.inr (.inr ⟨o, hmem, q, e, rfl⟩)); omega⟩⟩)
  rw [hstep] at hcs
  simp only [htk] at hcs
  refine hcs.mono ?_
  rintro e w3 ⟨rfl, a3, c3, k1, k2, k3⟩
  refine ⟨rfl, ⟨a3, c3, k1, fun g hg => ?_⟩, hS.chg.trans ((Chg.of_below h2).trans k2)⟩
  rcases hg with rfl | ⟨q, e, rfl⟩ | ⟨x, hx, q, e, rfl⟩
  · exact .inl (.inl rfl)
  · exact .inr (by have := k3 q e; omega)
  · rcases List.mem_append.1 hx with hx | hx
    · obtain ⟨y, hy, _, hya⟩ := survL_nm hx
      exact .inl (.inr (.inr ⟨y, List.mem_of_mem_take hy, q, hya.trans e, rfl⟩))
    · exact .inl (.inr (.inr ⟨x, List.mem_of_mem_drop hx, q, e, rfl⟩))
set_option maxHeartbeats 4000000 in
theorem rDid_crash (h : RefAt w r T Kk a c xs) (hn : xs.length ≤ 1073741823) (k : Nat) (hst : Str xs) (hu : ∀ x ∈ xs, x.bs.length ≤ 1099511627776) :
    Calls Try.prog 95 #[.pointer (some ⟨r, 0, none⟩), .agg #[.int .i64 6, .string ⟨#[]⟩, .slice none 0 0, .int .i64 (k : Int), .int .u8 0]] w fun e w' => e = .returned (.tuple #[]) ∧ RNx w w' r a xs { T with fs := (survL k xs).map Rf.fl } := by
  obtain ⟨W0, hW0⟩ : ∃ W0, w.alloc (.cells #[.int .i64 6, .string ⟨#[]⟩, .slice none 0 0, .int .i64 (k : Int), .int .u8 0] 136) = W0 := ⟨_, rfl⟩
  have hs0 : W0.heap.size = w.heap.size + 1 := by rw [← hW0, World.size_alloc]
  have hb0 : Below w.heap.size w W0 := by rw [← hW0]; exact (Below.refl _ _).alloc (Nat.le_refl _) _
  have hq0 : W0.heap[w.heap.size]? = some (.cells #[.int .i64 6, .string ⟨#[]⟩, .slice none 0 0, .int .i64 (k : Int), .int .u8 0] 136) := by rw [← hW0]; exact (MapKept.heap_alloc w _).1
  have hR := h.below hb0
  obtain ⟨d0, d1, d2, d3, d4⟩ := box5 hq0
  obtain ⟨c0, c1, c2, c3, c4⟩ := box5 hR.box
  have HH : Hid (RefAt w r T Kk a c xs ∧ Below w.heap.size w W0 ∧ W0.heap[w.heap.size]? = some (.cells #[.int .i64 6, .string ⟨#[]⟩, .slice none 0 0, .int .i64 (k : Int), .int .u8 0] 136) ∧ xs.length ≤ 1073741823 ∧ W0.heap.size = w.heap.size + 1 ∧ Str xs ∧ (∀ x ∈ xs, x.bs.length ≤ 1099511627776)) := ⟨h, hb0, hq0, hn, hs0, hst, hu⟩
  have hnc : (xs.length : Int) ≤ 1073741823 := by omega
  have HR0 : Hid (RefAt W0 r T Kk a c xs) := hR
  clear h hb0 hq0 hs0 hR hn hst hu c0 c2 c3 c4
  obtain ⟨n, hn⟩ : ∃ n, xs.length = n := ⟨_, rfl⟩
  have HN : Hid (xs.length = n) := hn
  rw [hn] at c1 hnc
  clear hn
  go_enter Try.func95, Try.ntmps95
  go_wp2_with fail
  clear d0 d1 d2 d3 d4 c1 hW0
  go_loopw [5] (fun vi wr => ∃ i : Nat, i ≤ n ∧ vi = .int .i64 (i : Int) ∧ Hid (CrI w W0 wr r T Kk a xs (survL k (xs.take i) ++ xs.drop i))) (fun vi _ => n - (RowKit.intOf vi).toNat)
  case atStart => exact ⟨0, Nat.zero_le _, rfl, ⟨⟨a, c, by have := HR0.out; have e := this.fs; simp only [survL, List.take_zero, List.map_nil, List.filter_nil, List.nil_append, List.drop_zero]; rw [← e]; exact this, by simp only [survL, List.take_zero, List.map_nil, List.filter_nil, List.nil_append, List.drop_zero]; exact fun g hg => .inl hg⟩, Chg.refl _ _⟩⟩
  case round =>
    obtain ⟨wo, hwo⟩ : ∃ wo, wo = wr := ⟨_, rfl⟩
    subst hwo
    obtain ⟨i, hi, rfl, hS⟩ := hrel
    by_cases hlt : i < n
    · have hlt2 : (i : Int) < (n : Int) := by omega
      have gi : IntKind.i64.wrap ((i : Int) + 1) = ((i + 1 : Nat) : Int) := by rw [IntWalk.i64_in _ (by omega)]; omega
      have hrow := HR0.out.row
      rw [HN.out] at hrow
      obtain ⟨g, off, o, hoa, hgl, hoi, hcell⟩ := hrow.at i hlt
      have hgr : g ≠ r := HR0.out.ra _ hoa
      have hrw : r < w.heap.size := HH.out.1.lt r (.inl rfl)
      subst hoa
      have HKP : Hid (∀ W, Chg (fun q => q = r) W0 W → (W.cell? ⟨g, off + i * 4, none⟩ = some (.string ⟨o.nm.toArray⟩) ∧ W.cell? ⟨g, off + i * 4 + 1, none⟩ = some (.bool true) ∧ W.cell? ⟨g, off + i * 4 + 2, none⟩ = some (.slice o.a o.bs.length o.cap) ∧ W.cell? ⟨g, off + i * 4 + 3, none⟩ = some (.int .i64 (o.syn : Int)) ∧ W.cell? ⟨w.heap.size, 3, none⟩ = some (.int .i64 (k : Int)))) := fun W hC => by
        have hp : ∀ m, W.cell? ⟨g, m, none⟩ = W0.cell? ⟨g, m, none⟩ := fun m => hC.cell (p := ⟨g, m, none⟩) hgl hgr
        refine ⟨?_, (hp _).trans (hcell 1 _ rfl), (hp _).trans (hcell 2 _ rfl), (hp _).trans (hcell 3 _ rfl), (box5 (hC.block HH.out.2.2.1 (by omega))).2.2.2.1⟩
        have := (hp (off + i * 4)).trans (by simpa using hcell 0 _ rfl)
        exact this
      have hmem : o ∈ xs := List.mem_of_getElem? hoi
      have HO : Hid (o ∈ xs ∧ xs[i]? = some o ∧ o.syn ≤ o.bs.length ∧ o.bs.length ≤ 1099511627776 ∧ o.bs.length ≤ o.cap ∧ o.cap ≤ 9223372036854775807 ∧ (o.bs.take (survN k o)).length = survN k o) := by
        have h1 := HH.out.1.syn o hmem
        have h2 := (HH.out.1.bys o hmem).room
        refine ⟨hmem, hoi, h1, HH.out.2.2.2.2.2.2 o hmem, h2.1, by have := h2.2; simp only [maxLen] at this; omega, ?_⟩
        rw [List.length_take]
        unfold survN
        omega
      obtain ⟨N, hN⟩ : ∃ N, survN k o = N := ⟨_, rfl⟩
      have HNV : Hid (survN k o = N) := hN
      have HSV : Hid (∀ W, Calls Try.prog 104 #[.agg #[.string ⟨o.nm.toArray⟩, .bool true, .slice o.a o.bs.length o.cap, .int .i64 (o.syn : Int)], .int .i64 (k : Int)] W fun e w' => e = .returned (.agg #[.string ⟨o.nm.toArray⟩, .bool (decide (0 < N)), .slice o.a N o.cap, .int .i64 (N : Int)]) ∧ Below W.heap.size W w') := fun W => rSurvives W ⟨o.nm.toArray⟩ true o.a o.bs.length o.cap o.syn k N HO.out.2.2.1 HO.out.2.2.2.2.1 HO.out.2.2.2.2.2.1 hN
      have HCS : Hid (∀ w2, Below wo.heap.size wo w2 → Calls Try.prog 91 #[.pointer (some ⟨r, 0, none⟩), .agg #[.string ⟨o.nm.toArray⟩, .bool (decide (0 < N)), .slice o.a N o.cap, .int .i64 (N : Int)]] w2 fun e w' => e = .returned (.tuple #[]) ∧ CrI w W0 w' r T Kk (some ⟨g, off, none⟩) xs (survL k (xs.take (i + 1)) ++ xs.drop (i + 1))) := fun w2 h2 => crash_store HH.out.1 HH.out.2.1 HH.out.2.2.2.1 HH.out.2.2.2.2.2.1 hS.out hoi hN h2
      clear hrow hgl hoi hcell hgr hrw hmem hN
      go_wp2_with fail
      refine wp_region_held_drew (S := (fun W => (W.cell? ⟨g, off + i * 4, none⟩ = some (.string ⟨o.nm.toArray⟩) ∧ W.cell? ⟨g, off + i * 4 + 1, none⟩ = some (.bool true) ∧ W.cell? ⟨g, off + i * 4 + 2, none⟩ = some (.slice o.a o.bs.length o.cap) ∧ W.cell? ⟨g, off + i * 4 + 3, none⟩ = some (.int .i64 (o.syn : Int)) ∧ W.cell? ⟨w.heap.size, 3, none⟩ = some (.int .i64 (k : Int))))) (by kernel_rfl) ?hS1 (fun hHeld => ?rest1)
      case hS1 => exact HKP.out _ hS.out.chg.drew
      refine takeD (i := 0) (d := some 20) (v := ?vT2) rfl rfl (by kernel_rfl) (by kernel_rfl) (by kernel_rfl) (fun _ _ _ h => h) (Or.inl ⟨by rfl, ?hyT2⟩) (by assumption) ?rstT2
      case hyT2 => (intro w hSw; (try dsimp only at hSw); go_simp; (try with_reducible rfl))
      try simp only [Act.put, List.setIfInBounds_toArray, List.set_cons_zero, List.set_cons_succ]
      refine takeD (i := 1) (d := some 21) (v := ?vT3) rfl rfl (by kernel_rfl) (by kernel_rfl) (by kernel_rfl) (fun _ _ _ h => h) (Or.inl ⟨by rfl, ?hyT3⟩) (by assumption) ?rstT3
      case hyT3 => (intro w hSw; (try dsimp only at hSw); go_simp; (try with_reducible rfl))
      try simp only [Act.put, List.setIfInBounds_toArray, List.set_cons_zero, List.set_cons_succ]
      refine takeD (i := 2) (d := some 22) (v := ?vT4) rfl rfl (by kernel_rfl) (by kernel_rfl) (by kernel_rfl) (fun _ _ _ h => h) (Or.inl ⟨by rfl, ?hyT4⟩) (by assumption) ?rstT4
      case hyT4 => (intro w hSw; (try dsimp only at hSw); go_simp; (try with_reducible rfl))
      try simp only [Act.put, List.setIfInBounds_toArray, List.set_cons_zero, List.set_cons_succ]
      refine takeD (i := 3) (d := some 23) (v := ?vT5) rfl rfl (by kernel_rfl) (by kernel_rfl) (by kernel_rfl) (fun _ _ _ h => h) (Or.inl ⟨by rfl, ?hyT5⟩) (by assumption) ?rstT5
      case hyT5 => (intro w hSw; (try dsimp only at hSw); go_simp; (try with_reducible rfl))
      try simp only [Act.put, List.setIfInBounds_toArray, List.set_cons_zero, List.set_cons_succ]
      refine takeD (i := 4) (d := some 24) (v := ?vT6) rfl rfl (by kernel_rfl) (by kernel_rfl) (by kernel_rfl) (fun _ _ _ h => h) (Or.inl ⟨by rfl, ?hyT6⟩) (by assumption) ?rstT6
      case hyT6 => (intro w hSw; (try dsimp only at hSw); go_simp; (try with_reducible rfl))
      try simp only [Act.put, List.setIfInBounds_toArray, List.set_cons_zero, List.set_cons_succ]
      refine takeD (i := 5) (d := some 25) (v := ?vT7) rfl rfl (by kernel_rfl) (by kernel_rfl) (by kernel_rfl) (fun _ _ _ h => h) (Or.inl ⟨by rfl, ?hyT7⟩) (by assumption) ?rstT7
      case hyT7 => (intro w hSw; (try dsimp only at hSw); go_simp; (try with_reducible rfl))
      try simp only [Act.put, List.setIfInBounds_toArray, List.set_cons_zero, List.set_cons_succ]
      refine takeD (i := 6) (d := some 26) (v := ?vT8) rfl rfl (by kernel_rfl) (by kernel_rfl) (by kernel_rfl) (fun _ _ _ h => h) (Or.inl ⟨by rfl, ?hyT8⟩) (by assumption) ?rstT8
      case hyT8 => (intro w hSw; (try dsimp only at hSw); go_simp; (try with_reducible rfl))
      try simp only [Act.put, List.setIfInBounds_toArray, List.set_cons_zero, List.set_cons_succ]
      refine wpAnyH_ready (rs := [7]) (by kernel_rfl) (by simp) ?_
      refine AllReadyH.cons rfl (fun K hK => ?_) AllReadyH.nil
      go_simp
      refine (HSV.out _).mono ?_
      rintro e w2 ⟨rfl, hb2⟩
      have H2 : Hid (Below wo.heap.size wo w2) := ((Below.refl _ _).drew).trans hb2
      clear hb2
      clear hHeld
      refine hK.out _ _ ?hS9 (fun hHeld => ?rest9)
      case hS9 => exact HKP.out _ (hS.out.chg.trans (Chg.of_below H2.out))
      clear hK K
      try simp only [Act.put, List.setIfInBounds_toArray, List.set_cons_zero, List.set_cons_succ]
      refine wpAnyH_ready (rs := [8]) (by kernel_rfl) (by simp) ?_
      refine AllReadyH.cons rfl (fun K hK => ?_) AllReadyH.nil
      go_simp
      refine (HCS.out _ H2.out).mono ?_
      rintro e w3 ⟨rfl, h3⟩
      have H3 : Hid (CrI w W0 w3 r T Kk (some ⟨g, off, none⟩) xs (survL k (xs.take (i + 1)) ++ xs.drop (i + 1))) := h3
      clear h3
      clear hHeld
      refine hK.out _ _ ?hS10 (fun hHeld => ?rest10)
      case hS10 => exact HKP.out _ H3.out.chg
      clear hK K
      try simp only [Act.put, List.setIfInBounds_toArray, List.set_cons_zero, List.set_cons_succ]
      refine wpAnyH_done (by kernel_rfl) ?_ _
      go_wp2_with fail
      go_roundw
      case rel => exact ⟨i + 1, by omega, by first | rfl | go_num, H3.out⟩
      case measure => simp [RowKit.intOf]; omega
    · obtain rfl : i = n := by omega
      have hlt2 : ¬ ((i : Int) < (i : Int)) := by omega
      have HE : Hid (RNx w wo r a xs { T with fs := (survL k xs).map Rf.fl }) := by
        obtain ⟨a', c', h1, h2⟩ := hS.out.at_
        have e : survL k (xs.take i) ++ xs.drop i = survL k xs := by rw [← HN.out, List.take_length, List.drop_length, List.append_nil]
        rw [e] at h1 h2
        exact ⟨Kk, a', c', _, h1, (Chg.of_below HH.out.2.1).trans hS.out.chg, h2⟩
      go_wp2_with fail
      refine bodyPost_ret (v := .tuple #[]) (by simp [results, Try.results95, go_sem]) rfl ?_
      exact ⟨rfl, HE.out⟩
end Go.Proofs.Ytfehgaioioejoaa

/-! The reference's falls, change, Crash; its states beside the disk's. -/
namespace Go.Proofs.Ytfehgaioioejoaa
open Go.RowKit Go.Lib
set_option maxRecDepth 100000

def StrF (fs : List Fl) : Prop := fs.Pairwise (fun x y => Lib.compareBytes x.nm y.nm < 0)
theorem strF_str {xs : List Rf} (h : StrF (xs.map Rf.fl)) : Str xs := by
  unfold StrF at h
  rw [List.pairwise_map] at h
  exact h
theorem survL_fl {k : Nat} {xs : List Rf} (h : ∀ x ∈ xs, x.syn ≤ x.bs.length) : (survL k xs).map Rf.fl = ((xs.map Rf.fl).map (Fl.lose k)).filter (fun f => !f.bs.isEmpty) := by
  induction xs with
  | nil => rfl
  | cons x t ih =>
    have h1 := h x (List.mem_cons_self ..)
    have ih := ih (fun y hy => h y (List.mem_cons_of_mem _ hy))
    have e : (survF k x).fl = x.fl.lose k := by
      have e1 : survN k x = x.syn + min (x.bs.length - x.syn) k := by unfold survN; omega
      show (⟨x.nm, x.bs.take (survN k x), survN k x⟩ : Fl) = ⟨x.nm, x.bs.take (x.syn + min (x.bs.length - x.syn) k), (x.bs.take (x.syn + min (x.bs.length - x.syn) k)).length⟩
      rw [← e1, List.length_take, Nat.min_eq_left (by omega)]
    have e2 : decide (0 < (survF k x).syn) = !((x.fl.lose k).bs.isEmpty) := by
      rw [← e]
      have hl : (survF k x).fl.bs.length = (survF k x).syn := by
        show (x.bs.take (survN k x)).length = survN k x
        rw [List.length_take]; unfold survN; omega
      cases hb : (survF k x).fl.bs with
      | nil => rw [hb] at hl; simp only [List.length_nil] at hl; rw [← hl]; rfl
      | cons y z => rw [hb] at hl; simp only [List.length_cons] at hl; rw [← hl]; simp
    unfold survL at ih ⊢
    rw [List.map_cons, List.map_cons, List.map_cons, List.filter_cons, List.filter_cons, e2]
    split
    · rw [List.map_cons, ih, e]
    · exact ih
variable {w : World} {r c : Nat} {T : Dk} {Kk : Int} {a : Option Addr} {xs : List Rf}
theorem RNx.wrap {w W0 w1 w2 : World} {r : Nat} {a : Option Addr} {xs : List Rf} {T2 : Dk} (hb : Below w.heap.size w W0) (hC : Chg (fun g => g = r) W0 w1) (k : RNx w1 w2 r a xs T2) : RNx w w2 r a xs T2 := RNx.trans ((Chg.of_below hb).trans hC) (fun _ hg => .inl hg) k
set_option maxHeartbeats 2000000 in
theorem rFalls (h : RefAt w r T Kk a c xs) (hn : xs.length ≤ 1073741823) (hst : StrF T.fs) (hu : ∀ x ∈ xs, x.bs.length ≤ 1099511627776) (k : Nat) :
    Calls Try.prog 96 #[.pointer (some ⟨r, 0, none⟩), .int .i64 (k : Int)] w fun e w' => e = .returned (.tuple #[]) ∧ RNx w w' r a xs (crashP k T) := by
  have HD : Hid (Calls Try.prog 95 #[.pointer (some ⟨r, 0, none⟩), .agg #[.int .i64 6, .string ⟨#[]⟩, .slice none 0 0, .int .i64 (k : Int), .int .u8 0]] w fun e w' => e = .returned (.tuple #[]) ∧ RNx w w' r a xs { T with fs := (survL k xs).map Rf.fl }) := rDid_crash h hn k (strF_str (by rw [← h.fs]; exact hst)) hu
  have HE : Hid ((survL k xs).map Rf.fl = (crashP k T).fs) := by
    show (survL k xs).map Rf.fl = (T.fs.map (Fl.lose k)).filter (fun f => !f.bs.isEmpty)
    rw [h.fs]; exact survL_fl h.syn
  clear h hn hst hu
  go_enter Try.func96, Try.ntmps96
  go_wp2_with fail
  refine HD.out.mono ?_
  rintro e w1 ⟨rfl, hnx⟩
  obtain ⟨K1, a1, c1, xs1, h1, h2, h3⟩ := hnx
  have HX : Hid (RefAt w1 r { T with fs := (survL k xs).map Rf.fl } K1 a1 c1 xs1 ∧ Chg (fun g => g = r) w w1 ∧ ∀ g, RB r a1 xs1 g → RB r a xs g ∨ w.heap.size ≤ g) := ⟨h1, h2, h3⟩
  obtain ⟨b0, b1, b2, b3, b4⟩ := box5 h1.box
  have f2 := Lib.frozen_of_heap h1.box 2
  have f3 := Lib.frozen_of_heap h1.box 3
  clear h1 h2 h3
  go_wp2_with fail
  go_end0
  have hb := setR HX.out.1.box (.bool true) (.int .i64 0)
  refine ⟨rfl, RNx.trans HX.out.2.1 HX.out.2.2 (HX.out.1.nx (T' := crashP k T) (K' := K1) hb.2 hb.1 (fun e => absurd rfl e) HE.out.symm)⟩
set_option maxHeartbeats 2000000 in
theorem rCrash (h : RefAt w r T Kk a c xs) (hn : xs.length ≤ 1073741823) (hst : StrF T.fs) (hu : ∀ x ∈ xs, x.bs.length ≤ 1099511627776) (k : Int) :
    Calls Try.prog 70 #[.pointer (some ⟨r, 0, none⟩), .int .i64 k] w fun e w' => e = .returned (.int .i64 (crashC T k).2) ∧ RNx w w' r a xs (crashC T k).1 := by
  obtain ⟨c0, c1, c2, c3, c4⟩ := box5 h.box
  have HH : Hid (RefAt w r T Kk a c xs) := h
  cases hd : T.down with
  | true =>
    have HP : Hid (crashC T k = (T, 110)) := by unfold crashC; rw [if_pos hd]; rfl
    rw [hd] at c2
    clear h hn hst hu hd c0 c1 c3 c4
    go_enter Try.func70, Try.ntmps70
    go_wp2_with fail
    go_ret
    rw [HP.out]
    exact ⟨rfl, HH.out.nxt (Below.refl _ _)⟩
  | false =>
    rw [hd] at c2
    by_cases hk : k < 0
    · have HP : Hid (crashC T k = (T, 12)) := by unfold crashC; rw [if_neg (by simp [hd]), if_pos hk]; rfl
      clear h hn hst hu hd c0 c1 c3 c4
      go_enter Try.func70, Try.ntmps70
      go_wp2_with fail
      go_ret
      rw [HP.out]
      exact ⟨rfl, HH.out.nxt (Below.refl _ _)⟩
    · obtain ⟨m, rfl⟩ : ∃ m : Nat, k = (m : Int) := ⟨k.toNat, by omega⟩
      have HP : Hid (crashC T (m : Int) = (crashP m T, 0)) := by unfold crashC; rw [if_neg (by simp [hd]), if_neg hk]; rfl
      have HF : Hid (Calls Try.prog 96 #[.pointer (some ⟨r, 0, none⟩), .int .i64 (m : Int)] w fun e w' => e = .returned (.tuple #[]) ∧ RNx w w' r a xs (crashP m T)) := rFalls h hn hst hu m
      clear h hn hst hu hd c0 c1 c3 c4
      go_enter Try.func70, Try.ntmps70
      go_wp2_with fail
      refine HF.out.mono ?_
      rintro e w1 ⟨rfl, hnx⟩
      have HX : Hid (RNx w w1 r a xs (crashP m T)) := hnx
      clear hnx
      go_wp2_with fail
      go_ret
      rw [HP.out]
      exact ⟨rfl, HX.out⟩
set_option maxHeartbeats 2000000 in
theorem rChange_hit (h : RefAt w r T Kk a c xs) (hn : xs.length ≤ 1073741823) (hst : StrF T.fs) (hu : ∀ x ∈ xs, x.bs.length ≤ 1099511627776) (hs : T.steps = 1) (kd : Int) (sn : ByteArray) (ba : Option Addr) (bn bc : Nat) (nn mm : Int) :
    Calls Try.prog 97 #[.pointer (some ⟨r, 0, none⟩), .agg #[.int .i64 kd, .string sn, .slice ba bn bc, .int .i64 nn, .int .u8 mm]] w fun e w' => e = .returned (.int .i64 110) ∧ RNx w w' r a xs (crashP T.keep T) := by
  obtain ⟨W0, hW0⟩ : ∃ W0, w.alloc (.cells #[.int .i64 kd, .string sn, .slice ba bn bc, .int .i64 nn, .int .u8 mm] 136) = W0 := ⟨_, rfl⟩
  have hb0 : Below w.heap.size w W0 := by rw [← hW0]; exact (Below.refl _ _).alloc (Nat.le_refl _) _
  have hK := h.kp (by omega)
  have HFI : Hid (Calls Try.prog 94 #[.pointer (some ⟨r, 0, none⟩)] W0 fun e w' => e = .returned (.bool true) ∧ RefAt w' r { T with steps := T.steps - 1 } Kk a c xs ∧ Chg (fun g => g = r) W0 w') := by
    have := rFires (h.below hb0) (by omega)
    rwa [decide_eq_true hs] at this
  have HFA : Hid (∀ W, RefAt W r { T with steps := T.steps - 1 } Kk a c xs → Calls Try.prog 96 #[.pointer (some ⟨r, 0, none⟩), .int .i64 (T.keep : Int)] W fun e w' => e = .returned (.tuple #[]) ∧ RNx W w' r a xs (crashP T.keep T)) := fun W hW => rFalls hW hn hst hu T.keep
  have HB : Hid (Below w.heap.size w W0) := hb0
  subst hK
  clear h hn hst hu hs hb0
  go_enter Try.func97, Try.ntmps97
  go_wp2_with fail
  refine HFI.out.mono ?_
  rintro e w1 ⟨rfl, h1, hC1⟩
  have H1 : Hid (RefAt w1 r { T with steps := T.steps - 1 } (T.keep : Int) a c xs ∧ Chg (fun g => g = r) W0 w1) := ⟨h1, hC1⟩
  obtain ⟨b0, b1, b2, b3, b4⟩ := box5 h1.box
  clear h1 hC1 b0 b1 b2 b3
  go_wp2_with fail
  refine (HFA.out _ H1.out.1).mono ?_
  rintro e w2 ⟨rfl, hnx⟩
  have HX : Hid (RNx w w2 r a xs (crashP T.keep T)) := RNx.wrap HB.out H1.out.2 hnx
  clear hnx
  go_wp2_with fail
  go_ret
  exact ⟨rfl, HX.out⟩
set_option maxHeartbeats 2000000 in
theorem rChange_ok (h : RefAt w r T Kk a c xs) (hsl : T.steps ≤ 9223372036854775807) (hs : T.steps ≠ 1) (kd : Int) (sn : ByteArray) (ba : Option Addr) (bn bc : Nat) (nn mm : Int) {T2 : Dk}
    (hd : ∀ W, Below w.heap.size w W ∨ Chg (fun g => g = r) w W → RefAt W r (stepS T) Kk a c xs → Calls Try.prog 95 #[.pointer (some ⟨r, 0, none⟩), .agg #[.int .i64 kd, .string sn, .slice ba bn bc, .int .i64 nn, .int .u8 mm]] W fun e w' => e = .returned (.tuple #[]) ∧ RNx W w' r a xs T2) :
    Calls Try.prog 97 #[.pointer (some ⟨r, 0, none⟩), .agg #[.int .i64 kd, .string sn, .slice ba bn bc, .int .i64 nn, .int .u8 mm]] w fun e w' => e = .returned (.int .i64 0) ∧ RNx w w' r a xs T2 := by
  obtain ⟨W0, hW0⟩ : ∃ W0, w.alloc (.cells #[.int .i64 kd, .string sn, .slice ba bn bc, .int .i64 nn, .int .u8 mm] 136) = W0 := ⟨_, rfl⟩
  have hb0 : Below w.heap.size w W0 := by rw [← hW0]; exact (Below.refl _ _).alloc (Nat.le_refl _) _
  have hq0 : W0.heap[w.heap.size]? = some (.cells #[.int .i64 kd, .string sn, .slice ba bn bc, .int .i64 nn, .int .u8 mm] 136) := by rw [← hW0]; exact (MapKept.heap_alloc w _).1
  have hrl := h.lt r (.inl rfl)
  have HFI : Hid (Calls Try.prog 94 #[.pointer (some ⟨r, 0, none⟩)] W0 fun e w' => e = .returned (.bool false) ∧ RefAt w' r (stepS T) Kk a c xs ∧ Chg (fun g => g = r) W0 w') := by
    have := rFires (h.below hb0) hsl
    rwa [decide_eq_false hs] at this
  have HFA : Hid (∀ W, Chg (fun g => g = r) W0 W → RefAt W r (stepS T) Kk a c xs → Calls Try.prog 95 #[.pointer (some ⟨r, 0, none⟩), .agg #[.int .i64 kd, .string sn, .slice ba bn bc, .int .i64 nn, .int .u8 mm]] W fun e w' => e = .returned (.tuple #[]) ∧ RNx W w' r a xs T2) := fun W hC hW => hd W (.inr ((Chg.of_below hb0).trans hC)) hW
  have HB : Hid (Below w.heap.size w W0 ∧ W0.heap[w.heap.size]? = some (.cells #[.int .i64 kd, .string sn, .slice ba bn bc, .int .i64 nn, .int .u8 mm] 136) ∧ r < w.heap.size) := ⟨hb0, hq0, hrl⟩
  clear h hsl hs hb0 hd hq0 hrl
  go_enter Try.func97, Try.ntmps97
  go_wp2_with fail
  refine HFI.out.mono ?_
  rintro e w1 ⟨rfl, h1, hC1⟩
  have H1 : Hid (RefAt w1 r (stepS T) Kk a c xs ∧ Chg (fun g => g = r) W0 w1) := ⟨h1, hC1⟩
  obtain ⟨b0, b1, b2, b3, b4⟩ := box5 (hC1.block HB.out.2.1 (by have := HB.out.2.2; omega))
  clear h1 hC1
  go_wp2_with fail
  refine (HFA.out _ H1.out.2 H1.out.1).mono ?_
  rintro e w2 ⟨rfl, hnx⟩
  have HX : Hid (RNx w w2 r a xs T2) := RNx.wrap HB.out.1 H1.out.2 hnx
  clear hnx
  go_wp2_with fail
  go_ret
  exact ⟨rfl, HX.out⟩
end Go.Proofs.Ytfehgaioioejoaa
