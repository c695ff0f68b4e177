import Derived.Test.YtkdhcokefnffaaaDoorMaL
/-! The reader's message, of a Hello. -/
namespace Go.Proofs.YtkdhcokefnffaaaDoor
open Go.RowKit Go.Lib Sp
set_option maxRecDepth 100000

inductive HelR where
  | ok (k r : Nat)
  | bad (at_ why : Int)
/-- What behind a Hello's code stands, from byte i on. -/
def helloP (n i : Nat) (bs : List Nat) : HelR := match btwP n i 1 8 104 (bs.drop i) with
  | .bad a y => .bad a y
  | .ok k j => match btwP n (i + j) 0 8192 104 (bs.drop (i + j)) with
    | .bad a y => .bad a y
    | .ok r j' => if i + j + j' < n then .bad ((i + j + j' : Nat) : Int) 103 else .ok k r
def helV (k r : Nat) : Value := .agg #[.int .i64 1, .int .i64 k, .int .i64 r, .int .i64 0, .int .i64 0, .int .i64 0, .int .i64 0, .int .i64 0, .string ⟨#[]⟩, .slice none 0 0, .int .i64 0, .int .i64 0, .bool false]
def helPost (w : World) (p : Nat) : HelR → Ending → World → Prop
  | .ok k r, e, w' => e = .returned (helV k r) ∧ Chg (fun g => g = p) w w'
  | .bad at_ why, e, w' => e = thrown at_ why ∧ Chg (fun g => g = p) w w'
theorem chg_drop {D : Nat → Prop} {p : Nat} {w w' : World} (h : Chg (fun g => g = p ∨ D g) w w') (hD : ∀ g, D g → w.heap.size ≤ g) : Chg (fun g => g = p) w w' := h.mono (fun g hg hd => by
  rcases hd with e | e
  · exact e
  · have := hD g e; omega)

theorem set13 {W : World} {b : Nat} {T : TypeId} {u0 u1 u2 u3 u4 u5 u6 u7 u8 u9 u10 u11 u12 : Value} (h : W.heap[b]? = some (.cells #[u0, u1, u2, u3, u4, u5, u6, u7, u8, u9, u10, u11, u12] T)) (v0 v1 v2 v3 v4 v5 v6 v7 v8 v9 v10 v11 v12 : Value) :
    (((((((((((((W.setCell ⟨b, 0, none⟩ v0).setCell ⟨b, 1, none⟩ v1).setCell ⟨b, 2, none⟩ v2).setCell ⟨b, 3, none⟩ v3).setCell ⟨b, 4, none⟩ v4).setCell ⟨b, 5, none⟩ v5).setCell ⟨b, 6, none⟩ v6).setCell ⟨b, 7, none⟩ v7).setCell ⟨b, 8, none⟩ v8).setCell ⟨b, 9, none⟩ v9).setCell ⟨b, 10, none⟩ v10).setCell ⟨b, 11, none⟩ v11).setCell ⟨b, 12, none⟩ v12).heap[b]? = some (.cells #[v0, v1, v2, v3, v4, v5, v6, v7, v8, v9, v10, v11, v12] T) ∧ Chg (fun g => g = b) W (((((((((((((W.setCell ⟨b, 0, none⟩ v0).setCell ⟨b, 1, none⟩ v1).setCell ⟨b, 2, none⟩ v2).setCell ⟨b, 3, none⟩ v3).setCell ⟨b, 4, none⟩ v4).setCell ⟨b, 5, none⟩ v5).setCell ⟨b, 6, none⟩ v6).setCell ⟨b, 7, none⟩ v7).setCell ⟨b, 8, none⟩ v8).setCell ⟨b, 9, none⟩ v9).setCell ⟨b, 10, none⟩ v10).setCell ⟨b, 11, none⟩ v11).setCell ⟨b, 12, none⟩ v12) := by
  have c0 : (W.setCell ⟨b, 0, none⟩ v0).heap[b]? = some (.cells #[v0, u1, u2, u3, u4, u5, u6, u7, u8, u9, u10, u11, u12] T) := heap_setCell_cells h 0 v0
  have c1 : ((W.setCell ⟨b, 0, none⟩ v0).setCell ⟨b, 1, none⟩ v1).heap[b]? = some (.cells #[v0, v1, u2, u3, u4, u5, u6, u7, u8, u9, u10, u11, u12] T) := heap_setCell_cells c0 1 v1
  have c2 : (((W.setCell ⟨b, 0, none⟩ v0).setCell ⟨b, 1, none⟩ v1).setCell ⟨b, 2, none⟩ v2).heap[b]? = some (.cells #[v0, v1, v2, u3, u4, u5, u6, u7, u8, u9, u10, u11, u12] T) := heap_setCell_cells c1 2 v2
  have c3 : ((((W.setCell ⟨b, 0, none⟩ v0).setCell ⟨b, 1, none⟩ v1).setCell ⟨b, 2, none⟩ v2).setCell ⟨b, 3, none⟩ v3).heap[b]? = some (.cells #[v0, v1, v2, v3, u4, u5, u6, u7, u8, u9, u10, u11, u12] T) := heap_setCell_cells c2 3 v3
  have c4 : (((((W.setCell ⟨b, 0, none⟩ v0).setCell ⟨b, 1, none⟩ v1).setCell ⟨b, 2, none⟩ v2).setCell ⟨b, 3, none⟩ v3).setCell ⟨b, 4, none⟩ v4).heap[b]? = some (.cells #[v0, v1, v2, v3, v4, u5, u6, u7, u8, u9, u10, u11, u12] T) := heap_setCell_cells c3 4 v4
  have c5 : ((((((W.setCell ⟨b, 0, none⟩ v0).setCell ⟨b, 1, none⟩ v1).setCell ⟨b, 2, none⟩ v2).setCell ⟨b, 3, none⟩ v3).setCell ⟨b, 4, none⟩ v4).setCell ⟨b, 5, none⟩ v5).heap[b]? = some (.cells #[v0, v1, v2, v3, v4, v5, u6, u7, u8, u9, u10, u11, u12] T) := heap_setCell_cells c4 5 v5
  have c6 : (((((((W.setCell ⟨b, 0, none⟩ v0).setCell ⟨b, 1, none⟩ v1).setCell ⟨b, 2, none⟩ v2).setCell ⟨b, 3, none⟩ v3).setCell ⟨b, 4, none⟩ v4).setCell ⟨b, 5, none⟩ v5).setCell ⟨b, 6, none⟩ v6).heap[b]? = some (.cells #[v0, v1, v2, v3, v4, v5, v6, u7, u8, u9, u10, u11, u12] T) := heap_setCell_cells c5 6 v6
  have c7 : ((((((((W.setCell ⟨b, 0, none⟩ v0).setCell ⟨b, 1, none⟩ v1).setCell ⟨b, 2, none⟩ v2).setCell ⟨b, 3, none⟩ v3).setCell ⟨b, 4, none⟩ v4).setCell ⟨b, 5, none⟩ v5).setCell ⟨b, 6, none⟩ v6).setCell ⟨b, 7, none⟩ v7).heap[b]? = some (.cells #[v0, v1, v2, v3, v4, v5, v6, v7, u8, u9, u10, u11, u12] T) := heap_setCell_cells c6 7 v7
  have c8 : (((((((((W.setCell ⟨b, 0, none⟩ v0).setCell ⟨b, 1, none⟩ v1).setCell ⟨b, 2, none⟩ v2).setCell ⟨b, 3, none⟩ v3).setCell ⟨b, 4, none⟩ v4).setCell ⟨b, 5, none⟩ v5).setCell ⟨b, 6, none⟩ v6).setCell ⟨b, 7, none⟩ v7).setCell ⟨b, 8, none⟩ v8).heap[b]? = some (.cells #[v0, v1, v2, v3, v4, v5, v6, v7, v8, u9, u10, u11, u12] T) := heap_setCell_cells c7 8 v8
  have c9 : ((((((((((W.setCell ⟨b, 0, none⟩ v0).setCell ⟨b, 1, none⟩ v1).setCell ⟨b, 2, none⟩ v2).setCell ⟨b, 3, none⟩ v3).setCell ⟨b, 4, none⟩ v4).setCell ⟨b, 5, none⟩ v5).setCell ⟨b, 6, none⟩ v6).setCell ⟨b, 7, none⟩ v7).setCell ⟨b, 8, none⟩ v8).setCell ⟨b, 9, none⟩ v9).heap[b]? = some (.cells #[v0, v1, v2, v3, v4, v5, v6, v7, v8, v9, u10, u11, u12] T) := heap_setCell_cells c8 9 v9
  have c10 : (((((((((((W.setCell ⟨b, 0, none⟩ v0).setCell ⟨b, 1, none⟩ v1).setCell ⟨b, 2, none⟩ v2).setCell ⟨b, 3, none⟩ v3).setCell ⟨b, 4, none⟩ v4).setCell ⟨b, 5, none⟩ v5).setCell ⟨b, 6, none⟩ v6).setCell ⟨b, 7, none⟩ v7).setCell ⟨b, 8, none⟩ v8).setCell ⟨b, 9, none⟩ v9).setCell ⟨b, 10, none⟩ v10).heap[b]? = some (.cells #[v0, v1, v2, v3, v4, v5, v6, v7, v8, v9, v10, u11, u12] T) := heap_setCell_cells c9 10 v10
  have c11 : ((((((((((((W.setCell ⟨b, 0, none⟩ v0).setCell ⟨b, 1, none⟩ v1).setCell ⟨b, 2, none⟩ v2).setCell ⟨b, 3, none⟩ v3).setCell ⟨b, 4, none⟩ v4).setCell ⟨b, 5, none⟩ v5).setCell ⟨b, 6, none⟩ v6).setCell ⟨b, 7, none⟩ v7).setCell ⟨b, 8, none⟩ v8).setCell ⟨b, 9, none⟩ v9).setCell ⟨b, 10, none⟩ v10).setCell ⟨b, 11, none⟩ v11).heap[b]? = some (.cells #[v0, v1, v2, v3, v4, v5, v6, v7, v8, v9, v10, v11, u12] T) := heap_setCell_cells c10 11 v11
  have c12 : (((((((((((((W.setCell ⟨b, 0, none⟩ v0).setCell ⟨b, 1, none⟩ v1).setCell ⟨b, 2, none⟩ v2).setCell ⟨b, 3, none⟩ v3).setCell ⟨b, 4, none⟩ v4).setCell ⟨b, 5, none⟩ v5).setCell ⟨b, 6, none⟩ v6).setCell ⟨b, 7, none⟩ v7).setCell ⟨b, 8, none⟩ v8).setCell ⟨b, 9, none⟩ v9).setCell ⟨b, 10, none⟩ v10).setCell ⟨b, 11, none⟩ v11).setCell ⟨b, 12, none⟩ v12).heap[b]? = some (.cells #[v0, v1, v2, v3, v4, v5, v6, v7, v8, v9, v10, v11, v12] T) := heap_setCell_cells c11 12 v12
  refine ⟨c12, ?_⟩
  have hs : ∀ (i : Nat) (X : World) (v : Value), Chg (fun g => g = b) X (X.setCell ⟨b, i, none⟩ v) := fun i X v => Chg.set (D := fun g => g = b) (q := b) i X v rfl
  exact ((((((((((((hs 0 _ _).trans (hs 1 _ _)).trans (hs 2 _ _)).trans (hs 3 _ _)).trans (hs 4 _ _)).trans (hs 5 _ _)).trans (hs 6 _ _)).trans (hs 7 _ _)).trans (hs 8 _ _)).trans (hs 9 _ _)).trans (hs 10 _ _)).trans (hs 11 _ _)).trans (hs 12 _ _)

set_option maxHeartbeats 4000000 in
theorem message_hello {w : World} {p n cap : Nat} {a : Option Addr} {bs : List Nat} (h : Rdr w p a n cap bs 0) (ha : ∀ g, a = some g → g.block < w.heap.size) (i : Nat) (hc : btwP n 0 1 4 100 bs = .ok 1 i) :
    Calls Tryd.prog 19 #[.pointer (some ⟨p, 0, none⟩)] w (helPost w p (helloP n i bs)) := by
  have hlt := h.lt
  obtain ⟨R, hRes⟩ : ∃ R, helloP n i bs = R := ⟨_, rfl⟩
  rw [hRes]
  have HRes : Hid (helloP n i bs = R) := hRes
  clear hRes
  obtain ⟨wa, hwa⟩ : ∃ W, (w.alloc (.cells #[.int .i64 0, .int .i64 0, .int .i64 0, .int .i64 0, .int .i64 0, .int .i64 0, .int .i64 0, .int .i64 0, .string ⟨#[]⟩, .slice none 0 0, .int .i64 0, .int .i64 0, .bool false] 37)).alloc (.cells #[.int .i64 0, .int .i64 0, .int .i64 0, .int .i64 0, .int .i64 0, .int .i64 0, .int .i64 0, .int .i64 0, .string ⟨#[]⟩, .slice none 0 0, .int .i64 0, .int .i64 0, .bool false] 37) = W := ⟨_, rfl⟩
  have hba : Below w.heap.size w wa := hwa ▸ ((Below.refl _ _).alloc (Nat.le_refl _) _).alloc (by simp) _
  have hra : wa.heap[w.heap.size]? = some (.cells #[.int .i64 0, .int .i64 0, .int .i64 0, .int .i64 0, .int .i64 0, .int .i64 0, .int .i64 0, .int .i64 0, .string ⟨#[]⟩, .slice none 0 0, .int .i64 0, .int .i64 0, .bool false] 37) := by rw [← hwa, Below.heap_alloc _ _ _ (by simp)]; exact heap_alloc_new _ _
  have hma : wa.heap[w.heap.size + 1]? = some (.cells #[.int .i64 0, .int .i64 0, .int .i64 0, .int .i64 0, .int .i64 0, .int .i64 0, .int .i64 0, .int .i64 0, .string ⟨#[]⟩, .slice none 0 0, .int .i64 0, .int .i64 0, .bool false] 37) := by rw [← hwa]; have := heap_alloc_new (w.alloc (.cells #[.int .i64 0, .int .i64 0, .int .i64 0, .int .i64 0, .int .i64 0, .int .i64 0, .int .i64 0, .int .i64 0, .string ⟨#[]⟩, .slice none 0 0, .int .i64 0, .int .i64 0, .bool false] 37)) (.cells #[.int .i64 0, .int .i64 0, .int .i64 0, .int .i64 0, .int .i64 0, .int .i64 0, .int .i64 0, .int .i64 0, .string ⟨#[]⟩, .slice none 0 0, .int .i64 0, .int .i64 0, .bool false] 37); rw [World.size_alloc] at this; exact this
  have h1 := h.chg (D := fun _ => False) (Chg.of_below hba) (fun e => e) (fun _ _ e => e)
  have HT1 := between_any h1 1 4 100
  rw [show bs.drop 0 = bs from rfl, hc] at HT1
  have HH : Hid (Rdr w p a n cap bs 0 ∧ (∀ g, a = some g → g.block < w.heap.size) ∧ p < w.heap.size ∧ Below w.heap.size w wa) := ⟨h, ha, hlt, hba⟩
  clear h h1 hlt ha hba hc
  go_enter Tryd.func19, Tryd.ntmps19
  go_wp2_with fail
  refine HT1.mono ?_
  rintro e w1 ⟨rfl, hR1, hC1⟩
  clear HT1
  have hpq : w.heap.size ≠ p := by have := HH.out.2.2.1; omega
  have hpm : w.heap.size + 1 ≠ p := by have := HH.out.2.2.1; omega
  have hm1 := hC1.block hma hpm
  have hr1 := hC1.block hra hpq
  have q0 : w1.cell? ⟨w.heap.size + 1, 0, none⟩ = some (.int .i64 0) := by rw [Lib.cell_of_heap hm1]; rfl
  have f0 := Lib.frozen_of_heap hm1 0
  obtain ⟨wb, hwb⟩ : ∃ W, w1.setCell ⟨w.heap.size + 1, 0, none⟩ (.int .i64 1) = W := ⟨_, rfl⟩
  have hCb : Chg (fun g => g = w.heap.size + 1) w1 wb := hwb ▸ Chg.set (D := fun g => g = w.heap.size + 1) (q := w.heap.size + 1) 0 w1 _ rfl
  have hmb : wb.heap[w.heap.size + 1]? = some (.cells #[.int .i64 1, .int .i64 0, .int .i64 0, .int .i64 0, .int .i64 0, .int .i64 0, .int .i64 0, .int .i64 0, .string ⟨#[]⟩, .slice none 0 0, .int .i64 0, .int .i64 0, .bool false] 37) := hwb ▸ heap_setCell_cells hm1 0 _
  have hrb := hCb.block hr1 (by omega)
  have ham : ∀ g, a = some g → ¬ g.block = w.heap.size + 1 := fun g e => by have := HH.out.2.1 g e; omega
  have hRb := hR1.chg hCb (fun e => hpm e.symm) ham
  rw [Nat.zero_add] at hRb
  have hCw : Chg (fun g => g = p ∨ w.heap.size ≤ g) w wb := ((Chg.of_below HH.out.2.2.2).trans ((hC1.mono (fun g _ e => .inl e)).trans (hCb.mono (fun g _ e => .inr (by omega)))))
  have HT2 := between_any hRb 1 8 104
  have HB : Hid (Chg (fun g => g = p ∨ w.heap.size ≤ g) w wb ∧ wb.heap[w.heap.size + 1]? = some (.cells #[.int .i64 1, .int .i64 0, .int .i64 0, .int .i64 0, .int .i64 0, .int .i64 0, .int .i64 0, .int .i64 0, .string ⟨#[]⟩, .slice none 0 0, .int .i64 0, .int .i64 0, .bool false] 37) ∧ wb.heap[w.heap.size]? = some (.cells #[.int .i64 0, .int .i64 0, .int .i64 0, .int .i64 0, .int .i64 0, .int .i64 0, .int .i64 0, .int .i64 0, .string ⟨#[]⟩, .slice none 0 0, .int .i64 0, .int .i64 0, .bool false] 37)) := ⟨hCw, hmb, hrb⟩
  clear hra hma hwa wa HH hR1 hC1 hm1 hr1 hCb hmb hrb hRb hCw
  cases hk : btwP n i 1 8 104 (bs.drop i) with
  | bad at_ why =>
    rw [hk] at HT2
    have HK : Hid (btwP n i 1 8 104 (bs.drop i) = .bad at_ why) := hk
    clear hk
    go_wp2_with fail
    refine HT2.mono ?_
    rintro e w2 ⟨rfl, hC2⟩
    clear HT2
    unfold thrown
    try dsimp only
    go_wp2_with fail
    have hz := HRes.out
    rw [helloP, HK.out] at hz
    subst hz
    exact ⟨rfl, rfl, chg_drop (HB.out.1.trans (hC2.mono (fun _ _ e => .inl e))) (fun _ e => e)⟩
  | ok k j =>
    rw [hk] at HT2
    have HK : Hid (btwP n i 1 8 104 (bs.drop i) = .ok k j) := hk
    clear hk
    go_wp2_with fail
    refine HT2.mono ?_
    rintro e w2 ⟨rfl, hR2, hC2⟩
    clear HT2 q0 f0 hwb
    obtain ⟨hCw, hmb, hrb⟩ := HB.out
    have hm2 := hC2.block hmb hpm
    have hr2 := hC2.block hrb hpq
    have q1 : w2.cell? ⟨w.heap.size + 1, 1, none⟩ = some (.int .i64 0) := by rw [Lib.cell_of_heap hm2]; rfl
    have f1 := Lib.frozen_of_heap hm2 1
    obtain ⟨wc, hwc⟩ : ∃ W, w2.setCell ⟨w.heap.size + 1, 1, none⟩ (.int .i64 (k : Int)) = W := ⟨_, rfl⟩
    have hCc : Chg (fun g => g = w.heap.size + 1) w2 wc := hwc ▸ Chg.set (D := fun g => g = w.heap.size + 1) (q := w.heap.size + 1) 1 w2 _ rfl
    have hmc : wc.heap[w.heap.size + 1]? = some (.cells #[.int .i64 1, .int .i64 k, .int .i64 0, .int .i64 0, .int .i64 0, .int .i64 0, .int .i64 0, .int .i64 0, .string ⟨#[]⟩, .slice none 0 0, .int .i64 0, .int .i64 0, .bool false] 37) := hwc ▸ heap_setCell_cells hm2 1 _
    have hrc := hCc.block hr2 (by omega)
    have hRc := hR2.chg hCc (fun e => hpm e.symm) ham
    have hCwc : Chg (fun g => g = p ∨ w.heap.size ≤ g) w wc := hCw.trans ((hC2.mono (fun g _ e => .inl e)).trans (hCc.mono (fun g _ e => .inr (by omega))))
    have z0 : wc.cell? ⟨w.heap.size + 1, 0, none⟩ = some (.int .i64 1) := by rw [Lib.cell_of_heap hmc]; rfl
    have HC : Hid (Chg (fun g => g = p ∨ w.heap.size ≤ g) w wc ∧ wc.heap[w.heap.size + 1]? = some (.cells #[.int .i64 1, .int .i64 k, .int .i64 0, .int .i64 0, .int .i64 0, .int .i64 0, .int .i64 0, .int .i64 0, .string ⟨#[]⟩, .slice none 0 0, .int .i64 0, .int .i64 0, .bool false] 37) ∧ wc.heap[w.heap.size]? = some (.cells #[.int .i64 0, .int .i64 0, .int .i64 0, .int .i64 0, .int .i64 0, .int .i64 0, .int .i64 0, .int .i64 0, .string ⟨#[]⟩, .slice none 0 0, .int .i64 0, .int .i64 0, .bool false] 37) ∧ Rdr wc p a n cap bs (i + j)) := ⟨hCwc, hmc, hrc, hRc⟩
    clear HB hCw hmb hrb hm2 hr2 hCc hmc hrc hRc hCwc hC2 hR2
    go_wp2_with fail
    refine (fieldsOf_1 _).mono ?_
    rintro e w3 ⟨g, rfl, hg3, hF, hb3⟩
    obtain ⟨hCwc, hmc, hrc, hRc⟩ := HC.out
    have hm3 := (hb3.block _ (Array.getElem?_eq_some_iff.1 hmc).1).trans hmc
    have hr3 := (hb3.block _ (Array.getElem?_eq_some_iff.1 hrc).1).trans hrc
    have hR3 := hRc.chg (D := fun _ => False) (Chg.of_below hb3) (fun e => e) (fun _ _ e => e)
    have hC3 : Chg (fun g => g = p ∨ w.heap.size ≤ g) w w3 := hCwc.trans (Chg.of_below hb3)
    have HD : Hid (Chg (fun g => g = p ∨ w.heap.size ≤ g) w w3 ∧ w3.heap[w.heap.size + 1]? = some (.cells #[.int .i64 1, .int .i64 k, .int .i64 0, .int .i64 0, .int .i64 0, .int .i64 0, .int .i64 0, .int .i64 0, .string ⟨#[]⟩, .slice none 0 0, .int .i64 0, .int .i64 0, .bool false] 37) ∧ w3.heap[w.heap.size]? = some (.cells #[.int .i64 0, .int .i64 0, .int .i64 0, .int .i64 0, .int .i64 0, .int .i64 0, .int .i64 0, .int .i64 0, .string ⟨#[]⟩, .slice none 0 0, .int .i64 0, .int .i64 0, .bool false] 37) ∧ Rdr w3 p a n cap bs (i + j)) := ⟨hC3, hm3, hr3, hR3⟩
    obtain ⟨g', off', e', hg', hc'⟩ := hF.cells (by omega)
    cases e'
    have y0 := hc' 0 _ rfl 0 _ rfl
    have y1 := hc' 0 _ rfl 1 _ rfl
    simp only [Nat.zero_mul, Nat.zero_add, Nat.add_zero] at y0 y1
    clear HC hCwc hmc hrc hRc hm3 hr3 hR3 hC3 hb3 hg3 hF hc' q1 f1 hwc z0
    go_wp2_with fail
    go_loopw [16] (fun v16 W => (v16 = .int .i64 0 ∧ W = w3) ∨ (v16 = .int .i64 1 ∧ ∃ r j' : Nat, btwP n (i + j) 0 8192 104 (bs.drop (i + j)) = .ok r j' ∧ Chg (fun g => g = p ∨ w.heap.size ≤ g) w W ∧ W.heap[w.heap.size + 1]? = some (.cells #[.int .i64 1, .int .i64 k, .int .i64 r, .int .i64 0, .int .i64 0, .int .i64 0, .int .i64 0, .int .i64 0, .string ⟨#[]⟩, .slice none 0 0, .int .i64 0, .int .i64 0, .bool false] 37) ∧ W.heap[w.heap.size]? = some (.cells #[.int .i64 0, .int .i64 0, .int .i64 0, .int .i64 0, .int .i64 0, .int .i64 0, .int .i64 0, .int .i64 0, .string ⟨#[]⟩, .slice none 0 0, .int .i64 0, .int .i64 0, .bool false] 37) ∧ Rdr W p a n cap bs (i + j + j'))) (fun v16 _ => 1 - (RowKit.intOf v16).toNat)
    case atStart => exact .inl ⟨rfl, rfl⟩
    case round =>
      rcases hrel with ⟨rfl, rfl⟩ | ⟨rfl, r, j', hb, hCx, hmx, hrx, hRx⟩
      · have hb1 : Below wr.heap.size wr (wr.alloc (.cells #[.func (.func 43) #[] #[], .func (.func 44) #[] #[]] 74)) := (Below.refl _ _).alloc (Nat.le_refl _) _
        obtain ⟨hCd, hmd, hrd, hRd⟩ := HD.out
        have HV := readRev_any (hRd.chg (D := fun _ => False) (Chg.of_below hb1) (fun e => e) (fun _ _ e => e)) ((hb1.block _ (Array.getElem?_eq_some_iff.1 hmd).1).trans hmd) hpm ham
        have hrd1 := (hb1.block _ (Array.getElem?_eq_some_iff.1 hrd).1).trans hrd
        have hCd1 : Chg (fun g => g = p ∨ w.heap.size ≤ g) w (wr.alloc (.cells #[.func (.func 43) #[] #[], .func (.func 44) #[] #[]] 74)) := hCd.trans (Chg.of_below hb1)
        rw [show firstRevP 1 = 0 from rfl] at HV
        have HE : Hid (Chg (fun g => g = p ∨ w.heap.size ≤ g) w (wr.alloc (.cells #[.func (.func 43) #[] #[], .func (.func 44) #[] #[]] 74)) ∧ (wr.alloc (.cells #[.func (.func 43) #[] #[], .func (.func 44) #[] #[]] 74)).heap[w.heap.size]? = some (.cells #[.int .i64 0, .int .i64 0, .int .i64 0, .int .i64 0, .int .i64 0, .int .i64 0, .int .i64 0, .int .i64 0, .string ⟨#[]⟩, .slice none 0 0, .int .i64 0, .int .i64 0, .bool false] 37)) := ⟨hCd1, hrd1⟩
        clear HD hb1 hCd hmd hrd hRd hrd1 hCd1
        cases hb : btwP n (i + j) 0 8192 104 (bs.drop (i + j)) with
        | bad at_ why =>
          rw [hb] at HV
          have HX : Hid (btwP n (i + j) 0 8192 104 (bs.drop (i + j)) = .bad at_ why) := hb
          clear hb
          go_wp2_with fail
          refine HV.mono ?_
          rintro e w4 ⟨rfl, hC4⟩
          clear HV
          unfold thrown
          try dsimp only
          go_wp2_with fail
          have hz := HRes.out
          rw [helloP, HK.out] at hz
          simp only at hz
          rw [HX.out] at hz
          subst hz
          exact ⟨rfl, rfl, chg_drop (HE.out.1.trans (hC4.mono (fun _ _ e => by omega))) (fun _ e => e)⟩
        | ok r j' =>
          rw [hb] at HV
          have HX : Hid (btwP n (i + j) 0 8192 104 (bs.drop (i + j)) = .ok r j') := hb
          clear hb
          go_wp2_with fail
          refine HV.mono ?_
          rintro e w4 ⟨rfl, hR4, hm4, hC4⟩
          clear HV
          have HY : Hid (Chg (fun g => g = p ∨ w.heap.size ≤ g) w w4 ∧ w4.heap[w.heap.size + 1]? = some (.cells #[.int .i64 1, .int .i64 k, .int .i64 r, .int .i64 0, .int .i64 0, .int .i64 0, .int .i64 0, .int .i64 0, .string ⟨#[]⟩, .slice none 0 0, .int .i64 0, .int .i64 0, .bool false] 37) ∧ w4.heap[w.heap.size]? = some (.cells #[.int .i64 0, .int .i64 0, .int .i64 0, .int .i64 0, .int .i64 0, .int .i64 0, .int .i64 0, .int .i64 0, .string ⟨#[]⟩, .slice none 0 0, .int .i64 0, .int .i64 0, .bool false] 37) ∧ Rdr w4 p a n cap bs (i + j + j')) := ⟨HE.out.1.trans (hC4.mono (fun _ _ e => by omega)), hm4, hC4.block HE.out.2 (by omega), hR4⟩
          clear HE hR4 hm4 hC4 y0 y1
          go_wp2_with fail
          exact ⟨.inr ⟨rfl, r, j', rfl, HY.out⟩, by simp [RowKit.intOf]⟩
      · have hz := HRes.out
        rw [helloP, HK.out] at hz
        simp only at hz
        rw [hb] at hz
        simp only at hz
        clear hb HD y0 y1 HRes
        have hle := hRx.le
        have HX : Hid (Chg (fun g => g = p ∨ w.heap.size ≤ g) w wr ∧ wr.heap[w.heap.size + 1]? = some (.cells #[.int .i64 1, .int .i64 k, .int .i64 r, .int .i64 0, .int .i64 0, .int .i64 0, .int .i64 0, .int .i64 0, .string ⟨#[]⟩, .slice none 0 0, .int .i64 0, .int .i64 0, .bool false] 37) ∧ wr.heap[w.heap.size]? = some (.cells #[.int .i64 0, .int .i64 0, .int .i64 0, .int .i64 0, .int .i64 0, .int .i64 0, .int .i64 0, .int .i64 0, .string ⟨#[]⟩, .slice none 0 0, .int .i64 0, .int .i64 0, .bool false] 37)) := ⟨hCx, hmx, hrx⟩
        clear hCx hmx hrx
        by_cases hlt : i + j + j' < n
        · rw [if_pos hlt] at hz
          subst hz
          have HT := end_rest hRx hlt
          clear hRx hlt hle
          go_wp2_with fail
          refine HT.mono ?_
          rintro e w5 ⟨rfl, hC5⟩
          clear HT
          unfold thrown
          try dsimp only
          go_wp2_with fail
          exact ⟨rfl, rfl, chg_drop (HX.out.1.trans (hC5.mono (fun _ _ e => e.elim))) (fun _ e => e)⟩
        · rw [if_neg hlt] at hz
          subst hz
          have hn : i + j + j' = n := by omega
          rw [hn] at hRx
          have HT := end_ok hRx
          clear hRx hlt hle hn
          go_wp2_with fail
          refine HT.mono ?_
          rintro e w5 ⟨rfl, hR5, hC5⟩
          clear HT hR5
          obtain ⟨hCx, hmx, hrx⟩ := HX.out
          have hm5 := hC5.block hmx (fun e => e)
          have hr5 := hC5.block hrx (fun e => e)
          have HC5 : Hid (Chg (fun g => g = p ∨ w.heap.size ≤ g) w w5) := hCx.trans (hC5.mono (fun _ _ e => e.elim))
          obtain ⟨m0, m1, m2, m3, m4, m5, m6, m7, m8, m9, m10, m11, m12⟩ := box13 hm5
          obtain ⟨r0, r1, r2, r3, r4, r5, r6, r7, r8, r9, r10, r11, r12⟩ := box13 hr5
          have HR5 : Hid (w5.heap[w.heap.size]? = some (.cells #[.int .i64 0, .int .i64 0, .int .i64 0, .int .i64 0, .int .i64 0, .int .i64 0, .int .i64 0, .int .i64 0, .string ⟨#[]⟩, .slice none 0 0, .int .i64 0, .int .i64 0, .bool false] 37)) := hr5
          have FZ : ∀ i, w5.frozen? ⟨w.heap.size, i, none⟩ = false := fun i => Lib.frozen_of_heap hr5 i
          clear HX hCx hmx hrx hm5 hr5 hC5
          go_wp2_with fail
          obtain ⟨hx6, hC6⟩ := set13 HR5.out (.int .i64 1) (.int .i64 k) (.int .i64 r) (.int .i64 0) (.int .i64 0) (.int .i64 0) (.int .i64 0) (.int .i64 0) (.string ⟨#[]⟩) (.slice none 0 0) (.int .i64 0) (.int .i64 0) (.bool false)
          clear r0 r1 r2 r3 r4 r5 r6 r7 r8 r9 r10 r11 r12 m0 m1 m2 m3 m4 m5 m6 m7 m8 m9 m10 m11 m12 FZ HR5
          revert hx6 hC6
          generalize World.setCell _ ⟨w.heap.size, 12, none⟩ (.bool false) = w6
          intro hx6 hC6
          obtain ⟨m0, m1, m2, m3, m4, m5, m6, m7, m8, m9, m10, m11, m12⟩ := box13 hx6
          refine bodyPost_ret (v := helV k r) (by simp [results, Tryd.results19, go_sem, helV, m0, m1, m2, m3, m4, m5, m6, m7, m8, m9, m10, m11, m12]) rfl ?_
          exact ⟨rfl, chg_drop (HC5.out.trans (hC6.mono (fun _ _ e => .inr (by omega)))) (fun _ e => e)⟩
end Go.Proofs.YtkdhcokefnffaaaDoor
