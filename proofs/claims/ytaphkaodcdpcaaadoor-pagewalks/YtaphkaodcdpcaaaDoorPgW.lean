import Derived.Test.YtaphkaodcdpcaaaDoorPgV
import Derived.Laws.EntriesVeiled
/-! Walk, where it takes the call. -/
namespace Go.Proofs.YtaphkaodcdpcaaaDoor
open Go.RowKit Go.Lib Go.Shelf
set_option maxRecDepth 100000

theorem box10 {W : World} {b : Nat} {T : TypeId} {v0 v1 v2 v3 v4 v5 v6 v7 v8 v9 : Value} (h : W.heap[b]? = some (.cells #[v0, v1, v2, v3, v4, v5, v6, v7, v8, v9] T)) :
    W.cell? ⟨b, 0, none⟩ = some v0 ∧ W.cell? ⟨b, 1, none⟩ = some v1 ∧ W.cell? ⟨b, 2, none⟩ = some v2 ∧ W.cell? ⟨b, 3, none⟩ = some v3 ∧ W.cell? ⟨b, 4, none⟩ = some v4 ∧ W.cell? ⟨b, 5, none⟩ = some v5 ∧ W.cell? ⟨b, 6, none⟩ = some v6 ∧ W.cell? ⟨b, 7, none⟩ = some v7 ∧ W.cell? ⟨b, 8, none⟩ = some v8 ∧ W.cell? ⟨b, 9, none⟩ = some v9 := by
  simp only [Lib.cell_of_heap h]
  exact ⟨rfl, rfl, rfl, rfl, rfl, rfl, rfl, rfl, rfl, rfl⟩
theorem fr10 {W : World} {b : Nat} {T : TypeId} {v0 v1 v2 v3 v4 v5 v6 v7 v8 v9 : Value} (h : W.heap[b]? = some (.cells #[v0, v1, v2, v3, v4, v5, v6, v7, v8, v9] T)) :
    W.frozen? ⟨b, 0, none⟩ = false ∧ W.frozen? ⟨b, 1, none⟩ = false ∧ W.frozen? ⟨b, 2, none⟩ = false ∧ W.frozen? ⟨b, 3, none⟩ = false ∧ W.frozen? ⟨b, 4, none⟩ = false ∧ W.frozen? ⟨b, 5, none⟩ = false ∧ W.frozen? ⟨b, 6, none⟩ = false ∧ W.frozen? ⟨b, 7, none⟩ = false ∧ W.frozen? ⟨b, 8, none⟩ = false ∧ W.frozen? ⟨b, 9, none⟩ = false :=
  ⟨Lib.frozen_of_heap h 0, Lib.frozen_of_heap h 1, Lib.frozen_of_heap h 2, Lib.frozen_of_heap h 3, Lib.frozen_of_heap h 4, Lib.frozen_of_heap h 5, Lib.frozen_of_heap h 6, Lib.frozen_of_heap h 7, Lib.frozen_of_heap h 8, Lib.frozen_of_heap h 9⟩
theorem store10 {W : World} {b : Nat} {T : TypeId} {u0 u1 u2 u3 u4 u5 u6 u7 u8 u9 : Value} (h : W.heap[b]? = some (.cells #[u0, u1, u2, u3, u4, u5, u6, u7, u8, u9] T)) (v0 v1 v2 v3 v4 v5 v6 v7 v8 v9 : Value) :
    ∃ W6, ((((((((((W.setCell ⟨b, 0, none⟩ (v0)).setCell ⟨b, 1, none⟩ (v1)).setCell ⟨b, 2, none⟩ (v2)).setCell ⟨b, 3, none⟩ (v3)).setCell ⟨b, 4, none⟩ (v4)).setCell ⟨b, 5, none⟩ (v5)).setCell ⟨b, 6, none⟩ (v6)).setCell ⟨b, 7, none⟩ (v7)).setCell ⟨b, 8, none⟩ (v8)).setCell ⟨b, 9, none⟩ (v9)) = W6 ∧ W6.heap[b]? = some (.cells #[v0, v1, v2, v3, v4, v5, v6, v7, v8, v9] T) ∧ But b W W6 := by
  have h5 : ((((((W.setCell ⟨b, 0, none⟩ (v0)).setCell ⟨b, 1, none⟩ (v1)).setCell ⟨b, 2, none⟩ (v2)).setCell ⟨b, 3, none⟩ (v3)).setCell ⟨b, 4, none⟩ (v4))).heap[b]? = some (.cells #[v0, v1, v2, v3, v4, u5, u6, u7, u8, u9] T) := (heap_setCell_cells (heap_setCell_cells (heap_setCell_cells (heap_setCell_cells (heap_setCell_cells h 0 v0) 1 v1) 2 v2) 3 v3) 4 v4)
  exact ⟨_, rfl, (heap_setCell_cells (heap_setCell_cells (heap_setCell_cells (heap_setCell_cells (heap_setCell_cells h5 5 v5) 6 v6) 7 v7) 8 v8) 9 v9), (((((((((But.set _ _ _ _).trans (But.set _ _ _ _)).trans (But.set _ _ _ _)).trans (But.set _ _ _ _)).trans (But.set _ _ _ _)).trans (But.set _ _ _ _)).trans (But.set _ _ _ _)).trans (But.set _ _ _ _)).trans (But.set _ _ _ _)).trans (But.set _ _ _ _)⟩
set_option maxHeartbeats 16000000 in
theorem walk1_any {s : ByteArray} {rs : List Int} (ht : IsText s rs) (W : Nat) (hW : 1 ≤ W ∧ W ≤ 1024) (hn : rs.length ≤ 4294967000) {w : World} (hP : PTab w) (hG : Glob w.heap.size) (at' : Nat) (hat : at' ≤ rs.length) (want : Int) {Q : Nat → Int → Prop}
    (hM : ∀ a k cap V, Below w.heap.size w V → Sheet rs W V a k cap → Calls Tryd.prog 26 #[.agg #[.string s, .int .i64 (rs.length : Int), .slice a k cap, .int .i64 (at' : Int), .int .i64 want, .int .i64 1]] V fun e w' => ∃ q : Nat, ∃ c : Int, e = .returned (.tuple #[.int .i64 (q : Int), .int .i64 c]) ∧ Q q c ∧ Below V.heap.size V w') :
    Calls Tryd.prog 14 #[.string s, .int .i64 (W : Int), .int .i64 (at' : Int), .int .i64 want, .int .i64 1] w fun e w' => ∃ q : Nat, ∃ c : Int, e = .returned (.tuple #[.int .i64 (q : Int), .int .i64 c, .int .i64 0]) ∧ Q q c ∧ Below w.heap.size w w' := by
  have HLa := lay_sheet ht W 1 hW ⟨by omega, by omega⟩ hn hP hG
  have HM0 : Hid (∀ a k cap V, Below w.heap.size w V → Sheet rs W V a k cap → Calls Tryd.prog 26 #[.agg #[.string s, .int .i64 (rs.length : Int), .slice a k cap, .int .i64 (at' : Int), .int .i64 want, .int .i64 1]] V fun e w' => ∃ q : Nat, ∃ c : Int, e = .returned (.tuple #[.int .i64 (q : Int), .int .i64 c]) ∧ Q q c ∧ Below V.heap.size V w') := hM
  have HAt : Hid (at' ≤ rs.length) := hat
  clear ht hW hn hP hG hM hat
  go_enter Tryd.func14, Tryd.ntmps14
  go_wp2_with fail
  refine HLa.mono ?_
  rintro e w1 ⟨a, k, cap, rfl, hsh, hb1⟩
  obtain ⟨m, hm⟩ : ∃ m, rs.length = m := ⟨_, rfl⟩
  rw [hm]
  have HMe : Hid (∀ V, Below w.heap.size w V → Below w1.heap.size w1 V → Calls Tryd.prog 26 #[.agg #[.string s, .int .i64 (m : Int), .slice a k cap, .int .i64 (at' : Int), .int .i64 want, .int .i64 1]] V fun e w' => ∃ q : Nat, ∃ c : Int, e = .returned (.tuple #[.int .i64 (q : Int), .int .i64 c]) ∧ Q q c ∧ Below V.heap.size V w') := fun V hV hV1 => by
    have := HM0.out a k cap V hV (hsh.below hV1)
    rw [hm] at this
    exact this
  obtain ⟨w2, hw2⟩ : ∃ V, w1.alloc (.cells #[.string s, .int .i64 (m : Int), .slice a k cap] 54) = V := ⟨_, rfl⟩
  have hb2 : Below w1.heap.size w1 w2 := by rw [← hw2]; exact (Below.refl _ _).alloc (Nat.le_refl _) _
  have hx2 : w2.heap[w1.heap.size]? = some (.cells #[.string s, .int .i64 (m : Int), .slice a k cap] 54) := by rw [← hw2]; exact heap_alloc_new _ _
  obtain ⟨c0, c1, c2⟩ := box3 hx2
  have hha := has_any s m a k cap (at' : Int) w2
  rw [show decide (0 ≤ (at' : Int) ∧ (at' : Int) ≤ (m : Int)) = true from decide_eq_true ⟨by omega, by have := HAt.out; omega⟩] at hha
  have HB1 : Hid (Below w.heap.size w w1) := hb1
  clear hm hsh hb1 HLa HM0 HAt
  go_wp2_with fail
  refine hha.mono ?_
  rintro e w3 ⟨rfl, hb3⟩
  have hx3 := (hb3.block _ (Array.getElem?_eq_some_iff.1 hx2).1).trans hx2
  have hb13 := hb2.trans (hb3.mono hb2.size)
  obtain ⟨N, hN⟩ : ∃ N, w1.heap.size = N := ⟨_, rfl⟩
  obtain ⟨wn, hwn⟩ : ∃ V, w3.alloc (.cells #[.nilFunc, .nilFunc, .nilFunc, .nilFunc, .nilFunc, .nilFunc, .nilFunc, .nilFunc, .nilFunc, .nilFunc] 63) = V := ⟨_, rfl⟩
  have hbn : Below w3.heap.size w3 wn := by rw [← hwn]; exact (Below.refl _ _).alloc (Nat.le_refl _) _
  have han : wn.heap[w3.heap.size]? = some (.cells #[.nilFunc, .nilFunc, .nilFunc, .nilFunc, .nilFunc, .nilFunc, .nilFunc, .nilFunc, .nilFunc, .nilFunc] 63) := by rw [← hwn]; exact heap_alloc_new _ _
  have hN3 : N < w3.heap.size := by rw [← hN]; exact (Array.getElem?_eq_some_iff.1 hx3).1
  obtain ⟨y0, y1, y2, y3, y4, y5, y6, y7, y8, y9⟩ := box10 han
  obtain ⟨z0, z1, z2, z3, z4, z5, z6, z7, z8, z9⟩ := fr10 han
  obtain ⟨w4, hw4, ha4, hk4⟩ := store10 han (.func (.func 26) #[] #[]) (.func (.func 26) #[] #[]) (.func (.func 27) #[] #[]) (.func (.func 28) #[] #[]) (.func (.func 29) #[] #[]) (.func (.func 30) #[] #[]) (.func (.func 26) #[] #[]) (.func (.func 26) #[] #[]) (.func (.func 26) #[] #[]) (.func (.func 26) #[] #[])
  rw [hN] at hx3 ⊢
  clear hha hb2 hb3 hx2 c0 c1 c2 hN hw2
  go_wp2_with fail
  try simp only [hw4]
  have hb4 : Below w3.heap.size w3 w4 := hbn.trans ((hk4.chg (D := fun g => g = w3.heap.size) rfl).below (fun g e => by omega) hbn.size)
  have hx4 := (hb4.block _ (Array.getElem?_eq_some_iff.1 hx3).1).trans hx3
  have hb14 := hb13.trans (hb4.mono hb13.size)
  obtain ⟨w6, hw6⟩ : ∃ V, w4.drew = V := ⟨_, rfl⟩
  have hb6 : Below w4.heap.size w4 w6 := by rw [← hw6]; exact (Below.refl _ _).drew
  have hx6 := (hb6.block _ (Array.getElem?_eq_some_iff.1 hx4).1).trans hx4
  have ha6 := (hb6.block _ (Array.getElem?_eq_some_iff.1 ha4).1).trans ha4
  have hb16 := hb14.trans (hb6.mono hb14.size)
  have hbw6 := HB1.out.trans (hb16.mono HB1.out.size)
  have HMe : Hid (∀ V, V = w6 → Calls Tryd.prog 26 #[.agg #[.string s, .int .i64 (m : Int), .slice a k cap, .int .i64 (at' : Int), .int .i64 want, .int .i64 1]] w6 fun e w' => ∃ q : Nat, ∃ c : Int, e = .returned (.tuple #[.int .i64 (q : Int), .int .i64 c]) ∧ Q q c ∧ Below w6.heap.size w6 w') := fun V _ => HMe.out w6 hbw6 hb16
  clear y0 y1 y2 y3 y4 y5 y6 y7 y8 y9 z0 z1 z2 z3 z4 z5 z6 z7 z8 z9 hbn han hk4 hwn hb13 hb4 ha4 hx4 hb14 hb6 hb16 hx3
  obtain ⟨A, hA⟩ : ∃ A, w3.heap.size = A := ⟨_, rfl⟩
  try rw [hw4]
  rw [hA] at ha6 ⊢
  clear hA hw4
  have yw : IntKind.i64.wrap 0 = 0 := IntWalk.i64_in _ (by omega)
  refine wp_region_held_drew (S := (fun v => v.heap[N]? = some (.cells #[.string s, .int .i64 (m : Int), .slice a k cap] 54) ∧ v.heap[A]? = some (.cells #[.func (.func 26) #[] #[], .func (.func 26) #[] #[], .func (.func 27) #[] #[], .func (.func 28) #[] #[], .func (.func 29) #[] #[], .func (.func 30) #[] #[], .func (.func 26) #[] #[], .func (.func 26) #[] #[], .func (.func 26) #[] #[], .func (.func 26) #[] #[]] 63))) (by kernel_rfl) ?hS1 (fun hHeld => ?rest1)
  case hS1 => (rw [hw6]; exact ⟨hx6, ha6⟩)
  rw [hw6] at hHeld ⊢
  clear hw6
  refine takeD (i := 0) (d := some 36) (v := ?vT39) rfl rfl (by kernel_rfl) (by kernel_rfl) (by kernel_rfl) (fun _ _ _ h => h) (Or.inl ⟨by rfl, ?hyT39⟩) (by assumption) ?rstT39
  case hyT39 => (intro v hSw; obtain ⟨s0, s1, s2⟩ := box3 hSw.1; obtain ⟨t0, t1, t2, t3, t4, t5, t6, t7, t8, t9⟩ := box10 hSw.2; go_simp; (try with_reducible rfl))
  try simp only [Act.put, List.setIfInBounds_toArray, List.set_cons_zero, List.set_cons_succ]
  refine takeD (i := 1) (d := some 37) (v := ?vT40) rfl rfl (by kernel_rfl) (by kernel_rfl) (by kernel_rfl) (fun _ _ _ h => h) (Or.inl ⟨by rfl, ?hyT40⟩) (by assumption) ?rstT40
  case hyT40 => (intro v hSw; obtain ⟨s0, s1, s2⟩ := box3 hSw.1; obtain ⟨t0, t1, t2, t3, t4, t5, t6, t7, t8, t9⟩ := box10 hSw.2; go_simp; (try with_reducible rfl))
  try simp only [Act.put, List.setIfInBounds_toArray, List.set_cons_zero, List.set_cons_succ]
  refine takeD (i := 2) (d := some 38) (v := ?vT41) rfl rfl (by kernel_rfl) (by kernel_rfl) (by kernel_rfl) (fun _ _ _ h => h) (Or.inl ⟨by rfl, ?hyT41⟩) (by assumption) ?rstT41
  case hyT41 => (intro v hSw; obtain ⟨s0, s1, s2⟩ := box3 hSw.1; obtain ⟨t0, t1, t2, t3, t4, t5, t6, t7, t8, t9⟩ := box10 hSw.2; go_simp; (try with_reducible rfl))
  try simp only [Act.put, List.setIfInBounds_toArray, List.set_cons_zero, List.set_cons_succ]
  refine takeD (i := 3) (d := some 39) (v := ?vT42) rfl rfl (by kernel_rfl) (by kernel_rfl) (by kernel_rfl) (fun _ _ _ h => h) (Or.inl ⟨by rfl, ?hyT42⟩) (by assumption) ?rstT42
  case hyT42 => (intro v hSw; obtain ⟨s0, s1, s2⟩ := box3 hSw.1; obtain ⟨t0, t1, t2, t3, t4, t5, t6, t7, t8, t9⟩ := box10 hSw.2; go_simp; (try with_reducible rfl))
  try simp only [Act.put, List.setIfInBounds_toArray, List.set_cons_zero, List.set_cons_succ]
  refine takeD (i := 4) (d := some 40) (v := ?vT43) rfl rfl (by kernel_rfl) (by kernel_rfl) (by kernel_rfl) (fun _ _ _ h => h) (Or.inl ⟨by rfl, ?hyT43⟩) (by assumption) ?rstT43
  case hyT43 => (intro v hSw; obtain ⟨s0, s1, s2⟩ := box3 hSw.1; obtain ⟨t0, t1, t2, t3, t4, t5, t6, t7, t8, t9⟩ := box10 hSw.2; go_simp; (try with_reducible rfl))
  try simp only [Act.put, List.setIfInBounds_toArray, List.set_cons_zero, List.set_cons_succ]
  refine takeD (i := 5) (d := some 41) (v := ?vT44) rfl rfl (by kernel_rfl) (by kernel_rfl) (by kernel_rfl) (fun _ _ _ h => h) (Or.inl ⟨by rfl, ?hyT44⟩) (by assumption) ?rstT44
  case hyT44 => (intro v hSw; obtain ⟨s0, s1, s2⟩ := box3 hSw.1; obtain ⟨t0, t1, t2, t3, t4, t5, t6, t7, t8, t9⟩ := box10 hSw.2; go_simp; (try with_reducible rfl))
  try simp only [Act.put, List.setIfInBounds_toArray, List.set_cons_zero, List.set_cons_succ]
  refine takeD (i := 6) (d := some 42) (v := ?vT45) rfl rfl (by kernel_rfl) (by kernel_rfl) (by kernel_rfl) (fun _ _ _ h => h) (Or.inl ⟨by rfl, ?hyT45⟩) (by assumption) ?rstT45
  case hyT45 => (intro v hSw; obtain ⟨s0, s1, s2⟩ := box3 hSw.1; obtain ⟨t0, t1, t2, t3, t4, t5, t6, t7, t8, t9⟩ := box10 hSw.2; go_simp; (try with_reducible rfl))
  try simp only [Act.put, List.setIfInBounds_toArray, List.set_cons_zero, List.set_cons_succ]
  refine takeD (i := 7) (d := some 43) (v := ?vT46) rfl rfl (by kernel_rfl) (by kernel_rfl) (by kernel_rfl) (fun _ _ _ h => h) (Or.inl ⟨by rfl, ?hyT46⟩) (by assumption) ?rstT46
  case hyT46 => (intro v hSw; obtain ⟨s0, s1, s2⟩ := box3 hSw.1; obtain ⟨t0, t1, t2, t3, t4, t5, t6, t7, t8, t9⟩ := box10 hSw.2; go_simp; (try with_reducible rfl))
  try simp only [Act.put, List.setIfInBounds_toArray, List.set_cons_zero, List.set_cons_succ]
  refine takeD (i := 8) (d := some 44) (v := ?vT47) rfl rfl (by kernel_rfl) (by kernel_rfl) (by kernel_rfl) (fun _ _ _ h => h) (Or.inl ⟨by rfl, ?hyT47⟩) (by assumption) ?rstT47
  case hyT47 => (intro v hSw; obtain ⟨s0, s1, s2⟩ := box3 hSw.1; obtain ⟨t0, t1, t2, t3, t4, t5, t6, t7, t8, t9⟩ := box10 hSw.2; go_simp; (try with_reducible rfl))
  try simp only [Act.put, List.setIfInBounds_toArray, List.set_cons_zero, List.set_cons_succ]
  refine wpAnyH_ready (rs := [9]) (by kernel_rfl) (by simp) ?_
  refine AllReadyH.cons rfl (fun K hK => ?_) AllReadyH.nil
  go_simp
  refine (HMe.out w6 rfl).mono ?_
  rintro e w7 ⟨q, c, rfl, hq, hb7⟩
  have hx7 := (hb7.block _ (Array.getElem?_eq_some_iff.1 hx6).1).trans hx6
  have ha7 := (hb7.block _ (Array.getElem?_eq_some_iff.1 ha6).1).trans ha6
  have HN : Hid (Q q c ∧ Below w.heap.size w w7) := ⟨hq, hbw6.trans (hb7.mono hbw6.size)⟩
  clear hb7 hx6 ha6 hq hbw6
  dsimp only
  clear hHeld
  refine hK.out _ _ ?hS48 (fun hHeld => ?rest48)
  case hS48 => exact ⟨hx7, ha7⟩
  clear hK K
  try simp only [Act.put, List.setIfInBounds_toArray, List.set_cons_zero, List.set_cons_succ]
  refine takeD (i := 10) (d := some 35) (v := ?vT49) rfl rfl (by kernel_rfl) (by kernel_rfl) (by kernel_rfl) (fun _ _ _ h => h) (Or.inl ⟨by rfl, ?hyT49⟩) (by assumption) ?rstT49
  case hyT49 => (intro v hSw; go_simp; (try with_reducible rfl))
  try simp only [Act.put, List.setIfInBounds_toArray, List.set_cons_zero, List.set_cons_succ]
  refine takeD (i := 11) (d := some 46) (v := ?vT50) rfl rfl (by kernel_rfl) (by kernel_rfl) (by kernel_rfl) (fun _ _ _ h => h) (Or.inl ⟨by rfl, ?hyT50⟩) (by assumption) ?rstT50
  case hyT50 => (intro v hSw; go_simp; (try with_reducible rfl))
  try simp only [Act.put, List.setIfInBounds_toArray, List.set_cons_zero, List.set_cons_succ]
  refine takeD (i := 12) (d := some 47) (v := ?vT51) rfl rfl (by kernel_rfl) (by kernel_rfl) (by kernel_rfl) (fun _ _ _ h => h) (Or.inl ⟨by rfl, ?hyT51⟩) (by assumption) ?rstT51
  case hyT51 => (intro v hSw; go_simp; (try with_reducible rfl))
  try simp only [Act.put, List.setIfInBounds_toArray, List.set_cons_zero, List.set_cons_succ]
  refine takeD (i := 13) (d := some 10) (v := ?vT52) rfl rfl (by kernel_rfl) (by kernel_rfl) (by kernel_rfl) (fun _ _ _ h => h) (Or.inl ⟨by rfl, ?hyT52⟩) (by assumption) ?rstT52
  case hyT52 => (intro v hSw; go_simp; (try with_reducible rfl))
  try simp only [Act.put, List.setIfInBounds_toArray, List.set_cons_zero, List.set_cons_succ]
  refine takeD (i := 14) (d := some 11) (v := ?vT53) rfl rfl (by kernel_rfl) (by kernel_rfl) (by kernel_rfl) (fun _ _ _ h => h) (Or.inl ⟨by rfl, ?hyT53⟩) (by assumption) ?rstT53
  case hyT53 => (intro v hSw; go_simp; (try with_reducible rfl))
  try simp only [Act.put, List.setIfInBounds_toArray, List.set_cons_zero, List.set_cons_succ]
  refine wpAnyH_done (by kernel_rfl) ?_ _
  clear hHeld
  go_wp2_with fail
  refine bodyPost_ret (v := .tuple #[.int .i64 (q : Int), .int .i64 c, .int .i64 0]) (by simp [results, Tryd.results14, go_sem]) rfl ?_
  exact ⟨q, c, rfl, HN.out⟩
set_option maxHeartbeats 16000000 in
theorem walk2_any {s : ByteArray} {rs : List Int} (ht : IsText s rs) (W : Nat) (hW : 1 ≤ W ∧ W ≤ 1024) (hn : rs.length ≤ 4294967000) {w : World} (hP : PTab w) (hG : Glob w.heap.size) (at' : Nat) (hat : at' ≤ rs.length) (want : Int) {Q : Nat → Int → Prop}
    (hM : ∀ a k cap V, Below w.heap.size w V → Sheet rs W V a k cap → Calls Tryd.prog 26 #[.agg #[.string s, .int .i64 (rs.length : Int), .slice a k cap, .int .i64 (at' : Int), .int .i64 want, .int .i64 2]] V fun e w' => ∃ q : Nat, ∃ c : Int, e = .returned (.tuple #[.int .i64 (q : Int), .int .i64 c]) ∧ Q q c ∧ Below V.heap.size V w') :
    Calls Tryd.prog 14 #[.string s, .int .i64 (W : Int), .int .i64 (at' : Int), .int .i64 want, .int .i64 2] w fun e w' => ∃ q : Nat, ∃ c : Int, e = .returned (.tuple #[.int .i64 (q : Int), .int .i64 c, .int .i64 0]) ∧ Q q c ∧ Below w.heap.size w w' := by
  have HLa := lay_sheet ht W 1 hW ⟨by omega, by omega⟩ hn hP hG
  have HM0 : Hid (∀ a k cap V, Below w.heap.size w V → Sheet rs W V a k cap → Calls Tryd.prog 26 #[.agg #[.string s, .int .i64 (rs.length : Int), .slice a k cap, .int .i64 (at' : Int), .int .i64 want, .int .i64 2]] V fun e w' => ∃ q : Nat, ∃ c : Int, e = .returned (.tuple #[.int .i64 (q : Int), .int .i64 c]) ∧ Q q c ∧ Below V.heap.size V w') := hM
  have HAt : Hid (at' ≤ rs.length) := hat
  clear ht hW hn hP hG hM hat
  go_enter Tryd.func14, Tryd.ntmps14
  go_wp2_with fail
  refine HLa.mono ?_
  rintro e w1 ⟨a, k, cap, rfl, hsh, hb1⟩
  obtain ⟨m, hm⟩ : ∃ m, rs.length = m := ⟨_, rfl⟩
  rw [hm]
  have HMe : Hid (∀ V, Below w.heap.size w V → Below w1.heap.size w1 V → Calls Tryd.prog 26 #[.agg #[.string s, .int .i64 (m : Int), .slice a k cap, .int .i64 (at' : Int), .int .i64 want, .int .i64 2]] V fun e w' => ∃ q : Nat, ∃ c : Int, e = .returned (.tuple #[.int .i64 (q : Int), .int .i64 c]) ∧ Q q c ∧ Below V.heap.size V w') := fun V hV hV1 => by
    have := HM0.out a k cap V hV (hsh.below hV1)
    rw [hm] at this
    exact this
  obtain ⟨w2, hw2⟩ : ∃ V, w1.alloc (.cells #[.string s, .int .i64 (m : Int), .slice a k cap] 54) = V := ⟨_, rfl⟩
  have hb2 : Below w1.heap.size w1 w2 := by rw [← hw2]; exact (Below.refl _ _).alloc (Nat.le_refl _) _
  have hx2 : w2.heap[w1.heap.size]? = some (.cells #[.string s, .int .i64 (m : Int), .slice a k cap] 54) := by rw [← hw2]; exact heap_alloc_new _ _
  obtain ⟨c0, c1, c2⟩ := box3 hx2
  have hha := has_any s m a k cap (at' : Int) w2
  rw [show decide (0 ≤ (at' : Int) ∧ (at' : Int) ≤ (m : Int)) = true from decide_eq_true ⟨by omega, by have := HAt.out; omega⟩] at hha
  have HB1 : Hid (Below w.heap.size w w1) := hb1
  clear hm hsh hb1 HLa HM0 HAt
  go_wp2_with fail
  refine hha.mono ?_
  rintro e w3 ⟨rfl, hb3⟩
  have hx3 := (hb3.block _ (Array.getElem?_eq_some_iff.1 hx2).1).trans hx2
  have hb13 := hb2.trans (hb3.mono hb2.size)
  obtain ⟨N, hN⟩ : ∃ N, w1.heap.size = N := ⟨_, rfl⟩
  obtain ⟨wn, hwn⟩ : ∃ V, w3.alloc (.cells #[.nilFunc, .nilFunc, .nilFunc, .nilFunc, .nilFunc, .nilFunc, .nilFunc, .nilFunc, .nilFunc, .nilFunc] 63) = V := ⟨_, rfl⟩
  have hbn : Below w3.heap.size w3 wn := by rw [← hwn]; exact (Below.refl _ _).alloc (Nat.le_refl _) _
  have han : wn.heap[w3.heap.size]? = some (.cells #[.nilFunc, .nilFunc, .nilFunc, .nilFunc, .nilFunc, .nilFunc, .nilFunc, .nilFunc, .nilFunc, .nilFunc] 63) := by rw [← hwn]; exact heap_alloc_new _ _
  have hN3 : N < w3.heap.size := by rw [← hN]; exact (Array.getElem?_eq_some_iff.1 hx3).1
  obtain ⟨y0, y1, y2, y3, y4, y5, y6, y7, y8, y9⟩ := box10 han
  obtain ⟨z0, z1, z2, z3, z4, z5, z6, z7, z8, z9⟩ := fr10 han
  obtain ⟨w4, hw4, ha4, hk4⟩ := store10 han (.func (.func 26) #[] #[]) (.func (.func 26) #[] #[]) (.func (.func 27) #[] #[]) (.func (.func 28) #[] #[]) (.func (.func 29) #[] #[]) (.func (.func 30) #[] #[]) (.func (.func 26) #[] #[]) (.func (.func 26) #[] #[]) (.func (.func 26) #[] #[]) (.func (.func 26) #[] #[])
  rw [hN] at hx3 ⊢
  clear hha hb2 hb3 hx2 c0 c1 c2 hN hw2
  go_wp2_with fail
  try simp only [hw4]
  have hb4 : Below w3.heap.size w3 w4 := hbn.trans ((hk4.chg (D := fun g => g = w3.heap.size) rfl).below (fun g e => by omega) hbn.size)
  have hx4 := (hb4.block _ (Array.getElem?_eq_some_iff.1 hx3).1).trans hx3
  have hb14 := hb13.trans (hb4.mono hb13.size)
  obtain ⟨w6, hw6⟩ : ∃ V, w4.drew = V := ⟨_, rfl⟩
  have hb6 : Below w4.heap.size w4 w6 := by rw [← hw6]; exact (Below.refl _ _).drew
  have hx6 := (hb6.block _ (Array.getElem?_eq_some_iff.1 hx4).1).trans hx4
  have ha6 := (hb6.block _ (Array.getElem?_eq_some_iff.1 ha4).1).trans ha4
  have hb16 := hb14.trans (hb6.mono hb14.size)
  have hbw6 := HB1.out.trans (hb16.mono HB1.out.size)
  have HMe : Hid (∀ V, V = w6 → Calls Tryd.prog 26 #[.agg #[.string s, .int .i64 (m : Int), .slice a k cap, .int .i64 (at' : Int), .int .i64 want, .int .i64 2]] w6 fun e w' => ∃ q : Nat, ∃ c : Int, e = .returned (.tuple #[.int .i64 (q : Int), .int .i64 c]) ∧ Q q c ∧ Below w6.heap.size w6 w') := fun V _ => HMe.out w6 hbw6 hb16
  clear y0 y1 y2 y3 y4 y5 y6 y7 y8 y9 z0 z1 z2 z3 z4 z5 z6 z7 z8 z9 hbn han hk4 hwn hb13 hb4 ha4 hx4 hb14 hb6 hb16 hx3
  obtain ⟨A, hA⟩ : ∃ A, w3.heap.size = A := ⟨_, rfl⟩
  try rw [hw4]
  rw [hA] at ha6 ⊢
  clear hA hw4
  have yw : IntKind.i64.wrap 1 = 1 := IntWalk.i64_in _ (by omega)
  refine wp_region_held_drew (S := (fun v => v.heap[N]? = some (.cells #[.string s, .int .i64 (m : Int), .slice a k cap] 54) ∧ v.heap[A]? = some (.cells #[.func (.func 26) #[] #[], .func (.func 26) #[] #[], .func (.func 27) #[] #[], .func (.func 28) #[] #[], .func (.func 29) #[] #[], .func (.func 30) #[] #[], .func (.func 26) #[] #[], .func (.func 26) #[] #[], .func (.func 26) #[] #[], .func (.func 26) #[] #[]] 63))) (by kernel_rfl) ?hS2 (fun hHeld => ?rest2)
  case hS2 => (rw [hw6]; exact ⟨hx6, ha6⟩)
  rw [hw6] at hHeld ⊢
  clear hw6
  refine takeD (i := 0) (d := some 36) (v := ?vT54) rfl rfl (by kernel_rfl) (by kernel_rfl) (by kernel_rfl) (fun _ _ _ h => h) (Or.inl ⟨by rfl, ?hyT54⟩) (by assumption) ?rstT54
  case hyT54 => (intro v hSw; obtain ⟨s0, s1, s2⟩ := box3 hSw.1; obtain ⟨t0, t1, t2, t3, t4, t5, t6, t7, t8, t9⟩ := box10 hSw.2; go_simp; (try with_reducible rfl))
  try simp only [Act.put, List.setIfInBounds_toArray, List.set_cons_zero, List.set_cons_succ]
  refine takeD (i := 1) (d := some 37) (v := ?vT55) rfl rfl (by kernel_rfl) (by kernel_rfl) (by kernel_rfl) (fun _ _ _ h => h) (Or.inl ⟨by rfl, ?hyT55⟩) (by assumption) ?rstT55
  case hyT55 => (intro v hSw; obtain ⟨s0, s1, s2⟩ := box3 hSw.1; obtain ⟨t0, t1, t2, t3, t4, t5, t6, t7, t8, t9⟩ := box10 hSw.2; go_simp; (try with_reducible rfl))
  try simp only [Act.put, List.setIfInBounds_toArray, List.set_cons_zero, List.set_cons_succ]
  refine takeD (i := 2) (d := some 38) (v := ?vT56) rfl rfl (by kernel_rfl) (by kernel_rfl) (by kernel_rfl) (fun _ _ _ h => h) (Or.inl ⟨by rfl, ?hyT56⟩) (by assumption) ?rstT56
  case hyT56 => (intro v hSw; obtain ⟨s0, s1, s2⟩ := box3 hSw.1; obtain ⟨t0, t1, t2, t3, t4, t5, t6, t7, t8, t9⟩ := box10 hSw.2; go_simp; (try with_reducible rfl))
  try simp only [Act.put, List.setIfInBounds_toArray, List.set_cons_zero, List.set_cons_succ]
  refine takeD (i := 3) (d := some 39) (v := ?vT57) rfl rfl (by kernel_rfl) (by kernel_rfl) (by kernel_rfl) (fun _ _ _ h => h) (Or.inl ⟨by rfl, ?hyT57⟩) (by assumption) ?rstT57
  case hyT57 => (intro v hSw; obtain ⟨s0, s1, s2⟩ := box3 hSw.1; obtain ⟨t0, t1, t2, t3, t4, t5, t6, t7, t8, t9⟩ := box10 hSw.2; go_simp; (try with_reducible rfl))
  try simp only [Act.put, List.setIfInBounds_toArray, List.set_cons_zero, List.set_cons_succ]
  refine takeD (i := 4) (d := some 40) (v := ?vT58) rfl rfl (by kernel_rfl) (by kernel_rfl) (by kernel_rfl) (fun _ _ _ h => h) (Or.inl ⟨by rfl, ?hyT58⟩) (by assumption) ?rstT58
  case hyT58 => (intro v hSw; obtain ⟨s0, s1, s2⟩ := box3 hSw.1; obtain ⟨t0, t1, t2, t3, t4, t5, t6, t7, t8, t9⟩ := box10 hSw.2; go_simp; (try with_reducible rfl))
  try simp only [Act.put, List.setIfInBounds_toArray, List.set_cons_zero, List.set_cons_succ]
  refine takeD (i := 5) (d := some 41) (v := ?vT59) rfl rfl (by kernel_rfl) (by kernel_rfl) (by kernel_rfl) (fun _ _ _ h => h) (Or.inl ⟨by rfl, ?hyT59⟩) (by assumption) ?rstT59
  case hyT59 => (intro v hSw; obtain ⟨s0, s1, s2⟩ := box3 hSw.1; obtain ⟨t0, t1, t2, t3, t4, t5, t6, t7, t8, t9⟩ := box10 hSw.2; go_simp; (try with_reducible rfl))
  try simp only [Act.put, List.setIfInBounds_toArray, List.set_cons_zero, List.set_cons_succ]
  refine takeD (i := 6) (d := some 42) (v := ?vT60) rfl rfl (by kernel_rfl) (by kernel_rfl) (by kernel_rfl) (fun _ _ _ h => h) (Or.inl ⟨by rfl, ?hyT60⟩) (by assumption) ?rstT60
  case hyT60 => (intro v hSw; obtain ⟨s0, s1, s2⟩ := box3 hSw.1; obtain ⟨t0, t1, t2, t3, t4, t5, t6, t7, t8, t9⟩ := box10 hSw.2; go_simp; (try with_reducible rfl))
  try simp only [Act.put, List.setIfInBounds_toArray, List.set_cons_zero, List.set_cons_succ]
  refine takeD (i := 7) (d := some 43) (v := ?vT61) rfl rfl (by kernel_rfl) (by kernel_rfl) (by kernel_rfl) (fun _ _ _ h => h) (Or.inl ⟨by rfl, ?hyT61⟩) (by assumption) ?rstT61
  case hyT61 => (intro v hSw; obtain ⟨s0, s1, s2⟩ := box3 hSw.1; obtain ⟨t0, t1, t2, t3, t4, t5, t6, t7, t8, t9⟩ := box10 hSw.2; go_simp; (try with_reducible rfl))
  try simp only [Act.put, List.setIfInBounds_toArray, List.set_cons_zero, List.set_cons_succ]
  refine takeD (i := 8) (d := some 44) (v := ?vT62) rfl rfl (by kernel_rfl) (by kernel_rfl) (by kernel_rfl) (fun _ _ _ h => h) (Or.inl ⟨by rfl, ?hyT62⟩) (by assumption) ?rstT62
  case hyT62 => (intro v hSw; obtain ⟨s0, s1, s2⟩ := box3 hSw.1; obtain ⟨t0, t1, t2, t3, t4, t5, t6, t7, t8, t9⟩ := box10 hSw.2; go_simp; (try with_reducible rfl))
  try simp only [Act.put, List.setIfInBounds_toArray, List.set_cons_zero, List.set_cons_succ]
  refine wpAnyH_ready (rs := [9]) (by kernel_rfl) (by simp) ?_
  refine AllReadyH.cons rfl (fun K hK => ?_) AllReadyH.nil
  go_simp
  refine (HMe.out w6 rfl).mono ?_
  rintro e w7 ⟨q, c, rfl, hq, hb7⟩
  have hx7 := (hb7.block _ (Array.getElem?_eq_some_iff.1 hx6).1).trans hx6
  have ha7 := (hb7.block _ (Array.getElem?_eq_some_iff.1 ha6).1).trans ha6
  have HN : Hid (Q q c ∧ Below w.heap.size w w7) := ⟨hq, hbw6.trans (hb7.mono hbw6.size)⟩
  clear hb7 hx6 ha6 hq hbw6
  dsimp only
  clear hHeld
  refine hK.out _ _ ?hS63 (fun hHeld => ?rest63)
  case hS63 => exact ⟨hx7, ha7⟩
  clear hK K
  try simp only [Act.put, List.setIfInBounds_toArray, List.set_cons_zero, List.set_cons_succ]
  refine takeD (i := 10) (d := some 35) (v := ?vT64) rfl rfl (by kernel_rfl) (by kernel_rfl) (by kernel_rfl) (fun _ _ _ h => h) (Or.inl ⟨by rfl, ?hyT64⟩) (by assumption) ?rstT64
  case hyT64 => (intro v hSw; go_simp; (try with_reducible rfl))
  try simp only [Act.put, List.setIfInBounds_toArray, List.set_cons_zero, List.set_cons_succ]
  refine takeD (i := 11) (d := some 46) (v := ?vT65) rfl rfl (by kernel_rfl) (by kernel_rfl) (by kernel_rfl) (fun _ _ _ h => h) (Or.inl ⟨by rfl, ?hyT65⟩) (by assumption) ?rstT65
  case hyT65 => (intro v hSw; go_simp; (try with_reducible rfl))
  try simp only [Act.put, List.setIfInBounds_toArray, List.set_cons_zero, List.set_cons_succ]
  refine takeD (i := 12) (d := some 47) (v := ?vT66) rfl rfl (by kernel_rfl) (by kernel_rfl) (by kernel_rfl) (fun _ _ _ h => h) (Or.inl ⟨by rfl, ?hyT66⟩) (by assumption) ?rstT66
  case hyT66 => (intro v hSw; go_simp; (try with_reducible rfl))
  try simp only [Act.put, List.setIfInBounds_toArray, List.set_cons_zero, List.set_cons_succ]
  refine takeD (i := 13) (d := some 10) (v := ?vT67) rfl rfl (by kernel_rfl) (by kernel_rfl) (by kernel_rfl) (fun _ _ _ h => h) (Or.inl ⟨by rfl, ?hyT67⟩) (by assumption) ?rstT67
  case hyT67 => (intro v hSw; go_simp; (try with_reducible rfl))
  try simp only [Act.put, List.setIfInBounds_toArray, List.set_cons_zero, List.set_cons_succ]
  refine takeD (i := 14) (d := some 11) (v := ?vT68) rfl rfl (by kernel_rfl) (by kernel_rfl) (by kernel_rfl) (fun _ _ _ h => h) (Or.inl ⟨by rfl, ?hyT68⟩) (by assumption) ?rstT68
  case hyT68 => (intro v hSw; go_simp; (try with_reducible rfl))
  try simp only [Act.put, List.setIfInBounds_toArray, List.set_cons_zero, List.set_cons_succ]
  refine wpAnyH_done (by kernel_rfl) ?_ _
  clear hHeld
  go_wp2_with fail
  refine bodyPost_ret (v := .tuple #[.int .i64 (q : Int), .int .i64 c, .int .i64 0]) (by simp [results, Tryd.results14, go_sem]) rfl ?_
  exact ⟨q, c, rfl, HN.out⟩
set_option maxHeartbeats 16000000 in
theorem walk3_any {s : ByteArray} {rs : List Int} (ht : IsText s rs) (W : Nat) (hW : 1 ≤ W ∧ W ≤ 1024) (hn : rs.length ≤ 4294967000) {w : World} (hP : PTab w) (hG : Glob w.heap.size) (at' : Nat) (hat : at' ≤ rs.length) (want : Int) {Q : Nat → Int → Prop}
    (hM : ∀ a k cap V, Below w.heap.size w V → Sheet rs W V a k cap → Calls Tryd.prog 27 #[.agg #[.string s, .int .i64 (rs.length : Int), .slice a k cap, .int .i64 (at' : Int), .int .i64 want, .int .i64 3]] V fun e w' => ∃ q : Nat, ∃ c : Int, e = .returned (.tuple #[.int .i64 (q : Int), .int .i64 c]) ∧ Q q c ∧ Below V.heap.size V w') :
    Calls Tryd.prog 14 #[.string s, .int .i64 (W : Int), .int .i64 (at' : Int), .int .i64 want, .int .i64 3] w fun e w' => ∃ q : Nat, ∃ c : Int, e = .returned (.tuple #[.int .i64 (q : Int), .int .i64 c, .int .i64 0]) ∧ Q q c ∧ Below w.heap.size w w' := by
  have HLa := lay_sheet ht W 1 hW ⟨by omega, by omega⟩ hn hP hG
  have HM0 : Hid (∀ a k cap V, Below w.heap.size w V → Sheet rs W V a k cap → Calls Tryd.prog 27 #[.agg #[.string s, .int .i64 (rs.length : Int), .slice a k cap, .int .i64 (at' : Int), .int .i64 want, .int .i64 3]] V fun e w' => ∃ q : Nat, ∃ c : Int, e = .returned (.tuple #[.int .i64 (q : Int), .int .i64 c]) ∧ Q q c ∧ Below V.heap.size V w') := hM
  have HAt : Hid (at' ≤ rs.length) := hat
  clear ht hW hn hP hG hM hat
  go_enter Tryd.func14, Tryd.ntmps14
  go_wp2_with fail
  refine HLa.mono ?_
  rintro e w1 ⟨a, k, cap, rfl, hsh, hb1⟩
  obtain ⟨m, hm⟩ : ∃ m, rs.length = m := ⟨_, rfl⟩
  rw [hm]
  have HMe : Hid (∀ V, Below w.heap.size w V → Below w1.heap.size w1 V → Calls Tryd.prog 27 #[.agg #[.string s, .int .i64 (m : Int), .slice a k cap, .int .i64 (at' : Int), .int .i64 want, .int .i64 3]] V fun e w' => ∃ q : Nat, ∃ c : Int, e = .returned (.tuple #[.int .i64 (q : Int), .int .i64 c]) ∧ Q q c ∧ Below V.heap.size V w') := fun V hV hV1 => by
    have := HM0.out a k cap V hV (hsh.below hV1)
    rw [hm] at this
    exact this
  obtain ⟨w2, hw2⟩ : ∃ V, w1.alloc (.cells #[.string s, .int .i64 (m : Int), .slice a k cap] 54) = V := ⟨_, rfl⟩
  have hb2 : Below w1.heap.size w1 w2 := by rw [← hw2]; exact (Below.refl _ _).alloc (Nat.le_refl _) _
  have hx2 : w2.heap[w1.heap.size]? = some (.cells #[.string s, .int .i64 (m : Int), .slice a k cap] 54) := by rw [← hw2]; exact heap_alloc_new _ _
  obtain ⟨c0, c1, c2⟩ := box3 hx2
  have hha := has_any s m a k cap (at' : Int) w2
  rw [show decide (0 ≤ (at' : Int) ∧ (at' : Int) ≤ (m : Int)) = true from decide_eq_true ⟨by omega, by have := HAt.out; omega⟩] at hha
  have HB1 : Hid (Below w.heap.size w w1) := hb1
  clear hm hsh hb1 HLa HM0 HAt
  go_wp2_with fail
  refine hha.mono ?_
  rintro e w3 ⟨rfl, hb3⟩
  have hx3 := (hb3.block _ (Array.getElem?_eq_some_iff.1 hx2).1).trans hx2
  have hb13 := hb2.trans (hb3.mono hb2.size)
  obtain ⟨N, hN⟩ : ∃ N, w1.heap.size = N := ⟨_, rfl⟩
  obtain ⟨wn, hwn⟩ : ∃ V, w3.alloc (.cells #[.nilFunc, .nilFunc, .nilFunc, .nilFunc, .nilFunc, .nilFunc, .nilFunc, .nilFunc, .nilFunc, .nilFunc] 63) = V := ⟨_, rfl⟩
  have hbn : Below w3.heap.size w3 wn := by rw [← hwn]; exact (Below.refl _ _).alloc (Nat.le_refl _) _
  have han : wn.heap[w3.heap.size]? = some (.cells #[.nilFunc, .nilFunc, .nilFunc, .nilFunc, .nilFunc, .nilFunc, .nilFunc, .nilFunc, .nilFunc, .nilFunc] 63) := by rw [← hwn]; exact heap_alloc_new _ _
  have hN3 : N < w3.heap.size := by rw [← hN]; exact (Array.getElem?_eq_some_iff.1 hx3).1
  obtain ⟨y0, y1, y2, y3, y4, y5, y6, y7, y8, y9⟩ := box10 han
  obtain ⟨z0, z1, z2, z3, z4, z5, z6, z7, z8, z9⟩ := fr10 han
  obtain ⟨w4, hw4, ha4, hk4⟩ := store10 han (.func (.func 26) #[] #[]) (.func (.func 26) #[] #[]) (.func (.func 27) #[] #[]) (.func (.func 28) #[] #[]) (.func (.func 29) #[] #[]) (.func (.func 30) #[] #[]) (.func (.func 26) #[] #[]) (.func (.func 26) #[] #[]) (.func (.func 26) #[] #[]) (.func (.func 26) #[] #[])
  rw [hN] at hx3 ⊢
  clear hha hb2 hb3 hx2 c0 c1 c2 hN hw2
  go_wp2_with fail
  try simp only [hw4]
  have hb4 : Below w3.heap.size w3 w4 := hbn.trans ((hk4.chg (D := fun g => g = w3.heap.size) rfl).below (fun g e => by omega) hbn.size)
  have hx4 := (hb4.block _ (Array.getElem?_eq_some_iff.1 hx3).1).trans hx3
  have hb14 := hb13.trans (hb4.mono hb13.size)
  obtain ⟨w6, hw6⟩ : ∃ V, w4.drew = V := ⟨_, rfl⟩
  have hb6 : Below w4.heap.size w4 w6 := by rw [← hw6]; exact (Below.refl _ _).drew
  have hx6 := (hb6.block _ (Array.getElem?_eq_some_iff.1 hx4).1).trans hx4
  have ha6 := (hb6.block _ (Array.getElem?_eq_some_iff.1 ha4).1).trans ha4
  have hb16 := hb14.trans (hb6.mono hb14.size)
  have hbw6 := HB1.out.trans (hb16.mono HB1.out.size)
  have HMe : Hid (∀ V, V = w6 → Calls Tryd.prog 27 #[.agg #[.string s, .int .i64 (m : Int), .slice a k cap, .int .i64 (at' : Int), .int .i64 want, .int .i64 3]] w6 fun e w' => ∃ q : Nat, ∃ c : Int, e = .returned (.tuple #[.int .i64 (q : Int), .int .i64 c]) ∧ Q q c ∧ Below w6.heap.size w6 w') := fun V _ => HMe.out w6 hbw6 hb16
  clear y0 y1 y2 y3 y4 y5 y6 y7 y8 y9 z0 z1 z2 z3 z4 z5 z6 z7 z8 z9 hbn han hk4 hwn hb13 hb4 ha4 hx4 hb14 hb6 hb16 hx3
  obtain ⟨A, hA⟩ : ∃ A, w3.heap.size = A := ⟨_, rfl⟩
  try rw [hw4]
  rw [hA] at ha6 ⊢
  clear hA hw4
  have yw : IntKind.i64.wrap 2 = 2 := IntWalk.i64_in _ (by omega)
  refine wp_region_held_drew (S := (fun v => v.heap[N]? = some (.cells #[.string s, .int .i64 (m : Int), .slice a k cap] 54) ∧ v.heap[A]? = some (.cells #[.func (.func 26) #[] #[], .func (.func 26) #[] #[], .func (.func 27) #[] #[], .func (.func 28) #[] #[], .func (.func 29) #[] #[], .func (.func 30) #[] #[], .func (.func 26) #[] #[], .func (.func 26) #[] #[], .func (.func 26) #[] #[], .func (.func 26) #[] #[]] 63))) (by kernel_rfl) ?hS3 (fun hHeld => ?rest3)
  case hS3 => (rw [hw6]; exact ⟨hx6, ha6⟩)
  rw [hw6] at hHeld ⊢
  clear hw6
  refine takeD (i := 0) (d := some 36) (v := ?vT69) rfl rfl (by kernel_rfl) (by kernel_rfl) (by kernel_rfl) (fun _ _ _ h => h) (Or.inl ⟨by rfl, ?hyT69⟩) (by assumption) ?rstT69
  case hyT69 => (intro v hSw; obtain ⟨s0, s1, s2⟩ := box3 hSw.1; obtain ⟨t0, t1, t2, t3, t4, t5, t6, t7, t8, t9⟩ := box10 hSw.2; go_simp; (try with_reducible rfl))
  try simp only [Act.put, List.setIfInBounds_toArray, List.set_cons_zero, List.set_cons_succ]
  refine takeD (i := 1) (d := some 37) (v := ?vT70) rfl rfl (by kernel_rfl) (by kernel_rfl) (by kernel_rfl) (fun _ _ _ h => h) (Or.inl ⟨by rfl, ?hyT70⟩) (by assumption) ?rstT70
  case hyT70 => (intro v hSw; obtain ⟨s0, s1, s2⟩ := box3 hSw.1; obtain ⟨t0, t1, t2, t3, t4, t5, t6, t7, t8, t9⟩ := box10 hSw.2; go_simp; (try with_reducible rfl))
  try simp only [Act.put, List.setIfInBounds_toArray, List.set_cons_zero, List.set_cons_succ]
  refine takeD (i := 2) (d := some 38) (v := ?vT71) rfl rfl (by kernel_rfl) (by kernel_rfl) (by kernel_rfl) (fun _ _ _ h => h) (Or.inl ⟨by rfl, ?hyT71⟩) (by assumption) ?rstT71
  case hyT71 => (intro v hSw; obtain ⟨s0, s1, s2⟩ := box3 hSw.1; obtain ⟨t0, t1, t2, t3, t4, t5, t6, t7, t8, t9⟩ := box10 hSw.2; go_simp; (try with_reducible rfl))
  try simp only [Act.put, List.setIfInBounds_toArray, List.set_cons_zero, List.set_cons_succ]
  refine takeD (i := 3) (d := some 39) (v := ?vT72) rfl rfl (by kernel_rfl) (by kernel_rfl) (by kernel_rfl) (fun _ _ _ h => h) (Or.inl ⟨by rfl, ?hyT72⟩) (by assumption) ?rstT72
  case hyT72 => (intro v hSw; obtain ⟨s0, s1, s2⟩ := box3 hSw.1; obtain ⟨t0, t1, t2, t3, t4, t5, t6, t7, t8, t9⟩ := box10 hSw.2; go_simp; (try with_reducible rfl))
  try simp only [Act.put, List.setIfInBounds_toArray, List.set_cons_zero, List.set_cons_succ]
  refine takeD (i := 4) (d := some 40) (v := ?vT73) rfl rfl (by kernel_rfl) (by kernel_rfl) (by kernel_rfl) (fun _ _ _ h => h) (Or.inl ⟨by rfl, ?hyT73⟩) (by assumption) ?rstT73
  case hyT73 => (intro v hSw; obtain ⟨s0, s1, s2⟩ := box3 hSw.1; obtain ⟨t0, t1, t2, t3, t4, t5, t6, t7, t8, t9⟩ := box10 hSw.2; go_simp; (try with_reducible rfl))
  try simp only [Act.put, List.setIfInBounds_toArray, List.set_cons_zero, List.set_cons_succ]
  refine takeD (i := 5) (d := some 41) (v := ?vT74) rfl rfl (by kernel_rfl) (by kernel_rfl) (by kernel_rfl) (fun _ _ _ h => h) (Or.inl ⟨by rfl, ?hyT74⟩) (by assumption) ?rstT74
  case hyT74 => (intro v hSw; obtain ⟨s0, s1, s2⟩ := box3 hSw.1; obtain ⟨t0, t1, t2, t3, t4, t5, t6, t7, t8, t9⟩ := box10 hSw.2; go_simp; (try with_reducible rfl))
  try simp only [Act.put, List.setIfInBounds_toArray, List.set_cons_zero, List.set_cons_succ]
  refine takeD (i := 6) (d := some 42) (v := ?vT75) rfl rfl (by kernel_rfl) (by kernel_rfl) (by kernel_rfl) (fun _ _ _ h => h) (Or.inl ⟨by rfl, ?hyT75⟩) (by assumption) ?rstT75
  case hyT75 => (intro v hSw; obtain ⟨s0, s1, s2⟩ := box3 hSw.1; obtain ⟨t0, t1, t2, t3, t4, t5, t6, t7, t8, t9⟩ := box10 hSw.2; go_simp; (try with_reducible rfl))
  try simp only [Act.put, List.setIfInBounds_toArray, List.set_cons_zero, List.set_cons_succ]
  refine takeD (i := 7) (d := some 43) (v := ?vT76) rfl rfl (by kernel_rfl) (by kernel_rfl) (by kernel_rfl) (fun _ _ _ h => h) (Or.inl ⟨by rfl, ?hyT76⟩) (by assumption) ?rstT76
  case hyT76 => (intro v hSw; obtain ⟨s0, s1, s2⟩ := box3 hSw.1; obtain ⟨t0, t1, t2, t3, t4, t5, t6, t7, t8, t9⟩ := box10 hSw.2; go_simp; (try with_reducible rfl))
  try simp only [Act.put, List.setIfInBounds_toArray, List.set_cons_zero, List.set_cons_succ]
  refine takeD (i := 8) (d := some 44) (v := ?vT77) rfl rfl (by kernel_rfl) (by kernel_rfl) (by kernel_rfl) (fun _ _ _ h => h) (Or.inl ⟨by rfl, ?hyT77⟩) (by assumption) ?rstT77
  case hyT77 => (intro v hSw; obtain ⟨s0, s1, s2⟩ := box3 hSw.1; obtain ⟨t0, t1, t2, t3, t4, t5, t6, t7, t8, t9⟩ := box10 hSw.2; go_simp; (try with_reducible rfl))
  try simp only [Act.put, List.setIfInBounds_toArray, List.set_cons_zero, List.set_cons_succ]
  refine wpAnyH_ready (rs := [9]) (by kernel_rfl) (by simp) ?_
  refine AllReadyH.cons rfl (fun K hK => ?_) AllReadyH.nil
  go_simp
  refine (HMe.out w6 rfl).mono ?_
  rintro e w7 ⟨q, c, rfl, hq, hb7⟩
  have hx7 := (hb7.block _ (Array.getElem?_eq_some_iff.1 hx6).1).trans hx6
  have ha7 := (hb7.block _ (Array.getElem?_eq_some_iff.1 ha6).1).trans ha6
  have HN : Hid (Q q c ∧ Below w.heap.size w w7) := ⟨hq, hbw6.trans (hb7.mono hbw6.size)⟩
  clear hb7 hx6 ha6 hq hbw6
  dsimp only
  clear hHeld
  refine hK.out _ _ ?hS78 (fun hHeld => ?rest78)
  case hS78 => exact ⟨hx7, ha7⟩
  clear hK K
  try simp only [Act.put, List.setIfInBounds_toArray, List.set_cons_zero, List.set_cons_succ]
  refine takeD (i := 10) (d := some 35) (v := ?vT79) rfl rfl (by kernel_rfl) (by kernel_rfl) (by kernel_rfl) (fun _ _ _ h => h) (Or.inl ⟨by rfl, ?hyT79⟩) (by assumption) ?rstT79
  case hyT79 => (intro v hSw; go_simp; (try with_reducible rfl))
  try simp only [Act.put, List.setIfInBounds_toArray, List.set_cons_zero, List.set_cons_succ]
  refine takeD (i := 11) (d := some 46) (v := ?vT80) rfl rfl (by kernel_rfl) (by kernel_rfl) (by kernel_rfl) (fun _ _ _ h => h) (Or.inl ⟨by rfl, ?hyT80⟩) (by assumption) ?rstT80
  case hyT80 => (intro v hSw; go_simp; (try with_reducible rfl))
  try simp only [Act.put, List.setIfInBounds_toArray, List.set_cons_zero, List.set_cons_succ]
  refine takeD (i := 12) (d := some 47) (v := ?vT81) rfl rfl (by kernel_rfl) (by kernel_rfl) (by kernel_rfl) (fun _ _ _ h => h) (Or.inl ⟨by rfl, ?hyT81⟩) (by assumption) ?rstT81
  case hyT81 => (intro v hSw; go_simp; (try with_reducible rfl))
  try simp only [Act.put, List.setIfInBounds_toArray, List.set_cons_zero, List.set_cons_succ]
  refine takeD (i := 13) (d := some 10) (v := ?vT82) rfl rfl (by kernel_rfl) (by kernel_rfl) (by kernel_rfl) (fun _ _ _ h => h) (Or.inl ⟨by rfl, ?hyT82⟩) (by assumption) ?rstT82
  case hyT82 => (intro v hSw; go_simp; (try with_reducible rfl))
  try simp only [Act.put, List.setIfInBounds_toArray, List.set_cons_zero, List.set_cons_succ]
  refine takeD (i := 14) (d := some 11) (v := ?vT83) rfl rfl (by kernel_rfl) (by kernel_rfl) (by kernel_rfl) (fun _ _ _ h => h) (Or.inl ⟨by rfl, ?hyT83⟩) (by assumption) ?rstT83
  case hyT83 => (intro v hSw; go_simp; (try with_reducible rfl))
  try simp only [Act.put, List.setIfInBounds_toArray, List.set_cons_zero, List.set_cons_succ]
  refine wpAnyH_done (by kernel_rfl) ?_ _
  clear hHeld
  go_wp2_with fail
  refine bodyPost_ret (v := .tuple #[.int .i64 (q : Int), .int .i64 c, .int .i64 0]) (by simp [results, Tryd.results14, go_sem]) rfl ?_
  exact ⟨q, c, rfl, HN.out⟩
set_option maxHeartbeats 16000000 in
theorem walk4_any {s : ByteArray} {rs : List Int} (ht : IsText s rs) (W : Nat) (hW : 1 ≤ W ∧ W ≤ 1024) (hn : rs.length ≤ 4294967000) {w : World} (hP : PTab w) (hG : Glob w.heap.size) (at' : Nat) (hat : at' ≤ rs.length) (want : Int) {Q : Nat → Int → Prop}
    (hM : ∀ a k cap V, Below w.heap.size w V → Sheet rs W V a k cap → Calls Tryd.prog 28 #[.agg #[.string s, .int .i64 (rs.length : Int), .slice a k cap, .int .i64 (at' : Int), .int .i64 want, .int .i64 4]] V fun e w' => ∃ q : Nat, ∃ c : Int, e = .returned (.tuple #[.int .i64 (q : Int), .int .i64 c]) ∧ Q q c ∧ Below V.heap.size V w') :
    Calls Tryd.prog 14 #[.string s, .int .i64 (W : Int), .int .i64 (at' : Int), .int .i64 want, .int .i64 4] w fun e w' => ∃ q : Nat, ∃ c : Int, e = .returned (.tuple #[.int .i64 (q : Int), .int .i64 c, .int .i64 0]) ∧ Q q c ∧ Below w.heap.size w w' := by
  have HLa := lay_sheet ht W 1 hW ⟨by omega, by omega⟩ hn hP hG
  have HM0 : Hid (∀ a k cap V, Below w.heap.size w V → Sheet rs W V a k cap → Calls Tryd.prog 28 #[.agg #[.string s, .int .i64 (rs.length : Int), .slice a k cap, .int .i64 (at' : Int), .int .i64 want, .int .i64 4]] V fun e w' => ∃ q : Nat, ∃ c : Int, e = .returned (.tuple #[.int .i64 (q : Int), .int .i64 c]) ∧ Q q c ∧ Below V.heap.size V w') := hM
  have HAt : Hid (at' ≤ rs.length) := hat
  clear ht hW hn hP hG hM hat
  go_enter Tryd.func14, Tryd.ntmps14
  go_wp2_with fail
  refine HLa.mono ?_
  rintro e w1 ⟨a, k, cap, rfl, hsh, hb1⟩
  obtain ⟨m, hm⟩ : ∃ m, rs.length = m := ⟨_, rfl⟩
  rw [hm]
  have HMe : Hid (∀ V, Below w.heap.size w V → Below w1.heap.size w1 V → Calls Tryd.prog 28 #[.agg #[.string s, .int .i64 (m : Int), .slice a k cap, .int .i64 (at' : Int), .int .i64 want, .int .i64 4]] V fun e w' => ∃ q : Nat, ∃ c : Int, e = .returned (.tuple #[.int .i64 (q : Int), .int .i64 c]) ∧ Q q c ∧ Below V.heap.size V w') := fun V hV hV1 => by
    have := HM0.out a k cap V hV (hsh.below hV1)
    rw [hm] at this
    exact this
  obtain ⟨w2, hw2⟩ : ∃ V, w1.alloc (.cells #[.string s, .int .i64 (m : Int), .slice a k cap] 54) = V := ⟨_, rfl⟩
  have hb2 : Below w1.heap.size w1 w2 := by rw [← hw2]; exact (Below.refl _ _).alloc (Nat.le_refl _) _
  have hx2 : w2.heap[w1.heap.size]? = some (.cells #[.string s, .int .i64 (m : Int), .slice a k cap] 54) := by rw [← hw2]; exact heap_alloc_new _ _
  obtain ⟨c0, c1, c2⟩ := box3 hx2
  have hha := has_any s m a k cap (at' : Int) w2
  rw [show decide (0 ≤ (at' : Int) ∧ (at' : Int) ≤ (m : Int)) = true from decide_eq_true ⟨by omega, by have := HAt.out; omega⟩] at hha
  have HB1 : Hid (Below w.heap.size w w1) := hb1
  clear hm hsh hb1 HLa HM0 HAt
  go_wp2_with fail
  refine hha.mono ?_
  rintro e w3 ⟨rfl, hb3⟩
  have hx3 := (hb3.block _ (Array.getElem?_eq_some_iff.1 hx2).1).trans hx2
  have hb13 := hb2.trans (hb3.mono hb2.size)
  obtain ⟨N, hN⟩ : ∃ N, w1.heap.size = N := ⟨_, rfl⟩
  obtain ⟨wn, hwn⟩ : ∃ V, w3.alloc (.cells #[.nilFunc, .nilFunc, .nilFunc, .nilFunc, .nilFunc, .nilFunc, .nilFunc, .nilFunc, .nilFunc, .nilFunc] 63) = V := ⟨_, rfl⟩
  have hbn : Below w3.heap.size w3 wn := by rw [← hwn]; exact (Below.refl _ _).alloc (Nat.le_refl _) _
  have han : wn.heap[w3.heap.size]? = some (.cells #[.nilFunc, .nilFunc, .nilFunc, .nilFunc, .nilFunc, .nilFunc, .nilFunc, .nilFunc, .nilFunc, .nilFunc] 63) := by rw [← hwn]; exact heap_alloc_new _ _
  have hN3 : N < w3.heap.size := by rw [← hN]; exact (Array.getElem?_eq_some_iff.1 hx3).1
  obtain ⟨y0, y1, y2, y3, y4, y5, y6, y7, y8, y9⟩ := box10 han
  obtain ⟨z0, z1, z2, z3, z4, z5, z6, z7, z8, z9⟩ := fr10 han
  obtain ⟨w4, hw4, ha4, hk4⟩ := store10 han (.func (.func 26) #[] #[]) (.func (.func 26) #[] #[]) (.func (.func 27) #[] #[]) (.func (.func 28) #[] #[]) (.func (.func 29) #[] #[]) (.func (.func 30) #[] #[]) (.func (.func 26) #[] #[]) (.func (.func 26) #[] #[]) (.func (.func 26) #[] #[]) (.func (.func 26) #[] #[])
  rw [hN] at hx3 ⊢
  clear hha hb2 hb3 hx2 c0 c1 c2 hN hw2
  go_wp2_with fail
  try simp only [hw4]
  have hb4 : Below w3.heap.size w3 w4 := hbn.trans ((hk4.chg (D := fun g => g = w3.heap.size) rfl).below (fun g e => by omega) hbn.size)
  have hx4 := (hb4.block _ (Array.getElem?_eq_some_iff.1 hx3).1).trans hx3
  have hb14 := hb13.trans (hb4.mono hb13.size)
  obtain ⟨w6, hw6⟩ : ∃ V, w4.drew = V := ⟨_, rfl⟩
  have hb6 : Below w4.heap.size w4 w6 := by rw [← hw6]; exact (Below.refl _ _).drew
  have hx6 := (hb6.block _ (Array.getElem?_eq_some_iff.1 hx4).1).trans hx4
  have ha6 := (hb6.block _ (Array.getElem?_eq_some_iff.1 ha4).1).trans ha4
  have hb16 := hb14.trans (hb6.mono hb14.size)
  have hbw6 := HB1.out.trans (hb16.mono HB1.out.size)
  have HMe : Hid (∀ V, V = w6 → Calls Tryd.prog 28 #[.agg #[.string s, .int .i64 (m : Int), .slice a k cap, .int .i64 (at' : Int), .int .i64 want, .int .i64 4]] w6 fun e w' => ∃ q : Nat, ∃ c : Int, e = .returned (.tuple #[.int .i64 (q : Int), .int .i64 c]) ∧ Q q c ∧ Below w6.heap.size w6 w') := fun V _ => HMe.out w6 hbw6 hb16
  clear y0 y1 y2 y3 y4 y5 y6 y7 y8 y9 z0 z1 z2 z3 z4 z5 z6 z7 z8 z9 hbn han hk4 hwn hb13 hb4 ha4 hx4 hb14 hb6 hb16 hx3
  obtain ⟨A, hA⟩ : ∃ A, w3.heap.size = A := ⟨_, rfl⟩
  try rw [hw4]
  rw [hA] at ha6 ⊢
  clear hA hw4
  have yw : IntKind.i64.wrap 3 = 3 := IntWalk.i64_in _ (by omega)
  refine wp_region_held_drew (S := (fun v => v.heap[N]? = some (.cells #[.string s, .int .i64 (m : Int), .slice a k cap] 54) ∧ v.heap[A]? = some (.cells #[.func (.func 26) #[] #[], .func (.func 26) #[] #[], .func (.func 27) #[] #[], .func (.func 28) #[] #[], .func (.func 29) #[] #[], .func (.func 30) #[] #[], .func (.func 26) #[] #[], .func (.func 26) #[] #[], .func (.func 26) #[] #[], .func (.func 26) #[] #[]] 63))) (by kernel_rfl) ?hS4 (fun hHeld => ?rest4)
  case hS4 => (rw [hw6]; exact ⟨hx6, ha6⟩)
  rw [hw6] at hHeld ⊢
  clear hw6
  refine takeD (i := 0) (d := some 36) (v := ?vT84) rfl rfl (by kernel_rfl) (by kernel_rfl) (by kernel_rfl) (fun _ _ _ h => h) (Or.inl ⟨by rfl, ?hyT84⟩) (by assumption) ?rstT84
  case hyT84 => (intro v hSw; obtain ⟨s0, s1, s2⟩ := box3 hSw.1; obtain ⟨t0, t1, t2, t3, t4, t5, t6, t7, t8, t9⟩ := box10 hSw.2; go_simp; (try with_reducible rfl))
  try simp only [Act.put, List.setIfInBounds_toArray, List.set_cons_zero, List.set_cons_succ]
  refine takeD (i := 1) (d := some 37) (v := ?vT85) rfl rfl (by kernel_rfl) (by kernel_rfl) (by kernel_rfl) (fun _ _ _ h => h) (Or.inl ⟨by rfl, ?hyT85⟩) (by assumption) ?rstT85
  case hyT85 => (intro v hSw; obtain ⟨s0, s1, s2⟩ := box3 hSw.1; obtain ⟨t0, t1, t2, t3, t4, t5, t6, t7, t8, t9⟩ := box10 hSw.2; go_simp; (try with_reducible rfl))
  try simp only [Act.put, List.setIfInBounds_toArray, List.set_cons_zero, List.set_cons_succ]
  refine takeD (i := 2) (d := some 38) (v := ?vT86) rfl rfl (by kernel_rfl) (by kernel_rfl) (by kernel_rfl) (fun _ _ _ h => h) (Or.inl ⟨by rfl, ?hyT86⟩) (by assumption) ?rstT86
  case hyT86 => (intro v hSw; obtain ⟨s0, s1, s2⟩ := box3 hSw.1; obtain ⟨t0, t1, t2, t3, t4, t5, t6, t7, t8, t9⟩ := box10 hSw.2; go_simp; (try with_reducible rfl))
  try simp only [Act.put, List.setIfInBounds_toArray, List.set_cons_zero, List.set_cons_succ]
  refine takeD (i := 3) (d := some 39) (v := ?vT87) rfl rfl (by kernel_rfl) (by kernel_rfl) (by kernel_rfl) (fun _ _ _ h => h) (Or.inl ⟨by rfl, ?hyT87⟩) (by assumption) ?rstT87
  case hyT87 => (intro v hSw; obtain ⟨s0, s1, s2⟩ := box3 hSw.1; obtain ⟨t0, t1, t2, t3, t4, t5, t6, t7, t8, t9⟩ := box10 hSw.2; go_simp; (try with_reducible rfl))
  try simp only [Act.put, List.setIfInBounds_toArray, List.set_cons_zero, List.set_cons_succ]
  refine takeD (i := 4) (d := some 40) (v := ?vT88) rfl rfl (by kernel_rfl) (by kernel_rfl) (by kernel_rfl) (fun _ _ _ h => h) (Or.inl ⟨by rfl, ?hyT88⟩) (by assumption) ?rstT88
  case hyT88 => (intro v hSw; obtain ⟨s0, s1, s2⟩ := box3 hSw.1; obtain ⟨t0, t1, t2, t3, t4, t5, t6, t7, t8, t9⟩ := box10 hSw.2; go_simp; (try with_reducible rfl))
  try simp only [Act.put, List.setIfInBounds_toArray, List.set_cons_zero, List.set_cons_succ]
  refine takeD (i := 5) (d := some 41) (v := ?vT89) rfl rfl (by kernel_rfl) (by kernel_rfl) (by kernel_rfl) (fun _ _ _ h => h) (Or.inl ⟨by rfl, ?hyT89⟩) (by assumption) ?rstT89
  case hyT89 => (intro v hSw; obtain ⟨s0, s1, s2⟩ := box3 hSw.1; obtain ⟨t0, t1, t2, t3, t4, t5, t6, t7, t8, t9⟩ := box10 hSw.2; go_simp; (try with_reducible rfl))
  try simp only [Act.put, List.setIfInBounds_toArray, List.set_cons_zero, List.set_cons_succ]
  refine takeD (i := 6) (d := some 42) (v := ?vT90) rfl rfl (by kernel_rfl) (by kernel_rfl) (by kernel_rfl) (fun _ _ _ h => h) (Or.inl ⟨by rfl, ?hyT90⟩) (by assumption) ?rstT90
  case hyT90 => (intro v hSw; obtain ⟨s0, s1, s2⟩ := box3 hSw.1; obtain ⟨t0, t1, t2, t3, t4, t5, t6, t7, t8, t9⟩ := box10 hSw.2; go_simp; (try with_reducible rfl))
  try simp only [Act.put, List.setIfInBounds_toArray, List.set_cons_zero, List.set_cons_succ]
  refine takeD (i := 7) (d := some 43) (v := ?vT91) rfl rfl (by kernel_rfl) (by kernel_rfl) (by kernel_rfl) (fun _ _ _ h => h) (Or.inl ⟨by rfl, ?hyT91⟩) (by assumption) ?rstT91
  case hyT91 => (intro v hSw; obtain ⟨s0, s1, s2⟩ := box3 hSw.1; obtain ⟨t0, t1, t2, t3, t4, t5, t6, t7, t8, t9⟩ := box10 hSw.2; go_simp; (try with_reducible rfl))
  try simp only [Act.put, List.setIfInBounds_toArray, List.set_cons_zero, List.set_cons_succ]
  refine takeD (i := 8) (d := some 44) (v := ?vT92) rfl rfl (by kernel_rfl) (by kernel_rfl) (by kernel_rfl) (fun _ _ _ h => h) (Or.inl ⟨by rfl, ?hyT92⟩) (by assumption) ?rstT92
  case hyT92 => (intro v hSw; obtain ⟨s0, s1, s2⟩ := box3 hSw.1; obtain ⟨t0, t1, t2, t3, t4, t5, t6, t7, t8, t9⟩ := box10 hSw.2; go_simp; (try with_reducible rfl))
  try simp only [Act.put, List.setIfInBounds_toArray, List.set_cons_zero, List.set_cons_succ]
  refine wpAnyH_ready (rs := [9]) (by kernel_rfl) (by simp) ?_
  refine AllReadyH.cons rfl (fun K hK => ?_) AllReadyH.nil
  go_simp
  refine (HMe.out w6 rfl).mono ?_
  rintro e w7 ⟨q, c, rfl, hq, hb7⟩
  have hx7 := (hb7.block _ (Array.getElem?_eq_some_iff.1 hx6).1).trans hx6
  have ha7 := (hb7.block _ (Array.getElem?_eq_some_iff.1 ha6).1).trans ha6
  have HN : Hid (Q q c ∧ Below w.heap.size w w7) := ⟨hq, hbw6.trans (hb7.mono hbw6.size)⟩
  clear hb7 hx6 ha6 hq hbw6
  dsimp only
  clear hHeld
  refine hK.out _ _ ?hS93 (fun hHeld => ?rest93)
  case hS93 => exact ⟨hx7, ha7⟩
  clear hK K
  try simp only [Act.put, List.setIfInBounds_toArray, List.set_cons_zero, List.set_cons_succ]
  refine takeD (i := 10) (d := some 35) (v := ?vT94) rfl rfl (by kernel_rfl) (by kernel_rfl) (by kernel_rfl) (fun _ _ _ h => h) (Or.inl ⟨by rfl, ?hyT94⟩) (by assumption) ?rstT94
  case hyT94 => (intro v hSw; go_simp; (try with_reducible rfl))
  try simp only [Act.put, List.setIfInBounds_toArray, List.set_cons_zero, List.set_cons_succ]
  refine takeD (i := 11) (d := some 46) (v := ?vT95) rfl rfl (by kernel_rfl) (by kernel_rfl) (by kernel_rfl) (fun _ _ _ h => h) (Or.inl ⟨by rfl, ?hyT95⟩) (by assumption) ?rstT95
  case hyT95 => (intro v hSw; go_simp; (try with_reducible rfl))
  try simp only [Act.put, List.setIfInBounds_toArray, List.set_cons_zero, List.set_cons_succ]
  refine takeD (i := 12) (d := some 47) (v := ?vT96) rfl rfl (by kernel_rfl) (by kernel_rfl) (by kernel_rfl) (fun _ _ _ h => h) (Or.inl ⟨by rfl, ?hyT96⟩) (by assumption) ?rstT96
  case hyT96 => (intro v hSw; go_simp; (try with_reducible rfl))
  try simp only [Act.put, List.setIfInBounds_toArray, List.set_cons_zero, List.set_cons_succ]
  refine takeD (i := 13) (d := some 10) (v := ?vT97) rfl rfl (by kernel_rfl) (by kernel_rfl) (by kernel_rfl) (fun _ _ _ h => h) (Or.inl ⟨by rfl, ?hyT97⟩) (by assumption) ?rstT97
  case hyT97 => (intro v hSw; go_simp; (try with_reducible rfl))
  try simp only [Act.put, List.setIfInBounds_toArray, List.set_cons_zero, List.set_cons_succ]
  refine takeD (i := 14) (d := some 11) (v := ?vT98) rfl rfl (by kernel_rfl) (by kernel_rfl) (by kernel_rfl) (fun _ _ _ h => h) (Or.inl ⟨by rfl, ?hyT98⟩) (by assumption) ?rstT98
  case hyT98 => (intro v hSw; go_simp; (try with_reducible rfl))
  try simp only [Act.put, List.setIfInBounds_toArray, List.set_cons_zero, List.set_cons_succ]
  refine wpAnyH_done (by kernel_rfl) ?_ _
  clear hHeld
  go_wp2_with fail
  refine bodyPost_ret (v := .tuple #[.int .i64 (q : Int), .int .i64 c, .int .i64 0]) (by simp [results, Tryd.results14, go_sem]) rfl ?_
  exact ⟨q, c, rfl, HN.out⟩
set_option maxHeartbeats 16000000 in
theorem walk5_any {s : ByteArray} {rs : List Int} (ht : IsText s rs) (W : Nat) (hW : 1 ≤ W ∧ W ≤ 1024) (hn : rs.length ≤ 4294967000) {w : World} (hP : PTab w) (hG : Glob w.heap.size) (at' : Nat) (hat : at' ≤ rs.length) (want : Int) {Q : Nat → Int → Prop}
    (hM : ∀ a k cap V, Below w.heap.size w V → Sheet rs W V a k cap → Calls Tryd.prog 29 #[.agg #[.string s, .int .i64 (rs.length : Int), .slice a k cap, .int .i64 (at' : Int), .int .i64 want, .int .i64 5]] V fun e w' => ∃ q : Nat, ∃ c : Int, e = .returned (.tuple #[.int .i64 (q : Int), .int .i64 c]) ∧ Q q c ∧ Below V.heap.size V w') :
    Calls Tryd.prog 14 #[.string s, .int .i64 (W : Int), .int .i64 (at' : Int), .int .i64 want, .int .i64 5] w fun e w' => ∃ q : Nat, ∃ c : Int, e = .returned (.tuple #[.int .i64 (q : Int), .int .i64 c, .int .i64 0]) ∧ Q q c ∧ Below w.heap.size w w' := by
  have HLa := lay_sheet ht W 1 hW ⟨by omega, by omega⟩ hn hP hG
  have HM0 : Hid (∀ a k cap V, Below w.heap.size w V → Sheet rs W V a k cap → Calls Tryd.prog 29 #[.agg #[.string s, .int .i64 (rs.length : Int), .slice a k cap, .int .i64 (at' : Int), .int .i64 want, .int .i64 5]] V fun e w' => ∃ q : Nat, ∃ c : Int, e = .returned (.tuple #[.int .i64 (q : Int), .int .i64 c]) ∧ Q q c ∧ Below V.heap.size V w') := hM
  have HAt : Hid (at' ≤ rs.length) := hat
  clear ht hW hn hP hG hM hat
  go_enter Tryd.func14, Tryd.ntmps14
  go_wp2_with fail
  refine HLa.mono ?_
  rintro e w1 ⟨a, k, cap, rfl, hsh, hb1⟩
  obtain ⟨m, hm⟩ : ∃ m, rs.length = m := ⟨_, rfl⟩
  rw [hm]
  have HMe : Hid (∀ V, Below w.heap.size w V → Below w1.heap.size w1 V → Calls Tryd.prog 29 #[.agg #[.string s, .int .i64 (m : Int), .slice a k cap, .int .i64 (at' : Int), .int .i64 want, .int .i64 5]] V fun e w' => ∃ q : Nat, ∃ c : Int, e = .returned (.tuple #[.int .i64 (q : Int), .int .i64 c]) ∧ Q q c ∧ Below V.heap.size V w') := fun V hV hV1 => by
    have := HM0.out a k cap V hV (hsh.below hV1)
    rw [hm] at this
    exact this
  obtain ⟨w2, hw2⟩ : ∃ V, w1.alloc (.cells #[.string s, .int .i64 (m : Int), .slice a k cap] 54) = V := ⟨_, rfl⟩
  have hb2 : Below w1.heap.size w1 w2 := by rw [← hw2]; exact (Below.refl _ _).alloc (Nat.le_refl _) _
  have hx2 : w2.heap[w1.heap.size]? = some (.cells #[.string s, .int .i64 (m : Int), .slice a k cap] 54) := by rw [← hw2]; exact heap_alloc_new _ _
  obtain ⟨c0, c1, c2⟩ := box3 hx2
  have hha := has_any s m a k cap (at' : Int) w2
  rw [show decide (0 ≤ (at' : Int) ∧ (at' : Int) ≤ (m : Int)) = true from decide_eq_true ⟨by omega, by have := HAt.out; omega⟩] at hha
  have HB1 : Hid (Below w.heap.size w w1) := hb1
  clear hm hsh hb1 HLa HM0 HAt
  go_wp2_with fail
  refine hha.mono ?_
  rintro e w3 ⟨rfl, hb3⟩
  have hx3 := (hb3.block _ (Array.getElem?_eq_some_iff.1 hx2).1).trans hx2
  have hb13 := hb2.trans (hb3.mono hb2.size)
  obtain ⟨N, hN⟩ : ∃ N, w1.heap.size = N := ⟨_, rfl⟩
  obtain ⟨wn, hwn⟩ : ∃ V, w3.alloc (.cells #[.nilFunc, .nilFunc, .nilFunc, .nilFunc, .nilFunc, .nilFunc, .nilFunc, .nilFunc, .nilFunc, .nilFunc] 63) = V := ⟨_, rfl⟩
  have hbn : Below w3.heap.size w3 wn := by rw [← hwn]; exact (Below.refl _ _).alloc (Nat.le_refl _) _
  have han : wn.heap[w3.heap.size]? = some (.cells #[.nilFunc, .nilFunc, .nilFunc, .nilFunc, .nilFunc, .nilFunc, .nilFunc, .nilFunc, .nilFunc, .nilFunc] 63) := by rw [← hwn]; exact heap_alloc_new _ _
  have hN3 : N < w3.heap.size := by rw [← hN]; exact (Array.getElem?_eq_some_iff.1 hx3).1
  obtain ⟨y0, y1, y2, y3, y4, y5, y6, y7, y8, y9⟩ := box10 han
  obtain ⟨z0, z1, z2, z3, z4, z5, z6, z7, z8, z9⟩ := fr10 han
  obtain ⟨w4, hw4, ha4, hk4⟩ := store10 han (.func (.func 26) #[] #[]) (.func (.func 26) #[] #[]) (.func (.func 27) #[] #[]) (.func (.func 28) #[] #[]) (.func (.func 29) #[] #[]) (.func (.func 30) #[] #[]) (.func (.func 26) #[] #[]) (.func (.func 26) #[] #[]) (.func (.func 26) #[] #[]) (.func (.func 26) #[] #[])
  rw [hN] at hx3 ⊢
  clear hha hb2 hb3 hx2 c0 c1 c2 hN hw2
  go_wp2_with fail
  try simp only [hw4]
  have hb4 : Below w3.heap.size w3 w4 := hbn.trans ((hk4.chg (D := fun g => g = w3.heap.size) rfl).below (fun g e => by omega) hbn.size)
  have hx4 := (hb4.block _ (Array.getElem?_eq_some_iff.1 hx3).1).trans hx3
  have hb14 := hb13.trans (hb4.mono hb13.size)
  obtain ⟨w6, hw6⟩ : ∃ V, w4.drew = V := ⟨_, rfl⟩
  have hb6 : Below w4.heap.size w4 w6 := by rw [← hw6]; exact (Below.refl _ _).drew
  have hx6 := (hb6.block _ (Array.getElem?_eq_some_iff.1 hx4).1).trans hx4
  have ha6 := (hb6.block _ (Array.getElem?_eq_some_iff.1 ha4).1).trans ha4
  have hb16 := hb14.trans (hb6.mono hb14.size)
  have hbw6 := HB1.out.trans (hb16.mono HB1.out.size)
  have HMe : Hid (∀ V, V = w6 → Calls Tryd.prog 29 #[.agg #[.string s, .int .i64 (m : Int), .slice a k cap, .int .i64 (at' : Int), .int .i64 want, .int .i64 5]] w6 fun e w' => ∃ q : Nat, ∃ c : Int, e = .returned (.tuple #[.int .i64 (q : Int), .int .i64 c]) ∧ Q q c ∧ Below w6.heap.size w6 w') := fun V _ => HMe.out w6 hbw6 hb16
  clear y0 y1 y2 y3 y4 y5 y6 y7 y8 y9 z0 z1 z2 z3 z4 z5 z6 z7 z8 z9 hbn han hk4 hwn hb13 hb4 ha4 hx4 hb14 hb6 hb16 hx3
  obtain ⟨A, hA⟩ : ∃ A, w3.heap.size = A := ⟨_, rfl⟩
  try rw [hw4]
  rw [hA] at ha6 ⊢
  clear hA hw4
  have yw : IntKind.i64.wrap 4 = 4 := IntWalk.i64_in _ (by omega)
  refine wp_region_held_drew (S := (fun v => v.heap[N]? = some (.cells #[.string s, .int .i64 (m : Int), .slice a k cap] 54) ∧ v.heap[A]? = some (.cells #[.func (.func 26) #[] #[], .func (.func 26) #[] #[], .func (.func 27) #[] #[], .func (.func 28) #[] #[], .func (.func 29) #[] #[], .func (.func 30) #[] #[], .func (.func 26) #[] #[], .func (.func 26) #[] #[], .func (.func 26) #[] #[], .func (.func 26) #[] #[]] 63))) (by kernel_rfl) ?hS5 (fun hHeld => ?rest5)
  case hS5 => (rw [hw6]; exact ⟨hx6, ha6⟩)
  rw [hw6] at hHeld ⊢
  clear hw6
  refine takeD (i := 0) (d := some 36) (v := ?vT99) rfl rfl (by kernel_rfl) (by kernel_rfl) (by kernel_rfl) (fun _ _ _ h => h) (Or.inl ⟨by rfl, ?hyT99⟩) (by assumption) ?rstT99
  case hyT99 => (intro v hSw; obtain ⟨s0, s1, s2⟩ := box3 hSw.1; obtain ⟨t0, t1, t2, t3, t4, t5, t6, t7, t8, t9⟩ := box10 hSw.2; go_simp; (try with_reducible rfl))
  try simp only [Act.put, List.setIfInBounds_toArray, List.set_cons_zero, List.set_cons_succ]
  refine takeD (i := 1) (d := some 37) (v := ?vT100) rfl rfl (by kernel_rfl) (by kernel_rfl) (by kernel_rfl) (fun _ _ _ h => h) (Or.inl ⟨by rfl, ?hyT100⟩) (by assumption) ?rstT100
  case hyT100 => (intro v hSw; obtain ⟨s0, s1, s2⟩ := box3 hSw.1; obtain ⟨t0, t1, t2, t3, t4, t5, t6, t7, t8, t9⟩ := box10 hSw.2; go_simp; (try with_reducible rfl))
  try simp only [Act.put, List.setIfInBounds_toArray, List.set_cons_zero, List.set_cons_succ]
  refine takeD (i := 2) (d := some 38) (v := ?vT101) rfl rfl (by kernel_rfl) (by kernel_rfl) (by kernel_rfl) (fun _ _ _ h => h) (Or.inl ⟨by rfl, ?hyT101⟩) (by assumption) ?rstT101
  case hyT101 => (intro v hSw; obtain ⟨s0, s1, s2⟩ := box3 hSw.1; obtain ⟨t0, t1, t2, t3, t4, t5, t6, t7, t8, t9⟩ := box10 hSw.2; go_simp; (try with_reducible rfl))
  try simp only [Act.put, List.setIfInBounds_toArray, List.set_cons_zero, List.set_cons_succ]
  refine takeD (i := 3) (d := some 39) (v := ?vT102) rfl rfl (by kernel_rfl) (by kernel_rfl) (by kernel_rfl) (fun _ _ _ h => h) (Or.inl ⟨by rfl, ?hyT102⟩) (by assumption) ?rstT102
  case hyT102 => (intro v hSw; obtain ⟨s0, s1, s2⟩ := box3 hSw.1; obtain ⟨t0, t1, t2, t3, t4, t5, t6, t7, t8, t9⟩ := box10 hSw.2; go_simp; (try with_reducible rfl))
  try simp only [Act.put, List.setIfInBounds_toArray, List.set_cons_zero, List.set_cons_succ]
  refine takeD (i := 4) (d := some 40) (v := ?vT103) rfl rfl (by kernel_rfl) (by kernel_rfl) (by kernel_rfl) (fun _ _ _ h => h) (Or.inl ⟨by rfl, ?hyT103⟩) (by assumption) ?rstT103
  case hyT103 => (intro v hSw; obtain ⟨s0, s1, s2⟩ := box3 hSw.1; obtain ⟨t0, t1, t2, t3, t4, t5, t6, t7, t8, t9⟩ := box10 hSw.2; go_simp; (try with_reducible rfl))
  try simp only [Act.put, List.setIfInBounds_toArray, List.set_cons_zero, List.set_cons_succ]
  refine takeD (i := 5) (d := some 41) (v := ?vT104) rfl rfl (by kernel_rfl) (by kernel_rfl) (by kernel_rfl) (fun _ _ _ h => h) (Or.inl ⟨by rfl, ?hyT104⟩) (by assumption) ?rstT104
  case hyT104 => (intro v hSw; obtain ⟨s0, s1, s2⟩ := box3 hSw.1; obtain ⟨t0, t1, t2, t3, t4, t5, t6, t7, t8, t9⟩ := box10 hSw.2; go_simp; (try with_reducible rfl))
  try simp only [Act.put, List.setIfInBounds_toArray, List.set_cons_zero, List.set_cons_succ]
  refine takeD (i := 6) (d := some 42) (v := ?vT105) rfl rfl (by kernel_rfl) (by kernel_rfl) (by kernel_rfl) (fun _ _ _ h => h) (Or.inl ⟨by rfl, ?hyT105⟩) (by assumption) ?rstT105
  case hyT105 => (intro v hSw; obtain ⟨s0, s1, s2⟩ := box3 hSw.1; obtain ⟨t0, t1, t2, t3, t4, t5, t6, t7, t8, t9⟩ := box10 hSw.2; go_simp; (try with_reducible rfl))
  try simp only [Act.put, List.setIfInBounds_toArray, List.set_cons_zero, List.set_cons_succ]
  refine takeD (i := 7) (d := some 43) (v := ?vT106) rfl rfl (by kernel_rfl) (by kernel_rfl) (by kernel_rfl) (fun _ _ _ h => h) (Or.inl ⟨by rfl, ?hyT106⟩) (by assumption) ?rstT106
  case hyT106 => (intro v hSw; obtain ⟨s0, s1, s2⟩ := box3 hSw.1; obtain ⟨t0, t1, t2, t3, t4, t5, t6, t7, t8, t9⟩ := box10 hSw.2; go_simp; (try with_reducible rfl))
  try simp only [Act.put, List.setIfInBounds_toArray, List.set_cons_zero, List.set_cons_succ]
  refine takeD (i := 8) (d := some 44) (v := ?vT107) rfl rfl (by kernel_rfl) (by kernel_rfl) (by kernel_rfl) (fun _ _ _ h => h) (Or.inl ⟨by rfl, ?hyT107⟩) (by assumption) ?rstT107
  case hyT107 => (intro v hSw; obtain ⟨s0, s1, s2⟩ := box3 hSw.1; obtain ⟨t0, t1, t2, t3, t4, t5, t6, t7, t8, t9⟩ := box10 hSw.2; go_simp; (try with_reducible rfl))
  try simp only [Act.put, List.setIfInBounds_toArray, List.set_cons_zero, List.set_cons_succ]
  refine wpAnyH_ready (rs := [9]) (by kernel_rfl) (by simp) ?_
  refine AllReadyH.cons rfl (fun K hK => ?_) AllReadyH.nil
  go_simp
  refine (HMe.out w6 rfl).mono ?_
  rintro e w7 ⟨q, c, rfl, hq, hb7⟩
  have hx7 := (hb7.block _ (Array.getElem?_eq_some_iff.1 hx6).1).trans hx6
  have ha7 := (hb7.block _ (Array.getElem?_eq_some_iff.1 ha6).1).trans ha6
  have HN : Hid (Q q c ∧ Below w.heap.size w w7) := ⟨hq, hbw6.trans (hb7.mono hbw6.size)⟩
  clear hb7 hx6 ha6 hq hbw6
  dsimp only
  clear hHeld
  refine hK.out _ _ ?hS108 (fun hHeld => ?rest108)
  case hS108 => exact ⟨hx7, ha7⟩
  clear hK K
  try simp only [Act.put, List.setIfInBounds_toArray, List.set_cons_zero, List.set_cons_succ]
  refine takeD (i := 10) (d := some 35) (v := ?vT109) rfl rfl (by kernel_rfl) (by kernel_rfl) (by kernel_rfl) (fun _ _ _ h => h) (Or.inl ⟨by rfl, ?hyT109⟩) (by assumption) ?rstT109
  case hyT109 => (intro v hSw; go_simp; (try with_reducible rfl))
  try simp only [Act.put, List.setIfInBounds_toArray, List.set_cons_zero, List.set_cons_succ]
  refine takeD (i := 11) (d := some 46) (v := ?vT110) rfl rfl (by kernel_rfl) (by kernel_rfl) (by kernel_rfl) (fun _ _ _ h => h) (Or.inl ⟨by rfl, ?hyT110⟩) (by assumption) ?rstT110
  case hyT110 => (intro v hSw; go_simp; (try with_reducible rfl))
  try simp only [Act.put, List.setIfInBounds_toArray, List.set_cons_zero, List.set_cons_succ]
  refine takeD (i := 12) (d := some 47) (v := ?vT111) rfl rfl (by kernel_rfl) (by kernel_rfl) (by kernel_rfl) (fun _ _ _ h => h) (Or.inl ⟨by rfl, ?hyT111⟩) (by assumption) ?rstT111
  case hyT111 => (intro v hSw; go_simp; (try with_reducible rfl))
  try simp only [Act.put, List.setIfInBounds_toArray, List.set_cons_zero, List.set_cons_succ]
  refine takeD (i := 13) (d := some 10) (v := ?vT112) rfl rfl (by kernel_rfl) (by kernel_rfl) (by kernel_rfl) (fun _ _ _ h => h) (Or.inl ⟨by rfl, ?hyT112⟩) (by assumption) ?rstT112
  case hyT112 => (intro v hSw; go_simp; (try with_reducible rfl))
  try simp only [Act.put, List.setIfInBounds_toArray, List.set_cons_zero, List.set_cons_succ]
  refine takeD (i := 14) (d := some 11) (v := ?vT113) rfl rfl (by kernel_rfl) (by kernel_rfl) (by kernel_rfl) (fun _ _ _ h => h) (Or.inl ⟨by rfl, ?hyT113⟩) (by assumption) ?rstT113
  case hyT113 => (intro v hSw; go_simp; (try with_reducible rfl))
  try simp only [Act.put, List.setIfInBounds_toArray, List.set_cons_zero, List.set_cons_succ]
  refine wpAnyH_done (by kernel_rfl) ?_ _
  clear hHeld
  go_wp2_with fail
  refine bodyPost_ret (v := .tuple #[.int .i64 (q : Int), .int .i64 c, .int .i64 0]) (by simp [results, Tryd.results14, go_sem]) rfl ?_
  exact ⟨q, c, rfl, HN.out⟩
set_option maxHeartbeats 16000000 in
theorem walk6_any {s : ByteArray} {rs : List Int} (ht : IsText s rs) (W : Nat) (hW : 1 ≤ W ∧ W ≤ 1024) (hn : rs.length ≤ 4294967000) {w : World} (hP : PTab w) (hG : Glob w.heap.size) (at' : Nat) (hat : at' ≤ rs.length) (want : Int) {Q : Nat → Int → Prop}
    (hM : ∀ a k cap V, Below w.heap.size w V → Sheet rs W V a k cap → Calls Tryd.prog 30 #[.agg #[.string s, .int .i64 (rs.length : Int), .slice a k cap, .int .i64 (at' : Int), .int .i64 want, .int .i64 6]] V fun e w' => ∃ q : Nat, ∃ c : Int, e = .returned (.tuple #[.int .i64 (q : Int), .int .i64 c]) ∧ Q q c ∧ Below V.heap.size V w') :
    Calls Tryd.prog 14 #[.string s, .int .i64 (W : Int), .int .i64 (at' : Int), .int .i64 want, .int .i64 6] w fun e w' => ∃ q : Nat, ∃ c : Int, e = .returned (.tuple #[.int .i64 (q : Int), .int .i64 c, .int .i64 0]) ∧ Q q c ∧ Below w.heap.size w w' := by
  have HLa := lay_sheet ht W 1 hW ⟨by omega, by omega⟩ hn hP hG
  have HM0 : Hid (∀ a k cap V, Below w.heap.size w V → Sheet rs W V a k cap → Calls Tryd.prog 30 #[.agg #[.string s, .int .i64 (rs.length : Int), .slice a k cap, .int .i64 (at' : Int), .int .i64 want, .int .i64 6]] V fun e w' => ∃ q : Nat, ∃ c : Int, e = .returned (.tuple #[.int .i64 (q : Int), .int .i64 c]) ∧ Q q c ∧ Below V.heap.size V w') := hM
  have HAt : Hid (at' ≤ rs.length) := hat
  clear ht hW hn hP hG hM hat
  go_enter Tryd.func14, Tryd.ntmps14
  go_wp2_with fail
  refine HLa.mono ?_
  rintro e w1 ⟨a, k, cap, rfl, hsh, hb1⟩
  obtain ⟨m, hm⟩ : ∃ m, rs.length = m := ⟨_, rfl⟩
  rw [hm]
  have HMe : Hid (∀ V, Below w.heap.size w V → Below w1.heap.size w1 V → Calls Tryd.prog 30 #[.agg #[.string s, .int .i64 (m : Int), .slice a k cap, .int .i64 (at' : Int), .int .i64 want, .int .i64 6]] V fun e w' => ∃ q : Nat, ∃ c : Int, e = .returned (.tuple #[.int .i64 (q : Int), .int .i64 c]) ∧ Q q c ∧ Below V.heap.size V w') := fun V hV hV1 => by
    have := HM0.out a k cap V hV (hsh.below hV1)
    rw [hm] at this
    exact this
  obtain ⟨w2, hw2⟩ : ∃ V, w1.alloc (.cells #[.string s, .int .i64 (m : Int), .slice a k cap] 54) = V := ⟨_, rfl⟩
  have hb2 : Below w1.heap.size w1 w2 := by rw [← hw2]; exact (Below.refl _ _).alloc (Nat.le_refl _) _
  have hx2 : w2.heap[w1.heap.size]? = some (.cells #[.string s, .int .i64 (m : Int), .slice a k cap] 54) := by rw [← hw2]; exact heap_alloc_new _ _
  obtain ⟨c0, c1, c2⟩ := box3 hx2
  have hha := has_any s m a k cap (at' : Int) w2
  rw [show decide (0 ≤ (at' : Int) ∧ (at' : Int) ≤ (m : Int)) = true from decide_eq_true ⟨by omega, by have := HAt.out; omega⟩] at hha
  have HB1 : Hid (Below w.heap.size w w1) := hb1
  clear hm hsh hb1 HLa HM0 HAt
  go_wp2_with fail
  refine hha.mono ?_
  rintro e w3 ⟨rfl, hb3⟩
  have hx3 := (hb3.block _ (Array.getElem?_eq_some_iff.1 hx2).1).trans hx2
  have hb13 := hb2.trans (hb3.mono hb2.size)
  obtain ⟨N, hN⟩ : ∃ N, w1.heap.size = N := ⟨_, rfl⟩
  obtain ⟨wn, hwn⟩ : ∃ V, w3.alloc (.cells #[.nilFunc, .nilFunc, .nilFunc, .nilFunc, .nilFunc, .nilFunc, .nilFunc, .nilFunc, .nilFunc, .nilFunc] 63) = V := ⟨_, rfl⟩
  have hbn : Below w3.heap.size w3 wn := by rw [← hwn]; exact (Below.refl _ _).alloc (Nat.le_refl _) _
  have han : wn.heap[w3.heap.size]? = some (.cells #[.nilFunc, .nilFunc, .nilFunc, .nilFunc, .nilFunc, .nilFunc, .nilFunc, .nilFunc, .nilFunc, .nilFunc] 63) := by rw [← hwn]; exact heap_alloc_new _ _
  have hN3 : N < w3.heap.size := by rw [← hN]; exact (Array.getElem?_eq_some_iff.1 hx3).1
  obtain ⟨y0, y1, y2, y3, y4, y5, y6, y7, y8, y9⟩ := box10 han
  obtain ⟨z0, z1, z2, z3, z4, z5, z6, z7, z8, z9⟩ := fr10 han
  obtain ⟨w4, hw4, ha4, hk4⟩ := store10 han (.func (.func 26) #[] #[]) (.func (.func 26) #[] #[]) (.func (.func 27) #[] #[]) (.func (.func 28) #[] #[]) (.func (.func 29) #[] #[]) (.func (.func 30) #[] #[]) (.func (.func 26) #[] #[]) (.func (.func 26) #[] #[]) (.func (.func 26) #[] #[]) (.func (.func 26) #[] #[])
  rw [hN] at hx3 ⊢
  clear hha hb2 hb3 hx2 c0 c1 c2 hN hw2
  go_wp2_with fail
  try simp only [hw4]
  have hb4 : Below w3.heap.size w3 w4 := hbn.trans ((hk4.chg (D := fun g => g = w3.heap.size) rfl).below (fun g e => by omega) hbn.size)
  have hx4 := (hb4.block _ (Array.getElem?_eq_some_iff.1 hx3).1).trans hx3
  have hb14 := hb13.trans (hb4.mono hb13.size)
  obtain ⟨w6, hw6⟩ : ∃ V, w4.drew = V := ⟨_, rfl⟩
  have hb6 : Below w4.heap.size w4 w6 := by rw [← hw6]; exact (Below.refl _ _).drew
  have hx6 := (hb6.block _ (Array.getElem?_eq_some_iff.1 hx4).1).trans hx4
  have ha6 := (hb6.block _ (Array.getElem?_eq_some_iff.1 ha4).1).trans ha4
  have hb16 := hb14.trans (hb6.mono hb14.size)
  have hbw6 := HB1.out.trans (hb16.mono HB1.out.size)
  have HMe : Hid (∀ V, V = w6 → Calls Tryd.prog 30 #[.agg #[.string s, .int .i64 (m : Int), .slice a k cap, .int .i64 (at' : Int), .int .i64 want, .int .i64 6]] w6 fun e w' => ∃ q : Nat, ∃ c : Int, e = .returned (.tuple #[.int .i64 (q : Int), .int .i64 c]) ∧ Q q c ∧ Below w6.heap.size w6 w') := fun V _ => HMe.out w6 hbw6 hb16
  clear y0 y1 y2 y3 y4 y5 y6 y7 y8 y9 z0 z1 z2 z3 z4 z5 z6 z7 z8 z9 hbn han hk4 hwn hb13 hb4 ha4 hx4 hb14 hb6 hb16 hx3
  obtain ⟨A, hA⟩ : ∃ A, w3.heap.size = A := ⟨_, rfl⟩
  try rw [hw4]
  rw [hA] at ha6 ⊢
  clear hA hw4
  have yw : IntKind.i64.wrap 5 = 5 := IntWalk.i64_in _ (by omega)
  refine wp_region_held_drew (S := (fun v => v.heap[N]? = some (.cells #[.string s, .int .i64 (m : Int), .slice a k cap] 54) ∧ v.heap[A]? = some (.cells #[.func (.func 26) #[] #[], .func (.func 26) #[] #[], .func (.func 27) #[] #[], .func (.func 28) #[] #[], .func (.func 29) #[] #[], .func (.func 30) #[] #[], .func (.func 26) #[] #[], .func (.func 26) #[] #[], .func (.func 26) #[] #[], .func (.func 26) #[] #[]] 63))) (by kernel_rfl) ?hS6 (fun hHeld => ?rest6)
  case hS6 => (rw [hw6]; exact ⟨hx6, ha6⟩)
  rw [hw6] at hHeld ⊢
  clear hw6
  refine takeD (i := 0) (d := some 36) (v := ?vT114) rfl rfl (by kernel_rfl) (by kernel_rfl) (by kernel_rfl) (fun _ _ _ h => h) (Or.inl ⟨by rfl, ?hyT114⟩) (by assumption) ?rstT114
  case hyT114 => (intro v hSw; obtain ⟨s0, s1, s2⟩ := box3 hSw.1; obtain ⟨t0, t1, t2, t3, t4, t5, t6, t7, t8, t9⟩ := box10 hSw.2; go_simp; (try with_reducible rfl))
  try simp only [Act.put, List.setIfInBounds_toArray, List.set_cons_zero, List.set_cons_succ]
  refine takeD (i := 1) (d := some 37) (v := ?vT115) rfl rfl (by kernel_rfl) (by kernel_rfl) (by kernel_rfl) (fun _ _ _ h => h) (Or.inl ⟨by rfl, ?hyT115⟩) (by assumption) ?rstT115
  case hyT115 => (intro v hSw; obtain ⟨s0, s1, s2⟩ := box3 hSw.1; obtain ⟨t0, t1, t2, t3, t4, t5, t6, t7, t8, t9⟩ := box10 hSw.2; go_simp; (try with_reducible rfl))
  try simp only [Act.put, List.setIfInBounds_toArray, List.set_cons_zero, List.set_cons_succ]
  refine takeD (i := 2) (d := some 38) (v := ?vT116) rfl rfl (by kernel_rfl) (by kernel_rfl) (by kernel_rfl) (fun _ _ _ h => h) (Or.inl ⟨by rfl, ?hyT116⟩) (by assumption) ?rstT116
  case hyT116 => (intro v hSw; obtain ⟨s0, s1, s2⟩ := box3 hSw.1; obtain ⟨t0, t1, t2, t3, t4, t5, t6, t7, t8, t9⟩ := box10 hSw.2; go_simp; (try with_reducible rfl))
  try simp only [Act.put, List.setIfInBounds_toArray, List.set_cons_zero, List.set_cons_succ]
  refine takeD (i := 3) (d := some 39) (v := ?vT117) rfl rfl (by kernel_rfl) (by kernel_rfl) (by kernel_rfl) (fun _ _ _ h => h) (Or.inl ⟨by rfl, ?hyT117⟩) (by assumption) ?rstT117
  case hyT117 => (intro v hSw; obtain ⟨s0, s1, s2⟩ := box3 hSw.1; obtain ⟨t0, t1, t2, t3, t4, t5, t6, t7, t8, t9⟩ := box10 hSw.2; go_simp; (try with_reducible rfl))
  try simp only [Act.put, List.setIfInBounds_toArray, List.set_cons_zero, List.set_cons_succ]
  refine takeD (i := 4) (d := some 40) (v := ?vT118) rfl rfl (by kernel_rfl) (by kernel_rfl) (by kernel_rfl) (fun _ _ _ h => h) (Or.inl ⟨by rfl, ?hyT118⟩) (by assumption) ?rstT118
  case hyT118 => (intro v hSw; obtain ⟨s0, s1, s2⟩ := box3 hSw.1; obtain ⟨t0, t1, t2, t3, t4, t5, t6, t7, t8, t9⟩ := box10 hSw.2; go_simp; (try with_reducible rfl))
  try simp only [Act.put, List.setIfInBounds_toArray, List.set_cons_zero, List.set_cons_succ]
  refine takeD (i := 5) (d := some 41) (v := ?vT119) rfl rfl (by kernel_rfl) (by kernel_rfl) (by kernel_rfl) (fun _ _ _ h => h) (Or.inl ⟨by rfl, ?hyT119⟩) (by assumption) ?rstT119
  case hyT119 => (intro v hSw; obtain ⟨s0, s1, s2⟩ := box3 hSw.1; obtain ⟨t0, t1, t2, t3, t4, t5, t6, t7, t8, t9⟩ := box10 hSw.2; go_simp; (try with_reducible rfl))
  try simp only [Act.put, List.setIfInBounds_toArray, List.set_cons_zero, List.set_cons_succ]
  refine takeD (i := 6) (d := some 42) (v := ?vT120) rfl rfl (by kernel_rfl) (by kernel_rfl) (by kernel_rfl) (fun _ _ _ h => h) (Or.inl ⟨by rfl, ?hyT120⟩) (by assumption) ?rstT120
  case hyT120 => (intro v hSw; obtain ⟨s0, s1, s2⟩ := box3 hSw.1; obtain ⟨t0, t1, t2, t3, t4, t5, t6, t7, t8, t9⟩ := box10 hSw.2; go_simp; (try with_reducible rfl))
  try simp only [Act.put, List.setIfInBounds_toArray, List.set_cons_zero, List.set_cons_succ]
  refine takeD (i := 7) (d := some 43) (v := ?vT121) rfl rfl (by kernel_rfl) (by kernel_rfl) (by kernel_rfl) (fun _ _ _ h => h) (Or.inl ⟨by rfl, ?hyT121⟩) (by assumption) ?rstT121
  case hyT121 => (intro v hSw; obtain ⟨s0, s1, s2⟩ := box3 hSw.1; obtain ⟨t0, t1, t2, t3, t4, t5, t6, t7, t8, t9⟩ := box10 hSw.2; go_simp; (try with_reducible rfl))
  try simp only [Act.put, List.setIfInBounds_toArray, List.set_cons_zero, List.set_cons_succ]
  refine takeD (i := 8) (d := some 44) (v := ?vT122) rfl rfl (by kernel_rfl) (by kernel_rfl) (by kernel_rfl) (fun _ _ _ h => h) (Or.inl ⟨by rfl, ?hyT122⟩) (by assumption) ?rstT122
  case hyT122 => (intro v hSw; obtain ⟨s0, s1, s2⟩ := box3 hSw.1; obtain ⟨t0, t1, t2, t3, t4, t5, t6, t7, t8, t9⟩ := box10 hSw.2; go_simp; (try with_reducible rfl))
  try simp only [Act.put, List.setIfInBounds_toArray, List.set_cons_zero, List.set_cons_succ]
  refine wpAnyH_ready (rs := [9]) (by kernel_rfl) (by simp) ?_
  refine AllReadyH.cons rfl (fun K hK => ?_) AllReadyH.nil
  go_simp
  refine (HMe.out w6 rfl).mono ?_
  rintro e w7 ⟨q, c, rfl, hq, hb7⟩
  have hx7 := (hb7.block _ (Array.getElem?_eq_some_iff.1 hx6).1).trans hx6
  have ha7 := (hb7.block _ (Array.getElem?_eq_some_iff.1 ha6).1).trans ha6
  have HN : Hid (Q q c ∧ Below w.heap.size w w7) := ⟨hq, hbw6.trans (hb7.mono hbw6.size)⟩
  clear hb7 hx6 ha6 hq hbw6
  dsimp only
  clear hHeld
  refine hK.out _ _ ?hS123 (fun hHeld => ?rest123)
  case hS123 => exact ⟨hx7, ha7⟩
  clear hK K
  try simp only [Act.put, List.setIfInBounds_toArray, List.set_cons_zero, List.set_cons_succ]
  refine takeD (i := 10) (d := some 35) (v := ?vT124) rfl rfl (by kernel_rfl) (by kernel_rfl) (by kernel_rfl) (fun _ _ _ h => h) (Or.inl ⟨by rfl, ?hyT124⟩) (by assumption) ?rstT124
  case hyT124 => (intro v hSw; go_simp; (try with_reducible rfl))
  try simp only [Act.put, List.setIfInBounds_toArray, List.set_cons_zero, List.set_cons_succ]
  refine takeD (i := 11) (d := some 46) (v := ?vT125) rfl rfl (by kernel_rfl) (by kernel_rfl) (by kernel_rfl) (fun _ _ _ h => h) (Or.inl ⟨by rfl, ?hyT125⟩) (by assumption) ?rstT125
  case hyT125 => (intro v hSw; go_simp; (try with_reducible rfl))
  try simp only [Act.put, List.setIfInBounds_toArray, List.set_cons_zero, List.set_cons_succ]
  refine takeD (i := 12) (d := some 47) (v := ?vT126) rfl rfl (by kernel_rfl) (by kernel_rfl) (by kernel_rfl) (fun _ _ _ h => h) (Or.inl ⟨by rfl, ?hyT126⟩) (by assumption) ?rstT126
  case hyT126 => (intro v hSw; go_simp; (try with_reducible rfl))
  try simp only [Act.put, List.setIfInBounds_toArray, List.set_cons_zero, List.set_cons_succ]
  refine takeD (i := 13) (d := some 10) (v := ?vT127) rfl rfl (by kernel_rfl) (by kernel_rfl) (by kernel_rfl) (fun _ _ _ h => h) (Or.inl ⟨by rfl, ?hyT127⟩) (by assumption) ?rstT127
  case hyT127 => (intro v hSw; go_simp; (try with_reducible rfl))
  try simp only [Act.put, List.setIfInBounds_toArray, List.set_cons_zero, List.set_cons_succ]
  refine takeD (i := 14) (d := some 11) (v := ?vT128) rfl rfl (by kernel_rfl) (by kernel_rfl) (by kernel_rfl) (fun _ _ _ h => h) (Or.inl ⟨by rfl, ?hyT128⟩) (by assumption) ?rstT128
  case hyT128 => (intro v hSw; go_simp; (try with_reducible rfl))
  try simp only [Act.put, List.setIfInBounds_toArray, List.set_cons_zero, List.set_cons_succ]
  refine wpAnyH_done (by kernel_rfl) ?_ _
  clear hHeld
  go_wp2_with fail
  refine bodyPost_ret (v := .tuple #[.int .i64 (q : Int), .int .i64 c, .int .i64 0]) (by simp [results, Tryd.results14, go_sem]) rfl ?_
  exact ⟨q, c, rfl, HN.out⟩
set_option maxHeartbeats 16000000 in
theorem walk7_any {s : ByteArray} {rs : List Int} (ht : IsText s rs) (W : Nat) (hW : 1 ≤ W ∧ W ≤ 1024) (hn : rs.length ≤ 4294967000) {w : World} (hP : PTab w) (hG : Glob w.heap.size) (at' : Nat) (hat : at' ≤ rs.length) (want : Int) {Q : Nat → Int → Prop}
    (hM : ∀ a k cap V, Below w.heap.size w V → Sheet rs W V a k cap → Calls Tryd.prog 26 #[.agg #[.string s, .int .i64 (rs.length : Int), .slice a k cap, .int .i64 (at' : Int), .int .i64 want, .int .i64 7]] V fun e w' => ∃ q : Nat, ∃ c : Int, e = .returned (.tuple #[.int .i64 (q : Int), .int .i64 c]) ∧ Q q c ∧ Below V.heap.size V w') :
    Calls Tryd.prog 14 #[.string s, .int .i64 (W : Int), .int .i64 (at' : Int), .int .i64 want, .int .i64 7] w fun e w' => ∃ q : Nat, ∃ c : Int, e = .returned (.tuple #[.int .i64 (q : Int), .int .i64 c, .int .i64 0]) ∧ Q q c ∧ Below w.heap.size w w' := by
  have HLa := lay_sheet ht W 1 hW ⟨by omega, by omega⟩ hn hP hG
  have HM0 : Hid (∀ a k cap V, Below w.heap.size w V → Sheet rs W V a k cap → Calls Tryd.prog 26 #[.agg #[.string s, .int .i64 (rs.length : Int), .slice a k cap, .int .i64 (at' : Int), .int .i64 want, .int .i64 7]] V fun e w' => ∃ q : Nat, ∃ c : Int, e = .returned (.tuple #[.int .i64 (q : Int), .int .i64 c]) ∧ Q q c ∧ Below V.heap.size V w') := hM
  have HAt : Hid (at' ≤ rs.length) := hat
  clear ht hW hn hP hG hM hat
  go_enter Tryd.func14, Tryd.ntmps14
  go_wp2_with fail
  refine HLa.mono ?_
  rintro e w1 ⟨a, k, cap, rfl, hsh, hb1⟩
  obtain ⟨m, hm⟩ : ∃ m, rs.length = m := ⟨_, rfl⟩
  rw [hm]
  have HMe : Hid (∀ V, Below w.heap.size w V → Below w1.heap.size w1 V → Calls Tryd.prog 26 #[.agg #[.string s, .int .i64 (m : Int), .slice a k cap, .int .i64 (at' : Int), .int .i64 want, .int .i64 7]] V fun e w' => ∃ q : Nat, ∃ c : Int, e = .returned (.tuple #[.int .i64 (q : Int), .int .i64 c]) ∧ Q q c ∧ Below V.heap.size V w') := fun V hV hV1 => by
    have := HM0.out a k cap V hV (hsh.below hV1)
    rw [hm] at this
    exact this
  obtain ⟨w2, hw2⟩ : ∃ V, w1.alloc (.cells #[.string s, .int .i64 (m : Int), .slice a k cap] 54) = V := ⟨_, rfl⟩
  have hb2 : Below w1.heap.size w1 w2 := by rw [← hw2]; exact (Below.refl _ _).alloc (Nat.le_refl _) _
  have hx2 : w2.heap[w1.heap.size]? = some (.cells #[.string s, .int .i64 (m : Int), .slice a k cap] 54) := by rw [← hw2]; exact heap_alloc_new _ _
  obtain ⟨c0, c1, c2⟩ := box3 hx2
  have hha := has_any s m a k cap (at' : Int) w2
  rw [show decide (0 ≤ (at' : Int) ∧ (at' : Int) ≤ (m : Int)) = true from decide_eq_true ⟨by omega, by have := HAt.out; omega⟩] at hha
  have HB1 : Hid (Below w.heap.size w w1) := hb1
  clear hm hsh hb1 HLa HM0 HAt
  go_wp2_with fail
  refine hha.mono ?_
  rintro e w3 ⟨rfl, hb3⟩
  have hx3 := (hb3.block _ (Array.getElem?_eq_some_iff.1 hx2).1).trans hx2
  have hb13 := hb2.trans (hb3.mono hb2.size)
  obtain ⟨N, hN⟩ : ∃ N, w1.heap.size = N := ⟨_, rfl⟩
  obtain ⟨wn, hwn⟩ : ∃ V, w3.alloc (.cells #[.nilFunc, .nilFunc, .nilFunc, .nilFunc, .nilFunc, .nilFunc, .nilFunc, .nilFunc, .nilFunc, .nilFunc] 63) = V := ⟨_, rfl⟩
  have hbn : Below w3.heap.size w3 wn := by rw [← hwn]; exact (Below.refl _ _).alloc (Nat.le_refl _) _
  have han : wn.heap[w3.heap.size]? = some (.cells #[.nilFunc, .nilFunc, .nilFunc, .nilFunc, .nilFunc, .nilFunc, .nilFunc, .nilFunc, .nilFunc, .nilFunc] 63) := by rw [← hwn]; exact heap_alloc_new _ _
  have hN3 : N < w3.heap.size := by rw [← hN]; exact (Array.getElem?_eq_some_iff.1 hx3).1
  obtain ⟨y0, y1, y2, y3, y4, y5, y6, y7, y8, y9⟩ := box10 han
  obtain ⟨z0, z1, z2, z3, z4, z5, z6, z7, z8, z9⟩ := fr10 han
  obtain ⟨w4, hw4, ha4, hk4⟩ := store10 han (.func (.func 26) #[] #[]) (.func (.func 26) #[] #[]) (.func (.func 27) #[] #[]) (.func (.func 28) #[] #[]) (.func (.func 29) #[] #[]) (.func (.func 30) #[] #[]) (.func (.func 26) #[] #[]) (.func (.func 26) #[] #[]) (.func (.func 26) #[] #[]) (.func (.func 26) #[] #[])
  rw [hN] at hx3 ⊢
  clear hha hb2 hb3 hx2 c0 c1 c2 hN hw2
  go_wp2_with fail
  try simp only [hw4]
  have hb4 : Below w3.heap.size w3 w4 := hbn.trans ((hk4.chg (D := fun g => g = w3.heap.size) rfl).below (fun g e => by omega) hbn.size)
  have hx4 := (hb4.block _ (Array.getElem?_eq_some_iff.1 hx3).1).trans hx3
  have hb14 := hb13.trans (hb4.mono hb13.size)
  obtain ⟨w6, hw6⟩ : ∃ V, w4.drew = V := ⟨_, rfl⟩
  have hb6 : Below w4.heap.size w4 w6 := by rw [← hw6]; exact (Below.refl _ _).drew
  have hx6 := (hb6.block _ (Array.getElem?_eq_some_iff.1 hx4).1).trans hx4
  have ha6 := (hb6.block _ (Array.getElem?_eq_some_iff.1 ha4).1).trans ha4
  have hb16 := hb14.trans (hb6.mono hb14.size)
  have hbw6 := HB1.out.trans (hb16.mono HB1.out.size)
  have HMe : Hid (∀ V, V = w6 → Calls Tryd.prog 26 #[.agg #[.string s, .int .i64 (m : Int), .slice a k cap, .int .i64 (at' : Int), .int .i64 want, .int .i64 7]] w6 fun e w' => ∃ q : Nat, ∃ c : Int, e = .returned (.tuple #[.int .i64 (q : Int), .int .i64 c]) ∧ Q q c ∧ Below w6.heap.size w6 w') := fun V _ => HMe.out w6 hbw6 hb16
  clear y0 y1 y2 y3 y4 y5 y6 y7 y8 y9 z0 z1 z2 z3 z4 z5 z6 z7 z8 z9 hbn han hk4 hwn hb13 hb4 ha4 hx4 hb14 hb6 hb16 hx3
  obtain ⟨A, hA⟩ : ∃ A, w3.heap.size = A := ⟨_, rfl⟩
  try rw [hw4]
  rw [hA] at ha6 ⊢
  clear hA hw4
  have yw : IntKind.i64.wrap 6 = 6 := IntWalk.i64_in _ (by omega)
  refine wp_region_held_drew (S := (fun v => v.heap[N]? = some (.cells #[.string s, .int .i64 (m : Int), .slice a k cap] 54) ∧ v.heap[A]? = some (.cells #[.func (.func 26) #[] #[], .func (.func 26) #[] #[], .func (.func 27) #[] #[], .func (.func 28) #[] #[], .func (.func 29) #[] #[], .func (.func 30) #[] #[], .func (.func 26) #[] #[], .func (.func 26) #[] #[], .func (.func 26) #[] #[], .func (.func 26) #[] #[]] 63))) (by kernel_rfl) ?hS7 (fun hHeld => ?rest7)
  case hS7 => (rw [hw6]; exact ⟨hx6, ha6⟩)
  rw [hw6] at hHeld ⊢
  clear hw6
  refine takeD (i := 0) (d := some 36) (v := ?vT129) rfl rfl (by kernel_rfl) (by kernel_rfl) (by kernel_rfl) (fun _ _ _ h => h) (Or.inl ⟨by rfl, ?hyT129⟩) (by assumption) ?rstT129
  case hyT129 => (intro v hSw; obtain ⟨s0, s1, s2⟩ := box3 hSw.1; obtain ⟨t0, t1, t2, t3, t4, t5, t6, t7, t8, t9⟩ := box10 hSw.2; go_simp; (try with_reducible rfl))
  try simp only [Act.put, List.setIfInBounds_toArray, List.set_cons_zero, List.set_cons_succ]
  refine takeD (i := 1) (d := some 37) (v := ?vT130) rfl rfl (by kernel_rfl) (by kernel_rfl) (by kernel_rfl) (fun _ _ _ h => h) (Or.inl ⟨by rfl, ?hyT130⟩) (by assumption) ?rstT130
  case hyT130 => (intro v hSw; obtain ⟨s0, s1, s2⟩ := box3 hSw.1; obtain ⟨t0, t1, t2, t3, t4, t5, t6, t7, t8, t9⟩ := box10 hSw.2; go_simp; (try with_reducible rfl))
  try simp only [Act.put, List.setIfInBounds_toArray, List.set_cons_zero, List.set_cons_succ]
  refine takeD (i := 2) (d := some 38) (v := ?vT131) rfl rfl (by kernel_rfl) (by kernel_rfl) (by kernel_rfl) (fun _ _ _ h => h) (Or.inl ⟨by rfl, ?hyT131⟩) (by assumption) ?rstT131
  case hyT131 => (intro v hSw; obtain ⟨s0, s1, s2⟩ := box3 hSw.1; obtain ⟨t0, t1, t2, t3, t4, t5, t6, t7, t8, t9⟩ := box10 hSw.2; go_simp; (try with_reducible rfl))
  try simp only [Act.put, List.setIfInBounds_toArray, List.set_cons_zero, List.set_cons_succ]
  refine takeD (i := 3) (d := some 39) (v := ?vT132) rfl rfl (by kernel_rfl) (by kernel_rfl) (by kernel_rfl) (fun _ _ _ h => h) (Or.inl ⟨by rfl, ?hyT132⟩) (by assumption) ?rstT132
  case hyT132 => (intro v hSw; obtain ⟨s0, s1, s2⟩ := box3 hSw.1; obtain ⟨t0, t1, t2, t3, t4, t5, t6, t7, t8, t9⟩ := box10 hSw.2; go_simp; (try with_reducible rfl))
  try simp only [Act.put, List.setIfInBounds_toArray, List.set_cons_zero, List.set_cons_succ]
  refine takeD (i := 4) (d := some 40) (v := ?vT133) rfl rfl (by kernel_rfl) (by kernel_rfl) (by kernel_rfl) (fun _ _ _ h => h) (Or.inl ⟨by rfl, ?hyT133⟩) (by assumption) ?rstT133
  case hyT133 => (intro v hSw; obtain ⟨s0, s1, s2⟩ := box3 hSw.1; obtain ⟨t0, t1, t2, t3, t4, t5, t6, t7, t8, t9⟩ := box10 hSw.2; go_simp; (try with_reducible rfl))
  try simp only [Act.put, List.setIfInBounds_toArray, List.set_cons_zero, List.set_cons_succ]
  refine takeD (i := 5) (d := some 41) (v := ?vT134) rfl rfl (by kernel_rfl) (by kernel_rfl) (by kernel_rfl) (fun _ _ _ h => h) (Or.inl ⟨by rfl, ?hyT134⟩) (by assumption) ?rstT134
  case hyT134 => (intro v hSw; obtain ⟨s0, s1, s2⟩ := box3 hSw.1; obtain ⟨t0, t1, t2, t3, t4, t5, t6, t7, t8, t9⟩ := box10 hSw.2; go_simp; (try with_reducible rfl))
  try simp only [Act.put, List.setIfInBounds_toArray, List.set_cons_zero, List.set_cons_succ]
  refine takeD (i := 6) (d := some 42) (v := ?vT135) rfl rfl (by kernel_rfl) (by kernel_rfl) (by kernel_rfl) (fun _ _ _ h => h) (Or.inl ⟨by rfl, ?hyT135⟩) (by assumption) ?rstT135
  case hyT135 => (intro v hSw; obtain ⟨s0, s1, s2⟩ := box3 hSw.1; obtain ⟨t0, t1, t2, t3, t4, t5, t6, t7, t8, t9⟩ := box10 hSw.2; go_simp; (try with_reducible rfl))
  try simp only [Act.put, List.setIfInBounds_toArray, List.set_cons_zero, List.set_cons_succ]
  refine takeD (i := 7) (d := some 43) (v := ?vT136) rfl rfl (by kernel_rfl) (by kernel_rfl) (by kernel_rfl) (fun _ _ _ h => h) (Or.inl ⟨by rfl, ?hyT136⟩) (by assumption) ?rstT136
  case hyT136 => (intro v hSw; obtain ⟨s0, s1, s2⟩ := box3 hSw.1; obtain ⟨t0, t1, t2, t3, t4, t5, t6, t7, t8, t9⟩ := box10 hSw.2; go_simp; (try with_reducible rfl))
  try simp only [Act.put, List.setIfInBounds_toArray, List.set_cons_zero, List.set_cons_succ]
  refine takeD (i := 8) (d := some 44) (v := ?vT137) rfl rfl (by kernel_rfl) (by kernel_rfl) (by kernel_rfl) (fun _ _ _ h => h) (Or.inl ⟨by rfl, ?hyT137⟩) (by assumption) ?rstT137
  case hyT137 => (intro v hSw; obtain ⟨s0, s1, s2⟩ := box3 hSw.1; obtain ⟨t0, t1, t2, t3, t4, t5, t6, t7, t8, t9⟩ := box10 hSw.2; go_simp; (try with_reducible rfl))
  try simp only [Act.put, List.setIfInBounds_toArray, List.set_cons_zero, List.set_cons_succ]
  refine wpAnyH_ready (rs := [9]) (by kernel_rfl) (by simp) ?_
  refine AllReadyH.cons rfl (fun K hK => ?_) AllReadyH.nil
  go_simp
  refine (HMe.out w6 rfl).mono ?_
  rintro e w7 ⟨q, c, rfl, hq, hb7⟩
  have hx7 := (hb7.block _ (Array.getElem?_eq_some_iff.1 hx6).1).trans hx6
  have ha7 := (hb7.block _ (Array.getElem?_eq_some_iff.1 ha6).1).trans ha6
  have HN : Hid (Q q c ∧ Below w.heap.size w w7) := ⟨hq, hbw6.trans (hb7.mono hbw6.size)⟩
  clear hb7 hx6 ha6 hq hbw6
  dsimp only
  clear hHeld
  refine hK.out _ _ ?hS138 (fun hHeld => ?rest138)
  case hS138 => exact ⟨hx7, ha7⟩
  clear hK K
  try simp only [Act.put, List.setIfInBounds_toArray, List.set_cons_zero, List.set_cons_succ]
  refine takeD (i := 10) (d := some 35) (v := ?vT139) rfl rfl (by kernel_rfl) (by kernel_rfl) (by kernel_rfl) (fun _ _ _ h => h) (Or.inl ⟨by rfl, ?hyT139⟩) (by assumption) ?rstT139
  case hyT139 => (intro v hSw; go_simp; (try with_reducible rfl))
  try simp only [Act.put, List.setIfInBounds_toArray, List.set_cons_zero, List.set_cons_succ]
  refine takeD (i := 11) (d := some 46) (v := ?vT140) rfl rfl (by kernel_rfl) (by kernel_rfl) (by kernel_rfl) (fun _ _ _ h => h) (Or.inl ⟨by rfl, ?hyT140⟩) (by assumption) ?rstT140
  case hyT140 => (intro v hSw; go_simp; (try with_reducible rfl))
  try simp only [Act.put, List.setIfInBounds_toArray, List.set_cons_zero, List.set_cons_succ]
  refine takeD (i := 12) (d := some 47) (v := ?vT141) rfl rfl (by kernel_rfl) (by kernel_rfl) (by kernel_rfl) (fun _ _ _ h => h) (Or.inl ⟨by rfl, ?hyT141⟩) (by assumption) ?rstT141
  case hyT141 => (intro v hSw; go_simp; (try with_reducible rfl))
  try simp only [Act.put, List.setIfInBounds_toArray, List.set_cons_zero, List.set_cons_succ]
  refine takeD (i := 13) (d := some 10) (v := ?vT142) rfl rfl (by kernel_rfl) (by kernel_rfl) (by kernel_rfl) (fun _ _ _ h => h) (Or.inl ⟨by rfl, ?hyT142⟩) (by assumption) ?rstT142
  case hyT142 => (intro v hSw; go_simp; (try with_reducible rfl))
  try simp only [Act.put, List.setIfInBounds_toArray, List.set_cons_zero, List.set_cons_succ]
  refine takeD (i := 14) (d := some 11) (v := ?vT143) rfl rfl (by kernel_rfl) (by kernel_rfl) (by kernel_rfl) (fun _ _ _ h => h) (Or.inl ⟨by rfl, ?hyT143⟩) (by assumption) ?rstT143
  case hyT143 => (intro v hSw; go_simp; (try with_reducible rfl))
  try simp only [Act.put, List.setIfInBounds_toArray, List.set_cons_zero, List.set_cons_succ]
  refine wpAnyH_done (by kernel_rfl) ?_ _
  clear hHeld
  go_wp2_with fail
  refine bodyPost_ret (v := .tuple #[.int .i64 (q : Int), .int .i64 c, .int .i64 0]) (by simp [results, Tryd.results14, go_sem]) rfl ?_
  exact ⟨q, c, rfl, HN.out⟩
set_option maxHeartbeats 16000000 in
theorem walk8_any {s : ByteArray} {rs : List Int} (ht : IsText s rs) (W : Nat) (hW : 1 ≤ W ∧ W ≤ 1024) (hn : rs.length ≤ 4294967000) {w : World} (hP : PTab w) (hG : Glob w.heap.size) (at' : Nat) (hat : at' ≤ rs.length) (want : Int) {Q : Nat → Int → Prop}
    (hM : ∀ a k cap V, Below w.heap.size w V → Sheet rs W V a k cap → Calls Tryd.prog 26 #[.agg #[.string s, .int .i64 (rs.length : Int), .slice a k cap, .int .i64 (at' : Int), .int .i64 want, .int .i64 8]] V fun e w' => ∃ q : Nat, ∃ c : Int, e = .returned (.tuple #[.int .i64 (q : Int), .int .i64 c]) ∧ Q q c ∧ Below V.heap.size V w') :
    Calls Tryd.prog 14 #[.string s, .int .i64 (W : Int), .int .i64 (at' : Int), .int .i64 want, .int .i64 8] w fun e w' => ∃ q : Nat, ∃ c : Int, e = .returned (.tuple #[.int .i64 (q : Int), .int .i64 c, .int .i64 0]) ∧ Q q c ∧ Below w.heap.size w w' := by
  have HLa := lay_sheet ht W 1 hW ⟨by omega, by omega⟩ hn hP hG
  have HM0 : Hid (∀ a k cap V, Below w.heap.size w V → Sheet rs W V a k cap → Calls Tryd.prog 26 #[.agg #[.string s, .int .i64 (rs.length : Int), .slice a k cap, .int .i64 (at' : Int), .int .i64 want, .int .i64 8]] V fun e w' => ∃ q : Nat, ∃ c : Int, e = .returned (.tuple #[.int .i64 (q : Int), .int .i64 c]) ∧ Q q c ∧ Below V.heap.size V w') := hM
  have HAt : Hid (at' ≤ rs.length) := hat
  clear ht hW hn hP hG hM hat
  go_enter Tryd.func14, Tryd.ntmps14
  go_wp2_with fail
  refine HLa.mono ?_
  rintro e w1 ⟨a, k, cap, rfl, hsh, hb1⟩
  obtain ⟨m, hm⟩ : ∃ m, rs.length = m := ⟨_, rfl⟩
  rw [hm]
  have HMe : Hid (∀ V, Below w.heap.size w V → Below w1.heap.size w1 V → Calls Tryd.prog 26 #[.agg #[.string s, .int .i64 (m : Int), .slice a k cap, .int .i64 (at' : Int), .int .i64 want, .int .i64 8]] V fun e w' => ∃ q : Nat, ∃ c : Int, e = .returned (.tuple #[.int .i64 (q : Int), .int .i64 c]) ∧ Q q c ∧ Below V.heap.size V w') := fun V hV hV1 => by
    have := HM0.out a k cap V hV (hsh.below hV1)
    rw [hm] at this
    exact this
  obtain ⟨w2, hw2⟩ : ∃ V, w1.alloc (.cells #[.string s, .int .i64 (m : Int), .slice a k cap] 54) = V := ⟨_, rfl⟩
  have hb2 : Below w1.heap.size w1 w2 := by rw [← hw2]; exact (Below.refl _ _).alloc (Nat.le_refl _) _
  have hx2 : w2.heap[w1.heap.size]? = some (.cells #[.string s, .int .i64 (m : Int), .slice a k cap] 54) := by rw [← hw2]; exact heap_alloc_new _ _
  obtain ⟨c0, c1, c2⟩ := box3 hx2
  have hha := has_any s m a k cap (at' : Int) w2
  rw [show decide (0 ≤ (at' : Int) ∧ (at' : Int) ≤ (m : Int)) = true from decide_eq_true ⟨by omega, by have := HAt.out; omega⟩] at hha
  have HB1 : Hid (Below w.heap.size w w1) := hb1
  clear hm hsh hb1 HLa HM0 HAt
  go_wp2_with fail
  refine hha.mono ?_
  rintro e w3 ⟨rfl, hb3⟩
  have hx3 := (hb3.block _ (Array.getElem?_eq_some_iff.1 hx2).1).trans hx2
  have hb13 := hb2.trans (hb3.mono hb2.size)
  obtain ⟨N, hN⟩ : ∃ N, w1.heap.size = N := ⟨_, rfl⟩
  obtain ⟨wn, hwn⟩ : ∃ V, w3.alloc (.cells #[.nilFunc, .nilFunc, .nilFunc, .nilFunc, .nilFunc, .nilFunc, .nilFunc, .nilFunc, .nilFunc, .nilFunc] 63) = V := ⟨_, rfl⟩
  have hbn : Below w3.heap.size w3 wn := by rw [← hwn]; exact (Below.refl _ _).alloc (Nat.le_refl _) _
  have han : wn.heap[w3.heap.size]? = some (.cells #[.nilFunc, .nilFunc, .nilFunc, .nilFunc, .nilFunc, .nilFunc, .nilFunc, .nilFunc, .nilFunc, .nilFunc] 63) := by rw [← hwn]; exact heap_alloc_new _ _
  have hN3 : N < w3.heap.size := by rw [← hN]; exact (Array.getElem?_eq_some_iff.1 hx3).1
  obtain ⟨y0, y1, y2, y3, y4, y5, y6, y7, y8, y9⟩ := box10 han
  obtain ⟨z0, z1, z2, z3, z4, z5, z6, z7, z8, z9⟩ := fr10 han
  obtain ⟨w4, hw4, ha4, hk4⟩ := store10 han (.func (.func 26) #[] #[]) (.func (.func 26) #[] #[]) (.func (.func 27) #[] #[]) (.func (.func 28) #[] #[]) (.func (.func 29) #[] #[]) (.func (.func 30) #[] #[]) (.func (.func 26) #[] #[]) (.func (.func 26) #[] #[]) (.func (.func 26) #[] #[]) (.func (.func 26) #[] #[])
  rw [hN] at hx3 ⊢
  clear hha hb2 hb3 hx2 c0 c1 c2 hN hw2
  go_wp2_with fail
  try simp only [hw4]
  have hb4 : Below w3.heap.size w3 w4 := hbn.trans ((hk4.chg (D := fun g => g = w3.heap.size) rfl).below (fun g e => by omega) hbn.size)
  have hx4 := (hb4.block _ (Array.getElem?_eq_some_iff.1 hx3).1).trans hx3
  have hb14 := hb13.trans (hb4.mono hb13.size)
  obtain ⟨w6, hw6⟩ : ∃ V, w4.drew = V := ⟨_, rfl⟩
  have hb6 : Below w4.heap.size w4 w6 := by rw [← hw6]; exact (Below.refl _ _).drew
  have hx6 := (hb6.block _ (Array.getElem?_eq_some_iff.1 hx4).1).trans hx4
  have ha6 := (hb6.block _ (Array.getElem?_eq_some_iff.1 ha4).1).trans ha4
  have hb16 := hb14.trans (hb6.mono hb14.size)
  have hbw6 := HB1.out.trans (hb16.mono HB1.out.size)
  have HMe : Hid (∀ V, V = w6 → Calls Tryd.prog 26 #[.agg #[.string s, .int .i64 (m : Int), .slice a k cap, .int .i64 (at' : Int), .int .i64 want, .int .i64 8]] w6 fun e w' => ∃ q : Nat, ∃ c : Int, e = .returned (.tuple #[.int .i64 (q : Int), .int .i64 c]) ∧ Q q c ∧ Below w6.heap.size w6 w') := fun V _ => HMe.out w6 hbw6 hb16
  clear y0 y1 y2 y3 y4 y5 y6 y7 y8 y9 z0 z1 z2 z3 z4 z5 z6 z7 z8 z9 hbn han hk4 hwn hb13 hb4 ha4 hx4 hb14 hb6 hb16 hx3
  obtain ⟨A, hA⟩ : ∃ A, w3.heap.size = A := ⟨_, rfl⟩
  try rw [hw4]
  rw [hA] at ha6 ⊢
  clear hA hw4
  have yw : IntKind.i64.wrap 7 = 7 := IntWalk.i64_in _ (by omega)
  refine wp_region_held_drew (S := (fun v => v.heap[N]? = some (.cells #[.string s, .int .i64 (m : Int), .slice a k cap] 54) ∧ v.heap[A]? = some (.cells #[.func (.func 26) #[] #[], .func (.func 26) #[] #[], .func (.func 27) #[] #[], .func (.func 28) #[] #[], .func (.func 29) #[] #[], .func (.func 30) #[] #[], .func (.func 26) #[] #[], .func (.func 26) #[] #[], .func (.func 26) #[] #[], .func (.func 26) #[] #[]] 63))) (by kernel_rfl) ?hS8 (fun hHeld => ?rest8)
  case hS8 => (rw [hw6]; exact ⟨hx6, ha6⟩)
  rw [hw6] at hHeld ⊢
  clear hw6
  refine takeD (i := 0) (d := some 36) (v := ?vT144) rfl rfl (by kernel_rfl) (by kernel_rfl) (by kernel_rfl) (fun _ _ _ h => h) (Or.inl ⟨by rfl, ?hyT144⟩) (by assumption) ?rstT144
  case hyT144 => (intro v hSw; obtain ⟨s0, s1, s2⟩ := box3 hSw.1; obtain ⟨t0, t1, t2, t3, t4, t5, t6, t7, t8, t9⟩ := box10 hSw.2; go_simp; (try with_reducible rfl))
  try simp only [Act.put, List.setIfInBounds_toArray, List.set_cons_zero, List.set_cons_succ]
  refine takeD (i := 1) (d := some 37) (v := ?vT145) rfl rfl (by kernel_rfl) (by kernel_rfl) (by kernel_rfl) (fun _ _ _ h => h) (Or.inl ⟨by rfl, ?hyT145⟩) (by assumption) ?rstT145
  case hyT145 => (intro v hSw; obtain ⟨s0, s1, s2⟩ := box3 hSw.1; obtain ⟨t0, t1, t2, t3, t4, t5, t6, t7, t8, t9⟩ := box10 hSw.2; go_simp; (try with_reducible rfl))
  try simp only [Act.put, List.setIfInBounds_toArray, List.set_cons_zero, List.set_cons_succ]
  refine takeD (i := 2) (d := some 38) (v := ?vT146) rfl rfl (by kernel_rfl) (by kernel_rfl) (by kernel_rfl) (fun _ _ _ h => h) (Or.inl ⟨by rfl, ?hyT146⟩) (by assumption) ?rstT146
  case hyT146 => (intro v hSw; obtain ⟨s0, s1, s2⟩ := box3 hSw.1; obtain ⟨t0, t1, t2, t3, t4, t5, t6, t7, t8, t9⟩ := box10 hSw.2; go_simp; (try with_reducible rfl))
  try simp only [Act.put, List.setIfInBounds_toArray, List.set_cons_zero, List.set_cons_succ]
  refine takeD (i := 3) (d := some 39) (v := ?vT147) rfl rfl (by kernel_rfl) (by kernel_rfl) (by kernel_rfl) (fun _ _ _ h => h) (Or.inl ⟨by rfl, ?hyT147⟩) (by assumption) ?rstT147
  case hyT147 => (intro v hSw; obtain ⟨s0, s1, s2⟩ := box3 hSw.1; obtain ⟨t0, t1, t2, t3, t4, t5, t6, t7, t8, t9⟩ := box10 hSw.2; go_simp; (try with_reducible rfl))
  try simp only [Act.put, List.setIfInBounds_toArray, List.set_cons_zero, List.set_cons_succ]
  refine takeD (i := 4) (d := some 40) (v := ?vT148) rfl rfl (by kernel_rfl) (by kernel_rfl) (by kernel_rfl) (fun _ _ _ h => h) (Or.inl ⟨by rfl, ?hyT148⟩) (by assumption) ?rstT148
  case hyT148 => (intro v hSw; obtain ⟨s0, s1, s2⟩ := box3 hSw.1; obtain ⟨t0, t1, t2, t3, t4, t5, t6, t7, t8, t9⟩ := box10 hSw.2; go_simp; (try with_reducible rfl))
  try simp only [Act.put, List.setIfInBounds_toArray, List.set_cons_zero, List.set_cons_succ]
  refine takeD (i := 5) (d := some 41) (v := ?vT149) rfl rfl (by kernel_rfl) (by kernel_rfl) (by kernel_rfl) (fun _ _ _ h => h) (Or.inl ⟨by rfl, ?hyT149⟩) (by assumption) ?rstT149
  case hyT149 => (intro v hSw; obtain ⟨s0, s1, s2⟩ := box3 hSw.1; obtain ⟨t0, t1, t2, t3, t4, t5, t6, t7, t8, t9⟩ := box10 hSw.2; go_simp; (try with_reducible rfl))
  try simp only [Act.put, List.setIfInBounds_toArray, List.set_cons_zero, List.set_cons_succ]
  refine takeD (i := 6) (d := some 42) (v := ?vT150) rfl rfl (by kernel_rfl) (by kernel_rfl) (by kernel_rfl) (fun _ _ _ h => h) (Or.inl ⟨by rfl, ?hyT150⟩) (by assumption) ?rstT150
  case hyT150 => (intro v hSw; obtain ⟨s0, s1, s2⟩ := box3 hSw.1; obtain ⟨t0, t1, t2, t3, t4, t5, t6, t7, t8, t9⟩ := box10 hSw.2; go_simp; (try with_reducible rfl))
  try simp only [Act.put, List.setIfInBounds_toArray, List.set_cons_zero, List.set_cons_succ]
  refine takeD (i := 7) (d := some 43) (v := ?vT151) rfl rfl (by kernel_rfl) (by kernel_rfl) (by kernel_rfl) (fun _ _ _ h => h) (Or.inl ⟨by rfl, ?hyT151⟩) (by assumption) ?rstT151
  case hyT151 => (intro v hSw; obtain ⟨s0, s1, s2⟩ := box3 hSw.1; obtain ⟨t0, t1, t2, t3, t4, t5, t6, t7, t8, t9⟩ := box10 hSw.2; go_simp; (try with_reducible rfl))
  try simp only [Act.put, List.setIfInBounds_toArray, List.set_cons_zero, List.set_cons_succ]
  refine takeD (i := 8) (d := some 44) (v := ?vT152) rfl rfl (by kernel_rfl) (by kernel_rfl) (by kernel_rfl) (fun _ _ _ h => h) (Or.inl ⟨by rfl, ?hyT152⟩) (by assumption) ?rstT152
  case hyT152 => (intro v hSw; obtain ⟨s0, s1, s2⟩ := box3 hSw.1; obtain ⟨t0, t1, t2, t3, t4, t5, t6, t7, t8, t9⟩ := box10 hSw.2; go_simp; (try with_reducible rfl))
  try simp only [Act.put, List.setIfInBounds_toArray, List.set_cons_zero, List.set_cons_succ]
  refine wpAnyH_ready (rs := [9]) (by kernel_rfl) (by simp) ?_
  refine AllReadyH.cons rfl (fun K hK => ?_) AllReadyH.nil
  go_simp
  refine (HMe.out w6 rfl).mono ?_
  rintro e w7 ⟨q, c, rfl, hq, hb7⟩
  have hx7 := (hb7.block _ (Array.getElem?_eq_some_iff.1 hx6).1).trans hx6
  have ha7 := (hb7.block _ (Array.getElem?_eq_some_iff.1 ha6).1).trans ha6
  have HN : Hid (Q q c ∧ Below w.heap.size w w7) := ⟨hq, hbw6.trans (hb7.mono hbw6.size)⟩
  clear hb7 hx6 ha6 hq hbw6
  dsimp only
  clear hHeld
  refine hK.out _ _ ?hS153 (fun hHeld => ?rest153)
  case hS153 => exact ⟨hx7, ha7⟩
  clear hK K
  try simp only [Act.put, List.setIfInBounds_toArray, List.set_cons_zero, List.set_cons_succ]
  refine takeD (i := 10) (d := some 35) (v := ?vT154) rfl rfl (by kernel_rfl) (by kernel_rfl) (by kernel_rfl) (fun _ _ _ h => h) (Or.inl ⟨by rfl, ?hyT154⟩) (by assumption) ?rstT154
  case hyT154 => (intro v hSw; go_simp; (try with_reducible rfl))
  try simp only [Act.put, List.setIfInBounds_toArray, List.set_cons_zero, List.set_cons_succ]
  refine takeD (i := 11) (d := some 46) (v := ?vT155) rfl rfl (by kernel_rfl) (by kernel_rfl) (by kernel_rfl) (fun _ _ _ h => h) (Or.inl ⟨by rfl, ?hyT155⟩) (by assumption) ?rstT155
  case hyT155 => (intro v hSw; go_simp; (try with_reducible rfl))
  try simp only [Act.put, List.setIfInBounds_toArray, List.set_cons_zero, List.set_cons_succ]
  refine takeD (i := 12) (d := some 47) (v := ?vT156) rfl rfl (by kernel_rfl) (by kernel_rfl) (by kernel_rfl) (fun _ _ _ h => h) (Or.inl ⟨by rfl, ?hyT156⟩) (by assumption) ?rstT156
  case hyT156 => (intro v hSw; go_simp; (try with_reducible rfl))
  try simp only [Act.put, List.setIfInBounds_toArray, List.set_cons_zero, List.set_cons_succ]
  refine takeD (i := 13) (d := some 10) (v := ?vT157) rfl rfl (by kernel_rfl) (by kernel_rfl) (by kernel_rfl) (fun _ _ _ h => h) (Or.inl ⟨by rfl, ?hyT157⟩) (by assumption) ?rstT157
  case hyT157 => (intro v hSw; go_simp; (try with_reducible rfl))
  try simp only [Act.put, List.setIfInBounds_toArray, List.set_cons_zero, List.set_cons_succ]
  refine takeD (i := 14) (d := some 11) (v := ?vT158) rfl rfl (by kernel_rfl) (by kernel_rfl) (by kernel_rfl) (fun _ _ _ h => h) (Or.inl ⟨by rfl, ?hyT158⟩) (by assumption) ?rstT158
  case hyT158 => (intro v hSw; go_simp; (try with_reducible rfl))
  try simp only [Act.put, List.setIfInBounds_toArray, List.set_cons_zero, List.set_cons_succ]
  refine wpAnyH_done (by kernel_rfl) ?_ _
  clear hHeld
  go_wp2_with fail
  refine bodyPost_ret (v := .tuple #[.int .i64 (q : Int), .int .i64 c, .int .i64 0]) (by simp [results, Tryd.results14, go_sem]) rfl ?_
  exact ⟨q, c, rfl, HN.out⟩
set_option maxHeartbeats 16000000 in
theorem walk9_any {s : ByteArray} {rs : List Int} (ht : IsText s rs) (W : Nat) (hW : 1 ≤ W ∧ W ≤ 1024) (hn : rs.length ≤ 4294967000) {w : World} (hP : PTab w) (hG : Glob w.heap.size) (at' : Nat) (hat : at' ≤ rs.length) (want : Int) {Q : Nat → Int → Prop}
    (hM : ∀ a k cap V, Below w.heap.size w V → Sheet rs W V a k cap → Calls Tryd.prog 26 #[.agg #[.string s, .int .i64 (rs.length : Int), .slice a k cap, .int .i64 (at' : Int), .int .i64 want, .int .i64 9]] V fun e w' => ∃ q : Nat, ∃ c : Int, e = .returned (.tuple #[.int .i64 (q : Int), .int .i64 c]) ∧ Q q c ∧ Below V.heap.size V w') :
    Calls Tryd.prog 14 #[.string s, .int .i64 (W : Int), .int .i64 (at' : Int), .int .i64 want, .int .i64 9] w fun e w' => ∃ q : Nat, ∃ c : Int, e = .returned (.tuple #[.int .i64 (q : Int), .int .i64 c, .int .i64 0]) ∧ Q q c ∧ Below w.heap.size w w' := by
  have HLa := lay_sheet ht W 1 hW ⟨by omega, by omega⟩ hn hP hG
  have HM0 : Hid (∀ a k cap V, Below w.heap.size w V → Sheet rs W V a k cap → Calls Tryd.prog 26 #[.agg #[.string s, .int .i64 (rs.length : Int), .slice a k cap, .int .i64 (at' : Int), .int .i64 want, .int .i64 9]] V fun e w' => ∃ q : Nat, ∃ c : Int, e = .returned (.tuple #[.int .i64 (q : Int), .int .i64 c]) ∧ Q q c ∧ Below V.heap.size V w') := hM
  have HAt : Hid (at' ≤ rs.length) := hat
  clear ht hW hn hP hG hM hat
  go_enter Tryd.func14, Tryd.ntmps14
  go_wp2_with fail
  refine HLa.mono ?_
  rintro e w1 ⟨a, k, cap, rfl, hsh, hb1⟩
  obtain ⟨m, hm⟩ : ∃ m, rs.length = m := ⟨_, rfl⟩
  rw [hm]
  have HMe : Hid (∀ V, Below w.heap.size w V → Below w1.heap.size w1 V → Calls Tryd.prog 26 #[.agg #[.string s, .int .i64 (m : Int), .slice a k cap, .int .i64 (at' : Int), .int .i64 want, .int .i64 9]] V fun e w' => ∃ q : Nat, ∃ c : Int, e = .returned (.tuple #[.int .i64 (q : Int), .int .i64 c]) ∧ Q q c ∧ Below V.heap.size V w') := fun V hV hV1 => by
    have := HM0.out a k cap V hV (hsh.below hV1)
    rw [hm] at this
    exact this
  obtain ⟨w2, hw2⟩ : ∃ V, w1.alloc (.cells #[.string s, .int .i64 (m : Int), .slice a k cap] 54) = V := ⟨_, rfl⟩
  have hb2 : Below w1.heap.size w1 w2 := by rw [← hw2]; exact (Below.refl _ _).alloc (Nat.le_refl _) _
  have hx2 : w2.heap[w1.heap.size]? = some (.cells #[.string s, .int .i64 (m : Int), .slice a k cap] 54) := by rw [← hw2]; exact heap_alloc_new _ _
  obtain ⟨c0, c1, c2⟩ := box3 hx2
  have hha := has_any s m a k cap (at' : Int) w2
  rw [show decide (0 ≤ (at' : Int) ∧ (at' : Int) ≤ (m : Int)) = true from decide_eq_true ⟨by omega, by have := HAt.out; omega⟩] at hha
  have HB1 : Hid (Below w.heap.size w w1) := hb1
  clear hm hsh hb1 HLa HM0 HAt
  go_wp2_with fail
  refine hha.mono ?_
  rintro e w3 ⟨rfl, hb3⟩
  have hx3 := (hb3.block _ (Array.getElem?_eq_some_iff.1 hx2).1).trans hx2
  have hb13 := hb2.trans (hb3.mono hb2.size)
  obtain ⟨N, hN⟩ : ∃ N, w1.heap.size = N := ⟨_, rfl⟩
  obtain ⟨wn, hwn⟩ : ∃ V, w3.alloc (.cells #[.nilFunc, .nilFunc, .nilFunc, .nilFunc, .nilFunc, .nilFunc, .nilFunc, .nilFunc, .nilFunc, .nilFunc] 63) = V := ⟨_, rfl⟩
  have hbn : Below w3.heap.size w3 wn := by rw [← hwn]; exact (Below.refl _ _).alloc (Nat.le_refl _) _
  have han : wn.heap[w3.heap.size]? = some (.cells #[.nilFunc, .nilFunc, .nilFunc, .nilFunc, .nilFunc, .nilFunc, .nilFunc, .nilFunc, .nilFunc, .nilFunc] 63) := by rw [← hwn]; exact heap_alloc_new _ _
  have hN3 : N < w3.heap.size := by rw [← hN]; exact (Array.getElem?_eq_some_iff.1 hx3).1
  obtain ⟨y0, y1, y2, y3, y4, y5, y6, y7, y8, y9⟩ := box10 han
  obtain ⟨z0, z1, z2, z3, z4, z5, z6, z7, z8, z9⟩ := fr10 han
  obtain ⟨w4, hw4, ha4, hk4⟩ := store10 han (.func (.func 26) #[] #[]) (.func (.func 26) #[] #[]) (.func (.func 27) #[] #[]) (.func (.func 28) #[] #[]) (.func (.func 29) #[] #[]) (.func (.func 30) #[] #[]) (.func (.func 26) #[] #[]) (.func (.func 26) #[] #[]) (.func (.func 26) #[] #[]) (.func (.func 26) #[] #[])
  rw [hN] at hx3 ⊢
  clear hha hb2 hb3 hx2 c0 c1 c2 hN hw2
  go_wp2_with fail
  try simp only [hw4]
  have hb4 : Below w3.heap.size w3 w4 := hbn.trans ((hk4.chg (D := fun g => g = w3.heap.size) rfl).below (fun g e => by omega) hbn.size)
  have hx4 := (hb4.block _ (Array.getElem?_eq_some_iff.1 hx3).1).trans hx3
  have hb14 := hb13.trans (hb4.mono hb13.size)
  obtain ⟨w6, hw6⟩ : ∃ V, w4.drew = V := ⟨_, rfl⟩
  have hb6 : Below w4.heap.size w4 w6 := by rw [← hw6]; exact (Below.refl _ _).drew
  have hx6 := (hb6.block _ (Array.getElem?_eq_some_iff.1 hx4).1).trans hx4
  have ha6 := (hb6.block _ (Array.getElem?_eq_some_iff.1 ha4).1).trans ha4
  have hb16 := hb14.trans (hb6.mono hb14.size)
  have hbw6 := HB1.out.trans (hb16.mono HB1.out.size)
  have HMe : Hid (∀ V, V = w6 → Calls Tryd.prog 26 #[.agg #[.string s, .int .i64 (m : Int), .slice a k cap, .int .i64 (at' : Int), .int .i64 want, .int .i64 9]] w6 fun e w' => ∃ q : Nat, ∃ c : Int, e = .returned (.tuple #[.int .i64 (q : Int), .int .i64 c]) ∧ Q q c ∧ Below w6.heap.size w6 w') := fun V _ => HMe.out w6 hbw6 hb16
  clear y0 y1 y2 y3 y4 y5 y6 y7 y8 y9 z0 z1 z2 z3 z4 z5 z6 z7 z8 z9 hbn han hk4 hwn hb13 hb4 ha4 hx4 hb14 hb6 hb16 hx3
  obtain ⟨A, hA⟩ : ∃ A, w3.heap.size = A := ⟨_, rfl⟩
  try rw [hw4]
  rw [hA] at ha6 ⊢
  clear hA hw4
  have yw : IntKind.i64.wrap 8 = 8 := IntWalk.i64_in _ (by omega)
  refine wp_region_held_drew (S := (fun v => v.heap[N]? = some (.cells #[.string s, .int .i64 (m : Int), .slice a k cap] 54) ∧ v.heap[A]? = some (.cells #[.func (.func 26) #[] #[], .func (.func 26) #[] #[], .func (.func 27) #[] #[], .func (.func 28) #[] #[], .func (.func 29) #[] #[], .func (.func 30) #[] #[], .func (.func 26) #[] #[], .func (.func 26) #[] #[], .func (.func 26) #[] #[], .func (.func 26) #[] #[]] 63))) (by kernel_rfl) ?hS9 (fun hHeld => ?rest9)
  case hS9 => (rw [hw6]; exact ⟨hx6, ha6⟩)
  rw [hw6] at hHeld ⊢
  clear hw6
  refine takeD (i := 0) (d := some 36) (v := ?vT159) rfl rfl (by kernel_rfl) (by kernel_rfl) (by kernel_rfl) (fun _ _ _ h => h) (Or.inl ⟨by rfl, ?hyT159⟩) (by assumption) ?rstT159
  case hyT159 => (intro v hSw; obtain ⟨s0, s1, s2⟩ := box3 hSw.1; obtain ⟨t0, t1, t2, t3, t4, t5, t6, t7, t8, t9⟩ := box10 hSw.2; go_simp; (try with_reducible rfl))
  try simp only [Act.put, List.setIfInBounds_toArray, List.set_cons_zero, List.set_cons_succ]
  refine takeD (i := 1) (d := some 37) (v := ?vT160) rfl rfl (by kernel_rfl) (by kernel_rfl) (by kernel_rfl) (fun _ _ _ h => h) (Or.inl ⟨by rfl, ?hyT160⟩) (by assumption) ?rstT160
  case hyT160 => (intro v hSw; obtain ⟨s0, s1, s2⟩ := box3 hSw.1; obtain ⟨t0, t1, t2, t3, t4, t5, t6, t7, t8, t9⟩ := box10 hSw.2; go_simp; (try with_reducible rfl))
  try simp only [Act.put, List.setIfInBounds_toArray, List.set_cons_zero, List.set_cons_succ]
  refine takeD (i := 2) (d := some 38) (v := ?vT161) rfl rfl (by kernel_rfl) (by kernel_rfl) (by kernel_rfl) (fun _ _ _ h => h) (Or.inl ⟨by rfl, ?hyT161⟩) (by assumption) ?rstT161
  case hyT161 => (intro v hSw; obtain ⟨s0, s1, s2⟩ := box3 hSw.1; obtain ⟨t0, t1, t2, t3, t4, t5, t6, t7, t8, t9⟩ := box10 hSw.2; go_simp; (try with_reducible rfl))
  try simp only [Act.put, List.setIfInBounds_toArray, List.set_cons_zero, List.set_cons_succ]
  refine takeD (i := 3) (d := some 39) (v := ?vT162) rfl rfl (by kernel_rfl) (by kernel_rfl) (by kernel_rfl) (fun _ _ _ h => h) (Or.inl ⟨by rfl, ?hyT162⟩) (by assumption) ?rstT162
  case hyT162 => (intro v hSw; obtain ⟨s0, s1, s2⟩ := box3 hSw.1; obtain ⟨t0, t1, t2, t3, t4, t5, t6, t7, t8, t9⟩ := box10 hSw.2; go_simp; (try with_reducible rfl))
  try simp only [Act.put, List.setIfInBounds_toArray, List.set_cons_zero, List.set_cons_succ]
  refine takeD (i := 4) (d := some 40) (v := ?vT163) rfl rfl (by kernel_rfl) (by kernel_rfl) (by kernel_rfl) (fun _ _ _ h => h) (Or.inl ⟨by rfl, ?hyT163⟩) (by assumption) ?rstT163
  case hyT163 => (intro v hSw; obtain ⟨s0, s1, s2⟩ := box3 hSw.1; obtain ⟨t0, t1, t2, t3, t4, t5, t6, t7, t8, t9⟩ := box10 hSw.2; go_simp; (try with_reducible rfl))
  try simp only [Act.put, List.setIfInBounds_toArray, List.set_cons_zero, List.set_cons_succ]
  refine takeD (i := 5) (d := some 41) (v := ?vT164) rfl rfl (by kernel_rfl) (by kernel_rfl) (by kernel_rfl) (fun _ _ _ h => h) (Or.inl ⟨by rfl, ?hyT164⟩) (by assumption) ?rstT164
  case hyT164 => (intro v hSw; obtain ⟨s0, s1, s2⟩ := box3 hSw.1; obtain ⟨t0, t1, t2, t3, t4, t5, t6, t7, t8, t9⟩ := box10 hSw.2; go_simp; (try with_reducible rfl))
  try simp only [Act.put, List.setIfInBounds_toArray, List.set_cons_zero, List.set_cons_succ]
  refine takeD (i := 6) (d := some 42) (v := ?vT165) rfl rfl (by kernel_rfl) (by kernel_rfl) (by kernel_rfl) (fun _ _ _ h => h) (Or.inl ⟨by rfl, ?hyT165⟩) (by assumption) ?rstT165
  case hyT165 => (intro v hSw; obtain ⟨s0, s1, s2⟩ := box3 hSw.1; obtain ⟨t0, t1, t2, t3, t4, t5, t6, t7, t8, t9⟩ := box10 hSw.2; go_simp; (try with_reducible rfl))
  try simp only [Act.put, List.setIfInBounds_toArray, List.set_cons_zero, List.set_cons_succ]
  refine takeD (i := 7) (d := some 43) (v := ?vT166) rfl rfl (by kernel_rfl) (by kernel_rfl) (by kernel_rfl) (fun _ _ _ h => h) (Or.inl ⟨by rfl, ?hyT166⟩) (by assumption) ?rstT166
  case hyT166 => (intro v hSw; obtain ⟨s0, s1, s2⟩ := box3 hSw.1; obtain ⟨t0, t1, t2, t3, t4, t5, t6, t7, t8, t9⟩ := box10 hSw.2; go_simp; (try with_reducible rfl))
  try simp only [Act.put, List.setIfInBounds_toArray, List.set_cons_zero, List.set_cons_succ]
  refine takeD (i := 8) (d := some 44) (v := ?vT167) rfl rfl (by kernel_rfl) (by kernel_rfl) (by kernel_rfl) (fun _ _ _ h => h) (Or.inl ⟨by rfl, ?hyT167⟩) (by assumption) ?rstT167
  case hyT167 => (intro v hSw; obtain ⟨s0, s1, s2⟩ := box3 hSw.1; obtain ⟨t0, t1, t2, t3, t4, t5, t6, t7, t8, t9⟩ := box10 hSw.2; go_simp; (try with_reducible rfl))
  try simp only [Act.put, List.setIfInBounds_toArray, List.set_cons_zero, List.set_cons_succ]
  refine wpAnyH_ready (rs := [9]) (by kernel_rfl) (by simp) ?_
  refine AllReadyH.cons rfl (fun K hK => ?_) AllReadyH.nil
  go_simp
  refine (HMe.out w6 rfl).mono ?_
  rintro e w7 ⟨q, c, rfl, hq, hb7⟩
  have hx7 := (hb7.block _ (Array.getElem?_eq_some_iff.1 hx6).1).trans hx6
  have ha7 := (hb7.block _ (Array.getElem?_eq_some_iff.1 ha6).1).trans ha6
  have HN : Hid (Q q c ∧ Below w.heap.size w w7) := ⟨hq, hbw6.trans (hb7.mono hbw6.size)⟩
  clear hb7 hx6 ha6 hq hbw6
  dsimp only
  clear hHeld
  refine hK.out _ _ ?hS168 (fun hHeld => ?rest168)
  case hS168 => exact ⟨hx7, ha7⟩
  clear hK K
  try simp only [Act.put, List.setIfInBounds_toArray, List.set_cons_zero, List.set_cons_succ]
  refine takeD (i := 10) (d := some 35) (v := ?vT169) rfl rfl (by kernel_rfl) (by kernel_rfl) (by kernel_rfl) (fun _ _ _ h => h) (Or.inl ⟨by rfl, ?hyT169⟩) (by assumption) ?rstT169
  case hyT169 => (intro v hSw; go_simp; (try with_reducible rfl))
  try simp only [Act.put, List.setIfInBounds_toArray, List.set_cons_zero, List.set_cons_succ]
  refine takeD (i := 11) (d := some 46) (v := ?vT170) rfl rfl (by kernel_rfl) (by kernel_rfl) (by kernel_rfl) (fun _ _ _ h => h) (Or.inl ⟨by rfl, ?hyT170⟩) (by assumption) ?rstT170
  case hyT170 => (intro v hSw; go_simp; (try with_reducible rfl))
  try simp only [Act.put, List.setIfInBounds_toArray, List.set_cons_zero, List.set_cons_succ]
  refine takeD (i := 12) (d := some 47) (v := ?vT171) rfl rfl (by kernel_rfl) (by kernel_rfl) (by kernel_rfl) (fun _ _ _ h => h) (Or.inl ⟨by rfl, ?hyT171⟩) (by assumption) ?rstT171
  case hyT171 => (intro v hSw; go_simp; (try with_reducible rfl))
  try simp only [Act.put, List.setIfInBounds_toArray, List.set_cons_zero, List.set_cons_succ]
  refine takeD (i := 13) (d := some 10) (v := ?vT172) rfl rfl (by kernel_rfl) (by kernel_rfl) (by kernel_rfl) (fun _ _ _ h => h) (Or.inl ⟨by rfl, ?hyT172⟩) (by assumption) ?rstT172
  case hyT172 => (intro v hSw; go_simp; (try with_reducible rfl))
  try simp only [Act.put, List.setIfInBounds_toArray, List.set_cons_zero, List.set_cons_succ]
  refine takeD (i := 14) (d := some 11) (v := ?vT173) rfl rfl (by kernel_rfl) (by kernel_rfl) (by kernel_rfl) (fun _ _ _ h => h) (Or.inl ⟨by rfl, ?hyT173⟩) (by assumption) ?rstT173
  case hyT173 => (intro v hSw; go_simp; (try with_reducible rfl))
  try simp only [Act.put, List.setIfInBounds_toArray, List.set_cons_zero, List.set_cons_succ]
  refine wpAnyH_done (by kernel_rfl) ?_ _
  clear hHeld
  go_wp2_with fail
  refine bodyPost_ret (v := .tuple #[.int .i64 (q : Int), .int .i64 c, .int .i64 0]) (by simp [results, Tryd.results14, go_sem]) rfl ?_
  exact ⟨q, c, rfl, HN.out⟩
set_option maxHeartbeats 16000000 in
theorem walk10_any {s : ByteArray} {rs : List Int} (ht : IsText s rs) (W : Nat) (hW : 1 ≤ W ∧ W ≤ 1024) (hn : rs.length ≤ 4294967000) {w : World} (hP : PTab w) (hG : Glob w.heap.size) (at' : Nat) (hat : at' ≤ rs.length) (want : Int) {Q : Nat → Int → Prop}
    (hM : ∀ a k cap V, Below w.heap.size w V → Sheet rs W V a k cap → Calls Tryd.prog 26 #[.agg #[.string s, .int .i64 (rs.length : Int), .slice a k cap, .int .i64 (at' : Int), .int .i64 want, .int .i64 10]] V fun e w' => ∃ q : Nat, ∃ c : Int, e = .returned (.tuple #[.int .i64 (q : Int), .int .i64 c]) ∧ Q q c ∧ Below V.heap.size V w') :
    Calls Tryd.prog 14 #[.string s, .int .i64 (W : Int), .int .i64 (at' : Int), .int .i64 want, .int .i64 10] w fun e w' => ∃ q : Nat, ∃ c : Int, e = .returned (.tuple #[.int .i64 (q : Int), .int .i64 c, .int .i64 0]) ∧ Q q c ∧ Below w.heap.size w w' := by
  have HLa := lay_sheet ht W 1 hW ⟨by omega, by omega⟩ hn hP hG
  have HM0 : Hid (∀ a k cap V, Below w.heap.size w V → Sheet rs W V a k cap → Calls Tryd.prog 26 #[.agg #[.string s, .int .i64 (rs.length : Int), .slice a k cap, .int .i64 (at' : Int), .int .i64 want, .int .i64 10]] V fun e w' => ∃ q : Nat, ∃ c : Int, e = .returned (.tuple #[.int .i64 (q : Int), .int .i64 c]) ∧ Q q c ∧ Below V.heap.size V w') := hM
  have HAt : Hid (at' ≤ rs.length) := hat
  clear ht hW hn hP hG hM hat
  go_enter Tryd.func14, Tryd.ntmps14
  go_wp2_with fail
  refine HLa.mono ?_
  rintro e w1 ⟨a, k, cap, rfl, hsh, hb1⟩
  obtain ⟨m, hm⟩ : ∃ m, rs.length = m := ⟨_, rfl⟩
  rw [hm]
  have HMe : Hid (∀ V, Below w.heap.size w V → Below w1.heap.size w1 V → Calls Tryd.prog 26 #[.agg #[.string s, .int .i64 (m : Int), .slice a k cap, .int .i64 (at' : Int), .int .i64 want, .int .i64 10]] V fun e w' => ∃ q : Nat, ∃ c : Int, e = .returned (.tuple #[.int .i64 (q : Int), .int .i64 c]) ∧ Q q c ∧ Below V.heap.size V w') := fun V hV hV1 => by
    have := HM0.out a k cap V hV (hsh.below hV1)
    rw [hm] at this
    exact this
  obtain ⟨w2, hw2⟩ : ∃ V, w1.alloc (.cells #[.string s, .int .i64 (m : Int), .slice a k cap] 54) = V := ⟨_, rfl⟩
  have hb2 : Below w1.heap.size w1 w2 := by rw [← hw2]; exact (Below.refl _ _).alloc (Nat.le_refl _) _
  have hx2 : w2.heap[w1.heap.size]? = some (.cells #[.string s, .int .i64 (m : Int), .slice a k cap] 54) := by rw [← hw2]; exact heap_alloc_new _ _
  obtain ⟨c0, c1, c2⟩ := box3 hx2
  have hha := has_any s m a k cap (at' : Int) w2
  rw [show decide (0 ≤ (at' : Int) ∧ (at' : Int) ≤ (m : Int)) = true from decide_eq_true ⟨by omega, by have := HAt.out; omega⟩] at hha
  have HB1 : Hid (Below w.heap.size w w1) := hb1
  clear hm hsh hb1 HLa HM0 HAt
  go_wp2_with fail
  refine hha.mono ?_
  rintro e w3 ⟨rfl, hb3⟩
  have hx3 := (hb3.block _ (Array.getElem?_eq_some_iff.1 hx2).1).trans hx2
  have hb13 := hb2.trans (hb3.mono hb2.size)
  obtain ⟨N, hN⟩ : ∃ N, w1.heap.size = N := ⟨_, rfl⟩
  obtain ⟨wn, hwn⟩ : ∃ V, w3.alloc (.cells #[.nilFunc, .nilFunc, .nilFunc, .nilFunc, .nilFunc, .nilFunc, .nilFunc, .nilFunc, .nilFunc, .nilFunc] 63) = V := ⟨_, rfl⟩
  have hbn : Below w3.heap.size w3 wn := by rw [← hwn]; exact (Below.refl _ _).alloc (Nat.le_refl _) _
  have han : wn.heap[w3.heap.size]? = some (.cells #[.nilFunc, .nilFunc, .nilFunc, .nilFunc, .nilFunc, .nilFunc, .nilFunc, .nilFunc, .nilFunc, .nilFunc] 63) := by rw [← hwn]; exact heap_alloc_new _ _
  have hN3 : N < w3.heap.size := by rw [← hN]; exact (Array.getElem?_eq_some_iff.1 hx3).1
  obtain ⟨y0, y1, y2, y3, y4, y5, y6, y7, y8, y9⟩ := box10 han
  obtain ⟨z0, z1, z2, z3, z4, z5, z6, z7, z8, z9⟩ := fr10 han
  obtain ⟨w4, hw4, ha4, hk4⟩ := store10 han (.func (.func 26) #[] #[]) (.func (.func 26) #[] #[]) (.func (.func 27) #[] #[]) (.func (.func 28) #[] #[]) (.func (.func 29) #[] #[]) (.func (.func 30) #[] #[]) (.func (.func 26) #[] #[]) (.func (.func 26) #[] #[]) (.func (.func 26) #[] #[]) (.func (.func 26) #[] #[])
  rw [hN] at hx3 ⊢
  clear hha hb2 hb3 hx2 c0 c1 c2 hN hw2
  go_wp2_with fail
  try simp only [hw4]
  have hb4 : Below w3.heap.size w3 w4 := hbn.trans ((hk4.chg (D := fun g => g = w3.heap.size) rfl).below (fun g e => by omega) hbn.size)
  have hx4 := (hb4.block _ (Array.getElem?_eq_some_iff.1 hx3).1).trans hx3
  have hb14 := hb13.trans (hb4.mono hb13.size)
  obtain ⟨w6, hw6⟩ : ∃ V, w4.drew = V := ⟨_, rfl⟩
  have hb6 : Below w4.heap.size w4 w6 := by rw [← hw6]; exact (Below.refl _ _).drew
  have hx6 := (hb6.block _ (Array.getElem?_eq_some_iff.1 hx4).1).trans hx4
  have ha6 := (hb6.block _ (Array.getElem?_eq_some_iff.1 ha4).1).trans ha4
  have hb16 := hb14.trans (hb6.mono hb14.size)
  have hbw6 := HB1.out.trans (hb16.mono HB1.out.size)
  have HMe : Hid (∀ V, V = w6 → Calls Tryd.prog 26 #[.agg #[.string s, .int .i64 (m : Int), .slice a k cap, .int .i64 (at' : Int), .int .i64 want, .int .i64 10]] w6 fun e w' => ∃ q : Nat, ∃ c : Int, e = .returned (.tuple #[.int .i64 (q : Int), .int .i64 c]) ∧ Q q c ∧ Below w6.heap.size w6 w') := fun V _ => HMe.out w6 hbw6 hb16
  clear y0 y1 y2 y3 y4 y5 y6 y7 y8 y9 z0 z1 z2 z3 z4 z5 z6 z7 z8 z9 hbn han hk4 hwn hb13 hb4 ha4 hx4 hb14 hb6 hb16 hx3
  obtain ⟨A, hA⟩ : ∃ A, w3.heap.size = A := ⟨_, rfl⟩
  try rw [hw4]
  rw [hA] at ha6 ⊢
  clear hA hw4
  have yw : IntKind.i64.wrap 9 = 9 := IntWalk.i64_in _ (by omega)
  refine wp_region_held_drew (S := (fun v => v.heap[N]? = some (.cells #[.string s, .int .i64 (m : Int), .slice a k cap] 54) ∧ v.heap[A]? = some (.cells #[.func (.func 26) #[] #[], .func (.func 26) #[] #[], .func (.func 27) #[] #[], .func (.func 28) #[] #[], .func (.func 29) #[] #[], .func (.func 30) #[] #[], .func (.func 26) #[] #[], .func (.func 26) #[] #[], .func (.func 26) #[] #[], .func (.func 26) #[] #[]] 63))) (by kernel_rfl) ?hS10 (fun hHeld => ?rest10)
  case hS10 => (rw [hw6]; exact ⟨hx6, ha6⟩)
  rw [hw6] at hHeld ⊢
  clear hw6
  refine takeD (i := 0) (d := some 36) (v := ?vT174) rfl rfl (by kernel_rfl) (by kernel_rfl) (by kernel_rfl) (fun _ _ _ h => h) (Or.inl ⟨by rfl, ?hyT174⟩) (by assumption) ?rstT174
  case hyT174 => (intro v hSw; obtain ⟨s0, s1, s2⟩ := box3 hSw.1; obtain ⟨t0, t1, t2, t3, t4, t5, t6, t7, t8, t9⟩ := box10 hSw.2; go_simp; (try with_reducible rfl))
  try simp only [Act.put, List.setIfInBounds_toArray, List.set_cons_zero, List.set_cons_succ]
  refine takeD (i := 1) (d := some 37) (v := ?vT175) rfl rfl (by kernel_rfl) (by kernel_rfl) (by kernel_rfl) (fun _ _ _ h => h) (Or.inl ⟨by rfl, ?hyT175⟩) (by assumption) ?rstT175
  case hyT175 => (intro v hSw; obtain ⟨s0, s1, s2⟩ := box3 hSw.1; obtain ⟨t0, t1, t2, t3, t4, t5, t6, t7, t8, t9⟩ := box10 hSw.2; go_simp; (try with_reducible rfl))
  try simp only [Act.put, List.setIfInBounds_toArray, List.set_cons_zero, List.set_cons_succ]
  refine takeD (i := 2) (d := some 38) (v := ?vT176) rfl rfl (by kernel_rfl) (by kernel_rfl) (by kernel_rfl) (fun _ _ _ h => h) (Or.inl ⟨by rfl, ?hyT176⟩) (by assumption) ?rstT176
  case hyT176 => (intro v hSw; obtain ⟨s0, s1, s2⟩ := box3 hSw.1; obtain ⟨t0, t1, t2, t3, t4, t5, t6, t7, t8, t9⟩ := box10 hSw.2; go_simp; (try with_reducible rfl))
  try simp only [Act.put, List.setIfInBounds_toArray, List.set_cons_zero, List.set_cons_succ]
  refine takeD (i := 3) (d := some 39) (v := ?vT177) rfl rfl (by kernel_rfl) (by kernel_rfl) (by kernel_rfl) (fun _ _ _ h => h) (Or.inl ⟨by rfl, ?hyT177⟩) (by assumption) ?rstT177
  case hyT177 => (intro v hSw; obtain ⟨s0, s1, s2⟩ := box3 hSw.1; obtain ⟨t0, t1, t2, t3, t4, t5, t6, t7, t8, t9⟩ := box10 hSw.2; go_simp; (try with_reducible rfl))
  try simp only [Act.put, List.setIfInBounds_toArray, List.set_cons_zero, List.set_cons_succ]
  refine takeD (i := 4) (d := some 40) (v := ?vT178) rfl rfl (by kernel_rfl) (by kernel_rfl) (by kernel_rfl) (fun _ _ _ h => h) (Or.inl ⟨by rfl, ?hyT178⟩) (by assumption) ?rstT178
  case hyT178 => (intro v hSw; obtain ⟨s0, s1, s2⟩ := box3 hSw.1; obtain ⟨t0, t1, t2, t3, t4, t5, t6, t7, t8, t9⟩ := box10 hSw.2; go_simp; (try with_reducible rfl))
  try simp only [Act.put, List.setIfInBounds_toArray, List.set_cons_zero, List.set_cons_succ]
  refine takeD (i := 5) (d := some 41) (v := ?vT179) rfl rfl (by kernel_rfl) (by kernel_rfl) (by kernel_rfl) (fun _ _ _ h => h) (Or.inl ⟨by rfl, ?hyT179⟩) (by assumption) ?rstT179
  case hyT179 => (intro v hSw; obtain ⟨s0, s1, s2⟩ := box3 hSw.1; obtain ⟨t0, t1, t2, t3, t4, t5, t6, t7, t8, t9⟩ := box10 hSw.2; go_simp; (try with_reducible rfl))
  try simp only [Act.put, List.setIfInBounds_toArray, List.set_cons_zero, List.set_cons_succ]
  refine takeD (i := 6) (d := some 42) (v := ?vT180) rfl rfl (by kernel_rfl) (by kernel_rfl) (by kernel_rfl) (fun _ _ _ h => h) (Or.inl ⟨by rfl, ?hyT180⟩) (by assumption) ?rstT180
  case hyT180 => (intro v hSw; obtain ⟨s0, s1, s2⟩ := box3 hSw.1; obtain ⟨t0, t1, t2, t3, t4, t5, t6, t7, t8, t9⟩ := box10 hSw.2; go_simp; (try with_reducible rfl))
  try simp only [Act.put, List.setIfInBounds_toArray, List.set_cons_zero, List.set_cons_succ]
  refine takeD (i := 7) (d := some 43) (v := ?vT181) rfl rfl (by kernel_rfl) (by kernel_rfl) (by kernel_rfl) (fun _ _ _ h => h) (Or.inl ⟨by rfl, ?hyT181⟩) (by assumption) ?rstT181
  case hyT181 => (intro v hSw; obtain ⟨s0, s1, s2⟩ := box3 hSw.1; obtain ⟨t0, t1, t2, t3, t4, t5, t6, t7, t8, t9⟩ := box10 hSw.2; go_simp; (try with_reducible rfl))
  try simp only [Act.put, List.setIfInBounds_toArray, List.set_cons_zero, List.set_cons_succ]
  refine takeD (i := 8) (d := some 44) (v := ?vT182) rfl rfl (by kernel_rfl) (by kernel_rfl) (by kernel_rfl) (fun _ _ _ h => h) (Or.inl ⟨by rfl, ?hyT182⟩) (by assumption) ?rstT182
  case hyT182 => (intro v hSw; obtain ⟨s0, s1, s2⟩ := box3 hSw.1; obtain ⟨t0, t1, t2, t3, t4, t5, t6, t7, t8, t9⟩ := box10 hSw.2; go_simp; (try with_reducible rfl))
  try simp only [Act.put, List.setIfInBounds_toArray, List.set_cons_zero, List.set_cons_succ]
  refine wpAnyH_ready (rs := [9]) (by kernel_rfl) (by simp) ?_
  refine AllReadyH.cons rfl (fun K hK => ?_) AllReadyH.nil
  go_simp
  refine (HMe.out w6 rfl).mono ?_
  rintro e w7 ⟨q, c, rfl, hq, hb7⟩
  have hx7 := (hb7.block _ (Array.getElem?_eq_some_iff.1 hx6).1).trans hx6
  have ha7 := (hb7.block _ (Array.getElem?_eq_some_iff.1 ha6).1).trans ha6
  have HN : Hid (Q q c ∧ Below w.heap.size w w7) := ⟨hq, hbw6.trans (hb7.mono hbw6.size)⟩
  clear hb7 hx6 ha6 hq hbw6
  dsimp only
  clear hHeld
  refine hK.out _ _ ?hS183 (fun hHeld => ?rest183)
  case hS183 => exact ⟨hx7, ha7⟩
  clear hK K
  try simp only [Act.put, List.setIfInBounds_toArray, List.set_cons_zero, List.set_cons_succ]
  refine takeD (i := 10) (d := some 35) (v := ?vT184) rfl rfl (by kernel_rfl) (by kernel_rfl) (by kernel_rfl) (fun _ _ _ h => h) (Or.inl ⟨by rfl, ?hyT184⟩) (by assumption) ?rstT184
  case hyT184 => (intro v hSw; go_simp; (try with_reducible rfl))
  try simp only [Act.put, List.setIfInBounds_toArray, List.set_cons_zero, List.set_cons_succ]
  refine takeD (i := 11) (d := some 46) (v := ?vT185) rfl rfl (by kernel_rfl) (by kernel_rfl) (by kernel_rfl) (fun _ _ _ h => h) (Or.inl ⟨by rfl, ?hyT185⟩) (by assumption) ?rstT185
  case hyT185 => (intro v hSw; go_simp; (try with_reducible rfl))
  try simp only [Act.put, List.setIfInBounds_toArray, List.set_cons_zero, List.set_cons_succ]
  refine takeD (i := 12) (d := some 47) (v := ?vT186) rfl rfl (by kernel_rfl) (by kernel_rfl) (by kernel_rfl) (fun _ _ _ h => h) (Or.inl ⟨by rfl, ?hyT186⟩) (by assumption) ?rstT186
  case hyT186 => (intro v hSw; go_simp; (try with_reducible rfl))
  try simp only [Act.put, List.setIfInBounds_toArray, List.set_cons_zero, List.set_cons_succ]
  refine takeD (i := 13) (d := some 10) (v := ?vT187) rfl rfl (by kernel_rfl) (by kernel_rfl) (by kernel_rfl) (fun _ _ _ h => h) (Or.inl ⟨by rfl, ?hyT187⟩) (by assumption) ?rstT187
  case hyT187 => (intro v hSw; go_simp; (try with_reducible rfl))
  try simp only [Act.put, List.setIfInBounds_toArray, List.set_cons_zero, List.set_cons_succ]
  refine takeD (i := 14) (d := some 11) (v := ?vT188) rfl rfl (by kernel_rfl) (by kernel_rfl) (by kernel_rfl) (fun _ _ _ h => h) (Or.inl ⟨by rfl, ?hyT188⟩) (by assumption) ?rstT188
  case hyT188 => (intro v hSw; go_simp; (try with_reducible rfl))
  try simp only [Act.put, List.setIfInBounds_toArray, List.set_cons_zero, List.set_cons_succ]
  refine wpAnyH_done (by kernel_rfl) ?_ _
  clear hHeld
  go_wp2_with fail
  refine bodyPost_ret (v := .tuple #[.int .i64 (q : Int), .int .i64 c, .int .i64 0]) (by simp [results, Tryd.results14, go_sem]) rfl ?_
  exact ⟨q, c, rfl, HN.out⟩
end Go.Proofs.YtaphkaodcdpcaaaDoor
