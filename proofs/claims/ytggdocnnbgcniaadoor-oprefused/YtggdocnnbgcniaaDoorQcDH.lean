import Derived.Test.YtggdocnnbgcniaaDoorQbBR
import Derived.Test.YtggdocnnbgcniaaDoorRrPI
import Derived.Test.YtggdocnnbgcniaaDoorRvAJ
import Derived.Test.YtggdocnnbgcniaaDoorQaAC
import Derived.Test.YtggdocnnbgcniaaDoorQbA
import Derived.Test.YtggdocnnbgcniaaDoorRrKN
/-! Apply, on a rope that holds a row. -/
namespace Go.Proofs.YtggdocnnbgcniaaDoor
open Go.RowKit Go.Lib
set_option maxRecDepth 100000

/-- Nine cells of a box. -/
theorem box9 {W : World} {b : Nat} {T : TypeId} {v0 v1 v2 v3 v4 v5 v6 v7 v8 : Value} (h : W.heap[b]? = some (.cells #[v0, v1, v2, v3, v4, v5, v6, v7, v8] T)) :
    W.cell? ⟨b, 0, none⟩ = some v0 ∧ W.cell? ⟨b, 1, none⟩ = some v1 ∧ W.cell? ⟨b, 2, none⟩ = some v2 ∧ W.cell? ⟨b, 3, none⟩ = some v3 ∧ W.cell? ⟨b, 4, none⟩ = some v4 ∧ W.cell? ⟨b, 5, none⟩ = some v5 ∧ W.cell? ⟨b, 6, none⟩ = some v6 ∧ W.cell? ⟨b, 7, none⟩ = some v7 ∧ W.cell? ⟨b, 8, none⟩ = some v8 := by
  simp only [Lib.cell_of_heap h]
  exact ⟨rfl, rfl, rfl, rfl, rfl, rfl, rfl, rfl, rfl⟩
set_option maxHeartbeats 4000000 in
theorem apply_ins_to {w2 : World} {q : Nat} {R : List (Int × Int)} {W : World} (h : Holds w2 q R W) {c n p : Int} {s : ByteArray} {l : List (Int × Int)} {tc tn : Int} {on : Bool} {a : Option Addr} {m cap : Nat} (hl : Sp.Rng W a m cap l) (hs : s.size ≤ 9223372036854775807) (hBar : Bar w2) (hok : opCheck ⟨c, n, 1, p, s, l, tc, tn, on⟩ (R.length : Int) = 0) {Q : Int → World → Prop}
    (HX : ∀ W1, Below W.heap.size W W1 → Calls Tryd.prog 30 #[.pointer (some ⟨q, 0, none⟩), .int .i64 p, .string s, .int .i64 0] W1 fun e W' => ∃ x, e = .returned (.int .i64 x) ∧ Q x W') :
    Calls Tryd.prog 13 #[.pointer (some ⟨q, 0, none⟩), opVal ⟨c, n, 1, p, s, l, tc, tn, on⟩ (.slice a m cap)] W fun e W' => ∃ x, e = .returned (.int .i64 x) ∧ Q x W' := by
  have HXX : Hid (∀ W1, Below W.heap.size W W1 → Calls Tryd.prog 30 #[.pointer (some ⟨q, 0, none⟩), .int .i64 p, .string s, .int .i64 0] W1 fun e W' => ∃ x, e = .returned (.int .i64 x) ∧ Q x W') := HX
  have HT : Hid (∀ W', Below W.heap.size W W' → Calls Tryd.prog 27 #[.pointer (some ⟨q, 0, none⟩)] W' fun e w' => e = .returned (.int .i64 (R.length : Int)) ∧ w' = W') := fun W' hb => by obtain ⟨t, h1, h2, rfl, h3⟩ := h; exact ropeTotal_any (h1.below hb)
  have HC : Hid (∀ W', Below W.heap.size W W' → Calls Tryd.prog 20 #[.agg #[.int .i64 c, .int .i64 n, .int .i64 1, .int .i64 p, .string s, .slice a m cap, .int .i64 tc, .int .i64 tn, .bool on], .int .i64 (R.length : Int)] W' fun e w' => e = .returned (.int .i64 0) ∧ Below W'.heap.size W' w') := fun W' hb => by have := opCheck_any (o := ⟨c, n, 1, p, s, l, tc, tn, on⟩) (total := (R.length : Int)) (hl.below hb) hs (hBar.below (h.below.trans (hb.mono h.below.size))); rw [hok] at this; exact this
  simp only [opVal]
  clear hok hl hBar h HX
  go_enter Tryd.func13, Tryd.ntmps13
  go_wp2_with fail
  generalize hWB : W.alloc (Obj.cells #[.int .i64 c, .int .i64 n, .int .i64 1, .int .i64 p, .string s, .slice a m cap, .int .i64 tc, .int .i64 tn, .bool on] 48) = WB
  have hB : Below W.heap.size W WB := hWB ▸ (Below.refl W.heap.size W).alloc (Nat.le_refl _) _
  have hbx : WB.heap[W.heap.size]? = some (.cells #[.int .i64 c, .int .i64 n, .int .i64 1, .int .i64 p, .string s, .slice a m cap, .int .i64 tc, .int .i64 tn, .bool on] 48) := hWB ▸ alloc_last _ _ _ rfl
  clear hWB
  refine wp_region_held_drew (S := (fun X => X.heap[W.heap.size]? = some (.cells #[.int .i64 c, .int .i64 n, .int .i64 1, .int .i64 p, .string s, .slice a m cap, .int .i64 tc, .int .i64 tn, .bool on] 48))) (by kernel_rfl) ?hS7 (fun hHeld => ?rest7)
  case hS7 => exact hbx
  refine takeD (i := 0) (d := some 8) (v := ?vT8) rfl rfl (by kernel_rfl) (by kernel_rfl) (by kernel_rfl) (fun _ _ _ h => h) (Or.inl ⟨by rfl, ?hyT8⟩) (by assumption) ?rstT8
  case hyT8 => (intro w hSw; obtain ⟨d0, d1, d2, d3, d4, d5, d6, d7, d8⟩ := box9 hSw; (try dsimp only at hSw); go_simp; (try with_reducible rfl))
  try simp only [Act.put, List.setIfInBounds_toArray, List.set_cons_zero, List.set_cons_succ]
  refine takeD (i := 1) (d := some 9) (v := ?vT9) rfl rfl (by kernel_rfl) (by kernel_rfl) (by kernel_rfl) (fun _ _ _ h => h) (Or.inl ⟨by rfl, ?hyT9⟩) (by assumption) ?rstT9
  case hyT9 => (intro w hSw; (try dsimp only at hSw); go_simp; (try with_reducible rfl))
  try simp only [Act.put, List.setIfInBounds_toArray, List.set_cons_zero, List.set_cons_succ]
  refine wpAnyH_ready (rs := [2]) (by kernel_rfl) (by simp) ?_
  refine AllReadyH.cons rfl (fun K hK => ?_) AllReadyH.nil
  go_simp
  refine (HT.out WB.drew hB.drew).mono ?_
  rintro e w1 ⟨rfl, hw1⟩
  subst hw1
  clear hHeld
  refine hK.out _ _ ?hS10 (fun hHeld => ?rest10)
  case hS10 => exact hbx
  clear hK K
  try simp only [Act.put, List.setIfInBounds_toArray, List.set_cons_zero, List.set_cons_succ]
  refine wpAnyH_ready (rs := [3]) (by kernel_rfl) (by simp) ?_
  refine AllReadyH.cons rfl (fun K hK => ?_) AllReadyH.nil
  go_simp
  refine (HC.out WB.drew hB.drew).mono ?_
  rintro e w1 ⟨rfl, hb1⟩
  have hB1 : Below W.heap.size W w1 := hB.drew.trans (hb1.mono hB.drew.size)
  have hbx1 := (hb1.block _ (Array.getElem?_eq_some_iff.1 hbx).1).trans hbx
  clear hHeld
  refine hK.out _ _ ?hS11 (fun hHeld => ?rest11)
  case hS11 => exact hbx1
  clear hK K
  try simp only [Act.put, List.setIfInBounds_toArray, List.set_cons_zero, List.set_cons_succ]
  refine takeD (i := 4) (d := some 5) (v := ?vT12) rfl rfl (by kernel_rfl) (by kernel_rfl) (by kernel_rfl) (fun _ _ _ h => h) (Or.inl ⟨by rfl, ?hyT12⟩) (by assumption) ?rstT12
  case hyT12 => (intro w hSw; (try dsimp only at hSw); go_simp; (try with_reducible rfl))
  try simp only [Act.put, List.setIfInBounds_toArray, List.set_cons_zero, List.set_cons_succ]
  refine wpAnyH_done (by kernel_rfl) ?_ _
  obtain ⟨d0, d1, d2, d3, d4, d5, d6, d7, d8⟩ := box9 hbx1
  go_wp2_with fail
  refine (HXX.out _ hB1).mono ?_
  rintro e w2 ⟨x, rfl, hQ⟩
  have HQ : Hid (Q x w2) := hQ
  clear hQ
  go_wp2_with fail
  go_ret
  exact ⟨x, rfl, HQ.out⟩
set_option maxHeartbeats 4000000 in
theorem apply_hide_to {w2 : World} {q : Nat} {R : List (Int × Int)} {W : World} (h : Holds w2 q R W) {c n p : Int} {s : ByteArray} {l : List (Int × Int)} {tc tn : Int} {on : Bool} {a : Option Addr} {m cap : Nat} (hl : Sp.Rng W a m cap l) (hs : s.size ≤ 9223372036854775807) (hBar : Bar w2) (hok : opCheck ⟨c, n, 2, p, s, l, tc, tn, on⟩ (R.length : Int) = 0) {Q : Int → World → Prop}
    (HX : ∀ W1, Below W.heap.size W W1 → Calls Tryd.prog 31 #[.pointer (some ⟨q, 0, none⟩), .slice a m cap, .int .i64 1] W1 fun e W' => ∃ x, e = .returned (.int .i64 x) ∧ Q x W') :
    Calls Tryd.prog 13 #[.pointer (some ⟨q, 0, none⟩), opVal ⟨c, n, 2, p, s, l, tc, tn, on⟩ (.slice a m cap)] W fun e W' => ∃ x, e = .returned (.int .i64 x) ∧ Q x W' := by
  have HXX : Hid (∀ W1, Below W.heap.size W W1 → Calls Tryd.prog 31 #[.pointer (some ⟨q, 0, none⟩), .slice a m cap, .int .i64 1] W1 fun e W' => ∃ x, e = .returned (.int .i64 x) ∧ Q x W') := HX
  have HT : Hid (∀ W', Below W.heap.size W W' → Calls Tryd.prog 27 #[.pointer (some ⟨q, 0, none⟩)] W' fun e w' => e = .returned (.int .i64 (R.length : Int)) ∧ w' = W') := fun W' hb => by obtain ⟨t, h1, h2, rfl, h3⟩ := h; exact ropeTotal_any (h1.below hb)
  have HC : Hid (∀ W', Below W.heap.size W W' → Calls Tryd.prog 20 #[.agg #[.int .i64 c, .int .i64 n, .int .i64 2, .int .i64 p, .string s, .slice a m cap, .int .i64 tc, .int .i64 tn, .bool on], .int .i64 (R.length : Int)] W' fun e w' => e = .returned (.int .i64 0) ∧ Below W'.heap.size W' w') := fun W' hb => by have := opCheck_any (o := ⟨c, n, 2, p, s, l, tc, tn, on⟩) (total := (R.length : Int)) (hl.below hb) hs (hBar.below (h.below.trans (hb.mono h.below.size))); rw [hok] at this; exact this
  simp only [opVal]
  clear hok hl hBar h HX
  go_enter Tryd.func13, Tryd.ntmps13
  go_wp2_with fail
  generalize hWB : W.alloc (Obj.cells #[.int .i64 c, .int .i64 n, .int .i64 2, .int .i64 p, .string s, .slice a m cap, .int .i64 tc, .int .i64 tn, .bool on] 48) = WB
  have hB : Below W.heap.size W WB := hWB ▸ (Below.refl W.heap.size W).alloc (Nat.le_refl _) _
  have hbx : WB.heap[W.heap.size]? = some (.cells #[.int .i64 c, .int .i64 n, .int .i64 2, .int .i64 p, .string s, .slice a m cap, .int .i64 tc, .int .i64 tn, .bool on] 48) := hWB ▸ alloc_last _ _ _ rfl
  clear hWB
  refine wp_region_held_drew (S := (fun X => X.heap[W.heap.size]? = some (.cells #[.int .i64 c, .int .i64 n, .int .i64 2, .int .i64 p, .string s, .slice a m cap, .int .i64 tc, .int .i64 tn, .bool on] 48))) (by kernel_rfl) ?hS13 (fun hHeld => ?rest13)
  case hS13 => exact hbx
  refine takeD (i := 0) (d := some 8) (v := ?vT14) rfl rfl (by kernel_rfl) (by kernel_rfl) (by kernel_rfl) (fun _ _ _ h => h) (Or.inl ⟨by rfl, ?hyT14⟩) (by assumption) ?rstT14
  case hyT14 => (intro w hSw; obtain ⟨d0, d1, d2, d3, d4, d5, d6, d7, d8⟩ := box9 hSw; (try dsimp only at hSw); go_simp; (try with_reducible rfl))
  try simp only [Act.put, List.setIfInBounds_toArray, List.set_cons_zero, List.set_cons_succ]
  refine takeD (i := 1) (d := some 9) (v := ?vT15) rfl rfl (by kernel_rfl) (by kernel_rfl) (by kernel_rfl) (fun _ _ _ h => h) (Or.inl ⟨by rfl, ?hyT15⟩) (by assumption) ?rstT15
  case hyT15 => (intro w hSw; (try dsimp only at hSw); go_simp; (try with_reducible rfl))
  try simp only [Act.put, List.setIfInBounds_toArray, List.set_cons_zero, List.set_cons_succ]
  refine wpAnyH_ready (rs := [2]) (by kernel_rfl) (by simp) ?_
  refine AllReadyH.cons rfl (fun K hK => ?_) AllReadyH.nil
  go_simp
  refine (HT.out WB.drew hB.drew).mono ?_
  rintro e w1 ⟨rfl, hw1⟩
  subst hw1
  clear hHeld
  refine hK.out _ _ ?hS16 (fun hHeld => ?rest16)
  case hS16 => exact hbx
  clear hK K
  try simp only [Act.put, List.setIfInBounds_toArray, List.set_cons_zero, List.set_cons_succ]
  refine wpAnyH_ready (rs := [3]) (by kernel_rfl) (by simp) ?_
  refine AllReadyH.cons rfl (fun K hK => ?_) AllReadyH.nil
  go_simp
  refine (HC.out WB.drew hB.drew).mono ?_
  rintro e w1 ⟨rfl, hb1⟩
  have hB1 : Below W.heap.size W w1 := hB.drew.trans (hb1.mono hB.drew.size)
  have hbx1 := (hb1.block _ (Array.getElem?_eq_some_iff.1 hbx).1).trans hbx
  clear hHeld
  refine hK.out _ _ ?hS17 (fun hHeld => ?rest17)
  case hS17 => exact hbx1
  clear hK K
  try simp only [Act.put, List.setIfInBounds_toArray, List.set_cons_zero, List.set_cons_succ]
  refine takeD (i := 4) (d := some 5) (v := ?vT18) rfl rfl (by kernel_rfl) (by kernel_rfl) (by kernel_rfl) (fun _ _ _ h => h) (Or.inl ⟨by rfl, ?hyT18⟩) (by assumption) ?rstT18
  case hyT18 => (intro w hSw; (try dsimp only at hSw); go_simp; (try with_reducible rfl))
  try simp only [Act.put, List.setIfInBounds_toArray, List.set_cons_zero, List.set_cons_succ]
  refine wpAnyH_done (by kernel_rfl) ?_ _
  obtain ⟨d0, d1, d2, d3, d4, d5, d6, d7, d8⟩ := box9 hbx1
  go_wp2_with fail
  refine (HXX.out _ hB1).mono ?_
  rintro e w2 ⟨x, rfl, hQ⟩
  have HQ : Hid (Q x w2) := hQ
  clear hQ
  go_wp2_with fail
  go_ret
  exact ⟨x, rfl, HQ.out⟩
set_option maxHeartbeats 4000000 in
theorem apply_show_to {w2 : World} {q : Nat} {R : List (Int × Int)} {W : World} (h : Holds w2 q R W) {c n p : Int} {s : ByteArray} {l : List (Int × Int)} {tc tn : Int} {on : Bool} {a : Option Addr} {m cap : Nat} (hl : Sp.Rng W a m cap l) (hs : s.size ≤ 9223372036854775807) (hBar : Bar w2) (hok : opCheck ⟨c, n, 3, p, s, l, tc, tn, on⟩ (R.length : Int) = 0) {Q : Int → World → Prop}
    (HX : ∀ W1, Below W.heap.size W W1 → Calls Tryd.prog 31 #[.pointer (some ⟨q, 0, none⟩), .slice a m cap, .int .i64 (-1)] W1 fun e W' => ∃ x, e = .returned (.int .i64 x) ∧ Q x W') :
    Calls Tryd.prog 13 #[.pointer (some ⟨q, 0, none⟩), opVal ⟨c, n, 3, p, s, l, tc, tn, on⟩ (.slice a m cap)] W fun e W' => ∃ x, e = .returned (.int .i64 x) ∧ Q x W' := by
  have HXX : Hid (∀ W1, Below W.heap.size W W1 → Calls Tryd.prog 31 #[.pointer (some ⟨q, 0, none⟩), .slice a m cap, .int .i64 (-1)] W1 fun e W' => ∃ x, e = .returned (.int .i64 x) ∧ Q x W') := HX
  have HT : Hid (∀ W', Below W.heap.size W W' → Calls Tryd.prog 27 #[.pointer (some ⟨q, 0, none⟩)] W' fun e w' => e = .returned (.int .i64 (R.length : Int)) ∧ w' = W') := fun W' hb => by obtain ⟨t, h1, h2, rfl, h3⟩ := h; exact ropeTotal_any (h1.below hb)
  have HC : Hid (∀ W', Below W.heap.size W W' → Calls Tryd.prog 20 #[.agg #[.int .i64 c, .int .i64 n, .int .i64 3, .int .i64 p, .string s, .slice a m cap, .int .i64 tc, .int .i64 tn, .bool on], .int .i64 (R.length : Int)] W' fun e w' => e = .returned (.int .i64 0) ∧ Below W'.heap.size W' w') := fun W' hb => by have := opCheck_any (o := ⟨c, n, 3, p, s, l, tc, tn, on⟩) (total := (R.length : Int)) (hl.below hb) hs (hBar.below (h.below.trans (hb.mono h.below.size))); rw [hok] at this; exact this
  simp only [opVal]
  clear hok hl hBar h HX
  go_enter Tryd.func13, Tryd.ntmps13
  go_wp2_with fail
  generalize hWB : W.alloc (Obj.cells #[.int .i64 c, .int .i64 n, .int .i64 3, .int .i64 p, .string s, .slice a m cap, .int .i64 tc, .int .i64 tn, .bool on] 48) = WB
  have hB : Below W.heap.size W WB := hWB ▸ (Below.refl W.heap.size W).alloc (Nat.le_refl _) _
  have hbx : WB.heap[W.heap.size]? = some (.cells #[.int .i64 c, .int .i64 n, .int .i64 3, .int .i64 p, .string s, .slice a m cap, .int .i64 tc, .int .i64 tn, .bool on] 48) := hWB ▸ alloc_last _ _ _ rfl
  clear hWB
  refine wp_region_held_drew (S := (fun X => X.heap[W.heap.size]? = some (.cells #[.int .i64 c, .int .i64 n, .int .i64 3, .int .i64 p, .string s, .slice a m cap, .int .i64 tc, .int .i64 tn, .bool on] 48))) (by kernel_rfl) ?hS19 (fun hHeld => ?rest19)
  case hS19 => exact hbx
  refine takeD (i := 0) (d := some 8) (v := ?vT20) rfl rfl (by kernel_rfl) (by kernel_rfl) (by kernel_rfl) (fun _ _ _ h => h) (Or.inl ⟨by rfl, ?hyT20⟩) (by assumption) ?rstT20
  case hyT20 => (intro w hSw; obtain ⟨d0, d1, d2, d3, d4, d5, d6, d7, d8⟩ := box9 hSw; (try dsimp only at hSw); go_simp; (try with_reducible rfl))
  try simp only [Act.put, List.setIfInBounds_toArray, List.set_cons_zero, List.set_cons_succ]
  refine takeD (i := 1) (d := some 9) (v := ?vT21) rfl rfl (by kernel_rfl) (by kernel_rfl) (by kernel_rfl) (fun _ _ _ h => h) (Or.inl ⟨by rfl, ?hyT21⟩) (by assumption) ?rstT21
  case hyT21 => (intro w hSw; (try dsimp only at hSw); go_simp; (try with_reducible rfl))
  try simp only [Act.put, List.setIfInBounds_toArray, List.set_cons_zero, List.set_cons_succ]
  refine wpAnyH_ready (rs := [2]) (by kernel_rfl) (by simp) ?_
  refine AllReadyH.cons rfl (fun K hK => ?_) AllReadyH.nil
  go_simp
  refine (HT.out WB.drew hB.drew).mono ?_
  rintro e w1 ⟨rfl, hw1⟩
  subst hw1
  clear hHeld
  refine hK.out _ _ ?hS22 (fun hHeld => ?rest22)
  case hS22 => exact hbx
  clear hK K
  try simp only [Act.put, List.setIfInBounds_toArray, List.set_cons_zero, List.set_cons_succ]
  refine wpAnyH_ready (rs := [3]) (by kernel_rfl) (by simp) ?_
  refine AllReadyH.cons rfl (fun K hK => ?_) AllReadyH.nil
  go_simp
  refine (HC.out WB.drew hB.drew).mono ?_
  rintro e w1 ⟨rfl, hb1⟩
  have hB1 : Below W.heap.size W w1 := hB.drew.trans (hb1.mono hB.drew.size)
  have hbx1 := (hb1.block _ (Array.getElem?_eq_some_iff.1 hbx).1).trans hbx
  clear hHeld
  refine hK.out _ _ ?hS23 (fun hHeld => ?rest23)
  case hS23 => exact hbx1
  clear hK K
  try simp only [Act.put, List.setIfInBounds_toArray, List.set_cons_zero, List.set_cons_succ]
  refine takeD (i := 4) (d := some 5) (v := ?vT24) rfl rfl (by kernel_rfl) (by kernel_rfl) (by kernel_rfl) (fun _ _ _ h => h) (Or.inl ⟨by rfl, ?hyT24⟩) (by assumption) ?rstT24
  case hyT24 => (intro w hSw; (try dsimp only at hSw); go_simp; (try with_reducible rfl))
  try simp only [Act.put, List.setIfInBounds_toArray, List.set_cons_zero, List.set_cons_succ]
  refine wpAnyH_done (by kernel_rfl) ?_ _
  obtain ⟨d0, d1, d2, d3, d4, d5, d6, d7, d8⟩ := box9 hbx1
  go_wp2_with fail
  refine (HXX.out _ hB1).mono ?_
  rintro e w2 ⟨x, rfl, hQ⟩
  have HQ : Hid (Q x w2) := hQ
  clear hQ
  go_wp2_with fail
  go_ret
  exact ⟨x, rfl, HQ.out⟩
end Go.Proofs.YtggdocnnbgcniaaDoor

/-! Apply as the document's row has it. -/
namespace Go.Proofs.YtggdocnnbgcniaaDoor
open Go.RowKit Go.Lib
set_option maxRecDepth 100000

section
variable {w2 : World} {q : Nat} {R : List (Int × Int)} {W : World}
theorem Holds.bounds (h : Holds w2 q R W) : ∀ c ∈ R, 0 ≤ c.2 ∧ c.2 ≤ 1048576 := by
  obtain ⟨t, h1, h2, rfl, h3⟩ := h
  exact fun c hc => ⟨h2.lo c hc, h2.hi c hc⟩
theorem Holds.len (h : Holds w2 q R W) : R.length ≤ 1048576 := by
  obtain ⟨t, h1, h2, rfl, h3⟩ := h
  exact h2.len
/-- A right insert. -/
theorem ck_ins {c n : Int} (hid : (c = 0 ∧ n = 0) ∨ isIdP c n = true) {m N : Nat} {s : ByteArray} {rs : List Int} (ht : IsText s rs) (hne : rs ≠ []) (hle : rs.length ≤ 256) (hm : m ≤ N) (hN : N + rs.length ≤ 1048576) : opCheck ⟨c, n, 1, (m : Int), s, [], 0, 0, false⟩ (N : Int) = 0 := by
  have hpos := List.length_pos_iff.2 hne
  unfold opCheck
  rw [if_neg (by omega), if_neg (by simp only; omega), if_neg (by simp only; rcases hid with h | h; exact fun e => e.1 h; exact fun e => by rw [h] at e; cases e.2), if_neg (by simp [extra, ext0, extT]), if_pos rfl]
  unfold insP
  simp only [ht.check]
  rw [if_neg (by simp), if_neg (by omega), if_neg (by omega), if_neg (by omega), if_neg (by omega)]
theorem lastHi_leq {l : List (Int × Int)} {N : Int} (hne : l ≠ []) (h : ∀ x ∈ l, x.2 ≤ N) : lastHi l ≤ N := by
  have hpos := List.length_pos_iff.2 hne
  unfold lastHi
  rw [List.getD_eq_getElem?_getD, List.getElem?_eq_getElem (by omega)]
  exact h _ (List.getElem_mem _)
/-- A right Hide or Show. -/
theorem ck_rng {c n k : Int} (hid : (c = 0 ∧ n = 0) ∨ isIdP c n = true) (hk : k = 2 ∨ k = 3) {N : Nat} {l : List (Int × Int)} (hne : l ≠ []) (hs : Srt l) (hb : ∀ x ∈ l, 0 ≤ x.1 ∧ x.2 ≤ (N : Int)) (hn : l.length ≤ 32768) (hN : N ≤ 1048576) : opCheck ⟨c, n, k, 0, ⟨#[]⟩, l, 0, 0, false⟩ (N : Int) = 0 := by
  unfold opCheck
  rw [if_neg (by omega), if_neg (by simp only; omega), if_neg (by simp only; rcases hid with h | h; exact fun e => e.1 h; exact fun e => by rw [h] at e; cases e.2), if_neg (by unfold extra; rw [if_neg (by simp only; omega), if_neg (by simp only; omega)]; simp [extP, extT, ByteArray.size]), if_neg (by simp only; omega), if_neg (by simp only; omega)]
  unfold rngP
  rw [if_neg hne]
  simp only [check_srt hs (fun x hx => by have := hb x hx; omega) hn]
  have := lastHi_leq hne fun x hx => (hb x hx).2
  rw [if_neg (by simp), if_neg (by omega)]
theorem own_rng {c n k : Int} (hid : (c = 0 ∧ n = 0) ∨ isIdP c n = true) (hk : k = 2 ∨ k = 3) {N : Nat} {l : List (Int × Int)} (hne : l ≠ []) (hs : Srt l) (hb : ∀ x ∈ l, 0 ≤ x.1 ∧ x.2 ≤ (N : Int)) (hn : l.length ≤ 32768) (hN : N ≤ 1048576) : ownP ⟨c, n, k, 0, ⟨#[]⟩, l, 0, 0, false⟩ = 0 := by
  unfold ownP
  rw [if_neg (by simp only; omega)]
  exact ck_rng hid hk (N := 1048576) hne hs (fun x hx => by have := hb x hx; omega) hn (Nat.le_refl _)
theorem apply_insH (h : Holds w2 q R W) (hq : w2.heap.size ≤ q) (hBar : Bar w2) {c n : Int} (hid : (c = 0 ∧ n = 0) ∨ isIdP c n = true) {m : Nat} {s : ByteArray} {rs : List Int} (ht : IsText s rs) (hne : rs ≠ []) (hle : rs.length ≤ 256) (hm : m ≤ R.length) (hN : R.length + rs.length ≤ 1048576) :
    Calls Tryd.prog 13 #[.pointer (some ⟨q, 0, none⟩), opVal ⟨c, n, 1, (m : Int), s, [], 0, 0, false⟩ (.slice none 0 0)] W fun e W' => e = .returned (.int .i64 0) ∧ Holds w2 q (putL R m rs 0) W' ∧ Upd q W W' := by
  have hsz := ht.small
  refine (apply_ins_to h (rng_of_rw (rw_nil W)) (by omega) hBar (ck_ins hid ht hne hle hm hN) (Q := fun x W' => x = 0 ∧ Holds w2 q (putL R m rs 0) W' ∧ Upd q W W') fun W1 hb => ?_).mono ?_
  · exact ((h.still hb).insertU hq m hm ht hne 0 (Int.le_refl _) (by decide) hN hBar).mono fun e W' ⟨he, h1, h2⟩ => ⟨0, he, rfl, h1, (Upd.ofBelow hb).trans h2⟩
  · rintro e W' ⟨x, rfl, rfl, h1, h2⟩
    exact ⟨rfl, h1, h2⟩
theorem rw_piece {a : Option Addr} {m cap : Nat} {l : List (Int × Int)} (h : Sp.Rng W a m cap l) : Rw pieceV 2 W a m cap l := rw_of_rng h
theorem apply_hideH (h : Holds w2 q R W) (hq : w2.heap.size ≤ q) (hBar : Bar w2) {c n : Int} (hid : (c = 0 ∧ n = 0) ∨ isIdP c n = true) {a : Option Addr} {cap : Nat} {l : List (Int × Int)} (hl : Rw pieceV 2 W a l.length cap l) (hne : l ≠ []) (hs : Srt l) (hb : ∀ x ∈ l, 0 ≤ x.1 ∧ x.2 ≤ (R.length : Int)) (hn : l.length ≤ 32768) (hok : ∀ c ∈ bmp l 1 0 R, 0 ≤ c.2 ∧ c.2 ≤ 1048576) :
    Calls Tryd.prog 13 #[.pointer (some ⟨q, 0, none⟩), opVal ⟨c, n, 2, 0, ⟨#[]⟩, l, 0, 0, false⟩ (.slice a l.length cap)] W fun e W' => e = .returned (.int .i64 0) ∧ Holds w2 q (bmp l 1 0 R) W' ∧ Upd q W W' := by
  refine (apply_hide_to h hl.rng (by simp [ByteArray.size]) hBar (ck_rng hid (.inl rfl) hne hs hb hn h.len) (Q := fun x W' => x = 0 ∧ Holds w2 q (bmp l 1 0 R) W' ∧ Upd q W W') fun W1 hb1 => ?_).mono ?_
  · exact ((h.still hb1).bumpU hq (hl.below hb1) hn hs hb 1 (.inl rfl) hok).mono fun e W' ⟨he, h1, h2⟩ => ⟨0, he, rfl, h1, (Upd.ofBelow hb1).trans h2⟩
  · rintro e W' ⟨x, rfl, rfl, h1, h2⟩
    exact ⟨rfl, h1, h2⟩
theorem apply_showH (h : Holds w2 q R W) (hq : w2.heap.size ≤ q) (hBar : Bar w2) {c n : Int} (hid : (c = 0 ∧ n = 0) ∨ isIdP c n = true) {a : Option Addr} {cap : Nat} {l : List (Int × Int)} (hl : Rw pieceV 2 W a l.length cap l) (hne : l ≠ []) (hs : Srt l) (hb : ∀ x ∈ l, 0 ≤ x.1 ∧ x.2 ≤ (R.length : Int)) (hn : l.length ≤ 32768) (hok : ∀ c ∈ bmp l (-1) 0 R, 0 ≤ c.2 ∧ c.2 ≤ 1048576) :
    Calls Tryd.prog 13 #[.pointer (some ⟨q, 0, none⟩), opVal ⟨c, n, 3, 0, ⟨#[]⟩, l, 0, 0, false⟩ (.slice a l.length cap)] W fun e W' => e = .returned (.int .i64 0) ∧ Holds w2 q (bmp l (-1) 0 R) W' ∧ Upd q W W' := by
  refine (apply_show_to h hl.rng (by simp [ByteArray.size]) hBar (ck_rng hid (.inr rfl) hne hs hb hn h.len) (Q := fun x W' => x = 0 ∧ Holds w2 q (bmp l (-1) 0 R) W' ∧ Upd q W W') fun W1 hb1 => ?_).mono ?_
  · exact ((h.still hb1).bumpU hq (hl.below hb1) hn hs hb (-1) (.inr rfl) hok).mono fun e W' ⟨he, h1, h2⟩ => ⟨0, he, rfl, h1, (Upd.ofBelow hb1).trans h2⟩
  · rintro e W' ⟨x, rfl, rfl, h1, h2⟩
    exact ⟨rfl, h1, h2⟩
end
end Go.Proofs.YtggdocnnbgcniaaDoor

/-! Apply, refused. -/
namespace Go.Proofs.YtggdocnnbgcniaaDoor
open Go.RowKit Go.Lib
set_option maxRecDepth 100000

set_option maxHeartbeats 4000000 in
theorem apply_no {w2 : World} {q : Nat} {R : List (Int × Int)} {W : World} (h : Holds w2 q R W) {c n k p : Int} {s : ByteArray} {l : List (Int × Int)} {tc tn : Int} {on : Bool} {a : Option Addr} {m cap : Nat} (hl : Sp.Rng W a m cap l) (hs : s.size ≤ 9223372036854775807) (hBar : Bar w2) {C : Int} (hok : opCheck ⟨c, n, k, p, s, l, tc, tn, on⟩ (R.length : Int) = C) (hC : C ≠ 0) :
    Calls Tryd.prog 13 #[.pointer (some ⟨q, 0, none⟩), opVal ⟨c, n, k, p, s, l, tc, tn, on⟩ (.slice a m cap)] W fun e W' => e = .returned (.int .i64 C) ∧ Below W.heap.size W W' := by
  have t1 : (C != 0) = true := by simp [hC]
  have HT : Hid (∀ W', Below W.heap.size W W' → Calls Tryd.prog 27 #[.pointer (some ⟨q, 0, none⟩)] W' fun e w' => e = .returned (.int .i64 (R.length : Int)) ∧ w' = W') := fun W' hb => by obtain ⟨t, h1, h2, rfl, h3⟩ := h; exact ropeTotal_any (h1.below hb)
  have HC : Hid (∀ W', Below W.heap.size W W' → Calls Tryd.prog 20 #[.agg #[.int .i64 c, .int .i64 n, .int .i64 k, .int .i64 p, .string s, .slice a m cap, .int .i64 tc, .int .i64 tn, .bool on], .int .i64 (R.length : Int)] W' fun e w' => e = .returned (.int .i64 C) ∧ Below W'.heap.size W' w') := fun W' hb => by have := opCheck_any (o := ⟨c, n, k, p, s, l, tc, tn, on⟩) (total := (R.length : Int)) (hl.below hb) hs (hBar.below (h.below.trans (hb.mono h.below.size))); rw [hok] at this; exact this
  simp only [opVal]
  clear hok hl hBar h
  go_enter Tryd.func13, Tryd.ntmps13
  go_wp2_with fail
  generalize hWB : W.alloc (Obj.cells #[.int .i64 c, .int .i64 n, .int .i64 k, .int .i64 p, .string s, .slice a m cap, .int .i64 tc, .int .i64 tn, .bool on] 48) = WB
  have hB : Below W.heap.size W WB := hWB ▸ (Below.refl W.heap.size W).alloc (Nat.le_refl _) _
  have hbx : WB.heap[W.heap.size]? = some (.cells #[.int .i64 c, .int .i64 n, .int .i64 k, .int .i64 p, .string s, .slice a m cap, .int .i64 tc, .int .i64 tn, .bool on] 48) := hWB ▸ alloc_last _ _ _ rfl
  clear hWB
  refine wp_region_held_drew (S := (fun X => X.heap[W.heap.size]? = some (.cells #[.int .i64 c, .int .i64 n, .int .i64 k, .int .i64 p, .string s, .slice a m cap, .int .i64 tc, .int .i64 tn, .bool on] 48))) (by kernel_rfl) ?hS1 (fun hHeld => ?rest1)
  case hS1 => exact hbx
  refine takeD (i := 0) (d := some 8) (v := ?vT2) rfl rfl (by kernel_rfl) (by kernel_rfl) (by kernel_rfl) (fun _ _ _ h => h) (Or.inl ⟨by rfl, ?hyT2⟩) (by assumption) ?rstT2
  case hyT2 => (intro w hSw; obtain ⟨d0, d1, d2, d3, d4, d5, d6, d7, d8⟩ := box9 hSw; (try dsimp only at hSw); go_simp; (try with_reducible rfl))
  try simp only [Act.put, List.setIfInBounds_toArray, List.set_cons_zero, List.set_cons_succ]
  refine takeD (i := 1) (d := some 9) (v := ?vT3) rfl rfl (by kernel_rfl) (by kernel_rfl) (by kernel_rfl) (fun _ _ _ h => h) (Or.inl ⟨by rfl, ?hyT3⟩) (by assumption) ?rstT3
  case hyT3 => (intro w hSw; (try dsimp only at hSw); go_simp; (try with_reducible rfl))
  try simp only [Act.put, List.setIfInBounds_toArray, List.set_cons_zero, List.set_cons_succ]
  refine wpAnyH_ready (rs := [2]) (by kernel_rfl) (by simp) ?_
  refine AllReadyH.cons rfl (fun K hK => ?_) AllReadyH.nil
  go_simp
  refine (HT.out WB.drew hB.drew).mono ?_
  rintro e w1 ⟨rfl, hw1⟩
  subst hw1
  clear hHeld
  refine hK.out _ _ ?hS4 (fun hHeld => ?rest4)
  case hS4 => exact hbx
  clear hK K
  try simp only [Act.put, List.setIfInBounds_toArray, List.set_cons_zero, List.set_cons_succ]
  refine wpAnyH_ready (rs := [3]) (by kernel_rfl) (by simp) ?_
  refine AllReadyH.cons rfl (fun K hK => ?_) AllReadyH.nil
  go_simp
  refine (HC.out WB.drew hB.drew).mono ?_
  rintro e w1 ⟨rfl, hb1⟩
  have hB1 : Below W.heap.size W w1 := hB.drew.trans (hb1.mono hB.drew.size)
  have hbx1 := (hb1.block _ (Array.getElem?_eq_some_iff.1 hbx).1).trans hbx
  clear hHeld
  refine hK.out _ _ ?hS5 (fun hHeld => ?rest5)
  case hS5 => exact hbx1
  clear hK K
  try simp only [Act.put, List.setIfInBounds_toArray, List.set_cons_zero, List.set_cons_succ]
  refine takeD (i := 4) (d := some 5) (v := ?vT6) rfl rfl (by kernel_rfl) (by kernel_rfl) (by kernel_rfl) (fun _ _ _ h => h) (Or.inl ⟨by rfl, ?hyT6⟩) (by assumption) ?rstT6
  case hyT6 => (intro w hSw; (try dsimp only at hSw); go_simp; (try with_reducible rfl))
  try simp only [Act.put, List.setIfInBounds_toArray, List.set_cons_zero, List.set_cons_succ]
  refine wpAnyH_done (by kernel_rfl) ?_ _
  go_wp2_with fail
  go_ret
  exact ⟨rfl, hB1⟩
set_option maxHeartbeats 4000000 in
theorem apply_status {w2 : World} {q : Nat} {R : List (Int × Int)} {W : World} (h : Holds w2 q R W) {c n p : Int} {s : ByteArray} {l : List (Int × Int)} {tc tn : Int} {on : Bool} {a : Option Addr} {m cap : Nat} (hl : Sp.Rng W a m cap l) (hs : s.size ≤ 9223372036854775807) (hBar : Bar w2) (hok : opCheck ⟨c, n, 4, p, s, l, tc, tn, on⟩ (R.length : Int) = 0) :
    Calls Tryd.prog 13 #[.pointer (some ⟨q, 0, none⟩), opVal ⟨c, n, 4, p, s, l, tc, tn, on⟩ (.slice a m cap)] W fun e W' => e = .returned (.int .i64 40) ∧ Below W.heap.size W W' := by
  have HT : Hid (∀ W', Below W.heap.size W W' → Calls Tryd.prog 27 #[.pointer (some ⟨q, 0, none⟩)] W' fun e w' => e = .returned (.int .i64 (R.length : Int)) ∧ w' = W') := fun W' hb => by obtain ⟨t, h1, h2, rfl, h3⟩ := h; exact ropeTotal_any (h1.below hb)
  have HC : Hid (∀ W', Below W.heap.size W W' → Calls Tryd.prog 20 #[.agg #[.int .i64 c, .int .i64 n, .int .i64 4, .int .i64 p, .string s, .slice a m cap, .int .i64 tc, .int .i64 tn, .bool on], .int .i64 (R.length : Int)] W' fun e w' => e = .returned (.int .i64 0) ∧ Below W'.heap.size W' w') := fun W' hb => by have := opCheck_any (o := ⟨c, n, 4, p, s, l, tc, tn, on⟩) (total := (R.length : Int)) (hl.below hb) hs (hBar.below (h.below.trans (hb.mono h.below.size))); rw [hok] at this; exact this
  simp only [opVal]
  clear hok hl hBar h
  go_enter Tryd.func13, Tryd.ntmps13
  go_wp2_with fail
  generalize hWB : W.alloc (Obj.cells #[.int .i64 c, .int .i64 n, .int .i64 4, .int .i64 p, .string s, .slice a m cap, .int .i64 tc, .int .i64 tn, .bool on] 48) = WB
  have hB : Below W.heap.size W WB := hWB ▸ (Below.refl W.heap.size W).alloc (Nat.le_refl _) _
  have hbx : WB.heap[W.heap.size]? = some (.cells #[.int .i64 c, .int .i64 n, .int .i64 4, .int .i64 p, .string s, .slice a m cap, .int .i64 tc, .int .i64 tn, .bool on] 48) := hWB ▸ alloc_last _ _ _ rfl
  clear hWB
  refine wp_region_held_drew (S := (fun X => X.heap[W.heap.size]? = some (.cells #[.int .i64 c, .int .i64 n, .int .i64 4, .int .i64 p, .string s, .slice a m cap, .int .i64 tc, .int .i64 tn, .bool on] 48))) (by kernel_rfl) ?hS25 (fun hHeld => ?rest25)
  case hS25 => exact hbx
  refine takeD (i := 0) (d := some 8) (v := ?vT26) rfl rfl (by kernel_rfl) (by kernel_rfl) (by kernel_rfl) (fun _ _ _ h => h) (Or.inl ⟨by rfl, ?hyT26⟩) (by assumption) ?rstT26
  case hyT26 => (intro w hSw; obtain ⟨d0, d1, d2, d3, d4, d5, d6, d7, d8⟩ := box9 hSw; (try dsimp only at hSw); go_simp; (try with_reducible rfl))
  try simp only [Act.put, List.setIfInBounds_toArray, List.set_cons_zero, List.set_cons_succ]
  refine takeD (i := 1) (d := some 9) (v := ?vT27) rfl rfl (by kernel_rfl) (by kernel_rfl) (by kernel_rfl) (fun _ _ _ h => h) (Or.inl ⟨by rfl, ?hyT27⟩) (by assumption) ?rstT27
  case hyT27 => (intro w hSw; (try dsimp only at hSw); go_simp; (try with_reducible rfl))
  try simp only [Act.put, List.setIfInBounds_toArray, List.set_cons_zero, List.set_cons_succ]
  refine wpAnyH_ready (rs := [2]) (by kernel_rfl) (by simp) ?_
  refine AllReadyH.cons rfl (fun K hK => ?_) AllReadyH.nil
  go_simp
  refine (HT.out WB.drew hB.drew).mono ?_
  rintro e w1 ⟨rfl, hw1⟩
  subst hw1
  clear hHeld
  refine hK.out _ _ ?hS28 (fun hHeld => ?rest28)
  case hS28 => exact hbx
  clear hK K
  try simp only [Act.put, List.setIfInBounds_toArray, List.set_cons_zero, List.set_cons_succ]
  refine wpAnyH_ready (rs := [3]) (by kernel_rfl) (by simp) ?_
  refine AllReadyH.cons rfl (fun K hK => ?_) AllReadyH.nil
  go_simp
  refine (HC.out WB.drew hB.drew).mono ?_
  rintro e w1 ⟨rfl, hb1⟩
  have hB1 : Below W.heap.size W w1 := hB.drew.trans (hb1.mono hB.drew.size)
  have hbx1 := (hb1.block _ (Array.getElem?_eq_some_iff.1 hbx).1).trans hbx
  clear hHeld
  refine hK.out _ _ ?hS29 (fun hHeld => ?rest29)
  case hS29 => exact hbx1
  clear hK K
  try simp only [Act.put, List.setIfInBounds_toArray, List.set_cons_zero, List.set_cons_succ]
  refine takeD (i := 4) (d := some 5) (v := ?vT30) rfl rfl (by kernel_rfl) (by kernel_rfl) (by kernel_rfl) (fun _ _ _ h => h) (Or.inl ⟨by rfl, ?hyT30⟩) (by assumption) ?rstT30
  case hyT30 => (intro w hSw; (try dsimp only at hSw); go_simp; (try with_reducible rfl))
  try simp only [Act.put, List.setIfInBounds_toArray, List.set_cons_zero, List.set_cons_succ]
  refine wpAnyH_done (by kernel_rfl) ?_ _
  obtain ⟨d0, d1, d2, d3, d4, d5, d6, d7, d8⟩ := box9 hbx1
  go_wp2_with fail
  go_ret
  exact ⟨rfl, hB1⟩
set_option maxHeartbeats 400000 in
theorem apply_nil {w : World} {o : OpV} {v : Value} : Calls Tryd.prog 13 #[.pointer none, opVal o v] w fun e w' => e = .returned (.int .i64 3) ∧ Below w.heap.size w w' := by
  have hB := (Below.refl w.heap.size w).alloc (Nat.le_refl _) (Obj.cells #[.int .i64 o.c, .int .i64 o.n, .int .i64 o.k, .int .i64 o.p, .string o.s, v, .int .i64 o.tc, .int .i64 o.tn, .bool o.on] 48)
  simp only [opVal]
  go_enter Tryd.func13, Tryd.ntmps13
  go_wp2_with fail
  go_ret
  exact ⟨rfl, hB⟩
end Go.Proofs.YtggdocnnbgcniaaDoor

/-! What the walks of sentences over a rope want. -/
namespace Go.Proofs.YtggdocnnbgcniaaDoor
open Go.RowKit Go.Lib
set_option maxRecDepth 100000

/-- A deed in memory. -/
def deedF (x : (Int × Int) × (Option Addr × Nat × Nat) × (Option Addr × Nat × Nat)) : List Value := [.int .i64 x.1.1, .int .i64 x.1.2, .slice x.2.1.1 x.2.1.2.1 x.2.1.2.2, .slice x.2.2.1 x.2.2.2.1 x.2.2.2.2]
theorem layD : Lay deedF 4 := ⟨fun _ => rfl, by decide, fun x u hu => by simp [deedF] at hu; rcases hu with rfl | rfl | rfl | rfl <;> rfl⟩
/-- A deed whose text can be read. -/
def DeedT (W : World) (x : (Int × Int) × (Option Addr × Nat × Nat) × (Option Addr × Nat × Nat)) : Prop := ∃ zs, Rw rune1 1 W x.2.1.1 x.2.1.2.1 x.2.1.2.2 zs
theorem fixR_ok (r : Int) : okR (fixR r) := by
  refine okL_okR ?_
  unfold fixR okL
  split <;> omega
theorem madeP_len (zs : List (Int × Int)) : (madeP zs).length ≤ 400 := by
  unfold madeP
  rw [List.length_map, List.length_take]
  omega
theorem madeP_ok (zs : List (Int × Int)) : ∀ c ∈ madeP zs, okR c.1 := fun c hc => by
  obtain ⟨x, _, rfl⟩ := List.mem_map.1 hc
  exact fixR_ok x.1
theorem madeP_cnt (zs : List (Int × Int)) : ∀ c ∈ madeP zs, 0 ≤ c.2 ∧ c.2 ≤ 1048576 := fun c hc => by
  obtain ⟨x, _, rfl⟩ := List.mem_map.1 hc
  simp only [fixC]
  unfold fixH
  split <;> omega
theorem visR_okR {R : List (Int × Int)} (h : ∀ c ∈ R, okR c.1) : ∀ r ∈ visR R, okR r := fun r hr => by
  obtain ⟨c, hc, rfl⟩ := visR_sub R r hr
  exact h c hc
theorem visR_le {R : List (Int × Int)} (h : Nonneg R) : (visR R).length ≤ R.length := by
  rw [visR_vis h]
  exact vis_le R
theorem num_rune (x : Int) : ∃ kd i, (rune1 x)[0]? = some (.int kd i) := ⟨_, _, rfl⟩
/-- A block that is no rope's box stands. -/
theorem Upd.box {q : Nat} {w w' : World} (h : Upd q w w') {b : Nat} {o : Obj} (hb : w.heap[b]? = some o) (hne : b ≠ q) : w'.heap[b]? = some o := (h.block b (Array.getElem?_eq_some_iff.1 hb).1 hne).trans hb
theorem Holds.ne {w2 : World} {q : Nat} {R : List (Int × Int)} {W : World} (h : Holds w2 q R W) {b : Nat} (hb : W.heap.size ≤ b) : b ≠ q := by
  obtain ⟨t, ⟨g, hq, _⟩, _⟩ := h
  have := (Array.getElem?_eq_some_iff.1 hq).1
  omega
theorem Holds.rowU {w2 : World} {q : Nat} {R : List (Int × Int)} {W W' : World} (h : Holds w2 q R W) (hu : Upd q W W') {a : Option Addr} {n cap : Nat} {rs : List Int} (hr : Rw rune1 1 W a n cap rs) : Rw rune1 1 W' a n cap rs := by
  obtain ⟨t, h1, _⟩ := h
  exact hr.upd num_rune h1 hu
theorem Holds.pieceU {w2 : World} {q : Nat} {R : List (Int × Int)} {W W' : World} (h : Holds w2 q R W) (hu : Upd q W W') {a : Option Addr} {n cap : Nat} {l : List (Int × Int)} (hr : Rw pieceV 2 W a n cap l) : Rw pieceV 2 W' a n cap l := by
  obtain ⟨t, h1, _⟩ := h
  exact hr.upd num_piece h1 hu
theorem elemU : Tryd.prog.elem 34 = 21 := by kernel_rfl
theorem Holds.cellU {w2 : World} {q : Nat} {R : List (Int × Int)} {W W' : World} (h : Holds w2 q R W) (hu : Upd q W W') {a : Option Addr} {n cap : Nat} {l : List (Int × Int)} (hr : Rw cellV 2 W a n cap l) : Rw cellV 2 W' a n cap l := by
  obtain ⟨t, h1, _⟩ := h
  exact hr.upd num_cell h1 hu
theorem bmp_fwd (R l : List (Int × Int)) : bmp l 1 0 (bmp l (-1) 0 R) = R := by
  apply List.ext_getElem?
  intro j
  rw [bmp_get, bmp_get, Option.map_map]
  rcases R[j]? with _ | c
  · rfl
  simp only [Function.comp, Option.map_some, Option.some.injEq]
  by_cases e : inL l (0 + (j : Int)) = true
  · rw [if_pos e, if_pos e]
    exact Prod.ext rfl (by simp only; omega)
  · rw [if_neg e, if_neg e]
theorem bmp_bwd (R l : List (Int × Int)) : bmp l (-1) 0 (bmp l 1 0 R) = R := by
  apply List.ext_getElem?
  intro j
  rw [bmp_get, bmp_get, Option.map_map]
  rcases R[j]? with _ | c
  · rfl
  simp only [Function.comp, Option.map_some, Option.some.injEq]
  by_cases e : inL l (0 + (j : Int)) = true
  · rw [if_pos e, if_pos e]
    exact Prod.ext rfl (by simp only; omega)
  · rw [if_neg e, if_neg e]
theorem bmp_nil (R : List (Int × Int)) (d : Int) : bmp [] d 0 R = R := by
  apply List.ext_getElem?
  intro j
  rw [bmp_get]
  rcases R[j]? with _ | c
  · rfl
  · simp [inL]
theorem bmp_okR {R : List (Int × Int)} {l : List (Int × Int)} {d : Int} (ho : ∀ c ∈ R, okR c.1) : ∀ c ∈ bmp l d 0 R, okR c.1 := fun c hcm => by
  obtain ⟨x, hx, e⟩ := bmp_mem hcm
  rcases e with rfl | rfl
  · exact ho _ hx
  · exact ho x hx
theorem srt_nil : Srt [] := ⟨fun x hx => (by cases hx), fun i j x y _ hx => (by simp at hx)⟩
theorem eqP_self (o : OpV) : eqP o o = true := by unfold eqP; simp
/-- An insert's cells, hidden. -/
theorem bmp_put {R : List (Int × Int)} {m : Nat} (hm : m ≤ R.length) (rs : List Int) : bmp [((m : Int), (m : Int) + (rs.length : Int))] 1 0 (putL R m rs 0) = putL R m rs 1 := by
  have hl : (R.take m).length = m := by rw [List.length_take]; omega
  have key : ∀ (A : List (Int × Int)) (f : Int), (∀ j : Nat, j < A.length → inL [((m : Int), (m : Int) + (rs.length : Int))] (f + j) = false) → bmp [((m : Int), (m : Int) + (rs.length : Int))] 1 f A = A := fun A f h => by
    apply List.ext_getElem?
    intro j
    rw [bmp_get]
    cases hj : A[j]? with
    | none => rfl
    | some c =>
      have := h j (List.getElem?_eq_some_iff.1 hj).1
      simp [this]
  have key2 : ∀ (A : List Int) (f : Int), (∀ j : Nat, j < A.length → inL [((m : Int), (m : Int) + (rs.length : Int))] (f + j) = true) → bmp [((m : Int), (m : Int) + (rs.length : Int))] 1 f (A.map fun c => (c, (0 : Int))) = A.map fun c => (c, (1 : Int)) := fun A f h => by
    apply List.ext_getElem?
    intro j
    rw [bmp_get, List.getElem?_map, List.getElem?_map]
    cases hj : A[j]? with
    | none => rfl
    | some c =>
      have := h j (List.getElem?_eq_some_iff.1 hj).1
      simp [this]
  unfold putL
  rw [bmp_append, bmp_append]
  congr 1
  · congr 1
    · refine key _ _ fun j hj => ?_
      rw [hl] at hj
      simp [inL]
      omega
    · refine key2 _ _ fun j hj => ?_
      rw [hl]
      simp [inL]
      omega
  · refine key _ _ fun j hj => ?_
    rw [List.length_append, List.length_map, hl]
    simp [inL]
    omega
end Go.Proofs.YtggdocnnbgcniaaDoor
