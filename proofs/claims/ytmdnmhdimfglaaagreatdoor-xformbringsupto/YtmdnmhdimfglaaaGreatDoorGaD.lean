import Derived.Test.YtmdnmhdimfglaaaGreatDoorGaE
namespace Go.Proofs.YtmdnmhdimfglaaaGreatDoor
open Go.RowKit Go.Lib
set_option maxRecDepth 100000
set_option maxHeartbeats 2000000 in
theorem shifted_any {o : OpV} {v : Value} {d : Int} {w : World} (hv : ∃ a m cap, v = .slice a m cap) (hs : o.s.size ≤ 9223372036854775807) (hw : Bar w) (hp : 0 ≤ o.p ∧ o.p ≤ 1048576) (hd : 0 ≤ d ∧ d ≤ 1048576) (hwd : 0 ≤ widthP o ∧ widthP o ≤ 1048576) :
    Calls Tryz.prog 43 #[opVal o v, .int .i64 d] w fun e w' => ∃ v', e = .returned (.tuple #[opVal (shiftP o d).1 v', .int .i64 (shiftP o d).2]) ∧ ((v' = v ∧ (shiftP o d).1.l = o.l) ∨ ((shiftP o d).1.l = [] ∧ v' = .slice none 0 0)) ∧ Below w.heap.size w w' := by
  obtain ⟨a, m, cap, rfl⟩ := hv
  have HW : Hid (∀ (W : World), Below w.heap.size w W → Calls Tryz.prog 44 #[opVal { o with p := o.p + d } (.slice a m cap)] W fun e w' => e = .returned (.int .i64 (widthP o)) ∧ Below W.heap.size W w') := fun W hb => width_any (o := { o with p := o.p + d }) hs (hw.below hb)
  obtain ⟨z, hz⟩ : ∃ z, widthP o = z := ⟨_, rfl⟩
  obtain ⟨q, hq⟩ : ∃ q, shiftP o d = q := ⟨_, rfl⟩
  rw [hq]
  unfold shiftP at hq
  rw [hz] at HW hq hwd
  clear hz hs hw
  obtain ⟨c, n, k, p, s, l, tc, tn, on⟩ := o
  simp only [opVal] at *
  obtain ⟨hp0, hp1⟩ := hp
  obtain ⟨hd0, hd1⟩ := hd
  obtain ⟨hw0, hw1⟩ := hwd
  have e1 : IntKind.i64.wrap (p + d) = p + d := IntWalk.i64_in _ (by omega)
  have e2 : IntKind.i64.wrap (p + d + z) = p + d + z := IntWalk.i64_in _ (by omega)
  obtain ⟨W0, hW0⟩ : ∃ W0, (w.alloc (Obj.cells #[.int .i64 c, .int .i64 n, .int .i64 k, .int .i64 (p + d), .string s, .slice a m cap, .int .i64 tc, .int .i64 tn, .bool on] 34)).alloc (Obj.cells #[.int .i64 0, .int .i64 0, .int .i64 0, .int .i64 0, .string ⟨#[]⟩, .slice none 0 0, .int .i64 0, .int .i64 0, .bool false] 34) = W0 := ⟨_, rfl⟩
  have hX : W0.heap[w.heap.size]? = some (Obj.cells #[.int .i64 c, .int .i64 n, .int .i64 k, .int .i64 (p + d), .string s, .slice a m cap, .int .i64 tc, .int .i64 tn, .bool on] 34) := by rw [← hW0]; exact (Below.heap_alloc _ _ _ (by simp)).trans (alloc_last _ _ _ rfl)
  have hZ : W0.heap[w.heap.size + 1]? = some (Obj.cells #[.int .i64 0, .int .i64 0, .int .i64 0, .int .i64 0, .string ⟨#[]⟩, .slice none 0 0, .int .i64 0, .int .i64 0, .bool false] 34) := by rw [← hW0]; exact alloc_last _ _ _ (by simp)
  have hB0 : Below w.heap.size w W0 := by rw [← hW0]; exact ((Below.refl w.heap.size w).alloc (Nat.le_refl _) _).alloc (by simp) _
  have alt : w.heap.size < W0.heap.size := by rw [← hW0]; simp; omega
  obtain ⟨ak0, ak1, ak2, ak3, ak4, ak5, ak6, ak7, ak8⟩ := box9 hX
  go_enter Tryz.func43, Tryz.ntmps43
  go_wp2_with fail
  have hcur : Below W0.heap.size W0 W0 := Below.refl _ _
  clear hW0
  go_region_held3 (fun W => W.cell? ⟨w.heap.size, 0, none⟩ = some (.int .i64 c) ∧ W.cell? ⟨w.heap.size, 1, none⟩ = some (.int .i64 n) ∧ W.cell? ⟨w.heap.size, 2, none⟩ = some (.int .i64 k) ∧ W.cell? ⟨w.heap.size, 3, none⟩ = some (.int .i64 (p + d)) ∧ W.cell? ⟨w.heap.size, 4, none⟩ = some (.string s) ∧ W.cell? ⟨w.heap.size, 5, none⟩ = some (.slice a m cap) ∧ W.cell? ⟨w.heap.size, 6, none⟩ = some (.int .i64 tc) ∧ W.cell? ⟨w.heap.size, 7, none⟩ = some (.int .i64 tn) ∧ W.cell? ⟨w.heap.size, 8, none⟩ = some (.bool on)) (first | exact ⟨ak0, ak1, ak2, ak3, ak4, ak5, ak6, ak7, ak8⟩ | exact ⟨ae0, ae1, ae2, ae3, ae4, ae5, ae6, ae7, ae8⟩)
    (first
      | (go_at_call 44; refine (HW.out _ ?_).mono ?_; (first | exact hB0.trans (hcur.mono hB0.size) | exact hB0.trans (hcur.drew.mono hB0.size)); rintro e w1 ⟨rfl, hb1⟩; have hcur : Below W0.heap.size W0 w1 := (by first | exact hcur.trans (hb1.mono hcur.size) | exact hcur.drew.trans (hb1.mono hcur.size)); have ae0 := (hcur.cell (p := ⟨w.heap.size, 0, none⟩) alt).trans ak0; have ae1 := (hcur.cell (p := ⟨w.heap.size, 1, none⟩) alt).trans ak1; have ae2 := (hcur.cell (p := ⟨w.heap.size, 2, none⟩) alt).trans ak2; have ae3 := (hcur.cell (p := ⟨w.heap.size, 3, none⟩) alt).trans ak3; have ae4 := (hcur.cell (p := ⟨w.heap.size, 4, none⟩) alt).trans ak4; have ae5 := (hcur.cell (p := ⟨w.heap.size, 5, none⟩) alt).trans ak5; have ae6 := (hcur.cell (p := ⟨w.heap.size, 6, none⟩) alt).trans ak6; have ae7 := (hcur.cell (p := ⟨w.heap.size, 7, none⟩) alt).trans ak7; have ae8 := (hcur.cell (p := ⟨w.heap.size, 8, none⟩) alt).trans ak8))
  all_goals
    have hB1 := hB0.trans (hcur.mono hB0.size)
    have hX1 := (hcur.block _ alt).trans hX
    have hZ1 := (hcur.block _ (Array.getElem?_eq_some_iff.1 hZ).1).trans hZ
    clear hcur HW ak0 ak1 ak2 ak3 ak4 ak5 ak6 ak7 ak8 ae0 ae1 ae2 ae3 ae4 ae5 ae6 ae7 ae8 hX hZ hB0 alt hb1
    obtain ⟨ak0, ak1, ak2, ak3, ak4, ak5, ak6, ak7, ak8⟩ := box9 hX1
    by_cases hg : 1048576 < p + d + z
    · rw [if_pos hg] at hq
      subst hq
      obtain ⟨W9, e9, hx9, hB9, hK9⟩ := store9 hZ1 hB1 (by omega) (.int .i64 0) (.int .i64 0) (.int .i64 0) (.int .i64 0) (.string ⟨#[]⟩) (.slice none 0 0) (.int .i64 0) (.int .i64 0) (.bool false)
      obtain ⟨d0, d1, d2, d3, d4, d5, d6, d7, d8⟩ := box9 hZ1
      obtain ⟨dz0, dz1, dz2, dz3, dz4, dz5, dz6, dz7, dz8⟩ := wr9 hZ1
      obtain ⟨r0, r1, r2, r3, r4, r5, r6, r7, r8⟩ := box9 hx9
      go_wp2_with fail
      try rw [e9]
      refine bodyPost_ret (v := .tuple #[.agg #[.int .i64 0, .int .i64 0, .int .i64 0, .int .i64 0, .string ⟨#[]⟩, .slice none 0 0, .int .i64 0, .int .i64 0, .bool false], .int .i64 24]) (by simp [results, Tryz.results43, go_sem, r0, r1, r2, r3, r4, r5, r6, r7, r8]) rfl ⟨.slice none 0 0, rfl, .inr ⟨rfl, rfl⟩, hB9⟩
    · rw [if_neg hg] at hq
      subst hq
      obtain ⟨W9, e9, hx9, hB9, hK9⟩ := store9 hZ1 hB1 (by omega) (.int .i64 c) (.int .i64 n) (.int .i64 k) (.int .i64 (p + d)) (.string s) (.slice a m cap) (.int .i64 tc) (.int .i64 tn) (.bool on)
      obtain ⟨d0, d1, d2, d3, d4, d5, d6, d7, d8⟩ := box9 hZ1
      obtain ⟨dz0, dz1, dz2, dz3, dz4, dz5, dz6, dz7, dz8⟩ := wr9 hZ1
      obtain ⟨r0, r1, r2, r3, r4, r5, r6, r7, r8⟩ := box9 hx9
      go_wp2_with fail
      try rw [e9]
      refine bodyPost_ret (v := .tuple #[.agg #[.int .i64 c, .int .i64 n, .int .i64 k, .int .i64 (p + d), .string s, .slice a m cap, .int .i64 tc, .int .i64 tn, .bool on], .int .i64 0]) (by simp [results, Tryz.results43, go_sem, r0, r1, r2, r3, r4, r5, r6, r7, r8]) rfl ⟨.slice a m cap, rfl, by first | exact .inl rfl | exact .inl ⟨rfl, rfl⟩, hB9⟩
end Go.Proofs.YtmdnmhdimfglaaaGreatDoor

namespace Go.Proofs.YtmdnmhdimfglaaaGreatDoor
open Go.RowKit Go.Lib
set_option maxRecDepth 100000
theorem own_of {w : World} {B : Nat} {v : Value} {l : List (Int × Int)} (h : Sp.Own w B v l) : OwnF rangeV 2 91 w B v l := h
theorem through_all {w : World} {a : Option Addr} {n cap : Nat} {l : List (Int × Int)} (h : Sp.Rng w a n cap l) (hl : Sp.Lst l) {at_ k : Int} (hp : (0 ≤ at_ ∧ at_ ≤ 1048576) ∧ 0 ≤ k ∧ k ≤ 1048576) :
    Calls Tryz.prog 69 #[.slice a n cap, .int .i64 at_, .int .i64 k] w fun e w' => ∃ va vm vc, e = .returned (.tuple #[.slice va vm vc, .int .i64 (thrE l at_ k)]) ∧ OwnF rangeV 2 91 w' w.heap.size (.slice va vm vc) (if thrE l at_ k = 0 then Sp.throughL l at_ k else []) ∧ Below w.heap.size w w' := by
  by_cases hg : growB l at_ k = true
  · have e : thrE l at_ k = 24 := by unfold thrE; rw [if_pos hg]
    rw [e]
    refine (Sp.through_grow h hl hp ((growB_iff _ _ _).1 hg)).mono ?_
    rintro e w1 ⟨rfl, hb⟩
    exact ⟨_, _, _, rfl, ownF_nil _ _, hb⟩
  · refine (Sp.through_ok h hl hp (fun x => hg ((growB_iff _ _ _).2 x))).mono ?_
    rintro e w1 ⟨h1 | h1, hb⟩
    · have e : thrE l at_ k = 21 := by unfold thrE; rw [if_neg hg, if_pos h1.1]
      rw [e]
      exact ⟨_, _, _, h1.2, ownF_nil _ _, hb⟩
    · have e : thrE l at_ k = 0 := by unfold thrE; rw [if_neg hg, if_neg (by omega)]
      rw [e]
      obtain ⟨_, a', cap', rfl, ho⟩ := h1
      exact ⟨_, _, _, rfl, own_of ho, hb⟩
set_option maxHeartbeats 4000000 in
theorem throughInsert_any {o o2 : OpV} {a : Option Addr} {m cap : Nat} {b : Option Addr} {m2 cap2 : Nat} {w : World} (hR : Sp.Rng w a m cap o.l) (hl : Sp.Lst o.l) (hs : o2.s.size ≤ 9223372036854775807) (hw : Bar w) (hp : 0 ≤ o2.p ∧ o2.p ≤ 1048576) (hwd : 0 ≤ widthP o2 ∧ widthP o2 ≤ 1048576) :
    Calls Tryz.prog 42 #[opVal o (.slice a m cap), opVal o2 (.slice b m2 cap2)] w fun e w' => ∃ va vm vc, e = .returned (.tuple #[opVal (thrP o o2).1 (.slice va vm vc), .int .i64 (thrP o o2).2]) ∧ OwnF rangeV 2 91 w' w.heap.size (.slice va vm vc) (thrP o o2).1.l ∧ Below w.heap.size w w' := by
  have HW : Hid (∀ (W : World), Below w.heap.size w W → Calls Tryz.prog 44 #[opVal o2 (.slice b m2 cap2)] W fun e w' => e = .returned (.int .i64 (widthP o2)) ∧ Below W.heap.size W w') := fun W hb => width_any hs (hw.below hb)
  have HT : Hid (∀ (W : World), Below w.heap.size w W → Calls Tryz.prog 69 #[.slice a m cap, .int .i64 o2.p, .int .i64 (widthP o2)] W fun e w' => ∃ va vm vc, e = .returned (.tuple #[.slice va vm vc, .int .i64 (thrE o.l o2.p (widthP o2))]) ∧ OwnF rangeV 2 91 w' W.heap.size (.slice va vm vc) (if thrE o.l o2.p (widthP o2) = 0 then Sp.throughL o.l o2.p (widthP o2) else []) ∧ Below W.heap.size W w') := fun W hb => through_all (hR.below hb) hl ⟨hp, hwd⟩
  obtain ⟨q, hq⟩ : ∃ q, thrP o o2 = q := ⟨_, rfl⟩
  rw [hq]
  unfold thrP at hq
  generalize thrE o.l o2.p (widthP o2) = z at *
  generalize Sp.throughL o.l o2.p (widthP o2) = L at *
  generalize widthP o2 = wd at *
  clear hR hl hs hw hp hwd
  obtain ⟨c, n, k, p, s, l, tc, tn, on⟩ := o
  obtain ⟨c2, n2, k2, p2, s2, l2, tc2, tn2, on2⟩ := o2
  simp only [opVal] at *
  obtain ⟨W0, hW0⟩ : ∃ W0, ((w.alloc (Obj.cells #[.int .i64 c, .int .i64 n, .int .i64 k, .int .i64 p, .string s, .slice a m cap, .int .i64 tc, .int .i64 tn, .bool on] 34)).alloc (Obj.cells #[.int .i64 c2, .int .i64 n2, .int .i64 k2, .int .i64 p2, .string s2, .slice b m2 cap2, .int .i64 tc2, .int .i64 tn2, .bool on2] 34)).alloc (Obj.cells #[.int .i64 0, .int .i64 0, .int .i64 0, .int .i64 0, .string ⟨#[]⟩, .slice none 0 0, .int .i64 0, .int .i64 0, .bool false] 34) = W0 := ⟨_, rfl⟩
  have hX : W0.heap[w.heap.size]? = some (Obj.cells #[.int .i64 c, .int .i64 n, .int .i64 k, .int .i64 p, .string s, .slice a m cap, .int .i64 tc, .int .i64 tn, .bool on] 34) := by rw [← hW0]; exact (Below.heap_alloc _ _ _ (by simp; omega)).trans ((Below.heap_alloc _ _ _ (by simp)).trans (alloc_last _ _ _ rfl))
  have hY : W0.heap[w.heap.size + 1]? = some (Obj.cells #[.int .i64 c2, .int .i64 n2, .int .i64 k2, .int .i64 p2, .string s2, .slice b m2 cap2, .int .i64 tc2, .int .i64 tn2, .bool on2] 34) := by rw [← hW0]; exact (Below.heap_alloc _ _ _ (by simp)).trans (alloc_last _ _ _ (by simp))
  have hZ : W0.heap[w.heap.size + 2]? = some (Obj.cells #[.int .i64 0, .int .i64 0, .int .i64 0, .int .i64 0, .string ⟨#[]⟩, .slice none 0 0, .int .i64 0, .int .i64 0, .bool false] 34) := by rw [← hW0]; exact alloc_last _ _ _ (by simp)
  have hB0 : Below w.heap.size w W0 := by rw [← hW0]; exact (((Below.refl w.heap.size w).alloc (Nat.le_refl _) _).alloc (by simp) _).alloc (by simp; omega) _
  have alt : w.heap.size < W0.heap.size := (Array.getElem?_eq_some_iff.1 hX).1
  have blt : w.heap.size + 1 < W0.heap.size := (Array.getElem?_eq_some_iff.1 hY).1
  have zlt : w.heap.size + 2 < W0.heap.size := (Array.getElem?_eq_some_iff.1 hZ).1
  obtain ⟨ak0, ak1, ak2, ak3, ak4, ak5, ak6, ak7, ak8⟩ := box9 hX
  obtain ⟨bk0, bk1, bk2, bk3, bk4, bk5, bk6, bk7, bk8⟩ := box9 hY
  go_enter Tryz.func42, Tryz.ntmps42
  go_wp2_with fail
  have hcur : Below W0.heap.size W0 W0 := Below.refl _ _
  clear hW0
  go_region_held3 (fun W => W.cell? ⟨w.heap.size, 0, none⟩ = some (.int .i64 c) ∧ W.cell? ⟨w.heap.size, 1, none⟩ = some (.int .i64 n) ∧ W.cell? ⟨w.heap.size, 2, none⟩ = some (.int .i64 k) ∧ W.cell? ⟨w.heap.size, 3, none⟩ = some (.int .i64 p) ∧ W.cell? ⟨w.heap.size, 4, none⟩ = some (.string s) ∧ W.cell? ⟨w.heap.size, 5, none⟩ = some (.slice a m cap) ∧ W.cell? ⟨w.heap.size, 6, none⟩ = some (.int .i64 tc) ∧ W.cell? ⟨w.heap.size, 7, none⟩ = some (.int .i64 tn) ∧ W.cell? ⟨w.heap.size, 8, none⟩ = some (.bool on) ∧ W.cell? ⟨w.heap.size + 1, 0, none⟩ = some (.int .i64 c2) ∧ W.cell? ⟨w.heap.size + 1, 1, none⟩ = some (.int .i64 n2) ∧ W.cell? ⟨w.heap.size + 1, 2, none⟩ = some (.int .i64 k2) ∧ W.cell? ⟨w.heap.size + 1, 3, none⟩ = some (.int .i64 p2) ∧ W.cell? ⟨w.heap.size + 1, 4, none⟩ = some (.string s2) ∧ W.cell? ⟨w.heap.size + 1, 5, none⟩ = some (.slice b m2 cap2) ∧ W.cell? ⟨w.heap.size + 1, 6, none⟩ = some (.int .i64 tc2) ∧ W.cell? ⟨w.heap.size + 1, 7, none⟩ = some (.int .i64 tn2) ∧ W.cell? ⟨w.heap.size + 1, 8, none⟩ = some (.bool on2)) (first | exact ⟨ak0, ak1, ak2, ak3, ak4, ak5, ak6, ak7, ak8, bk0, bk1, bk2, bk3, bk4, bk5, bk6, bk7, bk8⟩ | exact ⟨ae0, ae1, ae2, ae3, ae4, ae5, ae6, ae7, ae8, be0, be1, be2, be3, be4, be5, be6, be7, be8⟩)
    (first
      | (go_at_call 44; refine (HW.out _ ?_).mono ?_; (first | exact hB0.trans (hcur.mono hB0.size) | exact hB0.trans (hcur.drew.mono hB0.size)); rintro e w1 ⟨rfl, hb1⟩; have hcur : Below W0.heap.size W0 w1 := (by first | exact hcur.trans (hb1.mono hcur.size) | exact hcur.drew.trans (hb1.mono hcur.size)); have ae0 := (hcur.cell (p := ⟨w.heap.size, 0, none⟩) alt).trans ak0; have ae1 := (hcur.cell (p := ⟨w.heap.size, 1, none⟩) alt).trans ak1; have ae2 := (hcur.cell (p := ⟨w.heap.size, 2, none⟩) alt).trans ak2; have ae3 := (hcur.cell (p := ⟨w.heap.size, 3, none⟩) alt).trans ak3; have ae4 := (hcur.cell (p := ⟨w.heap.size, 4, none⟩) alt).trans ak4; have ae5 := (hcur.cell (p := ⟨w.heap.size, 5, none⟩) alt).trans ak5; have ae6 := (hcur.cell (p := ⟨w.heap.size, 6, none⟩) alt).trans ak6; have ae7 := (hcur.cell (p := ⟨w.heap.size, 7, none⟩) alt).trans ak7; have ae8 := (hcur.cell (p := ⟨w.heap.size, 8, none⟩) alt).trans ak8; have be0 := (hcur.cell (p := ⟨w.heap.size + 1, 0, none⟩) blt).trans bk0; have be1 := (hcur.cell (p := ⟨w.heap.size + 1, 1, none⟩) blt).trans bk1; have be2 := (hcur.cell (p := ⟨w.heap.size + 1, 2, none⟩) blt).trans bk2; have be3 := (hcur.cell (p := ⟨w.heap.size + 1, 3, none⟩) blt).trans bk3; have be4 := (hcur.cell (p := ⟨w.heap.size + 1, 4, none⟩) blt).trans bk4; have be5 := (hcur.cell (p := ⟨w.heap.size + 1, 5, none⟩) blt).trans bk5; have be6 := (hcur.cell (p := ⟨w.heap.size + 1, 6, none⟩) blt).trans bk6; have be7 := (hcur.cell (p := ⟨w.heap.size + 1, 7, none⟩) blt).trans bk7; have be8 := (hcur.cell (p := ⟨w.heap.size + 1, 8, none⟩) blt).trans bk8)
      | (go_at_call 69; refine (HT.out _ ?_).mono ?_; (first | exact hB0.trans (hcur.mono hB0.size) | exact hB0.trans (hcur.drew.mono hB0.size)); have hcur0 := hcur; rintro e w1 ⟨va, vm, vc, rfl, HO, hb1⟩; have hcur : Below W0.heap.size W0 w1 := (by first | exact hcur.trans (hb1.mono hcur.size) | exact hcur.drew.trans (hb1.mono hcur.size)); have hO : OwnF rangeV 2 91 w1 W0.heap.size (.slice va vm vc) (if z = 0 then L else []) := (by first | exact HO.mono hcur0.size | exact HO.mono hcur0.drew.size); have ae0 := (hcur.cell (p := ⟨w.heap.size, 0, none⟩) alt).trans ak0; have ae1 := (hcur.cell (p := ⟨w.heap.size, 1, none⟩) alt).trans ak1; have ae2 := (hcur.cell (p := ⟨w.heap.size, 2, none⟩) alt).trans ak2; have ae3 := (hcur.cell (p := ⟨w.heap.size, 3, none⟩) alt).trans ak3; have ae4 := (hcur.cell (p := ⟨w.heap.size, 4, none⟩) alt).trans ak4; have ae5 := (hcur.cell (p := ⟨w.heap.size, 5, none⟩) alt).trans ak5; have ae6 := (hcur.cell (p := ⟨w.heap.size, 6, none⟩) alt).trans ak6; have ae7 := (hcur.cell (p := ⟨w.heap.size, 7, none⟩) alt).trans ak7; have ae8 := (hcur.cell (p := ⟨w.heap.size, 8, none⟩) alt).trans ak8; have be0 := (hcur.cell (p := ⟨w.heap.size + 1, 0, none⟩) blt).trans bk0; have be1 := (hcur.cell (p := ⟨w.heap.size + 1, 1, none⟩) blt).trans bk1; have be2 := (hcur.cell (p := ⟨w.heap.size + 1, 2, none⟩) blt).trans bk2; have be3 := (hcur.cell (p := ⟨w.heap.size + 1, 3, none⟩) blt).trans bk3; have be4 := (hcur.cell (p := ⟨w.heap.size + 1, 4, none⟩) blt).trans bk4; have be5 := (hcur.cell (p := ⟨w.heap.size + 1, 5, none⟩) blt).trans bk5; have be6 := (hcur.cell (p := ⟨w.heap.size + 1, 6, none⟩) blt).trans bk6; have be7 := (hcur.cell (p := ⟨w.heap.size + 1, 7, none⟩) blt).trans bk7; have be8 := (hcur.cell (p := ⟨w.heap.size + 1, 8, none⟩) blt).trans bk8))
  all_goals
    have hB1 := hB0.trans (hcur.mono hB0.size)
    have hX1 := (hcur.block _ alt).trans hX
    have hY1 := (hcur.block _ blt).trans hY
    have hZ1 := (hcur.block _ zlt).trans hZ
    clear HW HT hcur hX hY hZ hB0 alt blt
    first | clear HO hcur0 hb1 | skip
    obtain ⟨ak0, ak1, ak2, ak3, ak4, ak5, ak6, ak7, ak8⟩ := box9 hX1
    obtain ⟨az0, az1, az2, az3, az4, az5, az6, az7, az8⟩ := wr9 hX1
    by_cases hz : z = 0
    · subst hz
      rw [if_neg (by simp)] at hq
      subst hq
      rw [if_pos rfl] at hO
      have hB2 := hB1.setCell (p := ⟨w.heap.size, 5, none⟩) (Nat.le_refl _) (.slice va vm vc)
      have hZ2 : (w1.setCell ⟨w.heap.size, 5, none⟩ (.slice va vm vc)).heap[w.heap.size + 2]? = some (Obj.cells #[.int .i64 0, .int .i64 0, .int .i64 0, .int .i64 0, .string ⟨#[]⟩, .slice none 0 0, .int .i64 0, .int .i64 0, .bool false] 34) := (Below.heap_setCell _ _ _ _ (by simp)).trans hZ1
      have HO2 : Hid (OwnF rangeV 2 91 (w1.setCell ⟨w.heap.size, 5, none⟩ (.slice va vm vc)) W0.heap.size (.slice va vm vc) L) := (But.set _ _ _ _).own hO (by omega)
      clear hO
      obtain ⟨W9, e9, hx9, hB9, hK9⟩ := store9 hZ2 hB2 (by omega) (.int .i64 c) (.int .i64 n) (.int .i64 k) (.int .i64 p) (.string s) (.slice va vm vc) (.int .i64 tc) (.int .i64 tn) (.bool on)
      obtain ⟨d0, d1, d2, d3, d4, d5, d6, d7, d8⟩ := box9 hZ2
      obtain ⟨dz0, dz1, dz2, dz3, dz4, dz5, dz6, dz7, dz8⟩ := wr9 hZ2
      obtain ⟨r0, r1, r2, r3, r4, r5, r6, r7, r8⟩ := box9 hx9
      go_wp2_with fail
      try rw [e9]
      refine bodyPost_ret (v := .tuple #[.agg #[.int .i64 c, .int .i64 n, .int .i64 k, .int .i64 p, .string s, .slice va vm vc, .int .i64 tc, .int .i64 tn, .bool on], .int .i64 0]) (by simp [results, Tryz.results42, go_sem, r0, r1, r2, r3, r4, r5, r6, r7, r8]) rfl ⟨va, vm, vc, rfl, (hK9.own HO2.out (by omega)).mono (by omega), hB9⟩
    · rw [if_pos hz] at hq
      subst hq
      have t1 : (z == 0) = false := beq_eq_false_iff_ne.2 hz
      clear hO
      obtain ⟨W9, e9, hx9, hB9, hK9⟩ := store9 hZ1 hB1 (by omega) (.int .i64 0) (.int .i64 0) (.int .i64 0) (.int .i64 0) (.string ⟨#[]⟩) (.slice none 0 0) (.int .i64 0) (.int .i64 0) (.bool false)
      obtain ⟨d0, d1, d2, d3, d4, d5, d6, d7, d8⟩ := box9 hZ1
      obtain ⟨dz0, dz1, dz2, dz3, dz4, dz5, dz6, dz7, dz8⟩ := wr9 hZ1
      obtain ⟨r0, r1, r2, r3, r4, r5, r6, r7, r8⟩ := box9 hx9
      go_wp2_with fail
      try rw [e9]
      refine bodyPost_ret (v := .tuple #[.agg #[.int .i64 0, .int .i64 0, .int .i64 0, .int .i64 0, .string ⟨#[]⟩, .slice none 0 0, .int .i64 0, .int .i64 0, .bool false], .int .i64 z]) (by simp [results, Tryz.results42, go_sem, r0, r1, r2, r3, r4, r5, r6, r7, r8]) rfl ⟨none, 0, 0, rfl, ownF_nil _ _, hB9⟩
end Go.Proofs.YtmdnmhdimfglaaaGreatDoor

namespace Go.Proofs.YtmdnmhdimfglaaaGreatDoor
open Go.RowKit Go.Lib
set_option maxRecDepth 100000
theorem back_all {w : World} {a : Option Addr} {n cap : Nat} {l : List (Int × Int)} (h : Sp.Rng w a n cap l) (hl : Sp.Lst l) {at_ k : Int} (hp : (0 ≤ at_ ∧ at_ ≤ 1048576) ∧ (0 ≤ k ∧ k ≤ 1048576) ∧ at_ + k ≤ 1048576) :
    Calls Tryz.prog 80 #[.slice a n cap, .int .i64 at_, .int .i64 k] w fun e w' => ∃ va vm vc ia ic, e = .returned (.tuple #[.slice va vm vc, .slice ia (Sp.backInL l at_ k).length ic, .int .i64 0]) ∧ OwnF rangeV 2 91 w' w.heap.size (.slice va vm vc) (Sp.backOldL l at_ k) ∧ Below w.heap.size w w' := by
  refine (Sp.back_ok h hl hp).mono ?_
  rintro e w1 ⟨o, no, co, i, ni, ci, rfl, h1, h2, _, hb⟩
  obtain rfl := h2.rng.len
  exact ⟨_, _, _, _, _, rfl, own_of h1, hb⟩
set_option maxHeartbeats 4000000 in
theorem backFromInsert_any {o o2 : OpV} {a : Option Addr} {m cap : Nat} {b : Option Addr} {m2 cap2 : Nat} {w : World} (hR : Sp.Rng w a m cap o.l) (hl : Sp.Lst o.l) (hs : o2.s.size ≤ 9223372036854775807) (hw : Bar w) (hp : 0 ≤ o2.p ∧ o2.p ≤ 1048576) (hwd : 0 ≤ widthP o2 ∧ widthP o2 ≤ 1048576) (hsum : o2.p + widthP o2 ≤ 1048576) :
    Calls Tryz.prog 64 #[opVal o (.slice a m cap), opVal o2 (.slice b m2 cap2)] w fun e w' => ∃ va vm vc, e = .returned (.tuple #[opVal (backP o o2).1 (.slice va vm vc), .int .i64 (backP o o2).2]) ∧ OwnF rangeV 2 91 w' w.heap.size (.slice va vm vc) (backP o o2).1.l ∧ Below w.heap.size w w' := by
  have HW : Hid (∀ (W : World), Below w.heap.size w W → Calls Tryz.prog 44 #[opVal o2 (.slice b m2 cap2)] W fun e w' => e = .returned (.int .i64 (widthP o2)) ∧ Below W.heap.size W w') := fun W hb => width_any hs (hw.below hb)
  have HT : Hid (∀ (W : World), Below w.heap.size w W → Calls Tryz.prog 80 #[.slice a m cap, .int .i64 o2.p, .int .i64 (widthP o2)] W fun e w' => ∃ va vm vc ia ic, e = .returned (.tuple #[.slice va vm vc, .slice ia (Sp.backInL o.l o2.p (widthP o2)).length ic, .int .i64 0]) ∧ OwnF rangeV 2 91 w' W.heap.size (.slice va vm vc) (Sp.backOldL o.l o2.p (widthP o2)) ∧ Below W.heap.size W w') := fun W hb => back_all (hR.below hb) hl ⟨hp, hwd, hsum⟩
  obtain ⟨q, hq⟩ : ∃ q, backP o o2 = q := ⟨_, rfl⟩
  rw [hq]
  unfold backP at hq
  generalize Sp.backInL o.l o2.p (widthP o2) = I at *
  generalize Sp.backOldL o.l o2.p (widthP o2) = L at *
  generalize widthP o2 = wd at *
  have hIb : ∃ im, I.length = im := ⟨_, rfl⟩
  obtain ⟨im, him⟩ := hIb
  rw [him] at HT
  clear hR hl hs hw hp hwd hsum
  obtain ⟨c, n, k, p, s, l, tc, tn, on⟩ := o
  obtain ⟨c2, n2, k2, p2, s2, l2, tc2, tn2, on2⟩ := o2
  simp only [opVal] at *
  obtain ⟨W0, hW0⟩ : ∃ W0, ((w.alloc (Obj.cells #[.int .i64 c, .int .i64 n, .int .i64 k, .int .i64 p, .string s, .slice a m cap, .int .i64 tc, .int .i64 tn, .bool on] 34)).alloc (Obj.cells #[.int .i64 c2, .int .i64 n2, .int .i64 k2, .int .i64 p2, .string s2, .slice b m2 cap2, .int .i64 tc2, .int .i64 tn2, .bool on2] 34)).alloc (Obj.cells #[.int .i64 0, .int .i64 0, .int .i64 0, .int .i64 0, .string ⟨#[]⟩, .slice none 0 0, .int .i64 0, .int .i64 0, .bool false] 34) = W0 := ⟨_, rfl⟩
  have hX : W0.heap[w.heap.size]? = some (Obj.cells #[.int .i64 c, .int .i64 n, .int .i64 k, .int .i64 p, .string s, .slice a m cap, .int .i64 tc, .int .i64 tn, .bool on] 34) := by rw [← hW0]; exact (Below.heap_alloc _ _ _ (by simp; omega)).trans ((Below.heap_alloc _ _ _ (by simp)).trans (alloc_last _ _ _ rfl))
  have hY : W0.heap[w.heap.size + 1]? = some (Obj.cells #[.int .i64 c2, .int .i64 n2, .int .i64 k2, .int .i64 p2, .string s2, .slice b m2 cap2, .int .i64 tc2, .int .i64 tn2, .bool on2] 34) := by rw [← hW0]; exact (Below.heap_alloc _ _ _ (by simp)).trans (alloc_last _ _ _ (by simp))
  have hZ : W0.heap[w.heap.size + 2]? = some (Obj.cells #[.int .i64 0, .int .i64 0, .int .i64 0, .int .i64 0, .string ⟨#[]⟩, .slice none 0 0, .int .i64 0, .int .i64 0, .bool false] 34) := by rw [← hW0]; exact alloc_last _ _ _ (by simp)
  have hB0 : Below w.heap.size w W0 := by rw [← hW0]; exact (((Below.refl w.heap.size w).alloc (Nat.le_refl _) _).alloc (by simp) _).alloc (by simp; omega) _
  have alt : w.heap.size < W0.heap.size := (Array.getElem?_eq_some_iff.1 hX).1
  have blt : w.heap.size + 1 < W0.heap.size := (Array.getElem?_eq_some_iff.1 hY).1
  have zlt : w.heap.size + 2 < W0.heap.size := (Array.getElem?_eq_some_iff.1 hZ).1
  obtain ⟨ak0, ak1, ak2, ak3, ak4, ak5, ak6, ak7, ak8⟩ := box9 hX
  obtain ⟨bk0, bk1, bk2, bk3, bk4, bk5, bk6, bk7, bk8⟩ := box9 hY
  go_enter Tryz.func64, Tryz.ntmps64
  go_wp2_with fail
  have hcur : Below W0.heap.size W0 W0 := Below.refl _ _
  clear hW0
  go_region_held3 (fun W => W.cell? ⟨w.heap.size, 0, none⟩ = some (.int .i64 c) ∧ W.cell? ⟨w.heap.size, 1, none⟩ = some (.int .i64 n) ∧ W.cell? ⟨w.heap.size, 2, none⟩ = some (.int .i64 k) ∧ W.cell? ⟨w.heap.size, 3, none⟩ = some (.int .i64 p) ∧ W.cell? ⟨w.heap.size, 4, none⟩ = some (.string s) ∧ W.cell? ⟨w.heap.size, 5, none⟩ = some (.slice a m cap) ∧ W.cell? ⟨w.heap.size, 6, none⟩ = some (.int .i64 tc) ∧ W.cell? ⟨w.heap.size, 7, none⟩ = some (.int .i64 tn) ∧ W.cell? ⟨w.heap.size, 8, none⟩ = some (.bool on) ∧ W.cell? ⟨w.heap.size + 1, 0, none⟩ = some (.int .i64 c2) ∧ W.cell? ⟨w.heap.size + 1, 1, none⟩ = some (.int .i64 n2) ∧ W.cell? ⟨w.heap.size + 1, 2, none⟩ = some (.int .i64 k2) ∧ W.cell? ⟨w.heap.size + 1, 3, none⟩ = some (.int .i64 p2) ∧ W.cell? ⟨w.heap.size + 1, 4, none⟩ = some (.string s2) ∧ W.cell? ⟨w.heap.size + 1, 5, none⟩ = some (.slice b m2 cap2) ∧ W.cell? ⟨w.heap.size + 1, 6, none⟩ = some (.int .i64 tc2) ∧ W.cell? ⟨w.heap.size + 1, 7, none⟩ = some (.int .i64 tn2) ∧ W.cell? ⟨w.heap.size + 1, 8, none⟩ = some (.bool on2)) (first | exact ⟨ak0, ak1, ak2, ak3, ak4, ak5, ak6, ak7, ak8, bk0, bk1, bk2, bk3, bk4, bk5, bk6, bk7, bk8⟩ | exact ⟨ae0, ae1, ae2, ae3, ae4, ae5, ae6, ae7, ae8, be0, be1, be2, be3, be4, be5, be6, be7, be8⟩)
    (first
      | (go_at_call 44; refine (HW.out _ ?_).mono ?_; (first | exact hB0.trans (hcur.mono hB0.size) | exact hB0.trans (hcur.drew.mono hB0.size)); rintro e w1 ⟨rfl, hb1⟩; have hcur : Below W0.heap.size W0 w1 := (by first | exact hcur.trans (hb1.mono hcur.size) | exact hcur.drew.trans (hb1.mono hcur.size)); have ae0 := (hcur.cell (p := ⟨w.heap.size, 0, none⟩) alt).trans ak0; have ae1 := (hcur.cell (p := ⟨w.heap.size, 1, none⟩) alt).trans ak1; have ae2 := (hcur.cell (p := ⟨w.heap.size, 2, none⟩) alt).trans ak2; have ae3 := (hcur.cell (p := ⟨w.heap.size, 3, none⟩) alt).trans ak3; have ae4 := (hcur.cell (p := ⟨w.heap.size, 4, none⟩) alt).trans ak4; have ae5 := (hcur.cell (p := ⟨w.heap.size, 5, none⟩) alt).trans ak5; have ae6 := (hcur.cell (p := ⟨w.heap.size, 6, none⟩) alt).trans ak6; have ae7 := (hcur.cell (p := ⟨w.heap.size, 7, none⟩) alt).trans ak7; have ae8 := (hcur.cell (p := ⟨w.heap.size, 8, none⟩) alt).trans ak8; have be0 := (hcur.cell (p := ⟨w.heap.size + 1, 0, none⟩) blt).trans bk0; have be1 := (hcur.cell (p := ⟨w.heap.size + 1, 1, none⟩) blt).trans bk1; have be2 := (hcur.cell (p := ⟨w.heap.size + 1, 2, none⟩) blt).trans bk2; have be3 := (hcur.cell (p := ⟨w.heap.size + 1, 3, none⟩) blt).trans bk3; have be4 := (hcur.cell (p := ⟨w.heap.size + 1, 4, none⟩) blt).trans bk4; have be5 := (hcur.cell (p := ⟨w.heap.size + 1, 5, none⟩) blt).trans bk5; have be6 := (hcur.cell (p := ⟨w.heap.size + 1, 6, none⟩) blt).trans bk6; have be7 := (hcur.cell (p := ⟨w.heap.size + 1, 7, none⟩) blt).trans bk7; have be8 := (hcur.cell (p := ⟨w.heap.size + 1, 8, none⟩) blt).trans bk8)
      | (go_at_call 80; refine (HT.out _ ?_).mono ?_; (first | exact hB0.trans (hcur.mono hB0.size) | exact hB0.trans (hcur.drew.mono hB0.size)); have hcur0 := hcur; rintro e w1 ⟨va, vm, vc, ia, ic, rfl, HO, hb1⟩; have hcur : Below W0.heap.size W0 w1 := (by first | exact hcur.trans (hb1.mono hcur.size) | exact hcur.drew.trans (hb1.mono hcur.size)); have hO : OwnF rangeV 2 91 w1 W0.heap.size (.slice va vm vc) L := (by first | exact HO.mono hcur0.size | exact HO.mono hcur0.drew.size); have ae0 := (hcur.cell (p := ⟨w.heap.size, 0, none⟩) alt).trans ak0; have ae1 := (hcur.cell (p := ⟨w.heap.size, 1, none⟩) alt).trans ak1; have ae2 := (hcur.cell (p := ⟨w.heap.size, 2, none⟩) alt).trans ak2; have ae3 := (hcur.cell (p := ⟨w.heap.size, 3, none⟩) alt).trans ak3; have ae4 := (hcur.cell (p := ⟨w.heap.size, 4, none⟩) alt).trans ak4; have ae5 := (hcur.cell (p := ⟨w.heap.size, 5, none⟩) alt).trans ak5; have ae6 := (hcur.cell (p := ⟨w.heap.size, 6, none⟩) alt).trans ak6; have ae7 := (hcur.cell (p := ⟨w.heap.size, 7, none⟩) alt).trans ak7; have ae8 := (hcur.cell (p := ⟨w.heap.size, 8, none⟩) alt).trans ak8; have be0 := (hcur.cell (p := ⟨w.heap.size + 1, 0, none⟩) blt).trans bk0; have be1 := (hcur.cell (p := ⟨w.heap.size + 1, 1, none⟩) blt).trans bk1; have be2 := (hcur.cell (p := ⟨w.heap.size + 1, 2, none⟩) blt).trans bk2; have be3 := (hcur.cell (p := ⟨w.heap.size + 1, 3, none⟩) blt).trans bk3; have be4 := (hcur.cell (p := ⟨w.heap.size + 1, 4, none⟩) blt).trans bk4; have be5 := (hcur.cell (p := ⟨w.heap.size + 1, 5, none⟩) blt).trans bk5; have be6 := (hcur.cell (p := ⟨w.heap.size + 1, 6, none⟩) blt).trans bk6; have be7 := (hcur.cell (p := ⟨w.heap.size + 1, 7, none⟩) blt).trans bk7; have be8 := (hcur.cell (p := ⟨w.heap.size + 1, 8, none⟩) blt).trans bk8))
  all_goals
    have hB1 := hB0.trans (hcur.mono hB0.size)
    have hX1 := (hcur.block _ alt).trans hX
    have hY1 := (hcur.block _ blt).trans hY
    have hZ1 := (hcur.block _ zlt).trans hZ
    clear HW HT hcur hX hY hZ hB0 alt blt
    first | clear HO hcur0 hb1 | skip
    obtain ⟨ak0, ak1, ak2, ak3, ak4, ak5, ak6, ak7, ak8⟩ := box9 hX1
    obtain ⟨az0, az1, az2, az3, az4, az5, az6, az7, az8⟩ := wr9 hX1
    by_cases hz : I = []
    · subst hz
      obtain rfl : im = 0 := him.symm
      rw [if_neg (by simp)] at hq
      subst hq
      have hB2 := hB1.setCell (p := ⟨w.heap.size, 5, none⟩) (Nat.le_refl _) (.slice va vm vc)
      have hZ2 : (w1.setCell ⟨w.heap.size, 5, none⟩ (.slice va vm vc)).heap[w.heap.size + 2]? = some (Obj.cells #[.int .i64 0, .int .i64 0, .int .i64 0, .int .i64 0, .string ⟨#[]⟩, .slice none 0 0, .int .i64 0, .int .i64 0, .bool false] 34) := (Below.heap_setCell _ _ _ _ (by simp)).trans hZ1
      have HO2 : Hid (OwnF rangeV 2 91 (w1.setCell ⟨w.heap.size, 5, none⟩ (.slice va vm vc)) W0.heap.size (.slice va vm vc) L) := (But.set _ _ _ _).own hO (by omega)
      clear hO
      obtain ⟨W9, e9, hx9, hB9, hK9⟩ := store9 hZ2 hB2 (by omega) (.int .i64 c) (.int .i64 n) (.int .i64 k) (.int .i64 p) (.string s) (.slice va vm vc) (.int .i64 tc) (.int .i64 tn) (.bool on)
      obtain ⟨d0, d1, d2, d3, d4, d5, d6, d7, d8⟩ := box9 hZ2
      obtain ⟨dz0, dz1, dz2, dz3, dz4, dz5, dz6, dz7, dz8⟩ := wr9 hZ2
      obtain ⟨r0, r1, r2, r3, r4, r5, r6, r7, r8⟩ := box9 hx9
      go_wp2_with fail
      try rw [e9]
      refine bodyPost_ret (v := .tuple #[.agg #[.int .i64 c, .int .i64 n, .int .i64 k, .int .i64 p, .string s, .slice va vm vc, .int .i64 tc, .int .i64 tn, .bool on], .int .i64 0]) (by simp [results, Tryz.results64, go_sem, r0, r1, r2, r3, r4, r5, r6, r7, r8]) rfl ⟨va, vm, vc, rfl, (hK9.own HO2.out (by omega)).mono (by omega), hB9⟩
    · rw [if_pos hz] at hq
      subst hq
      obtain ⟨i, rfl⟩ : ∃ i, im = i + 1 := ⟨im - 1, by have := List.length_pos_iff.2 hz; omega⟩
      have t1 : (0 : Int) < ((i + 1 : Nat) : Int) := by omega
      clear hO him hz
      obtain ⟨W9, e9, hx9, hB9, hK9⟩ := store9 hZ1 hB1 (by omega) (.int .i64 0) (.int .i64 0) (.int .i64 0) (.int .i64 0) (.string ⟨#[]⟩) (.slice none 0 0) (.int .i64 0) (.int .i64 0) (.bool false)
      obtain ⟨d0, d1, d2, d3, d4, d5, d6, d7, d8⟩ := box9 hZ1
      obtain ⟨dz0, dz1, dz2, dz3, dz4, dz5, dz6, dz7, dz8⟩ := wr9 hZ1
      obtain ⟨r0, r1, r2, r3, r4, r5, r6, r7, r8⟩ := box9 hx9
      go_wp2_with fail
      try rw [e9]
      refine bodyPost_ret (v := .tuple #[.agg #[.int .i64 0, .int .i64 0, .int .i64 0, .int .i64 0, .string ⟨#[]⟩, .slice none 0 0, .int .i64 0, .int .i64 0, .bool false], .int .i64 23]) (by simp [results, Tryz.results64, go_sem, r0, r1, r2, r3, r4, r5, r6, r7, r8]) rfl ⟨none, 0, 0, rfl, ownF_nil _ _, hB9⟩
set_option maxHeartbeats 4000000 in
theorem outOfInsert_any {o o2 : OpV} {a : Option Addr} {m cap : Nat} {b : Option Addr} {m2 cap2 : Nat} {w : World} (hs : o2.s.size ≤ 9223372036854775807) (hw : Bar w) (hp0 : 0 ≤ o.p ∧ o.p ≤ 1048576) (hp : 0 ≤ o2.p ∧ o2.p ≤ 1048576) (hwd : 0 ≤ widthP o2 ∧ widthP o2 ≤ 1048576) :
    Calls Tryz.prog 65 #[opVal o (.slice a m cap), opVal o2 (.slice b m2 cap2)] w fun e w' => ∃ va vm vc, e = .returned (.tuple #[opVal (outP o o2).1 (.slice va vm vc), .int .i64 (outP o o2).2]) ∧ Src (.slice a m cap) o.l w w' (.slice va vm vc) (outP o o2).1.l ∧ Below w.heap.size w w' := by
  have HW : Hid (∀ (W : World), Below w.heap.size w W → Calls Tryz.prog 44 #[opVal o2 (.slice b m2 cap2)] W fun e w' => e = .returned (.int .i64 (widthP o2)) ∧ Below W.heap.size W w') := fun W hb => width_any hs (hw.below hb)
  obtain ⟨q, hq⟩ : ∃ q, outP o o2 = q := ⟨_, rfl⟩
  rw [hq]
  unfold outP at hq
  generalize widthP o2 = wd at *
  clear hs hw
  obtain ⟨c, n, k, p, s, l, tc, tn, on⟩ := o
  obtain ⟨c2, n2, k2, p2, s2, l2, tc2, tn2, on2⟩ := o2
  simp only [opVal] at *
  obtain ⟨hp0a, hp0b⟩ := hp0
  obtain ⟨hpa, hpb⟩ := hp
  obtain ⟨hwa, hwb⟩ := hwd
  have e1 : IntKind.i64.wrap (p2 + wd) = p2 + wd := IntWalk.i64_in _ (by omega)
  have e2 : IntKind.i64.wrap (p - wd) = p - wd := IntWalk.i64_in _ (by omega)
  obtain ⟨W0, hW0⟩ : ∃ W0, ((w.alloc (Obj.cells #[.int .i64 c, .int .i64 n, .int .i64 k, .int .i64 p, .string s, .slice a m cap, .int .i64 tc, .int .i64 tn, .bool on] 34)).alloc (Obj.cells #[.int .i64 c2, .int .i64 n2, .int .i64 k2, .int .i64 p2, .string s2, .slice b m2 cap2, .int .i64 tc2, .int .i64 tn2, .bool on2] 34)).alloc (Obj.cells #[.int .i64 0, .int .i64 0, .int .i64 0, .int .i64 0, .string ⟨#[]⟩, .slice none 0 0, .int .i64 0, .int .i64 0, .bool false] 34) = W0 := ⟨_, rfl⟩
  have hX : W0.heap[w.heap.size]? = some (Obj.cells #[.int .i64 c, .int .i64 n, .int .i64 k, .int .i64 p, .string s, .slice a m cap, .int .i64 tc, .int .i64 tn, .bool on] 34) := by rw [← hW0]; exact (Below.heap_alloc _ _ _ (by simp; omega)).trans ((Below.heap_alloc _ _ _ (by simp)).trans (alloc_last _ _ _ rfl))
  have hY : W0.heap[w.heap.size + 1]? = some (Obj.cells #[.int .i64 c2, .int .i64 n2, .int .i64 k2, .int .i64 p2, .string s2, .slice b m2 cap2, .int .i64 tc2, .int .i64 tn2, .bool on2] 34) := by rw [← hW0]; exact (Below.heap_alloc _ _ _ (by simp)).trans (alloc_last _ _ _ (by simp))
  have hZ : W0.heap[w.heap.size + 2]? = some (Obj.cells #[.int .i64 0, .int .i64 0, .int .i64 0, .int .i64 0, .string ⟨#[]⟩, .slice none 0 0, .int .i64 0, .int .i64 0, .bool false] 34) := by rw [← hW0]; exact alloc_last _ _ _ (by simp)
  have hB0 : Below w.heap.size w W0 := by rw [← hW0]; exact (((Below.refl w.heap.size w).alloc (Nat.le_refl _) _).alloc (by simp) _).alloc (by simp; omega) _
  have alt : w.heap.size < W0.heap.size := (Array.getElem?_eq_some_iff.1 hX).1
  have blt : w.heap.size + 1 < W0.heap.size := (Array.getElem?_eq_some_iff.1 hY).1
  have zlt : w.heap.size + 2 < W0.heap.size := (Array.getElem?_eq_some_iff.1 hZ).1
  obtain ⟨ak0, ak1, ak2, ak3, ak4, ak5, ak6, ak7, ak8⟩ := box9 hX
  obtain ⟨bk0, bk1, bk2, bk3, bk4, bk5, bk6, bk7, bk8⟩ := box9 hY
  go_enter Tryz.func65, Tryz.ntmps65
  go_wp2_with fail
  refine (HW.out _ hB0).mono ?_
  rintro e w1 ⟨rfl, hcur⟩
  have hB1 := hB0.trans (hcur.mono hB0.size)
  have hX1 := (hcur.block _ alt).trans hX
  have hY1 := (hcur.block _ blt).trans hY
  have hZ1 := (hcur.block _ zlt).trans hZ
  clear HW hcur hX hY hZ hB0 alt blt hW0 ak0 ak1 ak2 ak3 ak4 ak5 ak6 ak7 ak8 bk0 bk1 bk2 bk3 bk4 bk5 bk6 bk7 bk8
  obtain ⟨ak0, ak1, ak2, ak3, ak4, ak5, ak6, ak7, ak8⟩ := box9 hX1
  obtain ⟨bk0, bk1, bk2, bk3, bk4, bk5, bk6, bk7, bk8⟩ := box9 hY1
  obtain ⟨az0, az1, az2, az3, az4, az5, az6, az7, az8⟩ := wr9 hX1
  by_cases h1 : p2 + wd ≤ p
  · rw [if_pos h1] at hq
    subst hq
    have hB2 := hB1.setCell (p := ⟨w.heap.size, 3, none⟩) (Nat.le_refl _) (.int .i64 (p - wd))
    have hZ2 : (w1.setCell ⟨w.heap.size, 3, none⟩ (.int .i64 (p - wd))).heap[w.heap.size + 2]? = some (Obj.cells #[.int .i64 0, .int .i64 0, .int .i64 0, .int .i64 0, .string ⟨#[]⟩, .slice none 0 0, .int .i64 0, .int .i64 0, .bool false] 34) := (Below.heap_setCell _ _ _ _ (by simp)).trans hZ1
    obtain ⟨W9, e9, hx9, hB9, hK9⟩ := store9 hZ2 hB2 (by omega) (.int .i64 c) (.int .i64 n) (.int .i64 k) (.int .i64 (p - wd)) (.string s) (.slice a m cap) (.int .i64 tc) (.int .i64 tn) (.bool on)
    obtain ⟨d0, d1, d2, d3, d4, d5, d6, d7, d8⟩ := box9 hZ2
    obtain ⟨dz0, dz1, dz2, dz3, dz4, dz5, dz6, dz7, dz8⟩ := wr9 hZ2
    obtain ⟨r0, r1, r2, r3, r4, r5, r6, r7, r8⟩ := box9 hx9
    go_wp2_with fail
    try rw [e9]
    refine bodyPost_ret (v := .tuple #[.agg #[.int .i64 c, .int .i64 n, .int .i64 k, .int .i64 (p - wd), .string s, .slice a m cap, .int .i64 tc, .int .i64 tn, .bool on], .int .i64 0]) (by simp [results, Tryz.results65, go_sem, r0, r1, r2, r3, r4, r5, r6, r7, r8]) rfl ⟨a, m, cap, rfl, src_same _ _ _ _, hB9⟩
  · rw [if_neg h1] at hq
    have t0 : decide (p2 + wd ≤ p) = false := decide_eq_false h1
    by_cases h2 : p2 < p
    · rw [if_pos h2] at hq
      subst hq
      obtain ⟨W9, e9, hx9, hB9, hK9⟩ := store9 hZ1 hB1 (by omega) (.int .i64 0) (.int .i64 0) (.int .i64 0) (.int .i64 0) (.string ⟨#[]⟩) (.slice none 0 0) (.int .i64 0) (.int .i64 0) (.bool false)
      obtain ⟨d0, d1, d2, d3, d4, d5, d6, d7, d8⟩ := box9 hZ1
      obtain ⟨dz0, dz1, dz2, dz3, dz4, dz5, dz6, dz7, dz8⟩ := wr9 hZ1
      obtain ⟨r0, r1, r2, r3, r4, r5, r6, r7, r8⟩ := box9 hx9
      go_wp2_with fail
      try rw [e9]
      refine bodyPost_ret (v := .tuple #[.agg #[.int .i64 0, .int .i64 0, .int .i64 0, .int .i64 0, .string ⟨#[]⟩, .slice none 0 0, .int .i64 0, .int .i64 0, .bool false], .int .i64 23]) (by simp [results, Tryz.results65, go_sem, r0, r1, r2, r3, r4, r5, r6, r7, r8]) rfl ⟨none, 0, 0, rfl, src_nil _ _ _ _, hB9⟩
    · rw [if_neg h2] at hq
      subst hq
      have t2 : decide (p2 < p) = false := decide_eq_false h2
      obtain ⟨W9, e9, hx9, hB9, hK9⟩ := store9 hZ1 hB1 (by omega) (.int .i64 c) (.int .i64 n) (.int .i64 k) (.int .i64 p) (.string s) (.slice a m cap) (.int .i64 tc) (.int .i64 tn) (.bool on)
      obtain ⟨d0, d1, d2, d3, d4, d5, d6, d7, d8⟩ := box9 hZ1
      obtain ⟨dz0, dz1, dz2, dz3, dz4, dz5, dz6, dz7, dz8⟩ := wr9 hZ1
      obtain ⟨r0, r1, r2, r3, r4, r5, r6, r7, r8⟩ := box9 hx9
      go_wp2_with fail
      try rw [e9]
      refine bodyPost_ret (v := .tuple #[.agg #[.int .i64 c, .int .i64 n, .int .i64 k, .int .i64 p, .string s, .slice a m cap, .int .i64 tc, .int .i64 tn, .bool on], .int .i64 0]) (by simp [results, Tryz.results65, go_sem, r0, r1, r2, r3, r4, r5, r6, r7, r8]) rfl ⟨a, m, cap, rfl, src_same _ _ _ _, hB9⟩
end Go.Proofs.YtmdnmhdimfglaaaGreatDoor
