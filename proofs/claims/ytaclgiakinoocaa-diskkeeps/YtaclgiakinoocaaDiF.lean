import Derived.Test.YtaclgiakinoocaaDiE
import Derived.Test.YtaclgiakinoocaaDgG
/-! enters of a Cut, of a Turn. -/
namespace Go.Proofs.Ytaclgiakinoocaa
open Go.RowKit Go.Lib
set_option maxRecDepth 100000

theorem own_like {W : World} {B : Nat} {v : Value} {l1 l2 : List Pg} (h : OwnF pgV 3 95 W B v l1) (he : flatF pgV l2 = flatF pgV l1) (hl : l2.length = l1.length) : OwnF pgV 3 95 W B v l2 := by
  unfold OwnF at *
  rw [he, hl]
  exact h
variable {w : World} {k B : Nat} {v : Value} {ps : List Pg}
variable {nm : List UInt8} {ba : Option Addr} {bn bc : Nat} {N M E An Am : Int} {a1 a2 : Option Addr} {n1 c1 n2 c2 : Nat} {dn : Bool}
set_option maxHeartbeats 4000000 in
theorem enters_cut {l t : List Pg} {x : Pg} (h : BkAt w k B v (l ++ x :: t)) (hB : B ≤ w.heap.size) (hn : (l ++ x :: t).length ≤ 4398046511104) (hl : ∀ y ∈ l, y.nm ≠ nm) (hx : x.nm = nm) {nN : Nat} (hN : nN ≤ x.bs.length) (hs : x.bs.length ≤ 1099511627776) :
    Calls Try.prog 27 #[.pointer (some ⟨k, 0, none⟩), .agg #[.int .i64 3, .string ⟨nm.toArray⟩, .slice ba bn bc, .int .i64 (nN : Int), .int .i64 M], .agg #[.int .i64 E, .int .i64 An, .int .i64 Am, .slice a1 n1 c1, .slice a2 n2 c2, .bool dn]] w fun e w' => e = .returned (.bool true) ∧ WroteP w w' k B v (l ++ x :: t) l t nm (x.bs.take nN) (min x.syn nN) := by
  obtain ⟨W1, W2, hW1, hW2, hbW, hs1, hp, hq⟩ := ebox w #[.int .i64 3, .string ⟨nm.toArray⟩, .slice ba bn bc, .int .i64 (nN : Int), .int .i64 M] #[.int .i64 E, .int .i64 An, .int .i64 Am, .slice a1 n1 c1, .slice a2 n2 c2, .bool dn]
  obtain ⟨p0, p1, p2, p3, p4⟩ := box5 hp
  obtain ⟨r0, r1, r2, r3, r4, r5⟩ := box6 hq
  have HB2 : Hid (Below w.heap.size w W2) := hbW
  replace h := h.below hbW
  have HPG : Hid (Calls Try.prog 50 #[.pointer (some ⟨k, 0, none⟩), .string ⟨nm.toArray⟩] W2 fun e w' => e = .returned (.int .i64 (l.length : Int)) ∧ w' = W2) := by have := page_any h hn nm; rwa [pgI_hit hx hl] at this
  obtain ⟨g, cc, cur, hv, hcur, hkg⟩ := h.at_
  have d1 := box1 h.box
  rw [hv] at d1
  have gl : (l.length : Int) < ((l ++ x :: t).length : Int) := by simp; omega
  have o1 := h.cell hv 1 rfl
  have HX : Hid (BkAt W2 k B v (l ++ x :: t) ∧ v = .slice (some ⟨g, 0, none⟩) (l ++ x :: t).length cc ∧ W2.heap[g]? = some (.cells cur 95) ∧ B ≤ W2.heap.size ∧ nN ≤ x.bs.length ∧ x.nm = nm ∧ x.bs.length ≤ 1099511627776) := ⟨h, hv, hcur, Nat.le_trans hB hbW.size, hN, hx, hs⟩
  have HNE : Hid (w.heap.size ≠ g ∧ w.heap.size < W2.heap.size) := ⟨fun e => by rw [e, hcur] at hp; simp at hp, (Array.getElem?_eq_some_iff.1 hp).1⟩
  have HL : Hid ((x.bs.take nN).length = nN) := by show _ = _; rw [List.length_take]; omega
  have hcut : ∀ W, (Instr.slice 22 (.slice x.a x.bs.length x.cap) none (some (.int .i64 (nN : Int))) none).run Try.prog W = .ok (.slice x.a nN x.cap) W := fun W => cutU W x.a _ x.cap nN (by have := ((h.each x (by simp)).rw_ layU).room; omega)
  have HMN : ∀ ats ty W, (Builtin.min_ ats ty #[.int .i64 (x.syn : Int), .int .i64 (nN : Int)]).run Try.prog W = .ok (.int .i64 ((min x.syn nN : Nat) : Int)) W := fun ats ty W => by
    rw [min_run]; congr 2; omega
  have HCE : Hid (∀ V, Below W2.heap.size W2 V → V.cell? ⟨w.heap.size, 3, none⟩ = some (.int .i64 (nN : Int)) ∧ V.cell? ⟨k, 0, none⟩ = some (.slice (some ⟨g, 0, none⟩) (l ++ x :: t).length cc) ∧ V.cell? ⟨g, l.length * 3 + 1, none⟩ = some (.slice x.a x.bs.length x.cap) ∧ V.cell? ⟨g, l.length * 3 + 2, none⟩ = some (.int .i64 (x.syn : Int))) := fun V hV => by
    have hb := h.below hV
    refine ⟨(hV.cell (p := ⟨w.heap.size, 3, none⟩) (Array.getElem?_eq_some_iff.1 hp).1).trans p3, ?_, hb.cell hv 1 rfl, hb.cell hv 2 rfl⟩
    rw [box1 hb.box, hv]
  have g1 : ¬ ((nN : Int) < 0) := by omega
  have g2 : ¬ ((x.bs.length : Int) < (nN : Int)) := by omega
  clear h hn hl hx hB hv hcur hkg  hp hq p2 r2 r3 r4 r5 hbW
  obtain ⟨n, hn⟩ : ∃ n, (l ++ x :: t).length = n := ⟨_, rfl⟩
  rw [hn] at d1 gl HCE
  have HN : Hid ((l ++ x :: t).length = n) := hn
  clear hn
  obtain ⟨m, hm⟩ : ∃ m, l.length = m := ⟨_, rfl⟩
  rw [hm] at HPG o1 gl HCE
  have HM : Hid (l.length = m) := hm
  clear hm
  have gm : ¬ ((m : Int) < 0) := by omega
  go_enter Try.func27, Try.ntmps27
  go_wp2_with fail
  clear hW1 hW2 hs1
  refine HPG.out.mono ?_
  rintro e wz ⟨rfl, hz⟩
  rw [hz]
  clear hz wz
  go_wp2_with fail
  refine wp_region_held_drew (S := (fun W => W.cell? ⟨w.heap.size, 3, none⟩ = some (.int .i64 (nN : Int)) ∧ W.cell? ⟨k, 0, none⟩ = some (.slice (some ⟨g, 0, none⟩) n cc) ∧ W.cell? ⟨g, m * 3 + 1, none⟩ = some (.slice x.a x.bs.length x.cap) ∧ W.cell? ⟨g, m * 3 + 2, none⟩ = some (.int .i64 (x.syn : Int)))) (by kernel_rfl) ?hS1 (fun hHeld => ?rest1)
  case hS1 => exact HCE.out _ ((Below.refl _ _).drew)
  refine takeD (i := 0) (d := some 89) (v := ?vT2) rfl rfl (by kernel_rfl) (by kernel_rfl) (by kernel_rfl) (fun _ _ _ h => h) (Or.inl ⟨by rfl, ?hyT2⟩) (by assumption) ?rstT2
  case hyT2 => (intro w hSw; (try dsimp only at hSw); go_simp; (try with_reducible rfl))
  try simp only [Act.put, List.setIfInBounds_toArray, List.set_cons_zero, List.set_cons_succ]
  refine takeD (i := 1) (d := some 90) (v := ?vT3) rfl rfl (by kernel_rfl) (by kernel_rfl) (by kernel_rfl) (fun _ _ _ h => h) (Or.inl ⟨by rfl, ?hyT3⟩) (by assumption) ?rstT3
  case hyT3 => (intro w hSw; (try dsimp only at hSw); go_simp; (try with_reducible rfl))
  try simp only [Act.put, List.setIfInBounds_toArray, List.set_cons_zero, List.set_cons_succ]
  refine takeD (i := 2) (d := some 91) (v := ?vT4) rfl rfl (by kernel_rfl) (by kernel_rfl) (by kernel_rfl) (fun _ _ _ h => h) (Or.inl ⟨by rfl, ?hyT4⟩) (by assumption) ?rstT4
  case hyT4 => (intro w hSw; (try dsimp only at hSw); go_simp; (try with_reducible rfl))
  try simp only [Act.put, List.setIfInBounds_toArray, List.set_cons_zero, List.set_cons_succ]
  refine takeD (i := 3) (d := some 92) (v := ?vT5) rfl rfl (by kernel_rfl) (by kernel_rfl) (by kernel_rfl) (fun _ _ _ h => h) (Or.inl ⟨by rfl, ?hyT5⟩) (by assumption) ?rstT5
  case hyT5 => (intro w hSw; (try dsimp only at hSw); go_simp; (try with_reducible rfl))
  try simp only [Act.put, List.setIfInBounds_toArray, List.set_cons_zero, List.set_cons_succ]
  refine takeD (i := 4) (d := some 93) (v := ?vT6) rfl rfl (by kernel_rfl) (by kernel_rfl) (by kernel_rfl) (fun _ _ _ h => h) (Or.inl ⟨by rfl, ?hyT6⟩) (by assumption) ?rstT6
  case hyT6 => (intro w hSw; (try dsimp only at hSw); go_simp; (try with_reducible rfl))
  try simp only [Act.put, List.setIfInBounds_toArray, List.set_cons_zero, List.set_cons_succ]
  refine takeD (i := 5) (d := some 94) (v := ?vT7) rfl rfl (by kernel_rfl) (by kernel_rfl) (by kernel_rfl) (fun _ _ _ h => h) (Or.inl ⟨by rfl, ?hyT7⟩) (by assumption) ?rstT7
  case hyT7 => (intro w hSw; (try dsimp only at hSw); go_simp; (try with_reducible rfl))
  try simp only [Act.put, List.setIfInBounds_toArray, List.set_cons_zero, List.set_cons_succ]
  refine takeD (i := 6) (d := some 95) (v := ?vT8) rfl rfl (by kernel_rfl) (by kernel_rfl) (by kernel_rfl) (fun _ _ _ h => h) (Or.inl ⟨by rfl, ?hyT8⟩) (by assumption) ?rstT8
  case hyT8 => (intro w hSw; (try dsimp only at hSw); go_simp; (try with_reducible rfl))
  try simp only [Act.put, List.setIfInBounds_toArray, List.set_cons_zero, List.set_cons_succ]
  refine takeD (i := 7) (d := some 96) (v := ?vT9) rfl rfl (by kernel_rfl) (by kernel_rfl) (by kernel_rfl) (fun _ _ _ h => h) (Or.inl ⟨by rfl, ?hyT9⟩) (by assumption) ?rstT9
  case hyT9 => (intro w hSw; (try dsimp only at hSw); go_simp; (try with_reducible rfl))
  try simp only [Act.put, List.setIfInBounds_toArray, List.set_cons_zero, List.set_cons_succ]
  refine takeD (i := 8) (d := some 97) (v := ?vT10) rfl rfl (by kernel_rfl) (by kernel_rfl) (by kernel_rfl) (fun _ _ _ h => h) (Or.inl ⟨by rfl, ?hyT10⟩) (by assumption) ?rstT10
  case hyT10 => (intro w hSw; (try dsimp only at hSw); go_simp; (try with_reducible rfl))
  try simp only [Act.put, List.setIfInBounds_toArray, List.set_cons_zero, List.set_cons_succ]
  refine takeD (i := 9) (d := some 98) (v := ?vT11) rfl rfl (by kernel_rfl) (by kernel_rfl) (by kernel_rfl) (fun _ _ _ h => h) (Or.inl ⟨by rfl, ?hyT11⟩) (by assumption) ?rstT11
  case hyT11 => (intro w hSw; (try dsimp only at hSw); go_simp; (try with_reducible rfl))
  try simp only [Act.put, List.setIfInBounds_toArray, List.set_cons_zero, List.set_cons_succ]
  refine takeD (i := 10) (d := some 99) (v := ?vT12) rfl rfl (by kernel_rfl) (by kernel_rfl) (by kernel_rfl) (fun _ _ _ h => h) (Or.inl ⟨by rfl, ?hyT12⟩) (by assumption) ?rstT12
  case hyT12 => (intro w hSw; (try dsimp only at hSw); go_simp; (try with_reducible rfl))
  try simp only [Act.put, List.setIfInBounds_toArray, List.set_cons_zero, List.set_cons_succ]
  refine takeD (i := 11) (d := some 100) (v := ?vT13) rfl rfl (by kernel_rfl) (by kernel_rfl) (by kernel_rfl) (fun _ _ _ h => h) (Or.inl ⟨by rfl, ?hyT13⟩) (by assumption) ?rstT13
  case hyT13 => (intro w hSw; (try dsimp only at hSw); go_simp; (try with_reducible rfl))
  try simp only [Act.put, List.setIfInBounds_toArray, List.set_cons_zero, List.set_cons_succ]
  refine takeD (i := 12) (d := some 101) (v := ?vT14) rfl rfl (by kernel_rfl) (by kernel_rfl) (by kernel_rfl) (fun _ _ _ h => h) (Or.inl ⟨by rfl, ?hyT14⟩) (by assumption) ?rstT14
  case hyT14 => (intro w hSw; (try dsimp only at hSw); go_simp; (try with_reducible rfl))
  try simp only [Act.put, List.setIfInBounds_toArray, List.set_cons_zero, List.set_cons_succ]
  refine takeD (i := 13) (d := some 102) (v := ?vT15) rfl rfl (by kernel_rfl) (by kernel_rfl) (by kernel_rfl) (fun _ _ _ h => h) (Or.inl ⟨by rfl, ?hyT15⟩) (by assumption) ?rstT15
  case hyT15 => (intro w hSw; (try dsimp only at hSw); go_simp; (try with_reducible rfl))
  try simp only [Act.put, List.setIfInBounds_toArray, List.set_cons_zero, List.set_cons_succ]
  refine takeD (i := 14) (d := some 103) (v := ?vT16) rfl rfl (by kernel_rfl) (by kernel_rfl) (by kernel_rfl) (fun _ _ _ h => h) (Or.inl ⟨by rfl, ?hyT16⟩) (by assumption) ?rstT16
  case hyT16 => (intro w hSw; (try dsimp only at hSw); go_simp; (try with_reducible rfl))
  try simp only [Act.put, List.setIfInBounds_toArray, List.set_cons_zero, List.set_cons_succ]
  refine takeD (i := 15) (d := some 104) (v := ?vT17) rfl rfl (by kernel_rfl) (by kernel_rfl) (by kernel_rfl) (fun _ _ _ h => h) (Or.inl ⟨by rfl, ?hyT17⟩) (by assumption) ?rstT17
  case hyT17 => (intro w hSw; (try dsimp only at hSw); go_simp; (try with_reducible rfl))
  try simp only [Act.put, List.setIfInBounds_toArray, List.set_cons_zero, List.set_cons_succ]
  refine takeD (i := 16) (d := some 105) (v := ?vT18) rfl rfl (by kernel_rfl) (by kernel_rfl) (by kernel_rfl) (fun _ _ _ h => h) (Or.inl ⟨by rfl, ?hyT18⟩) (by assumption) ?rstT18
  case hyT18 => (intro w hSw; (try dsimp only at hSw); go_simp; (try with_reducible rfl))
  try simp only [Act.put, List.setIfInBounds_toArray, List.set_cons_zero, List.set_cons_succ]
  refine wpAnyH_done (by kernel_rfl) ?_ _
  go_wp2_with fail
  refine wp_region_held_drew (S := (fun W => W.cell? ⟨w.heap.size, 3, none⟩ = some (.int .i64 (nN : Int)) ∧ W.cell? ⟨k, 0, none⟩ = some (.slice (some ⟨g, 0, none⟩) n cc))) (by kernel_rfl) ?hS19 (fun hHeld => ?rest19)
  case hS19 => exact ⟨(HCE.out _ (by first | exact (Below.refl _ _).drew | exact (Below.refl _ _).drew.drew | exact (Below.refl _ _).drew.drew.drew | exact below_drewN (Below.refl _ _) _)).1, (HCE.out _ (by first | exact (Below.refl _ _).drew | exact (Below.refl _ _).drew.drew | exact (Below.refl _ _).drew.drew.drew | exact below_drewN (Below.refl _ _) _)).2.1⟩
  refine takeD (i := 0) (d := some 106) (v := ?vT20) rfl rfl (by kernel_rfl) (by kernel_rfl) (by kernel_rfl) (fun _ _ _ h => h) (Or.inl ⟨by rfl, ?hyT20⟩) (by assumption) ?rstT20
  case hyT20 => (intro w hSw; (try dsimp only at hSw); go_simp; (try with_reducible rfl))
  try simp only [Act.put, List.setIfInBounds_toArray, List.set_cons_zero, List.set_cons_succ]
  refine takeD (i := 1) (d := some 107) (v := ?vT21) rfl rfl (by kernel_rfl) (by kernel_rfl) (by kernel_rfl) (fun _ _ _ h => h) (Or.inl ⟨by rfl, ?hyT21⟩) (by assumption) ?rstT21
  case hyT21 => (intro w hSw; (try dsimp only at hSw); go_simp; (try with_reducible rfl))
  try simp only [Act.put, List.setIfInBounds_toArray, List.set_cons_zero, List.set_cons_succ]
  refine takeD (i := 2) (d := some 108) (v := ?vT22) rfl rfl (by kernel_rfl) (by kernel_rfl) (by kernel_rfl) (fun _ _ _ h => h) (Or.inl ⟨by rfl, ?hyT22⟩) (by assumption) ?rstT22
  case hyT22 => (intro w hSw; (try dsimp only at hSw); go_simp; (try with_reducible rfl))
  try simp only [Act.put, List.setIfInBounds_toArray, List.set_cons_zero, List.set_cons_succ]
  refine takeD (i := 3) (d := some 109) (v := ?vT23) rfl rfl (by kernel_rfl) (by kernel_rfl) (by kernel_rfl) (fun _ _ _ h => h) (Or.inl ⟨by rfl, ?hyT23⟩) (by assumption) ?rstT23
  case hyT23 => (intro w hSw; (try dsimp only at hSw); go_simp; (try with_reducible rfl))
  try simp only [Act.put, List.setIfInBounds_toArray, List.set_cons_zero, List.set_cons_succ]
  refine takeD (i := 4) (d := some 110) (v := ?vT24) rfl rfl (by kernel_rfl) (by kernel_rfl) (by kernel_rfl) (fun _ _ _ h => h) (Or.inl ⟨by rfl, ?hyT24⟩) (by assumption) ?rstT24
  case hyT24 => (intro w hSw; (try dsimp only at hSw); go_simp; (try with_reducible rfl))
  try simp only [Act.put, List.setIfInBounds_toArray, List.set_cons_zero, List.set_cons_succ]
  refine takeD (i := 5) (d := some 111) (v := ?vT25) rfl rfl (by kernel_rfl) (by kernel_rfl) (by kernel_rfl) (fun _ _ _ h => h) (Or.inl ⟨by rfl, ?hyT25⟩) (by assumption) ?rstT25
  case hyT25 => (intro w hSw; (try dsimp only at hSw); go_simp; (try with_reducible rfl))
  try simp only [Act.put, List.setIfInBounds_toArray, List.set_cons_zero, List.set_cons_succ]
  refine takeD (i := 6) (d := some 112) (v := ?vT26) rfl rfl (by kernel_rfl) (by kernel_rfl) (by kernel_rfl) (fun _ _ _ h => h) (Or.inl ⟨by rfl, ?hyT26⟩) (by assumption) ?rstT26
  case hyT26 => (intro w hSw; (try dsimp only at hSw); go_simp; (try with_reducible rfl))
  try simp only [Act.put, List.setIfInBounds_toArray, List.set_cons_zero, List.set_cons_succ]
  refine takeD (i := 7) (d := some 113) (v := ?vT27) rfl rfl (by kernel_rfl) (by kernel_rfl) (by kernel_rfl) (fun _ _ _ h => h) (Or.inl ⟨by rfl, ?hyT27⟩) (by assumption) ?rstT27
  case hyT27 => (intro w hSw; (try dsimp only at hSw); go_simp; (try with_reducible rfl))
  try simp only [Act.put, List.setIfInBounds_toArray, List.set_cons_zero, List.set_cons_succ]
  refine takeD (i := 8) (d := some 114) (v := ?vT28) rfl rfl (by kernel_rfl) (by kernel_rfl) (by kernel_rfl) (fun _ _ _ h => h) (Or.inl ⟨by rfl, ?hyT28⟩) (by assumption) ?rstT28
  case hyT28 => (intro w hSw; (try dsimp only at hSw); go_simp; (try with_reducible rfl))
  try simp only [Act.put, List.setIfInBounds_toArray, List.set_cons_zero, List.set_cons_succ]
  refine takeD (i := 9) (d := some 115) (v := ?vT29) rfl rfl (by kernel_rfl) (by kernel_rfl) (by kernel_rfl) (fun _ _ _ h => h) (Or.inl ⟨by rfl, ?hyT29⟩) (by assumption) ?rstT29
  case hyT29 => (intro w hSw; (try dsimp only at hSw); go_simp; (try with_reducible rfl))
  try simp only [Act.put, List.setIfInBounds_toArray, List.set_cons_zero, List.set_cons_succ]
  refine takeD (i := 10) (d := some 116) (v := ?vT30) rfl rfl (by kernel_rfl) (by kernel_rfl) (by kernel_rfl) (fun _ _ _ h => h) (Or.inl ⟨by rfl, ?hyT30⟩) (by assumption) ?rstT30
  case hyT30 => (intro w hSw; (try dsimp only at hSw); go_simp; (try with_reducible rfl))
  try simp only [Act.put, List.setIfInBounds_toArray, List.set_cons_zero, List.set_cons_succ]
  refine takeD (i := 11) (d := some 117) (v := ?vT31) rfl rfl (by kernel_rfl) (by kernel_rfl) (by kernel_rfl) (fun _ _ _ h => h) (Or.inl ⟨by rfl, ?hyT31⟩) (by assumption) ?rstT31
  case hyT31 => (intro w hSw; (try dsimp only at hSw); go_simp; (try with_reducible rfl))
  try simp only [Act.put, List.setIfInBounds_toArray, List.set_cons_zero, List.set_cons_succ]
  refine takeD (i := 13) (d := some 119) (v := ?vT32) rfl rfl (by kernel_rfl) (by kernel_rfl) (by kernel_rfl) (fun _ _ _ h => h) (Or.inl ⟨by rfl, ?hyT32⟩) (by assumption) ?rstT32
  case hyT32 => (intro w hSw; (try dsimp only at hSw); go_simp; (try with_reducible rfl))
  try simp only [Act.put, List.setIfInBounds_toArray, List.set_cons_zero, List.set_cons_succ]
  refine takeD (i := 14) (d := some 120) (v := ?vT33) rfl rfl (by kernel_rfl) (by kernel_rfl) (by kernel_rfl) (fun _ _ _ h => h) (Or.inl ⟨by rfl, ?hyT33⟩) (by assumption) ?rstT33
  case hyT33 => (intro w hSw; (try dsimp only at hSw); go_simp; (try with_reducible rfl))
  try simp only [Act.put, List.setIfInBounds_toArray, List.set_cons_zero, List.set_cons_succ]
  refine wpAnyH_ready (rs := [12]) (by kernel_rfl) (by simp) ?_
  refine AllReadyH.cons rfl (fun K hK => ?_) AllReadyH.nil
  go_simp
  clear hHeld
  refine hK.out _ _ ?hS34 (fun hHeld => ?rest34)
  case hS34 => exact ⟨(HCE.out _ (by first | exact (Below.refl _ _).drew | exact (Below.refl _ _).drew.drew | exact (Below.refl _ _).drew.drew.drew | exact below_drewN (Below.refl _ _) _)).1, (HCE.out _ (by first | exact (Below.refl _ _).drew | exact (Below.refl _ _).drew.drew | exact (Below.refl _ _).drew.drew.drew | exact below_drewN (Below.refl _ _) _)).2.1⟩
  clear hK K
  try simp only [Act.put, List.setIfInBounds_toArray, List.set_cons_zero, List.set_cons_succ]
  refine takeD (i := 15) (d := some 121) (v := ?vT35) rfl rfl (by kernel_rfl) (by kernel_rfl) (by kernel_rfl) (fun _ _ _ h => h) (Or.inl ⟨by rfl, ?hyT35⟩) (by assumption) ?rstT35
  case hyT35 => (intro w hSw; (try dsimp only at hSw); go_simp; (try with_reducible rfl))
  try simp only [Act.put, List.setIfInBounds_toArray, List.set_cons_zero, List.set_cons_succ]
  refine wpAnyH_ready (rs := [16]) (by kernel_rfl) (by simp) ?_
  refine AllReadyH.cons rfl (fun K hK => ?_) AllReadyH.nil
  go_simp
  refine (copied_any ((((HX.out.1.each x (by simp)).rw_ layU).take nN HX.out.2.2.2.2.1).below (by first | exact (Below.refl _ _).drew | exact (Below.refl _ _).drew.drew | exact (Below.refl _ _).drew.drew.drew | exact below_drewN (Below.refl _ _) _)) (by have := HX.out.2.2.2.2.2.2; have := HX.out.2.2.2.2.1; omega)).mono ?_
  rintro e w3 ⟨a9, e9, rfl, ho2, hb2⟩
  have hb02 : Below W2.heap.size W2 w3 := by
    refine Below.trans ?_ hb2
    first | exact (Below.refl _ _).drew | exact (Below.refl _ _).drew.drew | exact (Below.refl _ _).drew.drew.drew | exact below_drewN (Below.refl _ _) _
  have H3 : Hid (OwnF byU 1 5 w3 W2.heap.size (.slice a9 nN e9) (x.bs.take nN) ∧ Below W2.heap.size W2 w3) := ⟨ho2, hb02⟩
  clear ho2 hb2 hb02
  clear hHeld
  refine hK.out _ _ ?hS36 (fun hHeld => ?rest36)
  case hS36 => exact ⟨(HCE.out _ H3.out.2).1, (HCE.out _ H3.out.2).2.1⟩
  clear hK K
  try simp only [Act.put, List.setIfInBounds_toArray, List.set_cons_zero, List.set_cons_succ]
  refine takeD (i := 17) (d := some 123) (v := ?vT37) rfl rfl (by kernel_rfl) (by kernel_rfl) (by kernel_rfl) (fun _ _ _ h => h) (Or.inl ⟨by rfl, ?hyT37⟩) (by assumption) ?rstT37
  case hyT37 => (intro w hSw; (try dsimp only at hSw); go_simp; (try with_reducible rfl))
  try simp only [Act.put, List.setIfInBounds_toArray, List.set_cons_zero, List.set_cons_succ]
  refine takeD (i := 18) (d := some 124) (v := ?vT38) rfl rfl (by kernel_rfl) (by kernel_rfl) (by kernel_rfl) (fun _ _ _ h => h) (Or.inl ⟨by rfl, ?hyT38⟩) (by assumption) ?rstT38
  case hyT38 => (intro w hSw; (try dsimp only at hSw); go_simp; (try with_reducible rfl))
  try simp only [Act.put, List.setIfInBounds_toArray, List.set_cons_zero, List.set_cons_succ]
  have hg3 : w3.heap[g]? = some (.cells cur 95) := (H3.out.2.block _ (Array.getElem?_eq_some_iff.1 HX.out.2.2.1).1).trans HX.out.2.2.1
  have o3 := (HCE.out _ H3.out.2).2.2.1
  have q3 := Lib.frozen_of_heap hg3 (m * 3 + 1)
  obtain ⟨V8, hV8⟩ : ∃ V8, w3.setCell ⟨g, m * 3 + 1, none⟩ (.slice a9 nN e9) = V8 := ⟨_, rfl⟩
  have hset := (HX.out.1.below H3.out.2).set HX.out.2.1 (x' := ⟨x.nm, a9, e9, (x.bs.take nN), x.syn⟩) 1 (.slice a9 nN e9) (by decide) (by show [_, Value.slice a9 ((x.bs.take nN)).length e9, _] = _; rw [HL.out]; rfl) (W' := V8) (by rw [HM.out]; exact hV8) (by show OwnF byU 1 5 w3 B (.slice a9 ((x.bs.take nN)).length e9) _; rw [HL.out]; exact H3.out.1.mono HX.out.2.2.2.1)
  have H8 : Hid (BkAt V8 k B v (l ++ ⟨x.nm, a9, e9, (x.bs.take nN), x.syn⟩ :: t) ∧ Chg (fun q => q = g) w3 V8) := hset
  have HW8 : Hid (WroteP w V8 k B v (l ++ x :: t) l t x.nm ((x.bs.take nN)) x.syn) := WroteP.grow HB2.out (WroteP.of_set (x := x) (x' := ⟨x.nm, a9, e9, (x.bs.take nN), x.syn⟩) H8.out.1 ((Chg.of_below H3.out.2).trans H8.out.2) (by rw [HX.out.2.1]; rfl) (fun q hq => .inr (by
    have h2 : (Value.slice a9 ((x.bs.take nN)).length e9).ownBlock = some q := hq
    rw [HL.out] at h2
    exact H3.out.1.ge h2)))
  have HD8 : Hid (V8.cell? ⟨w.heap.size, 3, none⟩ = some (.int .i64 (nN : Int)) ∧ V8.cell? ⟨k, 0, none⟩ = some (.slice (some ⟨g, 0, none⟩) n cc)) := ⟨(H8.out.2.cell (p := ⟨w.heap.size, 3, none⟩) (Nat.lt_of_lt_of_le HNE.out.2 H3.out.2.size) HNE.out.1).trans (HCE.out _ H3.out.2).1, by rw [box1 H8.out.1.box, HX.out.2.1, HN.out]⟩
  clear hg3 hset
  refine wpAnyH_ready (rs := [19]) (by kernel_rfl) (by simp) ?_
  refine AllReadyH.cons rfl (fun K hK => ?_) AllReadyH.nil
  go_simp
  clear hHeld
  refine hK.out _ _ ?hS39 (fun hHeld => ?rest39)
  case hS39 => exact HD8.out
  clear hK K
  try simp only [Act.put, List.setIfInBounds_toArray, List.set_cons_zero, List.set_cons_succ]
  refine wpAnyH_done (by kernel_rfl) ?_ _
  go_wp2_with fail
  obtain ⟨V0, hV0⟩ : ∃ V0, V8.drew = V0 := ⟨_, rfl⟩
  have hbV : Below V8.heap.size V8 V0 := by rw [← hV0]; exact (Below.refl _ _).drew
  have h0 := H8.out.1.below hbV
  have hC0 : Chg (fun q => q = g) W2 V0 := ((Chg.of_below H3.out.2).trans H8.out.2).trans (Chg.of_below hbV)
  obtain ⟨g0, cc0, cur0, hv0, hcur0, _⟩ := h0.at_
  have hg0 : g0 = g := by have := HX.out.2.1; rw [hv0] at this; simp only [Value.slice.injEq, Option.some.injEq, Addr.mk.injEq, and_true] at this; exact this.1
  subst hg0
  obtain ⟨V9, hV9⟩ : ∃ V9, V0.setCell ⟨g0, m * 3 + 2, none⟩ (.int .i64 ((min x.syn nN : Nat) : Int)) = V9 := ⟨_, rfl⟩
  have hset := h0.set hv0 (x' := ⟨x.nm, a9, e9, x.bs.take nN, min x.syn nN⟩) 2 (.int .i64 ((min x.syn nN : Nat) : Int)) (by decide) rfl (W' := V9) (by rw [HM.out]; exact hV9) (h0.each ⟨x.nm, a9, e9, x.bs.take nN, x.syn⟩ (by simp))
  have q0 := Lib.frozen_of_heap hcur0 (m * 3 + 2)
  have o0 := h0.cell hv0 2 rfl
  rw [HM.out] at o0
  have HD0 : Hid (V0.cell? ⟨w.heap.size, 3, none⟩ = some (.int .i64 (nN : Int)) ∧ V0.cell? ⟨k, 0, none⟩ = some (.slice (some ⟨g0, 0, none⟩) n cc)) := ⟨(hbV.cell (p := ⟨w.heap.size, 3, none⟩) (Nat.lt_of_lt_of_le HNE.out.2 (Nat.le_trans H3.out.2.size H8.out.2.size))).trans HD8.out.1, by rw [box1 h0.box, HX.out.2.1, HN.out]⟩
  have HD9 : Hid (V9.cell? ⟨w.heap.size, 3, none⟩ = some (.int .i64 (nN : Int)) ∧ V9.cell? ⟨k, 0, none⟩ = some (.slice (some ⟨g0, 0, none⟩) n cc)) := ⟨(hset.2.cell (p := ⟨w.heap.size, 3, none⟩) (Nat.lt_of_lt_of_le HNE.out.2 hC0.size) HNE.out.1).trans HD0.out.1, by rw [box1 hset.1.box, HX.out.2.1, HN.out]⟩
  have HF : Hid (WroteP w V9 k B v (l ++ x :: t) l t x.nm (⟨x.nm, a9, e9, x.bs.take nN, min x.syn nN⟩ : Pg).bs (⟨x.nm, a9, e9, x.bs.take nN, min x.syn nN⟩ : Pg).syn) := WroteP.grow HB2.out (WroteP.of_set (x := x) (x' := ⟨x.nm, a9, e9, x.bs.take nN, min x.syn nN⟩) hset.1 (hC0.trans hset.2) (by rw [HX.out.2.1]; rfl) (fun q hq => .inr (by
    have h2 : (Value.slice a9 (x.bs.take nN).length e9).ownBlock = some q := hq
    rw [HL.out] at h2
    exact H3.out.1.ge h2)))
  clear hset hcur0 h0 hbV hC0 hV8 o3 q3 hHeld hv0
  refine wp_region_held_drew (S := (fun W => W.cell? ⟨w.heap.size, 3, none⟩ = some (.int .i64 (nN : Int)) ∧ W.cell? ⟨k, 0, none⟩ = some (.slice (some ⟨g0, 0, none⟩) n cc))) (by kernel_rfl) ?hS40 (fun hHeld => ?rest40)
  case hS40 => rw [hV0]; exact HD0.out
  rw [hV0]
  refine takeD (i := 0) (d := some 125) (v := ?vT41) rfl rfl (by kernel_rfl) (by kernel_rfl) (by kernel_rfl) (fun _ _ _ h => h) (Or.inl ⟨by rfl, ?hyT41⟩) (by assumption) ?rstT41
  case hyT41 => (intro w hSw; (try dsimp only at hSw); go_simp; (try with_reducible rfl))
  try simp only [Act.put, List.setIfInBounds_toArray, List.set_cons_zero, List.set_cons_succ]
  refine takeD (i := 1) (d := some 126) (v := ?vT42) rfl rfl (by kernel_rfl) (by kernel_rfl) (by kernel_rfl) (fun _ _ _ h => h) (Or.inl ⟨by rfl, ?hyT42⟩) (by assumption) ?rstT42
  case hyT42 => (intro w hSw; (try dsimp only at hSw); go_simp; (try with_reducible rfl))
  try simp only [Act.put, List.setIfInBounds_toArray, List.set_cons_zero, List.set_cons_succ]
  refine takeD (i := 2) (d := some 127) (v := ?vT43) rfl rfl (by kernel_rfl) (by kernel_rfl) (by kernel_rfl) (fun _ _ _ h => h) (Or.inl ⟨by rfl, ?hyT43⟩) (by assumption) ?rstT43
  case hyT43 => (intro w hSw; (try dsimp only at hSw); go_simp; (try with_reducible rfl))
  try simp only [Act.put, List.setIfInBounds_toArray, List.set_cons_zero, List.set_cons_succ]
  refine takeD (i := 3) (d := some 128) (v := ?vT44) rfl rfl (by kernel_rfl) (by kernel_rfl) (by kernel_rfl) (fun _ _ _ h => h) (Or.inl ⟨by rfl, ?hyT44⟩) (by assumption) ?rstT44
  case hyT44 => (intro w hSw; (try dsimp only at hSw); go_simp; (try with_reducible rfl))
  try simp only [Act.put, List.setIfInBounds_toArray, List.set_cons_zero, List.set_cons_succ]
  refine takeD (i := 4) (d := some 129) (v := ?vT45) rfl rfl (by kernel_rfl) (by kernel_rfl) (by kernel_rfl) (fun _ _ _ h => h) (Or.inl ⟨by rfl, ?hyT45⟩) (by assumption) ?rstT45
  case hyT45 => (intro w hSw; (try dsimp only at hSw); go_simp; (try with_reducible rfl))
  try simp only [Act.put, List.setIfInBounds_toArray, List.set_cons_zero, List.set_cons_succ]
  refine takeD (i := 5) (d := some 130) (v := ?vT46) rfl rfl (by kernel_rfl) (by kernel_rfl) (by kernel_rfl) (fun _ _ _ h => h) (Or.inl ⟨by rfl, ?hyT46⟩) (by assumption) ?rstT46
  case hyT46 => (intro w hSw; (try dsimp only at hSw); go_simp; (try with_reducible rfl))
  try simp only [Act.put, List.setIfInBounds_toArray, List.set_cons_zero, List.set_cons_succ]
  refine takeD (i := 6) (d := some 131) (v := ?vT47) rfl rfl (by kernel_rfl) (by kernel_rfl) (by kernel_rfl) (fun _ _ _ h => h) (Or.inl ⟨by rfl, ?hyT47⟩) (by assumption) ?rstT47
  case hyT47 => (intro w hSw; (try dsimp only at hSw); go_simp; (try with_reducible rfl))
  try simp only [Act.put, List.setIfInBounds_toArray, List.set_cons_zero, List.set_cons_succ]
  refine takeD (i := 7) (d := some 132) (v := ?vT48) rfl rfl (by kernel_rfl) (by kernel_rfl) (by kernel_rfl) (fun _ _ _ h => h) (Or.inl ⟨by rfl, ?hyT48⟩) (by assumption) ?rstT48
  case hyT48 => (intro w hSw; (try dsimp only at hSw); go_simp; (try with_reducible rfl))
  try simp only [Act.put, List.setIfInBounds_toArray, List.set_cons_zero, List.set_cons_succ]
  refine takeD (i := 8) (d := some 133) (v := ?vT49) rfl rfl (by kernel_rfl) (by kernel_rfl) (by kernel_rfl) (fun _ _ _ h => h) (Or.inl ⟨by rfl, ?hyT49⟩) (by assumption) ?rstT49
  case hyT49 => (intro w hSw; (try dsimp only at hSw); go_simp; (try with_reducible rfl))
  try simp only [Act.put, List.setIfInBounds_toArray, List.set_cons_zero, List.set_cons_succ]
  refine takeD (i := 9) (d := some 134) (v := ?vT50) rfl rfl (by kernel_rfl) (by kernel_rfl) (by kernel_rfl) (fun _ _ _ h => h) (Or.inl ⟨by rfl, ?hyT50⟩) (by assumption) ?rstT50
  case hyT50 => (intro w hSw; (try dsimp only at hSw); go_simp; (try with_reducible rfl))
  try simp only [Act.put, List.setIfInBounds_toArray, List.set_cons_zero, List.set_cons_succ]
  refine takeD (i := 10) (d := some 135) (v := ?vT51) rfl rfl (by kernel_rfl) (by kernel_rfl) (by kernel_rfl) (fun _ _ _ h => h) (Or.inl ⟨by rfl, ?hyT51⟩) (by assumption) ?rstT51
  case hyT51 => (intro w hSw; (try dsimp only at hSw); go_simp; (try with_reducible rfl))
  try simp only [Act.put, List.setIfInBounds_toArray, List.set_cons_zero, List.set_cons_succ]
  refine takeD (i := 11) (d := some 136) (v := ?vT52) rfl rfl (by kernel_rfl) (by kernel_rfl) (by kernel_rfl) (fun _ _ _ h => h) (Or.inl ⟨by rfl, ?hyT52⟩) (by assumption) ?rstT52
  case hyT52 => (intro w hSw; (try dsimp only at hSw); go_simp; (try with_reducible rfl))
  try simp only [Act.put, List.setIfInBounds_toArray, List.set_cons_zero, List.set_cons_succ]
  refine takeD (i := 13) (d := some 138) (v := ?vT53) rfl rfl (by kernel_rfl) (by kernel_rfl) (by kernel_rfl) (fun _ _ _ h => h) (Or.inl ⟨by rfl, ?hyT53⟩) (by assumption) ?rstT53
  case hyT53 => (intro w hSw; (try dsimp only at hSw); go_simp; (try with_reducible rfl))
  try simp only [Act.put, List.setIfInBounds_toArray, List.set_cons_zero, List.set_cons_succ]
  refine takeD (i := 14) (d := some 139) (v := ?vT54) rfl rfl (by kernel_rfl) (by kernel_rfl) (by kernel_rfl) (fun _ _ _ h => h) (Or.inl ⟨by rfl, ?hyT54⟩) (by assumption) ?rstT54
  case hyT54 => (intro w hSw; (try dsimp only at hSw); go_simp; (try with_reducible rfl))
  try simp only [Act.put, List.setIfInBounds_toArray, List.set_cons_zero, List.set_cons_succ]
  refine wpAnyH_ready (rs := [12]) (by kernel_rfl) (by simp) ?_
  refine AllReadyH.cons rfl (fun K hK => ?_) AllReadyH.nil
  go_simp
  clear hHeld
  refine hK.out _ _ ?hS55 (fun hHeld => ?rest55)
  case hS55 => exact HD0.out
  clear hK K
  try simp only [Act.put, List.setIfInBounds_toArray, List.set_cons_zero, List.set_cons_succ]
  refine takeD (i := 15) (d := some 140) (v := ?vT56) rfl rfl (by kernel_rfl) (by kernel_rfl) (by kernel_rfl) (fun _ _ _ h => h) (Or.inl ⟨by rfl, ?hyT56⟩) (by assumption) ?rstT56
  case hyT56 => (intro w hSw; (try dsimp only at hSw); go_simp; (try with_reducible rfl))
  try simp only [Act.put, List.setIfInBounds_toArray, List.set_cons_zero, List.set_cons_succ]
  refine takeD (i := 16) (d := some 141) (v := ?vT57) rfl rfl (by kernel_rfl) (by kernel_rfl) (by kernel_rfl) (fun _ _ _ h => h) (Or.inl ⟨by rfl, ?hyT57⟩) (by assumption) ?rstT57
  case hyT57 => (intro w hSw; (try dsimp only at hSw); go_simp; (try with_reducible rfl))
  try simp only [Act.put, List.setIfInBounds_toArray, List.set_cons_zero, List.set_cons_succ]
  refine takeD (i := 17) (d := some 142) (v := ?vT58) rfl rfl (by kernel_rfl) (by kernel_rfl) (by kernel_rfl) (fun _ _ _ h => h) (Or.inl ⟨by rfl, ?hyT58⟩) (by assumption) ?rstT58
  case hyT58 => (intro w hSw; (try dsimp only at hSw); go_simp; (try with_reducible rfl))
  try simp only [Act.put, List.setIfInBounds_toArray, List.set_cons_zero, List.set_cons_succ]
  refine wpAnyH_ready (rs := [18]) (by kernel_rfl) (by simp) ?_
  refine AllReadyH.cons rfl (fun K hK => ?_) AllReadyH.nil
  go_simp
  clear hHeld
  refine hK.out _ _ ?hS59 (fun hHeld => ?rest59)
  case hS59 => exact HD9.out
  clear hK K
  try simp only [Act.put, List.setIfInBounds_toArray, List.set_cons_zero, List.set_cons_succ]
  refine wpAnyH_done (by kernel_rfl) ?_ _
  go_wp2_with fail
  go_ret
  have := HF.out
  rw [HX.out.2.2.2.2.2.1] at this
  exact ⟨rfl, this⟩
set_option maxHeartbeats 4000000 in
theorem enters_turn {l t : List Pg} {x : Pg} (h : BkAt w k B v (l ++ x :: t)) (hB : B ≤ w.heap.size) (hn : (l ++ x :: t).length ≤ 4398046511104) (hl : ∀ y ∈ l, y.nm ≠ nm) (hx : x.nm = nm) {nN : Nat} (hN : nN < x.bs.length) (hs : x.bs.length ≤ 1099511627776) :
    Calls Try.prog 27 #[.pointer (some ⟨k, 0, none⟩), .agg #[.int .i64 11, .string ⟨nm.toArray⟩, .slice ba bn bc, .int .i64 (nN : Int), .int .i64 M], .agg #[.int .i64 E, .int .i64 An, .int .i64 Am, .slice a1 n1 c1, .slice a2 n2 c2, .bool dn]] w fun e w' => e = .returned (.bool true) ∧ WroteP w w' k B v (l ++ x :: t) l t nm (x.bs.set nN ((x.bs.getD nN 0) ^^^ maskOf M)) x.syn := by
  obtain ⟨W1, W2, hW1, hW2, hbW, hs1, hp, hq⟩ := ebox w #[.int .i64 11, .string ⟨nm.toArray⟩, .slice ba bn bc, .int .i64 (nN : Int), .int .i64 M] #[.int .i64 E, .int .i64 An, .int .i64 Am, .slice a1 n1 c1, .slice a2 n2 c2, .bool dn]
  obtain ⟨p0, p1, p2, p3, p4⟩ := box5 hp
  obtain ⟨r0, r1, r2, r3, r4, r5⟩ := box6 hq
  have HB2 : Hid (Below w.heap.size w W2) := hbW
  replace h := h.below hbW
  have HPG : Hid (Calls Try.prog 50 #[.pointer (some ⟨k, 0, none⟩), .string ⟨nm.toArray⟩] W2 fun e w' => e = .returned (.int .i64 (l.length : Int)) ∧ w' = W2) := by have := page_any h hn nm; rwa [pgI_hit hx hl] at this
  obtain ⟨g, cc, cur, hv, hcur, hkg⟩ := h.at_
  have d1 := box1 h.box
  rw [hv] at d1
  have gl : (l.length : Int) < ((l ++ x :: t).length : Int) := by simp; omega
  have o1 := h.cell hv 1 rfl
  have HX : Hid (BkAt W2 k B v (l ++ x :: t) ∧ v = .slice (some ⟨g, 0, none⟩) (l ++ x :: t).length cc ∧ W2.heap[g]? = some (.cells cur 95) ∧ B ≤ W2.heap.size ∧ nN < x.bs.length ∧ x.nm = nm ∧ x.bs.length ≤ 1099511627776) := ⟨h, hv, hcur, Nat.le_trans hB hbW.size, hN, hx, hs⟩
  have HNE : Hid (w.heap.size ≠ g ∧ w.heap.size < W2.heap.size) := ⟨fun e => by rw [e, hcur] at hp; simp at hp, (Array.getElem?_eq_some_iff.1 hp).1⟩
  have HPM : Hid (W2.cell? ⟨w.heap.size, 3, none⟩ = some (.int .i64 (nN : Int)) ∧ W2.cell? ⟨w.heap.size, 4, none⟩ = some (.int .i64 M)) := ⟨p3, p4⟩
  have HCE : Hid (∀ V, Below W2.heap.size W2 V → V.cell? ⟨w.heap.size, 3, none⟩ = some (.int .i64 (nN : Int)) ∧ V.cell? ⟨k, 0, none⟩ = some (.slice (some ⟨g, 0, none⟩) (l ++ x :: t).length cc) ∧ V.cell? ⟨g, l.length * 3 + 1, none⟩ = some (.slice x.a x.bs.length x.cap) ∧ V.cell? ⟨g, l.length * 3 + 2, none⟩ = some (.int .i64 (x.syn : Int))) := fun V hV => by
    have hb := h.below hV
    refine ⟨(hV.cell (p := ⟨w.heap.size, 3, none⟩) (Array.getElem?_eq_some_iff.1 hp).1).trans p3, ?_, hb.cell hv 1 rfl, hb.cell hv 2 rfl⟩
    rw [box1 hb.box, hv]
  have g1 : ¬ ((nN : Int) < 0) := by omega
  have g2 : ¬ ((x.bs.length : Int) ≤ (nN : Int)) := by omega
  clear h hn hl hx hB hv hcur hkg  hp hq p2 r2 r3 r4 r5 hbW
  obtain ⟨n, hn⟩ : ∃ n, (l ++ x :: t).length = n := ⟨_, rfl⟩
  rw [hn] at d1 gl HCE
  have HN : Hid ((l ++ x :: t).length = n) := hn
  clear hn
  obtain ⟨m, hm⟩ : ∃ m, l.length = m := ⟨_, rfl⟩
  rw [hm] at HPG o1 gl HCE
  have HM : Hid (l.length = m) := hm
  clear hm
  have gm : ¬ ((m : Int) < 0) := by omega
  go_enter Try.func27, Try.ntmps27
  go_wp2_with fail
  clear hW1 hW2 hs1
  refine HPG.out.mono ?_
  rintro e wz ⟨rfl, hz⟩
  rw [hz]
  clear hz wz
  go_wp2_with fail
  refine wp_region_held_drew (S := (fun W => W.cell? ⟨w.heap.size, 3, none⟩ = some (.int .i64 (nN : Int)) ∧ W.cell? ⟨k, 0, none⟩ = some (.slice (some ⟨g, 0, none⟩) n cc) ∧ W.cell? ⟨g, m * 3 + 1, none⟩ = some (.slice x.a x.bs.length x.cap) ∧ W.cell? ⟨g, m * 3 + 2, none⟩ = some (.int .i64 (x.syn : Int)))) (by kernel_rfl) ?hS60 (fun hHeld => ?rest60)
  case hS60 => exact HCE.out _ ((Below.refl _ _).drew)
  refine takeD (i := 0) (d := some 150) (v := ?vT61) rfl rfl (by kernel_rfl) (by kernel_rfl) (by kernel_rfl) (fun _ _ _ h => h) (Or.inl ⟨by rfl, ?hyT61⟩) (by assumption) ?rstT61
  case hyT61 => (intro w hSw; (try dsimp only at hSw); go_simp; (try with_reducible rfl))
  try simp only [Act.put, List.setIfInBounds_toArray, List.set_cons_zero, List.set_cons_succ]
  refine takeD (i := 1) (d := some 151) (v := ?vT62) rfl rfl (by kernel_rfl) (by kernel_rfl) (by kernel_rfl) (fun _ _ _ h => h) (Or.inl ⟨by rfl, ?hyT62⟩) (by assumption) ?rstT62
  case hyT62 => (intro w hSw; (try dsimp only at hSw); go_simp; (try with_reducible rfl))
  try simp only [Act.put, List.setIfInBounds_toArray, List.set_cons_zero, List.set_cons_succ]
  refine takeD (i := 2) (d := some 152) (v := ?vT63) rfl rfl (by kernel_rfl) (by kernel_rfl) (by kernel_rfl) (fun _ _ _ h => h) (Or.inl ⟨by rfl, ?hyT63⟩) (by assumption) ?rstT63
  case hyT63 => (intro w hSw; (try dsimp only at hSw); go_simp; (try with_reducible rfl))
  try simp only [Act.put, List.setIfInBounds_toArray, List.set_cons_zero, List.set_cons_succ]
  refine takeD (i := 3) (d := some 153) (v := ?vT64) rfl rfl (by kernel_rfl) (by kernel_rfl) (by kernel_rfl) (fun _ _ _ h => h) (Or.inl ⟨by rfl, ?hyT64⟩) (by assumption) ?rstT64
  case hyT64 => (intro w hSw; (try dsimp only at hSw); go_simp; (try with_reducible rfl))
  try simp only [Act.put, List.setIfInBounds_toArray, List.set_cons_zero, List.set_cons_succ]
  refine takeD (i := 4) (d := some 154) (v := ?vT65) rfl rfl (by kernel_rfl) (by kernel_rfl) (by kernel_rfl) (fun _ _ _ h => h) (Or.inl ⟨by rfl, ?hyT65⟩) (by assumption) ?rstT65
  case hyT65 => (intro w hSw; (try dsimp only at hSw); go_simp; (try with_reducible rfl))
  try simp only [Act.put, List.setIfInBounds_toArray, List.set_cons_zero, List.set_cons_succ]
  refine takeD (i := 5) (d := some 155) (v := ?vT66) rfl rfl (by kernel_rfl) (by kernel_rfl) (by kernel_rfl) (fun _ _ _ h => h) (Or.inl ⟨by rfl, ?hyT66⟩) (by assumption) ?rstT66
  case hyT66 => (intro w hSw; (try dsimp only at hSw); go_simp; (try with_reducible rfl))
  try simp only [Act.put, List.setIfInBounds_toArray, List.set_cons_zero, List.set_cons_succ]
  refine takeD (i := 6) (d := some 156) (v := ?vT67) rfl rfl (by kernel_rfl) (by kernel_rfl) (by kernel_rfl) (fun _ _ _ h => h) (Or.inl ⟨by rfl, ?hyT67⟩) (by assumption) ?rstT67
  case hyT67 => (intro w hSw; (try dsimp only at hSw); go_simp; (try with_reducible rfl))
  try simp only [Act.put, List.setIfInBounds_toArray, List.set_cons_zero, List.set_cons_succ]
  refine takeD (i := 7) (d := some 157) (v := ?vT68) rfl rfl (by kernel_rfl) (by kernel_rfl) (by kernel_rfl) (fun _ _ _ h => h) (Or.inl ⟨by rfl, ?hyT68⟩) (by assumption) ?rstT68
  case hyT68 => (intro w hSw; (try dsimp only at hSw); go_simp; (try with_reducible rfl))
  try simp only [Act.put, List.setIfInBounds_toArray, List.set_cons_zero, List.set_cons_succ]
  refine takeD (i := 8) (d := some 158) (v := ?vT69) rfl rfl (by kernel_rfl) (by kernel_rfl) (by kernel_rfl) (fun _ _ _ h => h) (Or.inl ⟨by rfl, ?hyT69⟩) (by assumption) ?rstT69
  case hyT69 => (intro w hSw; (try dsimp only at hSw); go_simp; (try with_reducible rfl))
  try simp only [Act.put, List.setIfInBounds_toArray, List.set_cons_zero, List.set_cons_succ]
  refine takeD (i := 9) (d := some 159) (v := ?vT70) rfl rfl (by kernel_rfl) (by kernel_rfl) (by kernel_rfl) (fun _ _ _ h => h) (Or.inl ⟨by rfl, ?hyT70⟩) (by assumption) ?rstT70
  case hyT70 => (intro w hSw; (try dsimp only at hSw); go_simp; (try with_reducible rfl))
  try simp only [Act.put, List.setIfInBounds_toArray, List.set_cons_zero, List.set_cons_succ]
  refine takeD (i := 10) (d := some 160) (v := ?vT71) rfl rfl (by kernel_rfl) (by kernel_rfl) (by kernel_rfl) (fun _ _ _ h => h) (Or.inl ⟨by rfl, ?hyT71⟩) (by assumption) ?rstT71
  case hyT71 => (intro w hSw; (try dsimp only at hSw); go_simp; (try with_reducible rfl))
  try simp only [Act.put, List.setIfInBounds_toArray, List.set_cons_zero, List.set_cons_succ]
  refine takeD (i := 11) (d := some 161) (v := ?vT72) rfl rfl (by kernel_rfl) (by kernel_rfl) (by kernel_rfl) (fun _ _ _ h => h) (Or.inl ⟨by rfl, ?hyT72⟩) (by assumption) ?rstT72
  case hyT72 => (intro w hSw; (try dsimp only at hSw); go_simp; (try with_reducible rfl))
  try simp only [Act.put, List.setIfInBounds_toArray, List.set_cons_zero, List.set_cons_succ]
  refine takeD (i := 12) (d := some 162) (v := ?vT73) rfl rfl (by kernel_rfl) (by kernel_rfl) (by kernel_rfl) (fun _ _ _ h => h) (Or.inl ⟨by rfl, ?hyT73⟩) (by assumption) ?rstT73
  case hyT73 => (intro w hSw; (try dsimp only at hSw); go_simp; (try with_reducible rfl))
  try simp only [Act.put, List.setIfInBounds_toArray, List.set_cons_zero, List.set_cons_succ]
  refine takeD (i := 13) (d := some 163) (v := ?vT74) rfl rfl (by kernel_rfl) (by kernel_rfl) (by kernel_rfl) (fun _ _ _ h => h) (Or.inl ⟨by rfl, ?hyT74⟩) (by assumption) ?rstT74
  case hyT74 => (intro w hSw; (try dsimp only at hSw); go_simp; (try with_reducible rfl))
  try simp only [Act.put, List.setIfInBounds_toArray, List.set_cons_zero, List.set_cons_succ]
  refine takeD (i := 14) (d := some 164) (v := ?vT75) rfl rfl (by kernel_rfl) (by kernel_rfl) (by kernel_rfl) (fun _ _ _ h => h) (Or.inl ⟨by rfl, ?hyT75⟩) (by assumption) ?rstT75
  case hyT75 => (intro w hSw; (try dsimp only at hSw); go_simp; (try with_reducible rfl))
  try simp only [Act.put, List.setIfInBounds_toArray, List.set_cons_zero, List.set_cons_succ]
  refine takeD (i := 15) (d := some 165) (v := ?vT76) rfl rfl (by kernel_rfl) (by kernel_rfl) (by kernel_rfl) (fun _ _ _ h => h) (Or.inl ⟨by rfl, ?hyT76⟩) (by assumption) ?rstT76
  case hyT76 => (intro w hSw; (try dsimp only at hSw); go_simp; (try with_reducible rfl))
  try simp only [Act.put, List.setIfInBounds_toArray, List.set_cons_zero, List.set_cons_succ]
  refine takeD (i := 16) (d := some 166) (v := ?vT77) rfl rfl (by kernel_rfl) (by kernel_rfl) (by kernel_rfl) (fun _ _ _ h => h) (Or.inl ⟨by rfl, ?hyT77⟩) (by assumption) ?rstT77
  case hyT77 => (intro w hSw; (try dsimp only at hSw); go_simp; (try with_reducible rfl))
  try simp only [Act.put, List.setIfInBounds_toArray, List.set_cons_zero, List.set_cons_succ]
  refine wpAnyH_done (by kernel_rfl) ?_ _
  go_wp2_with fail
  refine wp_region_held_drew (S := (fun W => W.cell? ⟨w.heap.size, 3, none⟩ = some (.int .i64 (nN : Int)) ∧ W.cell? ⟨k, 0, none⟩ = some (.slice (some ⟨g, 0, none⟩) n cc))) (by kernel_rfl) ?hS78 (fun hHeld => ?rest78)
  case hS78 => exact ⟨(HCE.out _ (by first | exact (Below.refl _ _).drew | exact (Below.refl _ _).drew.drew | exact (Below.refl _ _).drew.drew.drew | exact below_drewN (Below.refl _ _) _)).1, (HCE.out _ (by first | exact (Below.refl _ _).drew | exact (Below.refl _ _).drew.drew | exact (Below.refl _ _).drew.drew.drew | exact below_drewN (Below.refl _ _) _)).2.1⟩
  refine takeD (i := 0) (d := some 167) (v := ?vT79) rfl rfl (by kernel_rfl) (by kernel_rfl) (by kernel_rfl) (fun _ _ _ h => h) (Or.inl ⟨by rfl, ?hyT79⟩) (by assumption) ?rstT79
  case hyT79 => (intro w hSw; (try dsimp only at hSw); go_simp; (try with_reducible rfl))
  try simp only [Act.put, List.setIfInBounds_toArray, List.set_cons_zero, List.set_cons_succ]
  refine takeD (i := 1) (d := some 168) (v := ?vT80) rfl rfl (by kernel_rfl) (by kernel_rfl) (by kernel_rfl) (fun _ _ _ h => h) (Or.inl ⟨by rfl, ?hyT80⟩) (by assumption) ?rstT80
  case hyT80 => (intro w hSw; (try dsimp only at hSw); go_simp; (try with_reducible rfl))
  try simp only [Act.put, List.setIfInBounds_toArray, List.set_cons_zero, List.set_cons_succ]
  refine takeD (i := 2) (d := some 169) (v := ?vT81) rfl rfl (by kernel_rfl) (by kernel_rfl) (by kernel_rfl) (fun _ _ _ h => h) (Or.inl ⟨by rfl, ?hyT81⟩) (by assumption) ?rstT81
  case hyT81 => (intro w hSw; (try dsimp only at hSw); go_simp; (try with_reducible rfl))
  try simp only [Act.put, List.setIfInBounds_toArray, List.set_cons_zero, List.set_cons_succ]
  refine takeD (i := 3) (d := some 170) (v := ?vT82) rfl rfl (by kernel_rfl) (by kernel_rfl) (by kernel_rfl) (fun _ _ _ h => h) (Or.inl ⟨by rfl, ?hyT82⟩) (by assumption) ?rstT82
  case hyT82 => (intro w hSw; (try dsimp only at hSw); go_simp; (try with_reducible rfl))
  try simp only [Act.put, List.setIfInBounds_toArray, List.set_cons_zero, List.set_cons_succ]
  refine takeD (i := 4) (d := some 171) (v := ?vT83) rfl rfl (by kernel_rfl) (by kernel_rfl) (by kernel_rfl) (fun _ _ _ h => h) (Or.inl ⟨by rfl, ?hyT83⟩) (by assumption) ?rstT83
  case hyT83 => (intro w hSw; (try dsimp only at hSw); go_simp; (try with_reducible rfl))
  try simp only [Act.put, List.setIfInBounds_toArray, List.set_cons_zero, List.set_cons_succ]
  refine takeD (i := 5) (d := some 172) (v := ?vT84) rfl rfl (by kernel_rfl) (by kernel_rfl) (by kernel_rfl) (fun _ _ _ h => h) (Or.inl ⟨by rfl, ?hyT84⟩) (by assumption) ?rstT84
  case hyT84 => (intro w hSw; (try dsimp only at hSw); go_simp; (try with_reducible rfl))
  try simp only [Act.put, List.setIfInBounds_toArray, List.set_cons_zero, List.set_cons_succ]
  refine takeD (i := 6) (d := some 173) (v := ?vT85) rfl rfl (by kernel_rfl) (by kernel_rfl) (by kernel_rfl) (fun _ _ _ h => h) (Or.inl ⟨by rfl, ?hyT85⟩) (by assumption) ?rstT85
  case hyT85 => (intro w hSw; (try dsimp only at hSw); go_simp; (try with_reducible rfl))
  try simp only [Act.put, List.setIfInBounds_toArray, List.set_cons_zero, List.set_cons_succ]
  refine takeD (i := 7) (d := some 174) (v := ?vT86) rfl rfl (by kernel_rfl) (by kernel_rfl) (by kernel_rfl) (fun _ _ _ h => h) (Or.inl ⟨by rfl, ?hyT86⟩) (by assumption) ?rstT86
  case hyT86 => (intro w hSw; (try dsimp only at hSw); go_simp; (try with_reducible rfl))
  try simp only [Act.put, List.setIfInBounds_toArray, List.set_cons_zero, List.set_cons_succ]
  refine takeD (i := 8) (d := some 175) (v := ?vT87) rfl rfl (by kernel_rfl) (by kernel_rfl) (by kernel_rfl) (fun _ _ _ h => h) (Or.inl ⟨by rfl, ?hyT87⟩) (by assumption) ?rstT87
  case hyT87 => (intro w hSw; (try dsimp only at hSw); go_simp; (try with_reducible rfl))
  try simp only [Act.put, List.setIfInBounds_toArray, List.set_cons_zero, List.set_cons_succ]
  refine takeD (i := 9) (d := some 176) (v := ?vT88) rfl rfl (by kernel_rfl) (by kernel_rfl) (by kernel_rfl) (fun _ _ _ h => h) (Or.inl ⟨by rfl, ?hyT88⟩) (by assumption) ?rstT88
  case hyT88 => (intro w hSw; (try dsimp only at hSw); go_simp; (try with_reducible rfl))
  try simp only [Act.put, List.setIfInBounds_toArray, List.set_cons_zero, List.set_cons_succ]
  refine takeD (i := 10) (d := some 177) (v := ?vT89) rfl rfl (by kernel_rfl) (by kernel_rfl) (by kernel_rfl) (fun _ _ _ h => h) (Or.inl ⟨by rfl, ?hyT89⟩) (by assumption) ?rstT89
  case hyT89 => (intro w hSw; (try dsimp only at hSw); go_simp; (try with_reducible rfl))
  try simp only [Act.put, List.setIfInBounds_toArray, List.set_cons_zero, List.set_cons_succ]
  refine takeD (i := 11) (d := some 178) (v := ?vT90) rfl rfl (by kernel_rfl) (by kernel_rfl) (by kernel_rfl) (fun _ _ _ h => h) (Or.inl ⟨by rfl, ?hyT90⟩) (by assumption) ?rstT90
  case hyT90 => (intro w hSw; (try dsimp only at hSw); go_simp; (try with_reducible rfl))
  try simp only [Act.put, List.setIfInBounds_toArray, List.set_cons_zero, List.set_cons_succ]
  refine wpAnyH_ready (rs := [12]) (by kernel_rfl) (by simp) ?_
  refine AllReadyH.cons rfl (fun K hK => ?_) AllReadyH.nil
  go_simp
  clear hHeld
  refine hK.out _ _ ?hS91 (fun hHeld => ?rest91)
  case hS91 => exact ⟨(HCE.out _ (by first | exact (Below.refl _ _).drew | exact (Below.refl _ _).drew.drew | exact (Below.refl _ _).drew.drew.drew | exact below_drewN (Below.refl _ _) _)).1, (HCE.out _ (by first | exact (Below.refl _ _).drew | exact (Below.refl _ _).drew.drew | exact (Below.refl _ _).drew.drew.drew | exact below_drewN (Below.refl _ _) _)).2.1⟩
  clear hK K
  try simp only [Act.put, List.setIfInBounds_toArray, List.set_cons_zero, List.set_cons_succ]
  refine wpAnyH_ready (rs := [13]) (by kernel_rfl) (by simp) ?_
  refine AllReadyH.cons rfl (fun K hK => ?_) AllReadyH.nil
  go_simp
  refine (copied_any (((HX.out.1.each x (by simp)).rw_ layU).below (by first | exact (Below.refl _ _).drew | exact (Below.refl _ _).drew.drew | exact (Below.refl _ _).drew.drew.drew | exact below_drewN (Below.refl _ _) _)) (by have := HX.out.2.2.2.2.2.2; have := HX.out.2.2.2.2.1; omega)).mono ?_
  rintro e w3 ⟨a9, e9, rfl, ho2, hb2⟩
  have hb02 : Below W2.heap.size W2 w3 := by
    refine Below.trans ?_ hb2
    first | exact (Below.refl _ _).drew | exact (Below.refl _ _).drew.drew | exact (Below.refl _ _).drew.drew.drew | exact below_drewN (Below.refl _ _) _
  have H3 : Hid (OwnF byU 1 5 w3 W2.heap.size (.slice a9 x.bs.length e9) x.bs ∧ Below W2.heap.size W2 w3) := ⟨ho2, hb02⟩
  clear ho2 hb2 hb02
  clear hHeld
  refine hK.out _ _ ?hS92 (fun hHeld => ?rest92)
  case hS92 => exact ⟨(HCE.out _ H3.out.2).1, (HCE.out _ H3.out.2).2.1⟩
  clear hK K
  try simp only [Act.put, List.setIfInBounds_toArray, List.set_cons_zero, List.set_cons_succ]
  refine takeD (i := 14) (d := some 181) (v := ?vT93) rfl rfl (by kernel_rfl) (by kernel_rfl) (by kernel_rfl) (fun _ _ _ h => h) (Or.inl ⟨by rfl, ?hyT93⟩) (by assumption) ?rstT93
  case hyT93 => (intro w hSw; (try dsimp only at hSw); go_simp; (try with_reducible rfl))
  try simp only [Act.put, List.setIfInBounds_toArray, List.set_cons_zero, List.set_cons_succ]
  refine takeD (i := 15) (d := some 182) (v := ?vT94) rfl rfl (by kernel_rfl) (by kernel_rfl) (by kernel_rfl) (fun _ _ _ h => h) (Or.inl ⟨by rfl, ?hyT94⟩) (by assumption) ?rstT94
  case hyT94 => (intro w hSw; (try dsimp only at hSw); go_simp; (try with_reducible rfl))
  try simp only [Act.put, List.setIfInBounds_toArray, List.set_cons_zero, List.set_cons_succ]
  have hg3 : w3.heap[g]? = some (.cells cur 95) := (H3.out.2.block _ (Array.getElem?_eq_some_iff.1 HX.out.2.2.1).1).trans HX.out.2.2.1
  have o3 := (HCE.out _ H3.out.2).2.2.1
  have q3 := Lib.frozen_of_heap hg3 (m * 3 + 1)
  obtain ⟨V8, hV8⟩ : ∃ V8, w3.setCell ⟨g, m * 3 + 1, none⟩ (.slice a9 x.bs.length e9) = V8 := ⟨_, rfl⟩
  have hset := (HX.out.1.below H3.out.2).set HX.out.2.1 (x' := ⟨x.nm, a9, e9, x.bs, x.syn⟩) 1 (.slice a9 x.bs.length e9) (by decide) (by show [_, Value.slice a9 (x.bs).length e9, _] = _; rfl) (W' := V8) (by rw [HM.out]; exact hV8) (by show OwnF byU 1 5 w3 B (.slice a9 (x.bs).length e9) _; exact H3.out.1.mono HX.out.2.2.2.1)
  have H8 : Hid (BkAt V8 k B v (l ++ ⟨x.nm, a9, e9, x.bs, x.syn⟩ :: t) ∧ Chg (fun q => q = g) w3 V8) := hset
  have HW8 : Hid (WroteP w V8 k B v (l ++ x :: t) l t x.nm (x.bs) x.syn) := WroteP.grow HB2.out (WroteP.of_set (x := x) (x' := ⟨x.nm, a9, e9, x.bs, x.syn⟩) H8.out.1 ((Chg.of_below H3.out.2).trans H8.out.2) (by rw [HX.out.2.1]; rfl) (fun q hq => .inr (by
    have h2 : (Value.slice a9 (x.bs).length e9).ownBlock = some q := hq
    exact H3.out.1.ge h2)))
  have HD8 : Hid (V8.cell? ⟨w.heap.size, 3, none⟩ = some (.int .i64 (nN : Int)) ∧ V8.cell? ⟨k, 0, none⟩ = some (.slice (some ⟨g, 0, none⟩) n cc)) := ⟨(H8.out.2.cell (p := ⟨w.heap.size, 3, none⟩) (Nat.lt_of_lt_of_le HNE.out.2 H3.out.2.size) HNE.out.1).trans (HCE.out _ H3.out.2).1, by rw [box1 H8.out.1.box, HX.out.2.1, HN.out]⟩
  clear hg3 hset
  refine wpAnyH_ready (rs := [16]) (by kernel_rfl) (by simp) ?_
  refine AllReadyH.cons rfl (fun K hK => ?_) AllReadyH.nil
  go_simp
  clear hHeld
  refine hK.out _ _ ?hS95 (fun hHeld => ?rest95)
  case hS95 => exact HD8.out
  clear hK K
  try simp only [Act.put, List.setIfInBounds_toArray, List.set_cons_zero, List.set_cons_succ]
  refine wpAnyH_done (by kernel_rfl) ?_ _
  go_wp2_with fail
  obtain ⟨V0, hV0⟩ : ∃ V0, V8.drew = V0 := ⟨_, rfl⟩
  have hbV : Below V8.heap.size V8 V0 := by rw [← hV0]; exact (Below.refl _ _).drew
  have h0 := H8.out.1.below hbV
  have hC0 : Chg (fun q => q = g) W2 V0 := ((Chg.of_below H3.out.2).trans H8.out.2).trans (Chg.of_below hbV)
  have hown := h0.each ⟨x.nm, a9, e9, x.bs, x.syn⟩ (by simp)
  have hown2 : OwnF byU 1 5 V0 B (.slice a9 x.bs.length e9) x.bs := hown
  obtain ⟨ga, off, y, hga, hglt, hy, hc⟩ := (hown2.rw_ layU).at nN HX.out.2.2.2.2.1
  have hoff : off = 0 := by
    rcases hown2.2 with ⟨e, h9⟩ | ⟨g', cap', cur', e, _⟩
    · have := HX.out.2.2.2.2.1; omega
    · rw [hga] at e
      simp only [Value.slice.injEq, Option.some.injEq, Addr.mk.injEq, and_true] at e
      exact e.1.2
  subst hga hoff
  have k0 : V0.cell? ⟨ga, nN, none⟩ = some (.int .u8 (y.toNat : Int)) := by simpa using hc 0 _ rfl
  obtain ⟨cur2, hcur2⟩ := own_block (hown2.mono (Nat.zero_le _)) (g := ga) rfl
  have f0 := Lib.frozen_of_heap hcur2 nN
  have hxor := bits_xor_u8 y (maskOf M)
  obtain ⟨z, hz⟩ : ∃ z, y ^^^ maskOf M = z := ⟨_, rfl⟩
  rw [hz] at hxor
  have hq : (⟨ga, 0, none⟩ : Addr).add nN = ⟨ga, nN, none⟩ := by rw [addr_add', Nat.zero_add]
  have hyd : x.bs.getD nN 0 = y := by rw [List.getD_eq_getElem?_getD, hy]; rfl
  have hge : W2.heap.size ≤ ga := H3.out.1.ge rfl
  obtain ⟨V9, hV9⟩ : ∃ V9, V0.setCell ⟨ga, nN, none⟩ (.int .u8 (z.toNat : Int)) = V9 := ⟨_, rfl⟩
  have hC9 : Chg (fun q => q = ga) V0 V9 := by rw [← hV9]; exact Chg.set _ V0 _ rfl
  have hB9 : BkAt V9 k B v (l ++ ⟨x.nm, some ⟨ga, 0, none⟩, e9, x.bs.set nN z, x.syn⟩ :: t) := by
    have hkw := (HX.out.1.lt (.inl rfl)).1
    have hgw := HX.out.1.own.lt (g := g) (by rw [HX.out.2.1]; rfl)
    refine ⟨hC9.block h0.box (by omega), own_like (h0.own.chg hC9 (fun q hq e => ?_)) (by simp [flatF, pgV]) (by simp), fun u hu => ?_, h0.ge⟩
    · rw [HX.out.2.1] at hq
      simp [Value.ownBlock] at hq
      omega
    · rcases List.mem_append.1 hu with hu | hu
      · exact (h0.each u (List.mem_append_left _ hu)).chg hC9 (fun q hq e => by have := (HX.out.1.lt (.inr (.inr ⟨u, List.mem_append_left _ hu, hq⟩))).1; omega)
      · rcases List.mem_cons.1 hu with rfl | hu
        · have := own_setU hown2 nN z
          rw [hV9] at this
          show OwnF byU 1 5 V9 B (.slice _ (x.bs.set nN z).length e9) (x.bs.set nN z)
          rw [List.length_set]
          exact this
        · exact (h0.each u (List.mem_append_right _ (List.mem_cons_of_mem _ hu))).chg hC9 (fun q hq e => by have := (HX.out.1.lt (.inr (.inr ⟨u, List.mem_append_right _ (List.mem_cons_of_mem _ hu), hq⟩))).1; omega)
  have hCW : Chg (fun q => q = g) W2 V9 := ((hC0.mono (E := fun q => q = g ∨ q = ga) (fun q _ e => .inl e)).trans (hC9.mono (fun q _ e => .inr e))).mono (fun q hq e => by
    rcases e with e | e
    · exact e
    · omega)
  have HF : Hid (WroteP w V9 k B v (l ++ x :: t) l t x.nm (x.bs.set nN ((x.bs.getD nN 0) ^^^ maskOf M)) x.syn) := by
    rw [hyd, hz]
    exact WroteP.grow HB2.out (WroteP.of_set (x := x) (x' := ⟨x.nm, some ⟨ga, 0, none⟩, e9, x.bs.set nN z, x.syn⟩) hB9 hCW (by rw [HX.out.2.1]; rfl) (fun q hq => .inr (by
      have h2 : (Value.slice (some ⟨ga, 0, none⟩) (x.bs.set nN z).length e9).ownBlock = some q := hq
      simp [Value.ownBlock] at h2
      omega)))
  have HS0 : Hid (V0.cell? ⟨w.heap.size, 3, none⟩ = some (.int .i64 (nN : Int)) ∧ V0.cell? ⟨w.heap.size, 4, none⟩ = some (.int .i64 M) ∧ V0.cell? ⟨k, 0, none⟩ = some (.slice (some ⟨g, 0, none⟩) n cc) ∧ V0.cell? ⟨g, m * 3 + 1, none⟩ = some (.slice (some ⟨ga, 0, none⟩) x.bs.length e9)) := ⟨(hC0.cell (p := ⟨w.heap.size, 3, none⟩) HNE.out.2 HNE.out.1).trans HPM.out.1, (hC0.cell (p := ⟨w.heap.size, 4, none⟩) HNE.out.2 HNE.out.1).trans HPM.out.2, by rw [box1 h0.box, HX.out.2.1, HN.out], by have := h0.cell HX.out.2.1 1 rfl; rw [HM.out] at this; exact this⟩
  have HS9 : Hid (V9.cell? ⟨w.heap.size, 3, none⟩ = some (.int .i64 (nN : Int)) ∧ V9.cell? ⟨w.heap.size, 4, none⟩ = some (.int .i64 M) ∧ V9.cell? ⟨k, 0, none⟩ = some (.slice (some ⟨g, 0, none⟩) n cc) ∧ V9.cell? ⟨g, m * 3 + 1, none⟩ = some (.slice (some ⟨ga, 0, none⟩) x.bs.length e9)) := ⟨(hCW.cell (p := ⟨w.heap.size, 3, none⟩) HNE.out.2 HNE.out.1).trans HPM.out.1, (hCW.cell (p := ⟨w.heap.size, 4, none⟩) HNE.out.2 HNE.out.1).trans HPM.out.2, by rw [box1 hB9.box, HX.out.2.1, HN.out], by
    have := hB9.cell HX.out.2.1 1 rfl
    rw [HM.out, List.length_set] at this
    exact this⟩
  have m1 := bits_and_255 M
  have m2 := wrap_mask M
  clear hz hB9 hCW hC9 hge hyd hcur2 hc hy hglt hown hown2 hC0 h0 hbV hV8 o3 q3 hHeld
  refine wp_region_held_drew (S := (fun W => W.cell? ⟨w.heap.size, 3, none⟩ = some (.int .i64 (nN : Int)) ∧ W.cell? ⟨w.heap.size, 4, none⟩ = some (.int .i64 M) ∧ W.cell? ⟨k, 0, none⟩ = some (.slice (some ⟨g, 0, none⟩) n cc) ∧ W.cell? ⟨g, m * 3 + 1, none⟩ = some (.slice (some ⟨ga, 0, none⟩) x.bs.length e9))) (by kernel_rfl) ?hS96 (fun hHeld => ?rest96)
  case hS96 => rw [hV0]; exact HS0.out
  rw [hV0]
  refine takeD (i := 0) (d := some 183) (v := ?vT97) rfl rfl (by kernel_rfl) (by kernel_rfl) (by kernel_rfl) (fun _ _ _ h => h) (Or.inl ⟨by rfl, ?hyT97⟩) (by assumption) ?rstT97
  case hyT97 => (intro w hSw; (try dsimp only at hSw); go_simp; (try with_reducible rfl))
  try simp only [Act.put, List.setIfInBounds_toArray, List.set_cons_zero, List.set_cons_succ]
  refine takeD (i := 1) (d := some 184) (v := ?vT98) rfl rfl (by kernel_rfl) (by kernel_rfl) (by kernel_rfl) (fun _ _ _ h => h) (Or.inl ⟨by rfl, ?hyT98⟩) (by assumption) ?rstT98
  case hyT98 => (intro w hSw; (try dsimp only at hSw); go_simp; (try with_reducible rfl))
  try simp only [Act.put, List.setIfInBounds_toArray, List.set_cons_zero, List.set_cons_succ]
  refine takeD (i := 2) (d := some 185) (v := ?vT99) rfl rfl (by kernel_rfl) (by kernel_rfl) (by kernel_rfl) (fun _ _ _ h => h) (Or.inl ⟨by rfl, ?hyT99⟩) (by assumption) ?rstT99
  case hyT99 => (intro w hSw; (try dsimp only at hSw); go_simp; (try with_reducible rfl))
  try simp only [Act.put, List.setIfInBounds_toArray, List.set_cons_zero, List.set_cons_succ]
  refine takeD (i := 3) (d := some 186) (v := ?vT100) rfl rfl (by kernel_rfl) (by kernel_rfl) (by kernel_rfl) (fun _ _ _ h => h) (Or.inl ⟨by rfl, ?hyT100⟩) (by assumption) ?rstT100
  case hyT100 => (intro w hSw; (try dsimp only at hSw); go_simp; (try with_reducible rfl))
  try simp only [Act.put, List.setIfInBounds_toArray, List.set_cons_zero, List.set_cons_succ]
  refine takeD (i := 4) (d := some 187) (v := ?vT101) rfl rfl (by kernel_rfl) (by kernel_rfl) (by kernel_rfl) (fun _ _ _ h => h) (Or.inl ⟨by rfl, ?hyT101⟩) (by assumption) ?rstT101
  case hyT101 => (intro w hSw; (try dsimp only at hSw); go_simp; (try with_reducible rfl))
  try simp only [Act.put, List.setIfInBounds_toArray, List.set_cons_zero, List.set_cons_succ]
  refine takeD (i := 5) (d := some 188) (v := ?vT102) rfl rfl (by kernel_rfl) (by kernel_rfl) (by kernel_rfl) (fun _ _ _ h => h) (Or.inl ⟨by rfl, ?hyT102⟩) (by assumption) ?rstT102
  case hyT102 => (intro w hSw; (try dsimp only at hSw); go_simp; (try with_reducible rfl))
  try simp only [Act.put, List.setIfInBounds_toArray, List.set_cons_zero, List.set_cons_succ]
  refine takeD (i := 6) (d := some 189) (v := ?vT103) rfl rfl (by kernel_rfl) (by kernel_rfl) (by kernel_rfl) (fun _ _ _ h => h) (Or.inl ⟨by rfl, ?hyT103⟩) (by assumption) ?rstT103
  case hyT103 => (intro w hSw; (try dsimp only at hSw); go_simp; (try with_reducible rfl))
  try simp only [Act.put, List.setIfInBounds_toArray, List.set_cons_zero, List.set_cons_succ]
  refine takeD (i := 7) (d := some 190) (v := ?vT104) rfl rfl (by kernel_rfl) (by kernel_rfl) (by kernel_rfl) (fun _ _ _ h => h) (Or.inl ⟨by rfl, ?hyT104⟩) (by assumption) ?rstT104
  case hyT104 => (intro w hSw; (try dsimp only at hSw); go_simp; (try with_reducible rfl))
  try simp only [Act.put, List.setIfInBounds_toArray, List.set_cons_zero, List.set_cons_succ]
  refine takeD (i := 8) (d := some 191) (v := ?vT105) rfl rfl (by kernel_rfl) (by kernel_rfl) (by kernel_rfl) (fun _ _ _ h => h) (Or.inl ⟨by rfl, ?hyT105⟩) (by assumption) ?rstT105
  case hyT105 => (intro w hSw; (try dsimp only at hSw); go_simp; (try with_reducible rfl))
  try simp only [Act.put, List.setIfInBounds_toArray, List.set_cons_zero, List.set_cons_succ]
  refine takeD (i := 9) (d := some 192) (v := ?vT106) rfl rfl (by kernel_rfl) (by kernel_rfl) (by kernel_rfl) (fun _ _ _ h => h) (Or.inl ⟨by rfl, ?hyT106⟩) (by assumption) ?rstT106
  case hyT106 => (intro w hSw; (try dsimp only at hSw); go_simp; (try with_reducible rfl))
  try simp only [Act.put, List.setIfInBounds_toArray, List.set_cons_zero, List.set_cons_succ]
  refine takeD (i := 10) (d := some 193) (v := ?vT107) rfl rfl (by kernel_rfl) (by kernel_rfl) (by kernel_rfl) (fun _ _ _ h => h) (Or.inl ⟨by rfl, ?hyT107⟩) (by assumption) ?rstT107
  case hyT107 => (intro w hSw; (try dsimp only at hSw); go_simp; (try with_reducible rfl))
  try simp only [Act.put, List.setIfInBounds_toArray, List.set_cons_zero, List.set_cons_succ]
  refine takeD (i := 11) (d := some 194) (v := ?vT108) rfl rfl (by kernel_rfl) (by kernel_rfl) (by kernel_rfl) (fun _ _ _ h => h) (Or.inl ⟨by rfl, ?hyT108⟩) (by assumption) ?rstT108
  case hyT108 => (intro w hSw; (try dsimp only at hSw); go_simp; (try with_reducible rfl))
  try simp only [Act.put, List.setIfInBounds_toArray, List.set_cons_zero, List.set_cons_succ]
  refine takeD (i := 12) (d := some 195) (v := ?vT109) rfl rfl (by kernel_rfl) (by kernel_rfl) (by kernel_rfl) (fun _ _ _ h => h) (Or.inl ⟨by rfl, ?hyT109⟩) (by assumption) ?rstT109
  case hyT109 => (intro w hSw; (try dsimp only at hSw); go_simp; (try with_reducible rfl))
  try simp only [Act.put, List.setIfInBounds_toArray, List.set_cons_zero, List.set_cons_succ]
  refine takeD (i := 13) (d := some 196) (v := ?vT110) rfl rfl (by kernel_rfl) (by kernel_rfl) (by kernel_rfl) (fun _ _ _ h => h) (Or.inl ⟨by rfl, ?hyT110⟩) (by assumption) ?rstT110
  case hyT110 => (intro w hSw; (try dsimp only at hSw); go_simp; (try with_reducible rfl))
  try simp only [Act.put, List.setIfInBounds_toArray, List.set_cons_zero, List.set_cons_succ]
  refine takeD (i := 14) (d := some 197) (v := ?vT111) rfl rfl (by kernel_rfl) (by kernel_rfl) (by kernel_rfl) (fun _ _ _ h => h) (Or.inl ⟨by rfl, ?hyT111⟩) (by assumption) ?rstT111
  case hyT111 => (intro w hSw; (try dsimp only at hSw); go_simp; (try with_reducible rfl))
  try simp only [Act.put, List.setIfInBounds_toArray, List.set_cons_zero, List.set_cons_succ]
  refine takeD (i := 15) (d := some 198) (v := ?vT112) rfl rfl (by kernel_rfl) (by kernel_rfl) (by kernel_rfl) (fun _ _ _ h => h) (Or.inl ⟨by rfl, ?hyT112⟩) (by assumption) ?rstT112
  case hyT112 => (intro w hSw; (try dsimp only at hSw); go_simp; (try with_reducible rfl))
  try simp only [Act.put, List.setIfInBounds_toArray, List.set_cons_zero, List.set_cons_succ]
  refine takeD (i := 16) (d := some 199) (v := ?vT113) rfl rfl (by kernel_rfl) (by kernel_rfl) (by kernel_rfl) (fun _ _ _ h => h) (Or.inl ⟨by rfl, ?hyT113⟩) (by assumption) ?rstT113
  case hyT113 => (intro w hSw; (try dsimp only at hSw); go_simp; (try with_reducible rfl))
  try simp only [Act.put, List.setIfInBounds_toArray, List.set_cons_zero, List.set_cons_succ]
  refine takeD (i := 17) (d := some 200) (v := ?vT114) rfl rfl (by kernel_rfl) (by kernel_rfl) (by kernel_rfl) (fun _ _ _ h => h) (Or.inl ⟨by rfl, ?hyT114⟩) (by assumption) ?rstT114
  case hyT114 => (intro w hSw; (try dsimp only at hSw); go_simp; (try with_reducible rfl))
  try simp only [Act.put, List.setIfInBounds_toArray, List.set_cons_zero, List.set_cons_succ]
  refine takeD (i := 18) (d := some 201) (v := ?vT115) rfl rfl (by kernel_rfl) (by kernel_rfl) (by kernel_rfl) (fun _ _ _ h => h) (Or.inl ⟨by rfl, ?hyT115⟩) (by assumption) ?rstT115
  case hyT115 => (intro w hSw; (try dsimp only at hSw); go_simp; (try with_reducible rfl))
  try simp only [Act.put, List.setIfInBounds_toArray, List.set_cons_zero, List.set_cons_succ]
  refine takeD (i := 19) (d := some 202) (v := ?vT116) rfl rfl (by kernel_rfl) (by kernel_rfl) (by kernel_rfl) (fun _ _ _ h => h) (Or.inl ⟨by rfl, ?hyT116⟩) (by assumption) ?rstT116
  case hyT116 => (intro w hSw; (try dsimp only at hSw); go_simp; (try with_reducible rfl))
  try simp only [Act.put, List.setIfInBounds_toArray, List.set_cons_zero, List.set_cons_succ]
  refine takeD (i := 20) (d := some 203) (v := ?vT117) rfl rfl (by kernel_rfl) (by kernel_rfl) (by kernel_rfl) (fun _ _ _ h => h) (Or.inl ⟨by rfl, ?hyT117⟩) (by assumption) ?rstT117
  case hyT117 => (intro w hSw; (try dsimp only at hSw); go_simp; (try with_reducible rfl))
  try simp only [Act.put, List.setIfInBounds_toArray, List.set_cons_zero, List.set_cons_succ]
  refine takeD (i := 22) (d := some 205) (v := ?vT118) rfl rfl (by kernel_rfl) (by kernel_rfl) (by kernel_rfl) (fun _ _ _ h => h) (Or.inl ⟨by rfl, ?hyT118⟩) (by assumption) ?rstT118
  case hyT118 => (intro w hSw; (try dsimp only at hSw); go_simp; (try with_reducible rfl))
  try simp only [Act.put, List.setIfInBounds_toArray, List.set_cons_zero, List.set_cons_succ]
  refine takeD (i := 23) (d := some 206) (v := ?vT119) rfl rfl (by kernel_rfl) (by kernel_rfl) (by kernel_rfl) (fun _ _ _ h => h) (Or.inl ⟨by rfl, ?hyT119⟩) (by assumption) ?rstT119
  case hyT119 => (intro w hSw; (try dsimp only at hSw); go_simp; (try with_reducible rfl))
  try simp only [Act.put, List.setIfInBounds_toArray, List.set_cons_zero, List.set_cons_succ]
  refine takeD (i := 24) (d := some 207) (v := ?vT120) rfl rfl (by kernel_rfl) (by kernel_rfl) (by kernel_rfl) (fun _ _ _ h => h) (Or.inl ⟨by rfl, ?hyT120⟩) (by assumption) ?rstT120
  case hyT120 => (intro w hSw; (try dsimp only at hSw); go_simp; (try with_reducible rfl))
  try simp only [Act.put, List.setIfInBounds_toArray, List.set_cons_zero, List.set_cons_succ]
  refine takeD (i := 25) (d := some 208) (v := ?vT121) rfl rfl (by kernel_rfl) (by kernel_rfl) (by kernel_rfl) (fun _ _ _ h => h) (Or.inl ⟨by rfl, ?hyT121⟩) (by assumption) ?rstT121
  case hyT121 => (intro w hSw; (try dsimp only at hSw); go_simp; (try with_reducible rfl))
  try simp only [Act.put, List.setIfInBounds_toArray, List.set_cons_zero, List.set_cons_succ]
  refine wpAnyH_ready (rs := [21]) (by kernel_rfl) (by simp) ?_
  refine AllReadyH.cons rfl (fun K hK => ?_) AllReadyH.nil
  go_simp
  clear hHeld
  refine hK.out _ _ ?hS122 (fun hHeld => ?rest122)
  case hS122 => exact HS0.out
  clear hK K
  try simp only [Act.put, List.setIfInBounds_toArray, List.set_cons_zero, List.set_cons_succ]
  refine takeD (i := 26) (d := some 209) (v := ?vT123) rfl rfl (by kernel_rfl) (by kernel_rfl) (by kernel_rfl) (fun _ _ _ h => h) (Or.inl ⟨by rfl, ?hyT123⟩) (by assumption) ?rstT123
  case hyT123 => (intro w hSw; (try dsimp only at hSw); go_simp; (try with_reducible rfl))
  try simp only [Act.put, List.setIfInBounds_toArray, List.set_cons_zero, List.set_cons_succ]
  refine takeD (i := 27) (d := some 210) (v := ?vT124) rfl rfl (by kernel_rfl) (by kernel_rfl) (by kernel_rfl) (fun _ _ _ h => h) (Or.inl ⟨by rfl, ?hyT124⟩) (by assumption) ?rstT124
  case hyT124 => (intro w hSw; (try dsimp only at hSw); go_simp; (try with_reducible rfl))
  try simp only [Act.put, List.setIfInBounds_toArray, List.set_cons_zero, List.set_cons_succ]
  refine wpAnyH_ready (rs := [28]) (by kernel_rfl) (by simp) ?_
  refine AllReadyH.cons rfl (fun K hK => ?_) AllReadyH.nil
  go_simp
  clear hHeld
  refine hK.out _ _ ?hS125 (fun hHeld => ?rest125)
  case hS125 => exact HS9.out
  clear hK K
  try simp only [Act.put, List.setIfInBounds_toArray, List.set_cons_zero, List.set_cons_succ]
  refine wpAnyH_done (by kernel_rfl) ?_ _
  go_wp2_with fail
  go_ret
  have := HF.out
  rw [HX.out.2.2.2.2.2.1] at this
  exact ⟨rfl, this⟩
end Go.Proofs.Ytaclgiakinoocaa
