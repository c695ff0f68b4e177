import Derived.Test.YtaclgiakinoocaaDiD
import Derived.Test.YtaclgiakinoocaaDcF
/-! enters. -/
namespace Go.Proofs.Ytaclgiakinoocaa
open Go.RowKit Go.Lib
set_option maxRecDepth 100000

theorem ebox (w : World) (oc ac : Array Value) : ∃ W1 W2, w.alloc (.cells oc 51) = W1 ∧ W1.alloc (.cells ac 48) = W2 ∧ Below w.heap.size w W2 ∧ W1.heap.size = w.heap.size + 1 ∧ W2.heap[w.heap.size]? = some (.cells oc 51) ∧ W2.heap[w.heap.size + 1]? = some (.cells ac 48) := by
  have hs : (w.alloc (.cells oc 51)).heap.size = w.heap.size + 1 := World.size_alloc ..
  refine ⟨_, _, rfl, rfl, ((Below.refl _ _).alloc (Nat.le_refl _) _).alloc (by omega) _, hs, ?_, ?_⟩
  · rw [Below.heap_alloc _ _ _ (by omega)]
    exact (MapKept.heap_alloc w _).1
  · rw [← hs]
    exact (MapKept.heap_alloc _ _).1
theorem BkAt.at_ {W : World} {k B : Nat} {v : Value} {l t : List Pg} {x : Pg} (h : BkAt W k B v (l ++ x :: t)) : ∃ g c cur, v = .slice (some ⟨g, 0, none⟩) (l ++ x :: t).length c ∧ W.heap[g]? = some (.cells cur 95) ∧ k ≠ g := by
  rcases h.own.2 with ⟨e, h9⟩ | ⟨g, cap, cur, e, _, hh, _⟩
  · simp at h9
  · exact ⟨g, cap, cur, e, hh, fun e2 => by have := h.box; rw [e2, hh] at this; simp at this⟩
theorem BkAt.cell {W : World} {k B : Nat} {v : Value} {l t : List Pg} {x : Pg} (h : BkAt W k B v (l ++ x :: t)) {g n c : Nat} (hv : v = .slice (some ⟨g, 0, none⟩) n c) (j : Nat) {u : Value} (hj : (pgV x)[j]? = some u) : W.cell? ⟨g, l.length * 3 + j, none⟩ = some u := by
  obtain ⟨a, c', hv', hrow⟩ := own_shapeP h.own
  obtain ⟨g', off, o, hoa, hgl, hoi, hcell⟩ := hrow.at l.length (by simp)
  have hox : o = x := by simpa using hoi.symm
  subst hox
  rw [hv, hoa] at hv'
  simp only [Value.slice.injEq, Option.some.injEq, Addr.mk.injEq, and_true] at hv'
  obtain ⟨⟨rfl, rfl⟩, _⟩ := hv'
  have := hcell j _ hj
  rwa [Nat.zero_add] at this
theorem WroteP.of_set {w V8 : World} {k B g : Nat} {v : Value} {l t : List Pg} {x x' : Pg} (h8 : BkAt V8 k B v (l ++ x' :: t)) (hC : Chg (fun q => q = g) w V8) (hg : v.ownBlock = some g) (hb : ∀ q, x'.sl.ownBlock = some q → x.sl.ownBlock = some q ∨ w.heap.size ≤ q) : WroteP w V8 k B v (l ++ x :: t) l t x'.nm x'.bs x'.syn := by
  refine ⟨x', rfl, rfl, rfl, v, h8, hC.mono (fun q _ e => .inr (.inl (by rw [e]; exact hg))), fun q hq => ?_⟩
  rcases hq with h1 | h1 | ⟨y, hy, h1⟩
  · exact .inl (.inl h1)
  · exact .inl (.inr (.inl h1))
  · rcases List.mem_append.1 hy with hy | hy
    · exact .inl (.inr (.inr ⟨y, List.mem_append_left _ hy, h1⟩))
    · rcases List.mem_cons.1 hy with rfl | hy
      · rcases hb q h1 with h2 | h2
        · exact .inl (.inr (.inr ⟨x, by simp, h2⟩))
        · exact .inr h2
      · exact .inl (.inr (.inr ⟨y, List.mem_append_right _ (List.mem_cons_of_mem _ hy), h1⟩))
theorem BNx.grow {w w1 w2 : World} {k B : Nat} {v : Value} {ps ps2 : List Pg} (hb : Below w.heap.size w w1) (h : BNx w1 w2 k B v ps ps2) : BNx w w2 k B v ps ps2 := BNx.trans (Chg.of_below hb) (fun _ hg => .inl hg) h
theorem WroteP.grow {w w1 w2 : World} {k B : Nat} {v : Value} {ps l t : List Pg} {nm bs : List UInt8} {y : Nat} (hb : Below w.heap.size w w1) (h : WroteP w1 w2 k B v ps l t nm bs y) : WroteP w w2 k B v ps l t nm bs y := by
  obtain ⟨x', h1, h2, h3, h4⟩ := h
  exact ⟨x', h1, h2, h3, h4.grow hb⟩
variable {w : World} {k B : Nat} {v : Value} {ps : List Pg}
variable {nm : List UInt8} {ba : Option Addr} {bn bc : Nat} {N M E An Am : Int} {a1 a2 : Option Addr} {n1 c1 n2 c2 : Nat} {dn : Bool}
set_option maxHeartbeats 4000000 in
theorem enters_idle (h : BkAt w k B v ps) (hn : ps.length ≤ 4398046511104) {kd : Int} (k1 : kd ≠ 1) (k2 : kd ≠ 2) (k3 : kd ≠ 3) (k4 : kd ≠ 4) (k11 : kd ≠ 11) :
    Calls Try.prog 27 #[.pointer (some ⟨k, 0, none⟩), .agg #[.int .i64 kd, .string ⟨nm.toArray⟩, .slice ba bn bc, .int .i64 N, .int .i64 M], .agg #[.int .i64 E, .int .i64 An, .int .i64 Am, .slice a1 n1 c1, .slice a2 n2 c2, .bool dn]] w fun e w' => e = .returned (.bool true) ∧ BNx w w' k B v ps ps := by
  obtain ⟨W1, W2, hW1, hW2, hbW, hs1, hp, hq⟩ := ebox w #[.int .i64 kd, .string ⟨nm.toArray⟩, .slice ba bn bc, .int .i64 N, .int .i64 M] #[.int .i64 E, .int .i64 An, .int .i64 Am, .slice a1 n1 c1, .slice a2 n2 c2, .bool dn]
  obtain ⟨p0, p1, p2, p3, p4⟩ := box5 hp
  obtain ⟨r0, r1, r2, r3, r4, r5⟩ := box6 hq
  have HB2 : Hid (Below w.heap.size w W2) := hbW
  replace h := h.below hbW

  have HPG : Hid (Calls Try.prog 50 #[.pointer (some ⟨k, 0, none⟩), .string ⟨nm.toArray⟩] W2 fun e w' => e = .returned (.int .i64 (pgI ps nm)) ∧ w' = W2) := page_any h hn nm
  have HF : Hid (BNx w W2 k B v ps ps) := BNx.grow hbW (h.nxt (Below.refl _ _))
  clear h hn hbW hp hq p2 r2 r3 r4 r5
  obtain ⟨pi, hpi⟩ : ∃ pi, pgI ps nm = pi := ⟨_, rfl⟩
  rw [hpi] at HPG
  clear hpi
  go_enter Try.func27, Try.ntmps27
  go_wp2_with fail
  clear hW1 hW2 hs1
  refine HPG.out.mono ?_
  rintro e wz ⟨rfl, hz⟩
  rw [hz]
  clear hz wz
  have q1 : (kd == 1) = false := by simpa using k1
  have q2 : (kd == 2) = false := by simpa using k2
  have q3 : (kd == 3) = false := by simpa using k3
  have q4 : (kd == 4) = false := by simpa using k4
  have q11 : (kd == 11) = false := by simpa using k11
  go_wp2_with fail
  go_ret
  exact ⟨rfl, HF.out⟩
set_option maxHeartbeats 4000000 in
theorem enters_gone {l t : List Pg} {x : Pg} (h : BkAt w k B v (l ++ x :: t)) (hB : B ≤ w.heap.size) (hn : (l ++ x :: t).length ≤ 4398046511104) (hl : ∀ y ∈ l, y.nm ≠ nm) (hx : x.nm = nm) :
    Calls Try.prog 27 #[.pointer (some ⟨k, 0, none⟩), .agg #[.int .i64 4, .string ⟨nm.toArray⟩, .slice ba bn bc, .int .i64 N, .int .i64 M], .agg #[.int .i64 E, .int .i64 An, .int .i64 Am, .slice a1 n1 c1, .slice a2 n2 c2, .bool dn]] w fun e w' => e = .returned (.bool true) ∧ BNx w w' k B v (l ++ x :: t) (l ++ t) := by
  obtain ⟨W1, W2, hW1, hW2, hbW, hs1, hp, hq⟩ := ebox w #[.int .i64 4, .string ⟨nm.toArray⟩, .slice ba bn bc, .int .i64 N, .int .i64 M] #[.int .i64 E, .int .i64 An, .int .i64 Am, .slice a1 n1 c1, .slice a2 n2 c2, .bool dn]
  obtain ⟨p0, p1, p2, p3, p4⟩ := box5 hp
  obtain ⟨r0, r1, r2, r3, r4, r5⟩ := box6 hq
  have HB2 : Hid (Below w.heap.size w W2) := hbW
  replace h := h.below hbW
  replace hB : B ≤ W2.heap.size := Nat.le_trans hB hbW.size
  have HPG : Hid (Calls Try.prog 50 #[.pointer (some ⟨k, 0, none⟩), .string ⟨nm.toArray⟩] W2 fun e w' => e = .returned (.int .i64 (l.length : Int)) ∧ w' = W2) := by have := page_any h hn nm; rwa [pgI_hit hx hl] at this
  have HGN : Hid (Calls Try.prog 51 #[.pointer (some ⟨k, 0, none⟩), .int .i64 (l.length : Int)] W2 fun e w' => e = .returned (.tuple #[]) ∧ BNx W2 w' k B v (l ++ x :: t) (l ++ t)) := gone_any h hB hn
  clear h hn hl hx hB hbW hp hq p2 r2 r3 r4 r5
  obtain ⟨m, hm⟩ : ∃ m, l.length = m := ⟨_, rfl⟩
  rw [hm] at HPG HGN
  clear hm
  have gm : ¬ ((m : Int) < 0) := by omega
  go_enter Try.func27, Try.ntmps27
  go_wp2_with fail
  clear hW1 hW2 hs1
  refine HPG.out.mono ?_
  rintro e wz ⟨rfl, hz⟩
  rw [hz]
  clear hz wz
  go_wp2_with fail
  refine HGN.out.mono ?_
  rintro e wz ⟨rfl, hz⟩
  have HZ : Hid (BNx w wz k B v (l ++ x :: t) (l ++ t)) := BNx.grow HB2.out hz
  clear hz
  go_wp2_with fail
  go_ret
  exact ⟨rfl, HZ.out⟩
set_option maxHeartbeats 4000000 in
theorem enters_sync {l t : List Pg} {x : Pg} (h : BkAt w k B v (l ++ x :: t)) (hn : (l ++ x :: t).length ≤ 4398046511104) (hl : ∀ y ∈ l, y.nm ≠ nm) (hx : x.nm = nm) :
    Calls Try.prog 27 #[.pointer (some ⟨k, 0, none⟩), .agg #[.int .i64 2, .string ⟨nm.toArray⟩, .slice ba bn bc, .int .i64 N, .int .i64 M], .agg #[.int .i64 E, .int .i64 An, .int .i64 Am, .slice a1 n1 c1, .slice a2 n2 c2, .bool dn]] w fun e w' => e = .returned (.bool true) ∧ WroteP w w' k B v (l ++ x :: t) l t nm x.bs x.bs.length := by
  obtain ⟨W1, W2, hW1, hW2, hbW, hs1, hp, hq⟩ := ebox w #[.int .i64 2, .string ⟨nm.toArray⟩, .slice ba bn bc, .int .i64 N, .int .i64 M] #[.int .i64 E, .int .i64 An, .int .i64 Am, .slice a1 n1 c1, .slice a2 n2 c2, .bool dn]
  obtain ⟨p0, p1, p2, p3, p4⟩ := box5 hp
  obtain ⟨r0, r1, r2, r3, r4, r5⟩ := box6 hq
  have HB2 : Hid (Below w.heap.size w W2) := hbW
  replace h := h.below hbW
  have HPG : Hid (Calls Try.prog 50 #[.pointer (some ⟨k, 0, none⟩), .string ⟨nm.toArray⟩] W2 fun e w' => e = .returned (.int .i64 (l.length : Int)) ∧ w' = W2) := by have := page_any h hn nm; rwa [pgI_hit hx hl] at this
  obtain ⟨g, cc, cur, hv, hcur, hkg⟩ := h.at_
  obtain ⟨V0, hV0⟩ : ∃ V0, W2.drew = V0 := ⟨_, rfl⟩
  have hbV : Below W2.heap.size W2 V0 := by rw [← hV0]; exact (Below.refl _ _).drew
  have h0 := h.below hbV
  have hcur0 : V0.heap[g]? = some (.cells cur 95) := (hbV.block _ (Array.getElem?_eq_some_iff.1 hcur).1).trans hcur
  have q2 := Lib.frozen_of_heap hcur0 (l.length * 3 + 2)
  obtain ⟨V8, hV8⟩ : ∃ V8, V0.setCell ⟨g, l.length * 3 + 2, none⟩ (.int .i64 (x.bs.length : Int)) = V8 := ⟨_, rfl⟩
  have hset := h0.set hv (x' := ⟨x.nm, x.a, x.cap, x.bs, x.bs.length⟩) 2 (.int .i64 (x.bs.length : Int)) (by decide) rfl (W' := V8) hV8 (h0.each x (by simp))
  have HF : Hid (WroteP w V8 k B v (l ++ x :: t) l t nm x.bs x.bs.length) := by
    refine WroteP.grow hbW (WroteP.grow hbV ?_)
    have := WroteP.of_set (x := x) hset.1 hset.2 (by rw [hv]; rfl) (fun q hq => .inl hq)
    rwa [hx] at this
  have o3 := h0.cell hv 2 rfl
  have d1 := box1 h.box
  have d2 := box1 h0.box
  have d3 := box1 hset.1.box
  rw [hv] at d1 d2 d3
  have HS0 : Hid (V0.cell? ⟨k, 0, none⟩ = some (.slice (some ⟨g, 0, none⟩) (l ++ x :: t).length cc) ∧ V0.cell? ⟨g, l.length * 3 + 1, none⟩ = some (.slice x.a x.bs.length x.cap)) := ⟨d2, h0.cell hv 1 rfl⟩
  have HS8 : Hid (V8.cell? ⟨k, 0, none⟩ = some (.slice (some ⟨g, 0, none⟩) (l ++ x :: t).length cc) ∧ V8.cell? ⟨g, l.length * 3 + 1, none⟩ = some (.slice x.a x.bs.length x.cap)) := ⟨d3, hset.1.cell hv 1 rfl⟩
  have gl : (l.length : Int) < ((l ++ x :: t).length : Int) := by simp; omega
  clear h hn hl hx hv hcur hcur0 h0 hset hbV hkg d2 d3 hbW hp hq p2 r2 r3 r4 r5
  obtain ⟨n, hn⟩ : ∃ n, (l ++ x :: t).length = n := ⟨_, rfl⟩
  rw [hn] at d1 gl HS0 HS8
  clear hn
  obtain ⟨m, hm⟩ : ∃ m, l.length = m := ⟨_, rfl⟩
  rw [hm] at HPG o3 q2 hV8 gl HS0 HS8
  clear hm
  have gm : ¬ ((m : Int) < 0) := by omega
  go_enter Try.func27, Try.ntmps27
  go_wp2_with fail
  clear hW1 hW2 hs1
  refine HPG.out.mono ?_
  rintro e wz ⟨rfl, hz⟩
  rw [hz]
  clear hz wz
  go_wp2_with fail
  refine wp_region_held_drew (S := (fun W => W.cell? ⟨k, 0, none⟩ = some (.slice (some ⟨g, 0, none⟩) n cc) ∧ W.cell? ⟨g, m * 3 + 1, none⟩ = some (.slice x.a x.bs.length x.cap))) (by kernel_rfl) ?hS1 (fun hHeld => ?rest1)
  case hS1 => rw [hV0]; exact HS0.out
  rw [hV0]
  refine takeD (i := 0) (d := some 71) (v := ?vT2) rfl rfl (by kernel_rfl) (by kernel_rfl) (by kernel_rfl) (fun _ _ _ h => h) (Or.inl ⟨by rfl, ?hyT2⟩) (by assumption) ?rstT2
  case hyT2 => (intro w hSw; (try dsimp only at hSw); go_simp; (try with_reducible rfl))
  try simp only [Act.put, List.setIfInBounds_toArray, List.set_cons_zero, List.set_cons_succ]
  refine takeD (i := 1) (d := some 72) (v := ?vT3) rfl rfl (by kernel_rfl) (by kernel_rfl) (by kernel_rfl) (fun _ _ _ h => h) (Or.inl ⟨by rfl, ?hyT3⟩) (by assumption) ?rstT3
  case hyT3 => (intro w hSw; (try dsimp only at hSw); go_simp; (try with_reducible rfl))
  try simp only [Act.put, List.setIfInBounds_toArray, List.set_cons_zero, List.set_cons_succ]
  refine takeD (i := 2) (d := some 73) (v := ?vT4) rfl rfl (by kernel_rfl) (by kernel_rfl) (by kernel_rfl) (fun _ _ _ h => h) (Or.inl ⟨by rfl, ?hyT4⟩) (by assumption) ?rstT4
  case hyT4 => (intro w hSw; (try dsimp only at hSw); go_simp; (try with_reducible rfl))
  try simp only [Act.put, List.setIfInBounds_toArray, List.set_cons_zero, List.set_cons_succ]
  refine takeD (i := 3) (d := some 74) (v := ?vT5) rfl rfl (by kernel_rfl) (by kernel_rfl) (by kernel_rfl) (fun _ _ _ h => h) (Or.inl ⟨by rfl, ?hyT5⟩) (by assumption) ?rstT5
  case hyT5 => (intro w hSw; (try dsimp only at hSw); go_simp; (try with_reducible rfl))
  try simp only [Act.put, List.setIfInBounds_toArray, List.set_cons_zero, List.set_cons_succ]
  refine takeD (i := 4) (d := some 75) (v := ?vT6) rfl rfl (by kernel_rfl) (by kernel_rfl) (by kernel_rfl) (fun _ _ _ h => h) (Or.inl ⟨by rfl, ?hyT6⟩) (by assumption) ?rstT6
  case hyT6 => (intro w hSw; (try dsimp only at hSw); go_simp; (try with_reducible rfl))
  try simp only [Act.put, List.setIfInBounds_toArray, List.set_cons_zero, List.set_cons_succ]
  refine takeD (i := 5) (d := some 76) (v := ?vT7) rfl rfl (by kernel_rfl) (by kernel_rfl) (by kernel_rfl) (fun _ _ _ h => h) (Or.inl ⟨by rfl, ?hyT7⟩) (by assumption) ?rstT7
  case hyT7 => (intro w hSw; (try dsimp only at hSw); go_simp; (try with_reducible rfl))
  try simp only [Act.put, List.setIfInBounds_toArray, List.set_cons_zero, List.set_cons_succ]
  refine takeD (i := 6) (d := some 77) (v := ?vT8) rfl rfl (by kernel_rfl) (by kernel_rfl) (by kernel_rfl) (fun _ _ _ h => h) (Or.inl ⟨by rfl, ?hyT8⟩) (by assumption) ?rstT8
  case hyT8 => (intro w hSw; (try dsimp only at hSw); go_simp; (try with_reducible rfl))
  try simp only [Act.put, List.setIfInBounds_toArray, List.set_cons_zero, List.set_cons_succ]
  refine takeD (i := 7) (d := some 78) (v := ?vT9) rfl rfl (by kernel_rfl) (by kernel_rfl) (by kernel_rfl) (fun _ _ _ h => h) (Or.inl ⟨by rfl, ?hyT9⟩) (by assumption) ?rstT9
  case hyT9 => (intro w hSw; (try dsimp only at hSw); go_simp; (try with_reducible rfl))
  try simp only [Act.put, List.setIfInBounds_toArray, List.set_cons_zero, List.set_cons_succ]
  refine takeD (i := 8) (d := some 79) (v := ?vT10) rfl rfl (by kernel_rfl) (by kernel_rfl) (by kernel_rfl) (fun _ _ _ h => h) (Or.inl ⟨by rfl, ?hyT10⟩) (by assumption) ?rstT10
  case hyT10 => (intro w hSw; (try dsimp only at hSw); go_simp; (try with_reducible rfl))
  try simp only [Act.put, List.setIfInBounds_toArray, List.set_cons_zero, List.set_cons_succ]
  refine takeD (i := 9) (d := some 80) (v := ?vT11) rfl rfl (by kernel_rfl) (by kernel_rfl) (by kernel_rfl) (fun _ _ _ h => h) (Or.inl ⟨by rfl, ?hyT11⟩) (by assumption) ?rstT11
  case hyT11 => (intro w hSw; (try dsimp only at hSw); go_simp; (try with_reducible rfl))
  try simp only [Act.put, List.setIfInBounds_toArray, List.set_cons_zero, List.set_cons_succ]
  refine takeD (i := 10) (d := some 81) (v := ?vT12) rfl rfl (by kernel_rfl) (by kernel_rfl) (by kernel_rfl) (fun _ _ _ h => h) (Or.inl ⟨by rfl, ?hyT12⟩) (by assumption) ?rstT12
  case hyT12 => (intro w hSw; (try dsimp only at hSw); go_simp; (try with_reducible rfl))
  try simp only [Act.put, List.setIfInBounds_toArray, List.set_cons_zero, List.set_cons_succ]
  refine takeD (i := 11) (d := some 82) (v := ?vT13) rfl rfl (by kernel_rfl) (by kernel_rfl) (by kernel_rfl) (fun _ _ _ h => h) (Or.inl ⟨by rfl, ?hyT13⟩) (by assumption) ?rstT13
  case hyT13 => (intro w hSw; (try dsimp only at hSw); go_simp; (try with_reducible rfl))
  try simp only [Act.put, List.setIfInBounds_toArray, List.set_cons_zero, List.set_cons_succ]
  refine takeD (i := 12) (d := some 83) (v := ?vT14) rfl rfl (by kernel_rfl) (by kernel_rfl) (by kernel_rfl) (fun _ _ _ h => h) (Or.inl ⟨by rfl, ?hyT14⟩) (by assumption) ?rstT14
  case hyT14 => (intro w hSw; (try dsimp only at hSw); go_simp; (try with_reducible rfl))
  try simp only [Act.put, List.setIfInBounds_toArray, List.set_cons_zero, List.set_cons_succ]
  refine takeD (i := 13) (d := some 84) (v := ?vT15) rfl rfl (by kernel_rfl) (by kernel_rfl) (by kernel_rfl) (fun _ _ _ h => h) (Or.inl ⟨by rfl, ?hyT15⟩) (by assumption) ?rstT15
  case hyT15 => (intro w hSw; (try dsimp only at hSw); go_simp; (try with_reducible rfl))
  try simp only [Act.put, List.setIfInBounds_toArray, List.set_cons_zero, List.set_cons_succ]
  refine takeD (i := 14) (d := some 85) (v := ?vT16) rfl rfl (by kernel_rfl) (by kernel_rfl) (by kernel_rfl) (fun _ _ _ h => h) (Or.inl ⟨by rfl, ?hyT16⟩) (by assumption) ?rstT16
  case hyT16 => (intro w hSw; (try dsimp only at hSw); go_simp; (try with_reducible rfl))
  try simp only [Act.put, List.setIfInBounds_toArray, List.set_cons_zero, List.set_cons_succ]
  refine takeD (i := 15) (d := some 86) (v := ?vT17) rfl rfl (by kernel_rfl) (by kernel_rfl) (by kernel_rfl) (fun _ _ _ h => h) (Or.inl ⟨by rfl, ?hyT17⟩) (by assumption) ?rstT17
  case hyT17 => (intro w hSw; (try dsimp only at hSw); go_simp; (try with_reducible rfl))
  try simp only [Act.put, List.setIfInBounds_toArray, List.set_cons_zero, List.set_cons_succ]
  refine wpAnyH_ready (rs := [16]) (by kernel_rfl) (by simp) ?_
  refine AllReadyH.cons rfl (fun K hK => ?_) AllReadyH.nil
  go_simp
  clear hHeld
  refine hK.out _ _ ?hS18 (fun hHeld => ?rest18)
  case hS18 => exact HS8.out
  clear hK K
  try simp only [Act.put, List.setIfInBounds_toArray, List.set_cons_zero, List.set_cons_succ]
  refine wpAnyH_done (by kernel_rfl) ?_ _
  go_wp2_with fail
  go_ret
  exact ⟨rfl, HF.out⟩
end Go.Proofs.Ytaclgiakinoocaa
