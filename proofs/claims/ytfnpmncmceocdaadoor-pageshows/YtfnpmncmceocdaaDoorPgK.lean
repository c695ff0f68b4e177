import Derived.Test.YtfnpmncmceocdaaDoorPgJ
/-! A cut of runes; laid. -/
namespace Go.Proofs.YtfnpmncmceocdaaDoor
open Go.RowKit Go.Lib
set_option maxRecDepth 100000

theorem elemRu : Tryd.prog.elem 23 = 21 := by kernel_rfl
/-- 'list[i:j]' -/
theorem cut_runes {w : World} {a : Option Addr} {n cap : Nat} {l : List (Int)} (h : Rw rune1 1 w a n cap l) (i j : Nat) (h1 : i ≤ j) (h2 : j ≤ n) :
    ∃ a' cap', (∀ W : World, (Instr.slice 23 (.slice a n cap) (some (.int .i64 (i : Int))) (some (.int .i64 (j : Int))) none).run Tryd.prog W = .ok (.slice a' (j - i) cap') W) ∧ Rw rune1 1 w a' (j - i) cap' ((l.take j).drop i) := by
  obtain ⟨ti, z, hti, hz, hsz, hby, _⟩ := kindRu.info
  have hroom := h.room
  have hlen := h.len
  have hrun := fun W : World => run_slice_lh (P := Tryd.prog) W 23 a n cap (by rw [elemRu]; exact kindRu.under) .i64 .i64 (i : Int) (j : Int) (by omega) (by omega) (by omega)
  rcases Nat.eq_zero_or_pos n with h0 | h0
  · obtain rfl : j = 0 := by omega
    obtain rfl : i = 0 := by omega
    refine ⟨a, cap, fun W => ?_, ⟨by simp, ⟨by omega, hroom.2⟩, fun h => absurd h (by omega)⟩⟩
    rw [hrun W, elemRu]
    cases a <;> simp [sizeOf, typeInfo, hti, hsz, sliced, Addr.add]
  · obtain ⟨g, off, rfl, hg, _⟩ := h.cells h0
    by_cases hc : i < cap
    · refine ⟨some ⟨g, off + i, none⟩, cap - i, fun W => ?_, by have := (h.take j h2).drop i h1; rwa [Nat.mul_one] at this⟩
      rw [hrun W, elemRu]
      simp [sizeOf, typeInfo, hti, hsz, sliced, addr_add']
      omega
    · obtain rfl : i = cap := by omega
      obtain rfl : j = i := by omega
      refine ⟨some ⟨g, off, none⟩, j - j, fun W => ?_, ⟨by simp, ⟨by omega, by omega⟩, fun h0 => by omega⟩⟩
      rw [hrun W, elemRu]
      simp [sizeOf, typeInfo, hti, hsz, sliced]
/-- The rows as they are handed out. -/
def rowsL (rs : List Int) (W : Nat) : List L4 := ((rowsP rs W).map (r6 rs)).map R6.line
theorem rowsL_len (rs : List Int) (W : Nat) : (rowsL rs W).length = (rowsP rs W).length := by unfold rowsL; rw [List.length_map, List.length_map]
theorem rowsL_get (rs : List Int) (W : Nat) {i : Nat} {x : Rv} (h : (rowsP rs W)[i]? = some x) : (rowsL rs W)[i]? = some ⟨x.lo, x.hi, (wd rs x.lo x.hi : Nat), x.hard⟩ := by
  unfold rowsL
  rw [List.getElem?_map, List.getElem?_map, h]
  rfl
theorem rowsP_few (rs : List Int) (W : Nat) : (rowsP rs W).length ≤ rs.length + 1 := by
  have := rowsP_ok rs W
  have h1 := ch_len this.2 (fun x hx => ⟨(this.1 x hx).le, fun e => ((this.1 x hx).soft e).1⟩)
  omega
set_option maxHeartbeats 8000000 in
theorem laid_any {w : World} {a : Option Addr} {n cap : Nat} {rs : List Int} (h : Rw rune1 1 w a n cap rs) (hok : ∀ r ∈ rs, okR r) (hn : n ≤ 274877906944) (W : Nat) (hW : 1 ≤ W ∧ W ≤ 1024) (hP : PTab w) (hG : Glob w.heap.size) :
    Calls Tryd.prog 6 #[.slice a n cap, .int .i64 (W : Int)] w fun e w' => ∃ v, e = .returned (.tuple #[v, .bool true]) ∧ OwnF l4V 4 40 w' w.heap.size v (rowsL rs W) ∧ Below w.heap.size w w' := by
  have hlen := h.len
  have hcv := conv_rw h
  have HL : Calls Tryd.prog 13 #[.string (strOf rs), .int .i64 (W : Int)] w fun e w' => ∃ v, e = .returned (.tuple #[v, .int .i64 0]) ∧ OwnF l4V 4 40 w' w.heap.size v (rowsL rs W) ∧ Below w.heap.size w w' := Lay_ok (strOf_text hok) W hW (by omega) hP hG
  have hne : (rowsP rs W).length ≠ 0 := fun e => rowsP_ne rs W (List.length_eq_zero_iff.1 e)
  have HR : Hid (∀ i, i < (rowsP rs W).length → ∃ lo hi : Nat, ∃ cols hard, (rowsL rs W)[i]? = some ⟨lo, hi, cols, hard⟩ ∧ lo ≤ hi ∧ hi ≤ n) := fun i hi => by
    have hx : (rowsP rs W)[i]? = some (rowsP rs W)[i] := List.getElem?_eq_getElem hi
    have hr := (rowsP_ok rs W).1 _ (List.getElem_mem hi)
    exact ⟨_, _, _, _, rowsL_get rs W hx, hr.le, by rw [← hlen]; exact hr.len⟩
  have hll := rowsL_len rs W
  have hfw := rowsP_few rs W
  rw [hlen] at hfw
  clear h hok hP hG
  generalize strOf rs = s at *
  generalize rowsL rs W = L at *
  generalize (rowsP rs W).length = k at *
  clear hlen
  go_enter Tryd.func6, Tryd.ntmps6
  go_wp2_with fail
  refine HL.mono ?_
  rintro e w1 ⟨v, rfl, ho, hb1⟩
  obtain ⟨a2, cap2, ev⟩ := ho.shape
  rw [hll] at ev
  subst ev
  have hRw := ho.rw_ layL4
  have HO : Hid (OwnF l4V 4 40 w1 w.heap.size (.slice a2 k cap2) L ∧ Below w.heap.size w w1) := ⟨ho, hb1⟩
  have hk1 : ((k : Int) == 0) = false := by rw [beq_eq_false_iff_ne]; omega
  clear HL ho hb1 hcv hll
  go_wp2_with fail
  go_loopw [8] (fun vi w' => ∃ i : Nat, vi = .int .i64 (i : Int) ∧ i ≤ k ∧ Below w1.heap.size w1 w') (fun i _ => k - (intOf i).toNat)
  case atStart => exact ⟨0, rfl, Nat.zero_le _, Below.refl _ _⟩
  case round =>
    obtain ⟨i, rfl, hik, hb⟩ := hrel
    by_cases hi : i < k
    · obtain ⟨lo, hi', cols, hard, hx, h1, h2⟩ := HR.out i hi
      obtain ⟨g, off, x, rfl, hg, hx2, hc⟩ := hRw.at i hi
      rw [hx] at hx2
      obtain rfl := Option.some.inj hx2
      have c0 : wr.cell? ⟨g, off + i * 4, none⟩ = some (.int .i64 (lo : Int)) := (hb.cell (p := ⟨g, off + i * 4, none⟩) hg).trans (hc 0 _ rfl)
      have c1 : wr.cell? ⟨g, off + i * 4 + 1, none⟩ = some (.int .i64 (hi' : Int)) := (hb.cell (p := ⟨g, off + i * 4 + 1, none⟩) hg).trans (hc 1 _ rfl)
      have HB : Hid (Below w1.heap.size w1 wr) := hb
      have d1 : decide ((lo : Int) < 0) = false := decide_eq_false (by omega)
      have d2 : decide ((hi' : Int) < lo) = false := decide_eq_false (by omega)
      have d3 : decide ((hi' : Int) > n) = false := decide_eq_false (by omega)
      have e2 : decide (hi' < lo) = false := decide_eq_false (by omega)
      have e3 : decide (n < hi') = false := decide_eq_false (by omega)
      clear hx hc hb HR
      go_wp2_with fail
      refine wp_region_held_drew (S := (fun v => v.cell? ⟨g, off + i * 4, none⟩ = some (.int .i64 (lo : Int)) ∧ v.cell? ⟨g, off + i * 4 + 1, none⟩ = some (.int .i64 (hi' : Int)))) (by kernel_rfl) ?hS1 (fun hHeld => ?rest1)
      case hS1 => exact ⟨c0, c1⟩
      refine takeD (i := 0) (d := some 29) (v := ?vT2) rfl rfl (by kernel_rfl) (by kernel_rfl) (by kernel_rfl) (fun _ _ _ h => h) (Or.inl ⟨by rfl, ?hyT2⟩) (by assumption) ?rstT2
      case hyT2 => (intro w hSw; (try dsimp only at hSw); obtain ⟨s0, s1⟩ := hSw; go_simp; (try with_reducible rfl))
      try simp only [Act.put, List.setIfInBounds_toArray, List.set_cons_zero, List.set_cons_succ]
      refine takeD (i := 1) (d := some 30) (v := ?vT3) rfl rfl (by kernel_rfl) (by kernel_rfl) (by kernel_rfl) (fun _ _ _ h => h) (Or.inl ⟨by rfl, ?hyT3⟩) (by assumption) ?rstT3
      case hyT3 => (intro w hSw; (try dsimp only at hSw); obtain ⟨s0, s1⟩ := hSw; go_simp; (try with_reducible rfl))
      try simp only [Act.put, List.setIfInBounds_toArray, List.set_cons_zero, List.set_cons_succ]
      refine takeD (i := 2) (d := some 31) (v := ?vT4) rfl rfl (by kernel_rfl) (by kernel_rfl) (by kernel_rfl) (fun _ _ _ h => h) (Or.inl ⟨by rfl, ?hyT4⟩) (by assumption) ?rstT4
      case hyT4 => (intro w hSw; (try dsimp only at hSw); obtain ⟨s0, s1⟩ := hSw; go_simp; (try with_reducible rfl))
      try simp only [Act.put, List.setIfInBounds_toArray, List.set_cons_zero, List.set_cons_succ]
      refine takeD (i := 3) (d := some 32) (v := ?vT5) rfl rfl (by kernel_rfl) (by kernel_rfl) (by kernel_rfl) (fun _ _ _ h => h) (Or.inl ⟨by rfl, ?hyT5⟩) (by assumption) ?rstT5
      case hyT5 => (intro w hSw; (try dsimp only at hSw); obtain ⟨s0, s1⟩ := hSw; go_simp; (try with_reducible rfl))
      try simp only [Act.put, List.setIfInBounds_toArray, List.set_cons_zero, List.set_cons_succ]
      refine takeD (i := 4) (d := some 33) (v := ?vT6) rfl rfl (by kernel_rfl) (by kernel_rfl) (by kernel_rfl) (fun _ _ _ h => h) (Or.inl ⟨by rfl, ?hyT6⟩) (by assumption) ?rstT6
      case hyT6 => (intro w hSw; (try dsimp only at hSw); obtain ⟨s0, s1⟩ := hSw; go_simp; (try with_reducible rfl))
      try simp only [Act.put, List.setIfInBounds_toArray, List.set_cons_zero, List.set_cons_succ]
      refine takeD (i := 5) (d := some 34) (v := ?vT7) rfl rfl (by kernel_rfl) (by kernel_rfl) (by kernel_rfl) (fun _ _ _ h => h) (Or.inl ⟨by rfl, ?hyT7⟩) (by assumption) ?rstT7
      case hyT7 => (intro w hSw; (try dsimp only at hSw); obtain ⟨s0, s1⟩ := hSw; go_simp; (try with_reducible rfl))
      try simp only [Act.put, List.setIfInBounds_toArray, List.set_cons_zero, List.set_cons_succ]
      refine takeD (i := 6) (d := some 35) (v := ?vT8) rfl rfl (by kernel_rfl) (by kernel_rfl) (by kernel_rfl) (fun _ _ _ h => h) (Or.inl ⟨by rfl, ?hyT8⟩) (by assumption) ?rstT8
      case hyT8 => (intro w hSw; (try dsimp only at hSw); obtain ⟨s0, s1⟩ := hSw; go_simp; (try with_reducible rfl))
      try simp only [Act.put, List.setIfInBounds_toArray, List.set_cons_zero, List.set_cons_succ]
      refine takeD (i := 7) (d := some 36) (v := ?vT9) rfl rfl (by kernel_rfl) (by kernel_rfl) (by kernel_rfl) (fun _ _ _ h => h) (Or.inl ⟨by rfl, ?hyT9⟩) (by assumption) ?rstT9
      case hyT9 => (intro w hSw; (try dsimp only at hSw); obtain ⟨s0, s1⟩ := hSw; go_simp; (try with_reducible rfl))
      try simp only [Act.put, List.setIfInBounds_toArray, List.set_cons_zero, List.set_cons_succ]
      refine takeD (i := 8) (d := some 37) (v := ?vT10) rfl rfl (by kernel_rfl) (by kernel_rfl) (by kernel_rfl) (fun _ _ _ h => h) (Or.inl ⟨by rfl, ?hyT10⟩) (by assumption) ?rstT10
      case hyT10 => (intro w hSw; (try dsimp only at hSw); obtain ⟨s0, s1⟩ := hSw; go_simp; (try with_reducible rfl))
      try simp only [Act.put, List.setIfInBounds_toArray, List.set_cons_zero, List.set_cons_succ]
      refine takeD (i := 9) (d := some 38) (v := ?vT11) rfl rfl (by kernel_rfl) (by kernel_rfl) (by kernel_rfl) (fun _ _ _ h => h) (Or.inl ⟨by rfl, ?hyT11⟩) (by assumption) ?rstT11
      case hyT11 => (intro w hSw; (try dsimp only at hSw); obtain ⟨s0, s1⟩ := hSw; go_simp; (try with_reducible rfl))
      try simp only [Act.put, List.setIfInBounds_toArray, List.set_cons_zero, List.set_cons_succ]
      refine takeD (i := 10) (d := some 39) (v := ?vT12) rfl rfl (by kernel_rfl) (by kernel_rfl) (by kernel_rfl) (fun _ _ _ h => h) (Or.inl ⟨by rfl, ?hyT12⟩) (by assumption) ?rstT12
      case hyT12 => (intro w hSw; (try dsimp only at hSw); obtain ⟨s0, s1⟩ := hSw; go_simp; (try with_reducible rfl))
      try simp only [Act.put, List.setIfInBounds_toArray, List.set_cons_zero, List.set_cons_succ]
      refine takeD (i := 11) (d := some 40) (v := ?vT13) rfl rfl (by kernel_rfl) (by kernel_rfl) (by kernel_rfl) (fun _ _ _ h => h) (Or.inl ⟨by rfl, ?hyT13⟩) (by assumption) ?rstT13
      case hyT13 => (intro w hSw; (try dsimp only at hSw); obtain ⟨s0, s1⟩ := hSw; go_simp; (try with_reducible rfl))
      try simp only [Act.put, List.setIfInBounds_toArray, List.set_cons_zero, List.set_cons_succ]
      refine takeD (i := 12) (d := some 41) (v := ?vT14) rfl rfl (by kernel_rfl) (by kernel_rfl) (by kernel_rfl) (fun _ _ _ h => h) (Or.inl ⟨by rfl, ?hyT14⟩) (by assumption) ?rstT14
      case hyT14 => (intro w hSw; (try dsimp only at hSw); obtain ⟨s0, s1⟩ := hSw; go_simp; (try with_reducible rfl))
      try simp only [Act.put, List.setIfInBounds_toArray, List.set_cons_zero, List.set_cons_succ]
      refine takeD (i := 13) (d := some 42) (v := ?vT15) rfl rfl (by kernel_rfl) (by kernel_rfl) (by kernel_rfl) (fun _ _ _ h => h) (Or.inl ⟨by rfl, ?hyT15⟩) (by assumption) ?rstT15
      case hyT15 => (intro w hSw; (try dsimp only at hSw); obtain ⟨s0, s1⟩ := hSw; go_simp; (try with_reducible rfl))
      try simp only [Act.put, List.setIfInBounds_toArray, List.set_cons_zero, List.set_cons_succ]
      refine takeD (i := 14) (d := some 43) (v := ?vT16) rfl rfl (by kernel_rfl) (by kernel_rfl) (by kernel_rfl) (fun _ _ _ h => h) (Or.inl ⟨by rfl, ?hyT16⟩) (by assumption) ?rstT16
      case hyT16 => (intro w hSw; (try dsimp only at hSw); obtain ⟨s0, s1⟩ := hSw; go_simp; (try with_reducible rfl))
      try simp only [Act.put, List.setIfInBounds_toArray, List.set_cons_zero, List.set_cons_succ]
      refine takeD (i := 15) (d := some 44) (v := ?vT17) rfl rfl (by kernel_rfl) (by kernel_rfl) (by kernel_rfl) (fun _ _ _ h => h) (Or.inl ⟨by rfl, ?hyT17⟩) (by assumption) ?rstT17
      case hyT17 => (intro w hSw; (try dsimp only at hSw); obtain ⟨s0, s1⟩ := hSw; go_simp; (try with_reducible rfl))
      try simp only [Act.put, List.setIfInBounds_toArray, List.set_cons_zero, List.set_cons_succ]
      refine takeD (i := 16) (d := some 45) (v := ?vT18) rfl rfl (by kernel_rfl) (by kernel_rfl) (by kernel_rfl) (fun _ _ _ h => h) (Or.inl ⟨by rfl, ?hyT18⟩) (by assumption) ?rstT18
      case hyT18 => (intro w hSw; (try dsimp only at hSw); obtain ⟨s0, s1⟩ := hSw; go_simp; (try with_reducible rfl))
      try simp only [Act.put, List.setIfInBounds_toArray, List.set_cons_zero, List.set_cons_succ]
      refine takeD (i := 17) (d := some 46) (v := ?vT19) rfl rfl (by kernel_rfl) (by kernel_rfl) (by kernel_rfl) (fun _ _ _ h => h) (Or.inl ⟨by rfl, ?hyT19⟩) (by assumption) ?rstT19
      case hyT19 => (intro w hSw; (try dsimp only at hSw); obtain ⟨s0, s1⟩ := hSw; go_simp; (try with_reducible rfl))
      try simp only [Act.put, List.setIfInBounds_toArray, List.set_cons_zero, List.set_cons_succ]
      refine takeD (i := 18) (d := some 47) (v := ?vT20) rfl rfl (by kernel_rfl) (by kernel_rfl) (by kernel_rfl) (fun _ _ _ h => h) (Or.inl ⟨by rfl, ?hyT20⟩) (by assumption) ?rstT20
      case hyT20 => (intro w hSw; (try dsimp only at hSw); obtain ⟨s0, s1⟩ := hSw; go_simp; (try with_reducible rfl))
      try simp only [Act.put, List.setIfInBounds_toArray, List.set_cons_zero, List.set_cons_succ]
      refine takeD (i := 19) (d := some 48) (v := ?vT21) rfl rfl (by kernel_rfl) (by kernel_rfl) (by kernel_rfl) (fun _ _ _ h => h) (Or.inl ⟨by rfl, ?hyT21⟩) (by assumption) ?rstT21
      case hyT21 => (intro w hSw; (try dsimp only at hSw); obtain ⟨s0, s1⟩ := hSw; go_simp; (try with_reducible rfl))
      try simp only [Act.put, List.setIfInBounds_toArray, List.set_cons_zero, List.set_cons_succ]
      refine takeD (i := 20) (d := some 49) (v := ?vT22) rfl rfl (by kernel_rfl) (by kernel_rfl) (by kernel_rfl) (fun _ _ _ h => h) (Or.inl ⟨by rfl, ?hyT22⟩) (by assumption) ?rstT22
      case hyT22 => (intro w hSw; (try dsimp only at hSw); obtain ⟨s0, s1⟩ := hSw; go_simp; (try with_reducible rfl))
      try simp only [Act.put, List.setIfInBounds_toArray, List.set_cons_zero, List.set_cons_succ]
      refine takeD (i := 21) (d := some 50) (v := ?vT23) rfl rfl (by kernel_rfl) (by kernel_rfl) (by kernel_rfl) (fun _ _ _ h => h) (Or.inl ⟨by rfl, ?hyT23⟩) (by assumption) ?rstT23
      case hyT23 => (intro w hSw; (try dsimp only at hSw); obtain ⟨s0, s1⟩ := hSw; go_simp; (try with_reducible rfl))
      try simp only [Act.put, List.setIfInBounds_toArray, List.set_cons_zero, List.set_cons_succ]
      refine takeD (i := 22) (d := some 51) (v := ?vT24) rfl rfl (by kernel_rfl) (by kernel_rfl) (by kernel_rfl) (fun _ _ _ h => h) (Or.inl ⟨by rfl, ?hyT24⟩) (by assumption) ?rstT24
      case hyT24 => (intro w hSw; (try dsimp only at hSw); obtain ⟨s0, s1⟩ := hSw; go_simp; (try with_reducible rfl))
      try simp only [Act.put, List.setIfInBounds_toArray, List.set_cons_zero, List.set_cons_succ]
      refine takeD (i := 23) (d := some 52) (v := ?vT25) rfl rfl (by kernel_rfl) (by kernel_rfl) (by kernel_rfl) (fun _ _ _ h => h) (Or.inl ⟨by rfl, ?hyT25⟩) (by assumption) ?rstT25
      case hyT25 => (intro w hSw; (try dsimp only at hSw); obtain ⟨s0, s1⟩ := hSw; go_simp; (try with_reducible rfl))
      try simp only [Act.put, List.setIfInBounds_toArray, List.set_cons_zero, List.set_cons_succ]
      refine takeD (i := 24) (d := some 53) (v := ?vT26) rfl rfl (by kernel_rfl) (by kernel_rfl) (by kernel_rfl) (fun _ _ _ h => h) (Or.inl ⟨by rfl, ?hyT26⟩) (by assumption) ?rstT26
      case hyT26 => (intro w hSw; (try dsimp only at hSw); obtain ⟨s0, s1⟩ := hSw; go_simp; (try with_reducible rfl))
      try simp only [Act.put, List.setIfInBounds_toArray, List.set_cons_zero, List.set_cons_succ]
      refine takeD (i := 25) (d := some 54) (v := ?vT27) rfl rfl (by kernel_rfl) (by kernel_rfl) (by kernel_rfl) (fun _ _ _ h => h) (Or.inl ⟨by rfl, ?hyT27⟩) (by assumption) ?rstT27
      case hyT27 => (intro w hSw; (try dsimp only at hSw); obtain ⟨s0, s1⟩ := hSw; go_simp; (try with_reducible rfl))
      try simp only [Act.put, List.setIfInBounds_toArray, List.set_cons_zero, List.set_cons_succ]
      refine takeD (i := 26) (d := some 55) (v := ?vT28) rfl rfl (by kernel_rfl) (by kernel_rfl) (by kernel_rfl) (fun _ _ _ h => h) (Or.inl ⟨by rfl, ?hyT28⟩) (by assumption) ?rstT28
      case hyT28 => (intro w hSw; (try dsimp only at hSw); obtain ⟨s0, s1⟩ := hSw; go_simp; (try with_reducible rfl))
      try simp only [Act.put, List.setIfInBounds_toArray, List.set_cons_zero, List.set_cons_succ]
      refine takeD (i := 27) (d := some 56) (v := ?vT29) rfl rfl (by kernel_rfl) (by kernel_rfl) (by kernel_rfl) (fun _ _ _ h => h) (Or.inl ⟨by rfl, ?hyT29⟩) (by assumption) ?rstT29
      case hyT29 => (intro w hSw; (try dsimp only at hSw); obtain ⟨s0, s1⟩ := hSw; go_simp; (try with_reducible rfl))
      try simp only [Act.put, List.setIfInBounds_toArray, List.set_cons_zero, List.set_cons_succ]
      refine takeD (i := 28) (d := some 57) (v := ?vT30) rfl rfl (by kernel_rfl) (by kernel_rfl) (by kernel_rfl) (fun _ _ _ h => h) (Or.inl ⟨by rfl, ?hyT30⟩) (by assumption) ?rstT30
      case hyT30 => (intro w hSw; (try dsimp only at hSw); obtain ⟨s0, s1⟩ := hSw; go_simp; (try with_reducible rfl))
      try simp only [Act.put, List.setIfInBounds_toArray, List.set_cons_zero, List.set_cons_succ]
      refine wpAnyH_done (by kernel_rfl) ?_ _
      go_wp2_with fail
      exact ⟨⟨i + 1, by go_num, by omega, HB.out.drew⟩, by simp [intOf]; omega⟩
    · have HB : Hid (Below w.heap.size w wr) := HO.out.2.trans (hb.mono HO.out.2.size)
      have HO2 : Hid (OwnF l4V 4 40 wr w.heap.size (.slice a2 k cap2) L) := HO.out.1.below hb
      clear hb
      go_wp2_with fail
      refine bodyPost_ret (v := .tuple #[.slice a2 k cap2, .bool true]) (by simp [results, Tryd.results6, go_sem]) rfl ?_
      exact ⟨_, rfl, HO2.out, HB.out⟩
end Go.Proofs.YtfnpmncmceocdaaDoor
