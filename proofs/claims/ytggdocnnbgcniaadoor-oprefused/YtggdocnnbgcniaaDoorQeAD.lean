import Derived.Test.YtggdocnnbgcniaaDoorRrPI
import Derived.Test.YtggdocnnbgcniaaDoorQcDH
/-! Bump, where a counter would leave its bounds. -/
namespace Go.Proofs.YtggdocnnbgcniaaDoor
open Go.RowKit Go.Lib
set_option maxRecDepth 100000

theorem Tr.Wf.all {t : Tr} (h : t.Wf) : ∀ c ∈ t.row, t.sm.least ≤ c.2 ∧ c.2 ≤ t.sm.most := by
  induction t with
  | nil => exact h.elim
  | leaf rs hid st =>
    intro c hc
    obtain ⟨x, _, rfl⟩ := List.mem_map.1 hc
    simp [Tr.sm, pieceSm]
  | node l r st ihl ihr =>
    intro c hc
    simp only [Tr.row, upL] at hc
    obtain ⟨x, hx, rfl⟩ := List.mem_map.1 hc
    simp only [Tr.sm, Sm.both, Sm.raised]
    rcases List.mem_append.1 hx with hx | hx
    · have := ihl h.1 x hx
      omega
    · have := ihr h.2 x hx
      omega
theorem Tr.Can.all {t : Tr} (h : t.Can) {c : Int × Int} (hc : c ∈ t.row) : t.sm.least ≤ c.2 ∧ c.2 ≤ t.sm.most ∧ (∃ b ∈ t.row, b.2 = t.sm.least) ∧ ∃ b ∈ t.row, b.2 = t.sm.most := by
  rcases h with rfl | hf
  · simp [Tr.row] at hc
  · have h1 := hf.wf.all c hc
    exact ⟨h1.1, h1.2, hf.wf.smIn.least, hf.wf.smIn.most⟩
set_option maxHeartbeats 4000000 in
theorem bump_above {w : World} {q : Nat} {t : Tr} (h : RopeAt w q t) (hR : t.Rp) {a : Option Addr} {m cap : Nat} {l : List (Int × Int)} (hl : Rw pieceV 2 w a m cap l) (hm : m ≤ 32768) (hs : Srt l) (hb : ∀ x ∈ l, 0 ≤ x.1 ∧ x.2 ≤ (t.row.length : Int)) (hout : ∃ c ∈ bmp l (1) 0 t.row, 1048576 < c.2) :
    Calls Tryd.prog 31 #[.pointer (some ⟨q, 0, none⟩), .slice a m cap, .int .i64 (1)] w fun e w' => e = .returned (.int .i64 31) ∧ Below w.heap.size w w' := by
  have hlen := hR.len
  have hll := hl.len
  have HCK := Sp.check_any hl.rng
  rw [check_srt hs (fun x hx => by have := hb x hx; omega) (by omega)] at HCK
  have HT : Hid (∀ W, Below w.heap.size w W → Calls Tryd.prog 27 #[.pointer (some ⟨q, 0, none⟩)] W fun e w' => e = .returned (.int .i64 (t.row.length : Int)) ∧ w' = W) := fun W hW => ropeTotal_any (h.below hW)
  obtain ⟨g, hq, hA⟩ := h
  have hql := (Array.getElem?_eq_some_iff.1 hq).1
  have c0 : w.cell? ⟨q, 0, none⟩ = some (.pointer (some ⟨g, 0, none⟩)) := by simp [World.cell?, hq]
  have HBP : Hid (∀ W, Below w.heap.size w W → Calls Tryd.prog 56 #[.pointer (some ⟨g, 0, none⟩), .int .i64 0, .slice a m cap, .int .i64 (1)] W fun e w' => ∃ g' t', e = .returned (.pointer (some ⟨g', 0, none⟩)) ∧ At w' t' g' ∧ t'.Can ∧ Pcs t'.lv ∧ t'.row = bmp l (1) 0 t.row ∧ Below W.heap.size W w') := fun W hW => bumped_root (hA.below hW) hR (hl.below hW) hm hs hb (1) (by omega)
  have HL : Hid (Rw pieceV 2 w a m cap l) := hl
  have HB : Hid (∀ x ∈ l, 0 ≤ x.1 ∧ x.2 ≤ (t.row.length : Int)) := hb
  have h0 : 0 < m := by
    rcases Nat.eq_zero_or_pos m with h0 | h0
    · exfalso
      obtain rfl : l = [] := List.length_eq_zero_iff.1 (hll.trans h0)
      obtain ⟨c, hc, hx⟩ := hout
      obtain ⟨j, hj⟩ := List.getElem?_of_mem hc
      rw [bmp_get] at hj
      obtain ⟨y, hy, rfl⟩ := Option.map_eq_some_iff.1 hj
      have hy2 := List.mem_of_getElem? hy
      have h1 := hR.lo y hy2
      have h2 := hR.hi y hy2
      rw [if_neg (by simp [inL])] at hx
      omega
    · exact h0
  have HFX : Hid (∀ t4 : Tr, t4.Can → t4.row = bmp l (1) 0 t.row → 0 ≤ t4.sm.least ∧ 1048576 < t4.sm.most) := fun t4 hC hr => by
    obtain ⟨c, hc, hx⟩ := hout
    obtain ⟨h1, h2, ⟨b, hb1, hb2⟩, _⟩ := hC.all (by rw [hr]; exact hc)
    rw [hr] at hb1
    obtain ⟨y, hy, e⟩ := bmp_mem hb1
    have hy1 := hR.lo y hy
    rcases e with rfl | rfl
    · omega
    · simp only at hb2
      omega
  clear hl hb hq hs hout
  go_enter Tryd.func31, Tryd.ntmps31
  go_wp2_with fail
  refine HCK.mono ?_
  rintro e w1 ⟨rfl, hb1⟩
  clear HCK
  obtain ⟨M, rfl⟩ : ∃ M, m = M + 1 := ⟨m - 1, by omega⟩
  obtain ⟨ga, off, x, rfl, hga, hx, hc⟩ := HL.out.at M (by omega)
  have HX : Hid (w.cell? ⟨ga, off + M * 2 + 1, none⟩ = some (.int .i64 x.2)) := hc 1 _ rfl
  have c1 : w1.cell? ⟨ga, off + M * 2 + 1, none⟩ = some (.int .i64 x.2) := (hb1.cell (p := ⟨ga, off + M * 2 + 1, none⟩) hga).trans HX.out
  have hx2 : ¬ (t.row.length : Int) < x.2 := by have := (HB.out x (List.mem_of_getElem? hx)).2; omega
  have b2 : decide ((t.row.length : Int) < x.2) = false := decide_eq_false hx2
  have u2 : IntKind.i64.wrap (M : Int) = (M : Int) := IntWalk.i64_in _ (by omega)
  have u3 : (M : Int) < (M : Int) + 1 := by omega
  clear hc hx hx2
  go_wp2_with fail
  refine wp_region_held_drew (S := (fun W => W.cell? ⟨ga, off + M * 2 + 1, none⟩ = some (.int .i64 x.2))) (by kernel_rfl) ?hS1 (fun hHeld => ?rest1)
  case hS1 => (first | exact c1 | exact c2)
  refine takeD (i := 0) (d := some 24) (v := ?vT2) rfl rfl (by kernel_rfl) (by kernel_rfl) (by kernel_rfl) (fun _ _ _ h => h) (Or.inl ⟨by rfl, ?hyT2⟩) (by assumption) ?rstT2
  case hyT2 => (intro w hSw; (try dsimp only at hSw); go_simp; (try with_reducible rfl))
  try simp only [Act.put, List.setIfInBounds_toArray, List.set_cons_zero, List.set_cons_succ]
  refine takeD (i := 1) (d := some 25) (v := ?vT3) rfl rfl (by kernel_rfl) (by kernel_rfl) (by kernel_rfl) (fun _ _ _ h => h) (Or.inl ⟨by rfl, ?hyT3⟩) (by assumption) ?rstT3
  case hyT3 => (intro w hSw; (try dsimp only at hSw); go_simp; (try with_reducible rfl))
  try simp only [Act.put, List.setIfInBounds_toArray, List.set_cons_zero, List.set_cons_succ]
  refine takeD (i := 2) (d := some 26) (v := ?vT4) rfl rfl (by kernel_rfl) (by kernel_rfl) (by kernel_rfl) (fun _ _ _ h => h) (Or.inl ⟨by rfl, ?hyT4⟩) (by assumption) ?rstT4
  case hyT4 => (intro w hSw; (try dsimp only at hSw); go_simp; (try with_reducible rfl))
  try simp only [Act.put, List.setIfInBounds_toArray, List.set_cons_zero, List.set_cons_succ]
  refine takeD (i := 3) (d := some 27) (v := ?vT5) rfl rfl (by kernel_rfl) (by kernel_rfl) (by kernel_rfl) (fun _ _ _ h => h) (Or.inl ⟨by rfl, ?hyT5⟩) (by assumption) ?rstT5
  case hyT5 => (intro w hSw; (try dsimp only at hSw); go_simp; (try with_reducible rfl))
  try simp only [Act.put, List.setIfInBounds_toArray, List.set_cons_zero, List.set_cons_succ]
  refine takeD (i := 4) (d := some 28) (v := ?vT6) rfl rfl (by kernel_rfl) (by kernel_rfl) (by kernel_rfl) (fun _ _ _ h => h) (Or.inl ⟨by rfl, ?hyT6⟩) (by assumption) ?rstT6
  case hyT6 => (intro w hSw; (try dsimp only at hSw); go_simp; (try with_reducible rfl))
  try simp only [Act.put, List.setIfInBounds_toArray, List.set_cons_zero, List.set_cons_succ]
  refine takeD (i := 5) (d := some 29) (v := ?vT7) rfl rfl (by kernel_rfl) (by kernel_rfl) (by kernel_rfl) (fun _ _ _ h => h) (Or.inl ⟨by rfl, ?hyT7⟩) (by assumption) ?rstT7
  case hyT7 => (intro w hSw; (try dsimp only at hSw); go_simp; (try with_reducible rfl))
  try simp only [Act.put, List.setIfInBounds_toArray, List.set_cons_zero, List.set_cons_succ]
  refine takeD (i := 6) (d := some 30) (v := ?vT8) rfl rfl (by kernel_rfl) (by kernel_rfl) (by kernel_rfl) (fun _ _ _ h => h) (Or.inl ⟨by rfl, ?hyT8⟩) (by assumption) ?rstT8
  case hyT8 => (intro w hSw; (try dsimp only at hSw); go_simp; (try with_reducible rfl))
  try simp only [Act.put, List.setIfInBounds_toArray, List.set_cons_zero, List.set_cons_succ]
  refine takeD (i := 7) (d := some 31) (v := ?vT9) rfl rfl (by kernel_rfl) (by kernel_rfl) (by kernel_rfl) (fun _ _ _ h => h) (Or.inl ⟨by rfl, ?hyT9⟩) (by assumption) ?rstT9
  case hyT9 => (intro w hSw; (try dsimp only at hSw); go_simp; (try with_reducible rfl))
  try simp only [Act.put, List.setIfInBounds_toArray, List.set_cons_zero, List.set_cons_succ]
  refine takeD (i := 8) (d := some 32) (v := ?vT10) rfl rfl (by kernel_rfl) (by kernel_rfl) (by kernel_rfl) (fun _ _ _ h => h) (Or.inl ⟨by rfl, ?hyT10⟩) (by assumption) ?rstT10
  case hyT10 => (intro w hSw; (try dsimp only at hSw); go_simp; (try with_reducible rfl))
  try simp only [Act.put, List.setIfInBounds_toArray, List.set_cons_zero, List.set_cons_succ]
  refine takeD (i := 9) (d := some 33) (v := ?vT11) rfl rfl (by kernel_rfl) (by kernel_rfl) (by kernel_rfl) (fun _ _ _ h => h) (Or.inl ⟨by rfl, ?hyT11⟩) (by assumption) ?rstT11
  case hyT11 => (intro w hSw; (try dsimp only at hSw); go_simp; (try with_reducible rfl))
  try simp only [Act.put, List.setIfInBounds_toArray, List.set_cons_zero, List.set_cons_succ]
  refine takeD (i := 10) (d := some 34) (v := ?vT12) rfl rfl (by kernel_rfl) (by kernel_rfl) (by kernel_rfl) (fun _ _ _ h => h) (Or.inl ⟨by rfl, ?hyT12⟩) (by assumption) ?rstT12
  case hyT12 => (intro w hSw; (try dsimp only at hSw); go_simp; (try with_reducible rfl))
  try simp only [Act.put, List.setIfInBounds_toArray, List.set_cons_zero, List.set_cons_succ]
  refine takeD (i := 11) (d := some 35) (v := ?vT13) rfl rfl (by kernel_rfl) (by kernel_rfl) (by kernel_rfl) (fun _ _ _ h => h) (Or.inl ⟨by rfl, ?hyT13⟩) (by assumption) ?rstT13
  case hyT13 => (intro w hSw; (try dsimp only at hSw); go_simp; (try with_reducible rfl))
  try simp only [Act.put, List.setIfInBounds_toArray, List.set_cons_zero, List.set_cons_succ]
  refine wpAnyH_ready (rs := [12]) (by kernel_rfl) (by simp) ?_
  refine AllReadyH.cons rfl (fun K hK => ?_) AllReadyH.nil
  go_simp
  refine (HT.out _ ?_).mono ?_
  · first | exact hb1 | exact hb1.drew
  rintro e2 w2 ⟨rfl, hw2⟩
  have hb2 : Below w.heap.size w w2 := by rw [hw2]; first | exact hb1 | exact hb1.drew
  have c2 : w2.cell? ⟨ga, off + M * 2 + 1, none⟩ = some (.int .i64 x.2) := (hb2.cell (p := ⟨ga, off + M * 2 + 1, none⟩) hga).trans (HX.out)
  clear hb1 hw2 c1
  have hb1 := hb2
  clear hHeld
  refine hK.out _ _ ?hS14 (fun hHeld => ?rest14)
  case hS14 => (first | exact c1 | exact c2)
  clear hK K
  try simp only [Act.put, List.setIfInBounds_toArray, List.set_cons_zero, List.set_cons_succ]
  refine takeD (i := 13) (d := some 37) (v := ?vT15) rfl rfl (by kernel_rfl) (by kernel_rfl) (by kernel_rfl) (fun _ _ _ h => h) (Or.inl ⟨by rfl, ?hyT15⟩) (by assumption) ?rstT15
  case hyT15 => (intro w hSw; (try dsimp only at hSw); go_simp; (try with_reducible rfl))
  try simp only [Act.put, List.setIfInBounds_toArray, List.set_cons_zero, List.set_cons_succ]
  refine takeD (i := 14) (d := some 38) (v := ?vT16) rfl rfl (by kernel_rfl) (by kernel_rfl) (by kernel_rfl) (fun _ _ _ h => h) (Or.inl ⟨by rfl, ?hyT16⟩) (by assumption) ?rstT16
  case hyT16 => (intro w hSw; (try dsimp only at hSw); go_simp; (try with_reducible rfl))
  try simp only [Act.put, List.setIfInBounds_toArray, List.set_cons_zero, List.set_cons_succ]
  refine wpAnyH_done (by kernel_rfl) ?_ _
  have hbd : Below w.heap.size w w2 := by first | exact hb1 | exact hb1.drew
  have c3 := (hbd.cell (p := ⟨q, 0, none⟩) hql).trans c0
  clear c0
  go_wp2_with fail
  refine (HBP.out _ hbd).mono ?_
  rintro e w4 ⟨g4, t4, rfl, hA4, hC4, hP4, hr4, hb4⟩
  have hB4 := hbd.trans (hb4.mono hbd.size)
  have hbo := HFX.out t4 hC4 hr4
  have hz0 : decide (t4.sm.least < 0) = false := decide_eq_false (by omega)
  have hz0' : ¬ t4.sm.least < 0 := by omega
  have hz1 : decide (1048576 < t4.sm.most) = true := decide_eq_true (by omega)
  have hz1' : 1048576 < t4.sm.most := by omega
  obtain ⟨z0, z1, z2, z3, z4, z5, z6, z7, z8, z9⟩ := hA4.ten
  clear hr4 hbo c3 hA4
  go_wp2_with fail
  go_ret
  exact ⟨rfl, hB4⟩
set_option maxHeartbeats 4000000 in
theorem bump_below {w : World} {q : Nat} {t : Tr} (h : RopeAt w q t) (hR : t.Rp) {a : Option Addr} {m cap : Nat} {l : List (Int × Int)} (hl : Rw pieceV 2 w a m cap l) (hm : m ≤ 32768) (hs : Srt l) (hb : ∀ x ∈ l, 0 ≤ x.1 ∧ x.2 ≤ (t.row.length : Int)) (hout : ∃ c ∈ bmp l (-1) 0 t.row, c.2 < 0) :
    Calls Tryd.prog 31 #[.pointer (some ⟨q, 0, none⟩), .slice a m cap, .int .i64 (-1)] w fun e w' => e = .returned (.int .i64 30) ∧ Below w.heap.size w w' := by
  have hlen := hR.len
  have hll := hl.len
  have HCK := Sp.check_any hl.rng
  rw [check_srt hs (fun x hx => by have := hb x hx; omega) (by omega)] at HCK
  have HT : Hid (∀ W, Below w.heap.size w W → Calls Tryd.prog 27 #[.pointer (some ⟨q, 0, none⟩)] W fun e w' => e = .returned (.int .i64 (t.row.length : Int)) ∧ w' = W) := fun W hW => ropeTotal_any (h.below hW)
  obtain ⟨g, hq, hA⟩ := h
  have hql := (Array.getElem?_eq_some_iff.1 hq).1
  have c0 : w.cell? ⟨q, 0, none⟩ = some (.pointer (some ⟨g, 0, none⟩)) := by simp [World.cell?, hq]
  have HBP : Hid (∀ W, Below w.heap.size w W → Calls Tryd.prog 56 #[.pointer (some ⟨g, 0, none⟩), .int .i64 0, .slice a m cap, .int .i64 (-1)] W fun e w' => ∃ g' t', e = .returned (.pointer (some ⟨g', 0, none⟩)) ∧ At w' t' g' ∧ t'.Can ∧ Pcs t'.lv ∧ t'.row = bmp l (-1) 0 t.row ∧ Below W.heap.size W w') := fun W hW => bumped_root (hA.below hW) hR (hl.below hW) hm hs hb (-1) (by omega)
  have HL : Hid (Rw pieceV 2 w a m cap l) := hl
  have HB : Hid (∀ x ∈ l, 0 ≤ x.1 ∧ x.2 ≤ (t.row.length : Int)) := hb
  have h0 : 0 < m := by
    rcases Nat.eq_zero_or_pos m with h0 | h0
    · exfalso
      obtain rfl : l = [] := List.length_eq_zero_iff.1 (hll.trans h0)
      obtain ⟨c, hc, hx⟩ := hout
      obtain ⟨j, hj⟩ := List.getElem?_of_mem hc
      rw [bmp_get] at hj
      obtain ⟨y, hy, rfl⟩ := Option.map_eq_some_iff.1 hj
      have hy2 := List.mem_of_getElem? hy
      have h1 := hR.lo y hy2
      have h2 := hR.hi y hy2
      rw [if_neg (by simp [inL])] at hx
      omega
    · exact h0
  have HFX : Hid (∀ t4 : Tr, t4.Can → t4.row = bmp l (-1) 0 t.row → t4.sm.least < 0) := fun t4 hC hr => by
    obtain ⟨c, hc, hx⟩ := hout
    obtain ⟨h1, h2, ⟨b, hb1, hb2⟩, _⟩ := hC.all (by rw [hr]; exact hc)
    rw [hr] at hb1
    obtain ⟨y, hy, e⟩ := bmp_mem hb1
    have hy1 := hR.lo y hy
    rcases e with rfl | rfl
    · omega
    · simp only at hb2
      omega
  clear hl hb hq hs hout
  go_enter Tryd.func31, Tryd.ntmps31
  go_wp2_with fail
  refine HCK.mono ?_
  rintro e w1 ⟨rfl, hb1⟩
  clear HCK
  obtain ⟨M, rfl⟩ : ∃ M, m = M + 1 := ⟨m - 1, by omega⟩
  obtain ⟨ga, off, x, rfl, hga, hx, hc⟩ := HL.out.at M (by omega)
  have HX : Hid (w.cell? ⟨ga, off + M * 2 + 1, none⟩ = some (.int .i64 x.2)) := hc 1 _ rfl
  have c1 : w1.cell? ⟨ga, off + M * 2 + 1, none⟩ = some (.int .i64 x.2) := (hb1.cell (p := ⟨ga, off + M * 2 + 1, none⟩) hga).trans HX.out
  have hx2 : ¬ (t.row.length : Int) < x.2 := by have := (HB.out x (List.mem_of_getElem? hx)).2; omega
  have b2 : decide ((t.row.length : Int) < x.2) = false := decide_eq_false hx2
  have u2 : IntKind.i64.wrap (M : Int) = (M : Int) := IntWalk.i64_in _ (by omega)
  have u3 : (M : Int) < (M : Int) + 1 := by omega
  clear hc hx hx2
  go_wp2_with fail
  refine wp_region_held_drew (S := (fun W => W.cell? ⟨ga, off + M * 2 + 1, none⟩ = some (.int .i64 x.2))) (by kernel_rfl) ?hS17 (fun hHeld => ?rest17)
  case hS17 => (first | exact c1 | exact c2)
  refine takeD (i := 0) (d := some 24) (v := ?vT18) rfl rfl (by kernel_rfl) (by kernel_rfl) (by kernel_rfl) (fun _ _ _ h => h) (Or.inl ⟨by rfl, ?hyT18⟩) (by assumption) ?rstT18
  case hyT18 => (intro w hSw; (try dsimp only at hSw); go_simp; (try with_reducible rfl))
  try simp only [Act.put, List.setIfInBounds_toArray, List.set_cons_zero, List.set_cons_succ]
  refine takeD (i := 1) (d := some 25) (v := ?vT19) rfl rfl (by kernel_rfl) (by kernel_rfl) (by kernel_rfl) (fun _ _ _ h => h) (Or.inl ⟨by rfl, ?hyT19⟩) (by assumption) ?rstT19
  case hyT19 => (intro w hSw; (try dsimp only at hSw); go_simp; (try with_reducible rfl))
  try simp only [Act.put, List.setIfInBounds_toArray, List.set_cons_zero, List.set_cons_succ]
  refine takeD (i := 2) (d := some 26) (v := ?vT20) rfl rfl (by kernel_rfl) (by kernel_rfl) (by kernel_rfl) (fun _ _ _ h => h) (Or.inl ⟨by rfl, ?hyT20⟩) (by assumption) ?rstT20
  case hyT20 => (intro w hSw; (try dsimp only at hSw); go_simp; (try with_reducible rfl))
  try simp only [Act.put, List.setIfInBounds_toArray, List.set_cons_zero, List.set_cons_succ]
  refine takeD (i := 3) (d := some 27) (v := ?vT21) rfl rfl (by kernel_rfl) (by kernel_rfl) (by kernel_rfl) (fun _ _ _ h => h) (Or.inl ⟨by rfl, ?hyT21⟩) (by assumption) ?rstT21
  case hyT21 => (intro w hSw; (try dsimp only at hSw); go_simp; (try with_reducible rfl))
  try simp only [Act.put, List.setIfInBounds_toArray, List.set_cons_zero, List.set_cons_succ]
  refine takeD (i := 4) (d := some 28) (v := ?vT22) rfl rfl (by kernel_rfl) (by kernel_rfl) (by kernel_rfl) (fun _ _ _ h => h) (Or.inl ⟨by rfl, ?hyT22⟩) (by assumption) ?rstT22
  case hyT22 => (intro w hSw; (try dsimp only at hSw); go_simp; (try with_reducible rfl))
  try simp only [Act.put, List.setIfInBounds_toArray, List.set_cons_zero, List.set_cons_succ]
  refine takeD (i := 5) (d := some 29) (v := ?vT23) rfl rfl (by kernel_rfl) (by kernel_rfl) (by kernel_rfl) (fun _ _ _ h => h) (Or.inl ⟨by rfl, ?hyT23⟩) (by assumption) ?rstT23
  case hyT23 => (intro w hSw; (try dsimp only at hSw); go_simp; (try with_reducible rfl))
  try simp only [Act.put, List.setIfInBounds_toArray, List.set_cons_zero, List.set_cons_succ]
  refine takeD (i := 6) (d := some 30) (v := ?vT24) rfl rfl (by kernel_rfl) (by kernel_rfl) (by kernel_rfl) (fun _ _ _ h => h) (Or.inl ⟨by rfl, ?hyT24⟩) (by assumption) ?rstT24
  case hyT24 => (intro w hSw; (try dsimp only at hSw); go_simp; (try with_reducible rfl))
  try simp only [Act.put, List.setIfInBounds_toArray, List.set_cons_zero, List.set_cons_succ]
  refine takeD (i := 7) (d := some 31) (v := ?vT25) rfl rfl (by kernel_rfl) (by kernel_rfl) (by kernel_rfl) (fun _ _ _ h => h) (Or.inl ⟨by rfl, ?hyT25⟩) (by assumption) ?rstT25
  case hyT25 => (intro w hSw; (try dsimp only at hSw); go_simp; (try with_reducible rfl))
  try simp only [Act.put, List.setIfInBounds_toArray, List.set_cons_zero, List.set_cons_succ]
  refine takeD (i := 8) (d := some 32) (v := ?vT26) rfl rfl (by kernel_rfl) (by kernel_rfl) (by kernel_rfl) (fun _ _ _ h => h) (Or.inl ⟨by rfl, ?hyT26⟩) (by assumption) ?rstT26
  case hyT26 => (intro w hSw; (try dsimp only at hSw); go_simp; (try with_reducible rfl))
  try simp only [Act.put, List.setIfInBounds_toArray, List.set_cons_zero, List.set_cons_succ]
  refine takeD (i := 9) (d := some 33) (v := ?vT27) rfl rfl (by kernel_rfl) (by kernel_rfl) (by kernel_rfl) (fun _ _ _ h => h) (Or.inl ⟨by rfl, ?hyT27⟩) (by assumption) ?rstT27
  case hyT27 => (intro w hSw; (try dsimp only at hSw); go_simp; (try with_reducible rfl))
  try simp only [Act.put, List.setIfInBounds_toArray, List.set_cons_zero, List.set_cons_succ]
  refine takeD (i := 10) (d := some 34) (v := ?vT28) rfl rfl (by kernel_rfl) (by kernel_rfl) (by kernel_rfl) (fun _ _ _ h => h) (Or.inl ⟨by rfl, ?hyT28⟩) (by assumption) ?rstT28
  case hyT28 => (intro w hSw; (try dsimp only at hSw); go_simp; (try with_reducible rfl))
  try simp only [Act.put, List.setIfInBounds_toArray, List.set_cons_zero, List.set_cons_succ]
  refine takeD (i := 11) (d := some 35) (v := ?vT29) rfl rfl (by kernel_rfl) (by kernel_rfl) (by kernel_rfl) (fun _ _ _ h => h) (Or.inl ⟨by rfl, ?hyT29⟩) (by assumption) ?rstT29
  case hyT29 => (intro w hSw; (try dsimp only at hSw); go_simp; (try with_reducible rfl))
  try simp only [Act.put, List.setIfInBounds_toArray, List.set_cons_zero, List.set_cons_succ]
  refine wpAnyH_ready (rs := [12]) (by kernel_rfl) (by simp) ?_
  refine AllReadyH.cons rfl (fun K hK => ?_) AllReadyH.nil
  go_simp
  refine (HT.out _ ?_).mono ?_
  · first | exact hb1 | exact hb1.drew
  rintro e2 w2 ⟨rfl, hw2⟩
  have hb2 : Below w.heap.size w w2 := by rw [hw2]; first | exact hb1 | exact hb1.drew
  have c2 : w2.cell? ⟨ga, off + M * 2 + 1, none⟩ = some (.int .i64 x.2) := (hb2.cell (p := ⟨ga, off + M * 2 + 1, none⟩) hga).trans (HX.out)
  clear hb1 hw2 c1
  have hb1 := hb2
  clear hHeld
  refine hK.out _ _ ?hS30 (fun hHeld => ?rest30)
  case hS30 => (first | exact c1 | exact c2)
  clear hK K
  try simp only [Act.put, List.setIfInBounds_toArray, List.set_cons_zero, List.set_cons_succ]
  refine takeD (i := 13) (d := some 37) (v := ?vT31) rfl rfl (by kernel_rfl) (by kernel_rfl) (by kernel_rfl) (fun _ _ _ h => h) (Or.inl ⟨by rfl, ?hyT31⟩) (by assumption) ?rstT31
  case hyT31 => (intro w hSw; (try dsimp only at hSw); go_simp; (try with_reducible rfl))
  try simp only [Act.put, List.setIfInBounds_toArray, List.set_cons_zero, List.set_cons_succ]
  refine takeD (i := 14) (d := some 38) (v := ?vT32) rfl rfl (by kernel_rfl) (by kernel_rfl) (by kernel_rfl) (fun _ _ _ h => h) (Or.inl ⟨by rfl, ?hyT32⟩) (by assumption) ?rstT32
  case hyT32 => (intro w hSw; (try dsimp only at hSw); go_simp; (try with_reducible rfl))
  try simp only [Act.put, List.setIfInBounds_toArray, List.set_cons_zero, List.set_cons_succ]
  refine wpAnyH_done (by kernel_rfl) ?_ _
  have hbd : Below w.heap.size w w2 := by first | exact hb1 | exact hb1.drew
  have c3 := (hbd.cell (p := ⟨q, 0, none⟩) hql).trans c0
  clear c0
  go_wp2_with fail
  refine (HBP.out _ hbd).mono ?_
  rintro e w4 ⟨g4, t4, rfl, hA4, hC4, hP4, hr4, hb4⟩
  have hB4 := hbd.trans (hb4.mono hbd.size)
  have hbo := HFX.out t4 hC4 hr4
  have hz0 : decide (t4.sm.least < 0) = true := decide_eq_true (by omega)
  have hz0' : t4.sm.least < 0 := by omega
  obtain ⟨z0, z1, z2, z3, z4, z5, z6, z7, z8, z9⟩ := hA4.ten
  clear hr4 hbo c3 hA4
  go_wp2_with fail
  go_ret
  exact ⟨rfl, hB4⟩
end Go.Proofs.YtggdocnnbgcniaaDoor

/-! The sentences' own stops and bumped. -/
namespace Go.Proofs.YtggdocnnbgcniaaDoor
open Go.RowKit Go.Lib
set_option maxRecDepth 100000

/-- A counter that forbids the step of an operation of kind k. -/
def badC (k h : Int) : Prop := (k = 3 ∧ h = 0) ∨ (k = 2 ∧ h = 1048576)
/-- What stops tells. -/
def StopP (k : Int) (l R : List (Int × Int)) (w : World) (e : Ending) (w' : World) : Prop := ∃ b : Bool, e = .returned (.bool b) ∧ (b = true → ∃ x ∈ l, ∃ (j : Nat) (y : Int × Int), x.1 ≤ (j : Int) ∧ (j : Int) < x.2 ∧ R[j]? = some y ∧ badC k y.2) ∧ (b = false → ∀ x ∈ l, ∀ (j : Nat) (y : Int × Int), x.1 ≤ (j : Int) → (j : Int) < x.2 → R[j]? = some y → ¬ badC k y.2) ∧ Below w.heap.size w w'
set_option maxHeartbeats 2000000 in
theorem stops_any {c n k p : Int} {s : ByteArray} {l : List (Int × Int)} {tc tn : Int} {on : Bool} (hk : k = 2 ∨ k = 3) {w : World} {a : Option Addr} {m cap : Nat} (hl : Rw pieceV 2 w a m cap l) (hb : ∀ x ∈ l, 0 ≤ x.1 ∧ x.1 < x.2 ∧ x.2 ≤ 1048576) {ar : Option Addr} {nr cr : Nat} {R : List (Int × Int)} (hR : Rw cellV 2 w ar nr cr R) (hnr : nr ≤ 1048576) (hm : m ≤ 1000000000) :
    Calls Tryd.prog 21 #[.slice ar nr cr, opVal ⟨c, n, k, p, s, l, tc, tn, on⟩ (.slice a m cap)] w (StopP k l R w) := by
  have hll := hl.len
  have hRl := hR.len
  have HLL : Hid (l.length = m) := hll
  have HRL : Hid (R.length = nr) := hRl
  have HB : Hid (∀ x ∈ l, 0 ≤ x.1 ∧ x.1 < x.2 ∧ x.2 ≤ 1048576) := hb
  clear hll hRl hb
  simp only [opVal]
  go_enter Tryd.func21, Tryd.ntmps21
  go_wp2_with fail
  generalize hWB : w.alloc (Obj.cells #[.int .i64 c, .int .i64 n, .int .i64 k, .int .i64 p, .string s, .slice a m cap, .int .i64 tc, .int .i64 tn, .bool on] 48) = WB
  have hB : Below w.heap.size w WB := hWB ▸ (Below.refl w.heap.size w).alloc (Nat.le_refl _) _
  have hbx : WB.heap[w.heap.size]? = some (.cells #[.int .i64 c, .int .i64 n, .int .i64 k, .int .i64 p, .string s, .slice a m cap, .int .i64 tc, .int .i64 tn, .bool on] 48) := hWB ▸ alloc_last _ _ _ rfl
  clear hWB
  have hl1 := hl.below hB
  have hR1 := hR.below hB
  obtain ⟨d0, d1, d2, d3, d4, d5, d6, d7, d8⟩ := box9 hbx
  clear hl hR hbx
  go_loop [5] (fun vi => ∃ i : Nat, vi = .int .i64 (i : Int) ∧ i ≤ m ∧ ∀ (q : Nat) x, q < i → l[q]? = some x → ∀ (j : Nat) (y : Int × Int), x.1 ≤ (j : Int) → (j : Int) < x.2 → R[j]? = some y → ¬ badC k y.2) (fun i => m - (RowKit.intOf i).toNat)
  case atStart => exact ⟨0, rfl, Nat.zero_le _, fun q x hq => absurd hq (Nat.not_lt_zero _)⟩
  case round =>
    obtain ⟨i, rfl, him, hno⟩ := hrel
    have HNO : Hid (∀ (q : Nat) x, q < i → l[q]? = some x → ∀ (j : Nat) (y : Int × Int), x.1 ≤ (j : Int) → (j : Int) < x.2 → R[j]? = some y → ¬ badC k y.2) := hno
    clear hno
    by_cases hi : i < m
    · obtain ⟨g, off, x, rfl, hg, hx, hc⟩ := hl1.at i hi
      obtain ⟨xlo, xhi⟩ := x
      have k0 : WB.cell? ⟨g, off + i * 2, none⟩ = some (.int .i64 xlo) := hc 0 _ rfl
      have k1 : WB.cell? ⟨g, off + i * 2 + 1, none⟩ = some (.int .i64 xhi) := hc 1 _ rfl
      have hxb := HB.out _ (List.mem_of_getElem? hx)
      simp only at hxb
      have HX : Hid (l[i]? = some (xlo, xhi)) := hx
      clear hc hx
      have b1 : (i : Int) < (m : Int) := by omega
      go_wp2_with fail
      go_loop [6] (fun vk => ∃ kk : Int, vk = .int .i64 kk ∧ xlo ≤ kk ∧ kk ≤ 1048577 ∧ ∀ (j : Nat) (y : Int × Int), xlo ≤ (j : Int) → (j : Int) < kk → R[j]? = some y → ¬ badC k y.2) (fun v => (1048577 - RowKit.intOf v).toNat)
      case atStart => exact ⟨xlo, rfl, Int.le_refl _, by omega, fun j y h1 h2 => by omega⟩
      case round =>
        obtain ⟨kk, rfl, hk1, hk2, hn⟩ := hrel
        have HN : Hid (∀ (j : Nat) (y : Int × Int), xlo ≤ (j : Int) → (j : Int) < kk → R[j]? = some y → ¬ badC k y.2) := hn
        clear hn
        rcases hk with rfl | rfl
        · by_cases ha : kk < xhi
          · by_cases hn2 : kk < (nr : Int)
            · obtain ⟨j, rfl⟩ : ∃ j : Nat, kk = (j : Int) := ⟨kk.toNat, by omega⟩
              obtain ⟨gr, ofr, y, rfl, hgr, hy, hcy⟩ := hR1.at j (by omega)
              obtain ⟨r, h⟩ := y
              have HY : Hid (R[j]? = some (r, h)) := hy
              have e1 : WB.cell? ⟨gr, ofr + j * 2 + 1, none⟩ = some (.int .i64 h) := hcy 1 _ rfl
              clear hcy hy
              by_cases hh : h = 1048576
              · subst hh
                go_wp2_with fail
                go_ret
                exact ⟨true, rfl, fun _ => ⟨(xlo, xhi), List.mem_of_getElem? HX.out, j, (r, _), hk1, ha, HY.out, .inr ⟨rfl, rfl⟩⟩, fun e => (by cases e), hB⟩
              · have t1 : (h == 1048576) = false := beq_eq_false_iff_ne.2 hh
                have t2 : decide (h = 1048576) = false := decide_eq_false hh
                have HN2 : Hid (∀ (q : Nat) (y : Int × Int), xlo ≤ (q : Int) → (q : Int) < (j : Int) + 1 → R[q]? = some y → ¬ badC 2 y.2) := fun q y h1 h2 h3 => by
                  by_cases e : q = j
                  · subst e
                    rw [HY.out] at h3
                    injection h3 with h3
                    subst h3
                    unfold badC
                    simp only
                    omega
                  · exact HN.out q y h1 (by omega) h3
                go_wp2_with fail
                go_round
                case rel => exact ⟨(j : Int) + 1, by go_num, by omega, by omega, HN2.out⟩
                case measure => simp [RowKit.intOf]; omega
            · have HNO2 : Hid (∀ (q : Nat) x, q < i + 1 → l[q]? = some x → ∀ (j : Nat) (y : Int × Int), x.1 ≤ (j : Int) → (j : Int) < x.2 → R[j]? = some y → ¬ badC 2 y.2) := fun q x hq hx j y h1 h2 h3 => by
                by_cases e : q = i
                · subst e
                  rw [HX.out] at hx
                  injection hx with hx
                  subst hx
                  exact HN.out j y h1 (by have := (List.getElem?_eq_some_iff.1 h3).1; have := HRL.out; omega) h3
                · exact HNO.out q x (by omega) hx j y h1 h2 h3
              go_wp2_with fail
              go_round
              case rel => exact ⟨i + 1, by go_num, by omega, HNO2.out⟩
              case measure => simp [RowKit.intOf]; omega
          · have HNO2 : Hid (∀ (q : Nat) x, q < i + 1 → l[q]? = some x → ∀ (j : Nat) (y : Int × Int), x.1 ≤ (j : Int) → (j : Int) < x.2 → R[j]? = some y → ¬ badC 2 y.2) := fun q x hq hx j y h1 h2 h3 => by
              by_cases e : q = i
              · subst e
                rw [HX.out] at hx
                injection hx with hx
                subst hx
                exact HN.out j y h1 (by simp only at h2; omega) h3
              · exact HNO.out q x (by omega) hx j y h1 h2 h3
            go_wp2_with fail
            go_round
            case rel => exact ⟨i + 1, by go_num, by omega, HNO2.out⟩
            case measure => simp [RowKit.intOf]; omega
        · by_cases ha : kk < xhi
          · by_cases hn2 : kk < (nr : Int)
            · obtain ⟨j, rfl⟩ : ∃ j : Nat, kk = (j : Int) := ⟨kk.toNat, by omega⟩
              obtain ⟨gr, ofr, y, rfl, hgr, hy, hcy⟩ := hR1.at j (by omega)
              obtain ⟨r, h⟩ := y
              have HY : Hid (R[j]? = some (r, h)) := hy
              have e1 : WB.cell? ⟨gr, ofr + j * 2 + 1, none⟩ = some (.int .i64 h) := hcy 1 _ rfl
              clear hcy hy
              by_cases hh : h = 0
              · subst hh
                go_wp2_with fail
                go_ret
                exact ⟨true, rfl, fun _ => ⟨(xlo, xhi), List.mem_of_getElem? HX.out, j, (r, _), hk1, ha, HY.out, .inl ⟨rfl, rfl⟩⟩, fun e => (by cases e), hB⟩
              · have t1 : (h == 0) = false := beq_eq_false_iff_ne.2 hh
                have t2 : decide (h = 0) = false := decide_eq_false hh
                have HN2 : Hid (∀ (q : Nat) (y : Int × Int), xlo ≤ (q : Int) → (q : Int) < (j : Int) + 1 → R[q]? = some y → ¬ badC 3 y.2) := fun q y h1 h2 h3 => by
                  by_cases e : q = j
                  · subst e
                    rw [HY.out] at h3
                    injection h3 with h3
                    subst h3
                    unfold badC
                    simp only
                    omega
                  · exact HN.out q y h1 (by omega) h3
                go_wp2_with fail
                go_round
                case rel => exact ⟨(j : Int) + 1, by go_num, by omega, by omega, HN2.out⟩
                case measure => simp [RowKit.intOf]; omega
            · have HNO2 : Hid (∀ (q : Nat) x, q < i + 1 → l[q]? = some x → ∀ (j : Nat) (y : Int × Int), x.1 ≤ (j : Int) → (j : Int) < x.2 → R[j]? = some y → ¬ badC 3 y.2) := fun q x hq hx j y h1 h2 h3 => by
                by_cases e : q = i
                · subst e
                  rw [HX.out] at hx
                  injection hx with hx
                  subst hx
                  exact HN.out j y h1 (by have := (List.getElem?_eq_some_iff.1 h3).1; have := HRL.out; omega) h3
                · exact HNO.out q x (by omega) hx j y h1 h2 h3
              go_wp2_with fail
              go_round
              case rel => exact ⟨i + 1, by go_num, by omega, HNO2.out⟩
              case measure => simp [RowKit.intOf]; omega
          · have HNO2 : Hid (∀ (q : Nat) x, q < i + 1 → l[q]? = some x → ∀ (j : Nat) (y : Int × Int), x.1 ≤ (j : Int) → (j : Int) < x.2 → R[j]? = some y → ¬ badC 3 y.2) := fun q x hq hx j y h1 h2 h3 => by
              by_cases e : q = i
              · subst e
                rw [HX.out] at hx
                injection hx with hx
                subst hx
                exact HN.out j y h1 (by simp only at h2; omega) h3
              · exact HNO.out q x (by omega) hx j y h1 h2 h3
            go_wp2_with fail
            go_round
            case rel => exact ⟨i + 1, by go_num, by omega, HNO2.out⟩
            case measure => simp [RowKit.intOf]; omega
    · have HALL : Hid (∀ x ∈ l, ∀ (j : Nat) (y : Int × Int), x.1 ≤ (j : Int) → (j : Int) < x.2 → R[j]? = some y → ¬ badC k y.2) := fun x hx => by
        obtain ⟨q, hq⟩ := List.getElem?_of_mem hx
        exact HNO.out q x (by have := (List.getElem?_eq_some_iff.1 hq).1; have := HLL.out; omega) hq
      have b1 : ¬ (i : Int) < (m : Int) := by omega
      go_wp2_with fail
      go_ret
      exact ⟨false, rfl, fun e => (by cases e), fun _ => HALL.out, hB⟩
end Go.Proofs.YtggdocnnbgcniaaDoor

/-! The sentences' own bumped. -/
namespace Go.Proofs.YtggdocnnbgcniaaDoor
open Go.RowKit Go.Lib
set_option maxRecDepth 100000

theorem inL_yes {l : List (Int × Int)} {i : Int} {x : Int × Int} (hx : x ∈ l) (h1 : x.1 ≤ i) (h2 : i < x.2) : inL l i = true := by
  unfold inL
  rw [List.any_eq_true]
  exact ⟨x, hx, decide_eq_true ⟨h1, h2⟩⟩
theorem inL_no {l : List (Int × Int)} (hs : Srt l) {m : Nat} {i : Int} (h1 : ∀ (j : Nat) x, j < m → l[j]? = some x → x.2 ≤ i) (h2 : ∀ x, l[m]? = some x → i < x.1) : inL l i = false := by
  cases hb : inL l i with
  | false => rfl
  | true =>
    exfalso
    unfold inL at hb
    rw [List.any_eq_true] at hb
    obtain ⟨y, hy, hd⟩ := hb
    have hd2 := of_decide_eq_true hd
    obtain ⟨j, hj⟩ := List.getElem?_of_mem hy
    rcases Nat.lt_trichotomy j m with h | h | h
    · have := h1 j y h hj; omega
    · subst h; have := h2 y hj; omega
    · have hm : m < l.length := by have := (List.getElem?_eq_some_iff.1 hj).1; omega
      have hx : l[m]? = some l[m] := List.getElem?_eq_getElem hm
      have e1 := h2 _ hx
      have e2 := hs.apart m j _ _ h hx hj
      have e3 := hs.some_ _ (List.getElem_mem hm)
      omega
set_option maxHeartbeats 4000000 in
theorem bumped4_any {w : World} {a : Option Addr} {n cap : Nat} {R : List (Int × Int)} (hR : Rw cellV 2 w a n cap R) {a2 : Option Addr} {cap2 : Nat} {l : List (Int × Int)} {d : Int} (hR2 : Rw cellV 2 w a2 n cap2 (bmp l d 0 R)) {al : Option Addr} {m capl : Nat} (hl : Rw pieceV 2 w al m capl l) (hs : Srt l) (hd : -1 ≤ d ∧ d ≤ 1) (hc : ∀ c ∈ R, 0 ≤ c.2 ∧ c.2 ≤ 1048576) (hn : n ≤ 1048576) (hm : m ≤ 1000000000) :
    Calls Tryd.prog 22 #[.slice a n cap, .slice a2 n cap2, .slice al m capl, .int .i64 d] w fun e w' => e = .returned (.bool true) ∧ Below w.heap.size w w' := by
  have HRL : Hid (R.length = n) := hR.len
  have HLL : Hid (l.length = m) := hl.len
  have HS : Hid (Srt l) := hs
  have HC : Hid (∀ c ∈ R, 0 ≤ c.2 ∧ c.2 ≤ 1048576) := hc
  have q0 : ((n : Int) != (n : Int)) = false := by simp
  clear hs hc
  go_enter Tryd.func22, Tryd.ntmps22
  go_wp2_with fail
  go_loopw [9, 10, 11] (fun va vi _ W => ∃ i k : Nat, va = .int .i64 (k : Int) ∧ vi = .int .i64 (i : Int) ∧ i ≤ n ∧ k ≤ m ∧ (∀ (j : Nat) x, j < k → l[j]? = some x → x.2 ≤ (i : Int)) ∧ Below w.heap.size w W) (fun _ vi _ _ => n - (RowKit.intOf vi).toNat)
  case atStart => exact ⟨0, 0, rfl, rfl, Nat.zero_le _, Nat.zero_le _, fun j x hj => absurd hj (Nat.not_lt_zero _), Below.refl _ _⟩
  case round =>
    obtain ⟨i, k, rfl, rfl, hin, hkm, hno, hB⟩ := hrel
    by_cases hi : i < n
    · obtain ⟨g, off, c, rfl, hg, hx, hcl⟩ := hR.at i hi
      obtain ⟨g2, off2, c2, rfl, hg2, hx2, hcl2⟩ := hR2.at i hi
      obtain ⟨r, h⟩ := c
      have hhb := HC.out _ (List.mem_of_getElem? hx)
      simp only at hhb
      have HX2 : Hid (∀ b : Bool, inL l (i : Int) = b → c2 = if b = true then (r, h + d) else (r, h)) := fun b hb => by
        rw [bmp_get, hx] at hx2
        simp only [Option.map_some, Option.some.injEq, Int.zero_add, hb] at hx2
        exact hx2.symm
      have e1 : wr.cell? ⟨g, off + i * 2, none⟩ = some (.int .i32 r) := (hB.cell (p := ⟨g, off + i * 2 + 0, none⟩) hg).trans (hcl 0 _ rfl)
      have e2 : wr.cell? ⟨g, off + i * 2 + 1, none⟩ = some (.int .i64 h) := (hB.cell (p := ⟨g, off + i * 2 + 1, none⟩) hg).trans (hcl 1 _ rfl)
      obtain ⟨r2, h2⟩ := c2
      have e3 : wr.cell? ⟨g2, off2 + i * 2, none⟩ = some (.int .i32 r2) := (hB.cell (p := ⟨g2, off2 + i * 2 + 0, none⟩) hg2).trans (hcl2 0 _ rfl)
      have e4 : wr.cell? ⟨g2, off2 + i * 2 + 1, none⟩ = some (.int .i64 h2) := (hB.cell (p := ⟨g2, off2 + i * 2 + 1, none⟩) hg2).trans (hcl2 1 _ rfl)
      have b0 : (i : Int) < (n : Int) := by omega
      have HNO : Hid (∀ (j : Nat) x, j < k → l[j]? = some x → x.2 ≤ (i : Int)) := hno
      clear hcl hcl2 hx hx2 hno
      go_wp2_with fail
      go_loop [9] (fun va => ∃ k2 : Nat, va = .int .i64 (k2 : Int) ∧ k2 ≤ m ∧ ∀ (j : Nat) x, j < k2 → l[j]? = some x → x.2 ≤ (i : Int)) (fun v => m - (RowKit.intOf v).toNat)
      case atStart => exact ⟨k, rfl, hkm, HNO.out⟩
      case round =>
        clear hkm HNO
        obtain ⟨k2, rfl, hk2, hno⟩ := hrel
        have HNO : Hid (∀ (j : Nat) x, j < k2 → l[j]? = some x → x.2 ≤ (i : Int)) := hno
        clear hno
        by_cases hkm : k2 < m
        · obtain ⟨gl, ofl, x, rfl, hgl, hlx, hlc⟩ := hl.at k2 hkm
          obtain ⟨xlo, xhi⟩ := x
          have f1 : wr.cell? ⟨gl, ofl + k2 * 2, none⟩ = some (.int .i64 xlo) := (hB.cell (p := ⟨gl, ofl + k2 * 2 + 0, none⟩) hgl).trans (hlc 0 _ rfl)
          have f2 : wr.cell? ⟨gl, ofl + k2 * 2 + 1, none⟩ = some (.int .i64 xhi) := (hB.cell (p := ⟨gl, ofl + k2 * 2 + 1, none⟩) hgl).trans (hlc 1 _ rfl)
          have HLX : Hid (l[k2]? = some (xlo, xhi)) := hlx
          have b1 : (k2 : Int) < (m : Int) := by omega
          clear hlc hlx
          by_cases hhi : xhi ≤ (i : Int)
          · go_wp2_with fail
            go_round
            case rel => exact ⟨k2 + 1, by go_num, by omega, fun j x hj hx => by
              by_cases e : j = k2
              · subst e
                rw [HLX.out] at hx
                injection hx with hx
                subst hx
                exact hhi
              · exact HNO.out j x (by omega) hx⟩
            case measure => simp [RowKit.intOf]; omega
          · have b2 : ¬ xhi ≤ (i : Int) := hhi
            by_cases hlo : xlo ≤ (i : Int)
            · have hin2 : inL l (i : Int) = true := inL_yes (List.mem_of_getElem? HLX.out) hlo (by simp only; omega)
              have e := HX2.out true hin2
              simp only [if_true, Prod.mk.injEq] at e
              obtain ⟨rfl, rfl⟩ := e
              have u1 : IntKind.i64.wrap (h + d) = h + d := IntWalk.i64_in _ (by omega)
              have q1 : (r2 != r2) = false := by simp
              have q2 : ((h + d) != (h + d)) = false := by simp
              clear hin2 HX2
              go_wp2_with fail
              go_quiet (fail)
              go_wp2_with fail
              go_roundw
              case rel => exact ⟨i + 1, k2, rfl, by go_num, by omega, by omega, fun j x hj hx => by have := HNO.out j x hj hx; omega, below_drewN hB _⟩
              case measure => simp [RowKit.intOf]; omega
            · have hin2 : inL l (i : Int) = false := inL_no HS.out HNO.out (fun x hx => by rw [HLX.out] at hx; injection hx with hx; subst hx; simp only; omega)
              have e := HX2.out false hin2
              rw [if_neg (by simp)] at e
              simp only [Prod.mk.injEq] at e
              obtain ⟨rfl, rfl⟩ := e
              have q1 : (r2 != r2) = false := by simp
              have q2 : (h2 != h2) = false := by simp
              clear hin2 HX2
              go_wp2_with fail
              go_quiet (fail)
              go_wp2_with fail
              go_roundw
              case rel => exact ⟨i + 1, k2, rfl, by go_num, by omega, by omega, fun j x hj hx => by have := HNO.out j x hj hx; omega, below_drewN hB _⟩
              case measure => simp [RowKit.intOf]; omega
        · have hin2 : inL l (i : Int) = false := inL_no HS.out HNO.out (fun x hx => by have := (List.getElem?_eq_some_iff.1 hx).1; have := HLL.out; omega)
          have e := HX2.out false hin2
          rw [if_neg (by simp)] at e
          simp only [Prod.mk.injEq] at e
          obtain ⟨rfl, rfl⟩ := e
          have q1 : (r2 != r2) = false := by simp
          have q2 : (h2 != h2) = false := by simp
          have b1 : ¬ (k2 : Int) < (m : Int) := by omega
          clear hin2 HX2
          go_wp2_with fail
          go_quiet (fail)
          go_wp2_with fail
          go_roundw
          case rel => exact ⟨i + 1, k2, rfl, by go_num, by omega, by omega, fun j x hj hx => by have := HNO.out j x hj hx; omega, below_drewN hB _⟩
          case measure => simp [RowKit.intOf]; omega
    · have b0 : ¬ (i : Int) < (n : Int) := by omega
      go_wp2_with fail
      go_ret
      exact ⟨rfl, hB⟩
end Go.Proofs.YtggdocnnbgcniaaDoor
