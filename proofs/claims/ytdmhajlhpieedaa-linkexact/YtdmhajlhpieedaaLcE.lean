import Derived.Test.YtdmhajlhpieedaaLcD
/-! turned, one; brought in one. -/
namespace Go.Proofs.Ytdmhajlhpieedaa
open Go.RowKit Go.Lib Go.Shelf
set_option maxRecDepth 100000

theorem brought_any {W0 W : World} {q : Nat} {v : Value} {L : List Sn} (h : Bg W0 W q (bagS L) v L) (k : Nat) : Calls Try.prog 20 #[.pointer (some ⟨q, 0, none⟩), v, .int .i64 (k : Int)] W fun e w' => e = .returned (.bool true) ∧ Bg W0 w' q (bagS (L.modify k hide)) v (L.modify k hide) := by
  cases hs : L[k]? with
  | none =>
    have hk : L.length ≤ k := by
      rcases Nat.lt_or_ge k L.length with h' | h'
      · rw [List.getElem?_eq_getElem h'] at hs; cases hs
      · exact h'
    rw [List.modify_eq_self hk]
    exact brought_no h k (fun s e => by rw [hs] at e; cases e)
  | some s =>
    rw [modify_set hide L k s hs]
    cases hh : s.here with
    | true => exact brought_yes h k s hs hh
    | false =>
      have e1 : hide s = s := by obtain ⟨_, _, _, _, _, _, _, here⟩ := s; simp at hh; subst hh; rfl
      have e2 : L.set k s = L := by
        have hk := (List.getElem?_eq_some_iff.1 hs)
        obtain ⟨h1, h2⟩ := hk
        rw [← h2, List.set_getElem_self]
      rw [e1, e2]
      exact brought_no h k (fun s' e => by rw [hs] at e; cases e; exact hh)
theorem rw_setU {W : World} {g n cap j : Nat} {l : List UInt8} (h : Rw byU 1 W (some ⟨g, 0, none⟩) n cap l) (hj : j < l.length) (u : UInt8) : Rw byU 1 (W.setCell ⟨g, j, none⟩ (.int .u8 (u.toNat : Int))) (some ⟨g, 0, none⟩) n cap (l.set j u) := by
  have hl := h.len
  obtain ⟨g', off, e, hg, hc⟩ := h.cells (by omega)
  cases e
  refine ⟨by rw [List.length_set]; exact hl, h.room, fun _ => ⟨g, 0, rfl, by simpa using hg, fun i x hi i2 v hv => ?_⟩⟩
  have h2 : i2 = 0 := by have := (List.getElem?_eq_some_iff.1 hv).1; simp [byU] at this; omega
  subst h2
  simp [byU] at hv
  subst hv
  rw [List.getElem?_set] at hi
  simp only [Nat.zero_add, Nat.mul_one, Nat.add_zero]
  by_cases hij : j = i
  · subst hij
    simp [hj] at hi
    subst hi
    have := hc j _ (List.getElem?_eq_getElem hj) 0 _ rfl
    simp only [Nat.zero_add, Nat.mul_one, Nat.add_zero] at this
    exact World.cell?_setCell_same _ _ _ this
  · rw [if_neg hij] at hi
    rw [World.cell?_setCell_other _ _ _ _ (fun e => hij (by cases e; rfl))]
    have := hc i _ hi 0 _ rfl
    simpa using this
theorem Rw.chgS {α : Type} {f : α → List Value} {k : Nat} {D : Nat → Prop} {W W' : World} {a : Option Addr} {n cap : Nat} {l : List α} (h : Rw f k W a n cap l) (hC : Chg D W W') (hd : 0 < n → ∀ g, a = some g → ¬ D g.block) : Rw f k W' a n cap l := by
  by_cases h0 : 0 < n
  · exact h.chg hC (hd h0)
  · exact ⟨h.len, h.room, fun h1 => absurd h1 h0⟩
set_option maxHeartbeats 4000000 in
theorem turned_any (bs : List UInt8) (j : Nat) (m : UInt8) (hj : j < bs.length) (hl : bs.length ≤ 4611686018427387904) (W : World) : Calls Try.prog 30 #[.string ⟨bs.toArray⟩, .int .i64 (j : Int), .int .u8 (m.toNat : Int)] W fun e w' => e = .returned (.string ⟨(bs.set j ((bs.getD j 0) ^^^ m)).toArray⟩) ∧ Below W.heap.size W w' := by
  obtain ⟨cap, W1, hr, hR, hB, hs, hf, hc⟩ := back_bytes W bs hl
  obtain ⟨g, off, x, e, _, hx, hcx⟩ := hR.at j hj
  cases e
  have c0 := hcx 0 _ rfl
  simp only [Nat.zero_add, Nat.mul_one, Nat.add_zero] at c0
  have f0 := hf j hj
  have e1 : bs.getD j 0 = x := by rw [List.getD_eq_getElem?_getD, hx]; rfl
  obtain ⟨W2, hW2⟩ : ∃ W2, W1.setCell ⟨W.heap.size, j, none⟩ (.int .u8 ((x ^^^ m).toNat : Int)) = W2 := ⟨_, rfl⟩
  have hR2 := rw_setU hR hj (x ^^^ m)
  rw [hW2] at hR2
  have hcv := conv_bytes hR2
  have hB2 : Below W.heap.size W W2 := by rw [← hW2]; exact hB.setCell (Nat.le_refl _) _
  rw [e1]
  obtain ⟨n, hn⟩ : ∃ n, bs.length = n := ⟨_, rfl⟩
  rw [hn] at hr hj hcv
  obtain ⟨Z, hZ⟩ : ∃ Z : ByteArray, ⟨(bs.set j (x ^^^ m)).toArray⟩ = Z := ⟨_, rfl⟩
  obtain ⟨Y, hY⟩ : ∃ Y : ByteArray, ⟨bs.toArray⟩ = Y := ⟨_, rfl⟩
  rw [hZ] at hcv ⊢
  rw [hY] at hr ⊢
  obtain ⟨xi, hxi⟩ : ∃ xi : Int, (x.toNat : Int) = xi := ⟨_, rfl⟩
  obtain ⟨mi, hmi⟩ : ∃ mi : Int, (m.toNat : Int) = mi := ⟨_, rfl⟩
  obtain ⟨zi, hzi⟩ : ∃ zi : Int, ((x ^^^ m).toNat : Int) = zi := ⟨_, rfl⟩
  have hbx : bits .xor .u8 xi mi = zi := by rw [← hxi, ← hmi, ← hzi]; exact xor_u8 x m
  rw [hxi] at c0
  rw [hzi] at hW2
  rw [hmi]
  have HB2 : Hid (Below W.heap.size W W2) := hB2
  have j1 : (j : Int) < (n : Int) := by omega
  clear hR hB hs hf hc hx hcx e1 hR2 hB2 hn hZ hY hxi hmi hzi hl
  go_enter Try.func30, Try.ntmps30
  go_wp2_with fail
  go_ret
  exact ⟨rfl, HB2.out⟩
/-- What 'one' leaves. -/
def OneQ (W : World) (m : Nat) (bs : List UInt8) (g cap : Nat) (W' : World) : Prop := Rw byU 1 W' (some ⟨g, 0, none⟩) m cap bs ∧ W.heap.size ≤ g ∧ g < W'.heap.size ∧ Below W.heap.size W W'
set_option maxHeartbeats 8000000 in
theorem one_any {W : World} (fr tt : Int) {b : Option Addr} {m c : Nat} {bs : List UInt8} (hR : Rw byU 1 W b m c bs) (hm : m ≤ 4611686018427387904) : Calls Try.prog 31 #[.agg #[.int .i64 fr, .int .i64 tt, .slice b m c]] W fun e w' => ∃ g cap, e = .returned (.agg #[.int .i64 ((pickZ fr 3 : Nat) : Int), .int .i64 ((pickZ tt 3 : Nat) : Int), .slice (some ⟨g, 0, none⟩) m cap]) ∧ OneQ W m bs g cap w' := by
  have HP1 : Hid (∀ w, Calls Try.prog 15 #[.int .i64 fr, .int .i64 3] w fun e w' => e = .returned (.int .i64 ((pickZ fr 3 : Nat) : Int)) ∧ w' = w) := fun w => pick_any fr 3 (by decide) (by decide) w
  have HP2 : Hid (∀ w, Calls Try.prog 15 #[.int .i64 tt, .int .i64 3] w fun e w' => e = .returned (.int .i64 ((pickZ tt 3 : Nat) : Int)) ∧ w' = w) := fun w => pick_any tt 3 (by decide) (by decide) w
  obtain ⟨A1, hA1⟩ : ∃ A1, W.alloc (.cells #[.int .i64 fr, .int .i64 tt, .slice b m c] 36) = A1 := ⟨_, rfl⟩
  obtain ⟨A2, hA2⟩ : ∃ A2, A1.alloc (.cells #[.int .i64 0, .int .i64 0, .slice none 0 0] 36) = A2 := ⟨_, rfl⟩
  have hB1 : Below W.heap.size W A1 := by rw [← hA1]; exact (Below.refl _ _).alloc (Nat.le_refl _) _
  have hB2 : Below A1.heap.size A1 A2 := by rw [← hA2]; exact (Below.refl _ _).alloc (Nat.le_refl _) _
  have s1 : A1.heap.size = W.heap.size + 1 := by rw [← hA1]; exact World.size_alloc ..
  have s2 : A2.heap.size = A1.heap.size + 1 := by rw [← hA2]; exact World.size_alloc ..
  have x1 : A2.heap[W.heap.size]? = some (.cells #[.int .i64 fr, .int .i64 tt, .slice b m c] 36) := (hB2.block _ (by omega)).trans (by rw [← hA1]; exact heap_alloc_new W _)
  have x2 : A2.heap[A1.heap.size]? = some (.cells #[.int .i64 0, .int .i64 0, .slice none 0 0] 36) := by rw [← hA2]; exact heap_alloc_new A1 _
  have hBW : Below W.heap.size W A2 := hB1.trans (hB2.mono hB1.size)
  have hl := hR.len
  obtain ⟨cap, W1, hr, hRR, hB3, s3, _, hcap⟩ := back_bytes A2.drew bs (by omega)
  rw [hl] at hr hRR hcap
  have hD : Below A2.heap.size A2 A2.drew := (Below.refl _ _).drew
  have y1 : W1.heap[W.heap.size]? = _ := (hB3.block W.heap.size (by show W.heap.size < A2.heap.size; omega)).trans x1
  have y2 : W1.heap[A1.heap.size]? = _ := (hB3.block A1.heap.size (by show A1.heap.size < A2.heap.size; omega)).trans x2
  have hRA : Rw byU 1 A2 b m c bs := hR.below hBW
  have hRD : Rw byU 1 A2.drew b m c bs := hRA.below hD
  have hR1 : Rw byU 1 W1 b m c bs := hRD.below hB3
  obtain ⟨u0, u1, u2⟩ := box3 x1
  obtain ⟨v0, v1, v2⟩ := box3 y1
  obtain ⟨W9, hW9, hx9, hC9⟩ := set3 y2 (.int .i64 ((pickZ fr 3 : Nat) : Int)) (.int .i64 ((pickZ tt 3 : Nat) : Int)) (.slice (some ⟨A2.heap.size, 0, none⟩) m cap)
  obtain ⟨y0, y1', y2'⟩ := box3 hx9
  obtain ⟨t0, t1, t2⟩ := box3 y2
  have z0 := Lib.frozen_of_heap y2 0
  have z1 := Lib.frozen_of_heap y2 1
  have z2 := Lib.frozen_of_heap y2 2
  have hr' : (convert 9 34 (.string ⟨bs.toArray⟩)).run Try.prog A2.drew = .ok (.slice (some ⟨A2.heap.size, 0, none⟩) m cap) W1 := hr
  have hRR' : Rw byU 1 W1 (some ⟨A2.heap.size, 0, none⟩) m cap bs := hRR
  obtain ⟨b1, hb1⟩ : ∃ b1, W.heap.size = b1 := ⟨_, rfl⟩
  obtain ⟨b2, hb2⟩ : ∃ b2, A1.heap.size = b2 := ⟨_, rfl⟩
  obtain ⟨g, hg⟩ : ∃ g, A2.heap.size = g := ⟨_, rfl⟩
  have hsz1 : W1.heap.size = A2.heap.size + 1 := s3
  have hP : OneQ W m bs g cap W9 := by
    refine ⟨hg ▸ hRR'.chg hC9 (fun p hp e => ?_), by omega, by have := hC9.size; omega, ?_⟩
    · cases hp; simp at e; omega
    · exact hBW.trans ((hD.mono (by omega)).trans ((hB3.mono (by show W.heap.size ≤ A2.heap.size; omega)).trans (hC9.below (fun k e => by omega) (by omega))))
  have HP : Hid (OneQ W m bs g cap W9) := hP
  have HK9 : Hid ((fun w => (w.cell? ⟨b1, 0, none⟩ = some (.int .i64 fr) ∧ w.cell? ⟨b1, 1, none⟩ = some (.int .i64 tt) ∧ w.cell? ⟨b1, 2, none⟩ = some (.slice b m c)) ∧ Rw byU 1 w b m c bs) W9) := by
    refine ⟨⟨?_, ?_, ?_⟩, hR1.chgS hC9 (fun h0 p hp e => ?_)⟩
    · rw [← hb1]; exact (hC9.cell (p := ⟨W.heap.size, 0, none⟩) (by show W.heap.size < W1.heap.size; omega) (by show ¬ W.heap.size = A1.heap.size; omega)).trans v0
    · rw [← hb1]; exact (hC9.cell (p := ⟨W.heap.size, 1, none⟩) (by show W.heap.size < W1.heap.size; omega) (by show ¬ W.heap.size = A1.heap.size; omega)).trans v1
    · rw [← hb1]; exact (hC9.cell (p := ⟨W.heap.size, 2, none⟩) (by show W.heap.size < W1.heap.size; omega) (by show ¬ W.heap.size = A1.heap.size; omega)).trans v2
    · have : p.block = A1.heap.size := e
      obtain ⟨g', off, e2, hg', _⟩ := hR.cells h0
      rw [e2] at hp
      cases hp
      simp at this
      omega
  have HHS : Hid ((fun w => (w.cell? ⟨b1, 0, none⟩ = some (.int .i64 fr) ∧ w.cell? ⟨b1, 1, none⟩ = some (.int .i64 tt) ∧ w.cell? ⟨b1, 2, none⟩ = some (.slice b m c)) ∧ Rw byU 1 w b m c bs) A2.drew) := by rw [hb1] at u0 u1 u2; exact ⟨⟨u0, u1, u2⟩, hRD⟩
  have HS2 : Hid ((fun w => (w.cell? ⟨b1, 0, none⟩ = some (.int .i64 fr) ∧ w.cell? ⟨b1, 1, none⟩ = some (.int .i64 tt) ∧ w.cell? ⟨b1, 2, none⟩ = some (.slice b m c)) ∧ Rw byU 1 w b m c bs) W1) := by rw [hb1] at v0 v1 v2; exact ⟨⟨v0, v1, v2⟩, hR1⟩
  rw [hg] at hr' hW9 
  rw [hb2] at hW9 y0 y1' y2' t0 t1 t2 z0 z1 z2
  rw [hg] at y2'
  have y1 := y1'
  have y2 := y2'
  have hA2' : (W.alloc (.cells #[.int .i64 fr, .int .i64 tt, .slice b m c] 36)).alloc (.cells #[.int .i64 0, .int .i64 0, .slice none 0 0] 36) = A2 := by rw [hA1, hA2]
  obtain ⟨pf, hpf⟩ : ∃ pf : Int, ((pickZ fr 3 : Nat) : Int) = pf := ⟨_, rfl⟩
  obtain ⟨pt, hpt⟩ : ∃ pt : Int, ((pickZ tt 3 : Nat) : Int) = pt := ⟨_, rfl⟩
  rw [hpf] at HP1 hW9 y0 ⊢
  rw [hpt] at HP2 hW9 y1 ⊢
  clear hB1 hB2 s1 s2 x1 x2 hBW hl hr hRR hB3 s3 hcap hD hRA hRD hR1 u0 u1 u2 v0 v1 v2 hx9 hC9 hRR' hsz1 hP hR hm hA2' y1' y2' hpf hpt
  go_enter Try.func31, Try.ntmps31
  go_wp2_with fail
  refine wp_region_held_drew (S := (fun w => (w.cell? ⟨b1, 0, none⟩ = some (.int .i64 fr) ∧ w.cell? ⟨b1, 1, none⟩ = some (.int .i64 tt) ∧ w.cell? ⟨b1, 2, none⟩ = some (.slice b m c)) ∧ Rw byU 1 w b m c bs)) (by kernel_rfl) ?hSx (fun hHeld => ?restx)
  case hSx => exact HHS.out
  refine takeD (i := 0) (d := some 3) (v := ?vT1) rfl rfl (by kernel_rfl) (by kernel_rfl) (by kernel_rfl) (fun _ _ _ h => h) (Or.inl ⟨by rfl, ?hyT1⟩) (by assumption) ?rstT1
  case hyT1 => (intro w hSw; (try dsimp only at hSw); obtain ⟨⟨s0, s1, s2⟩, s9⟩ := hSw; have s10 := conv_bytes s9; go_simp; (try with_reducible rfl))
  try simp only [Act.put, List.setIfInBounds_toArray, List.set_cons_zero, List.set_cons_succ]
  refine takeD (i := 1) (d := some 4) (v := ?vT2) rfl rfl (by kernel_rfl) (by kernel_rfl) (by kernel_rfl) (fun _ _ _ h => h) (Or.inl ⟨by rfl, ?hyT2⟩) (by assumption) ?rstT2
  case hyT2 => (intro w hSw; (try dsimp only at hSw); obtain ⟨⟨s0, s1, s2⟩, s9⟩ := hSw; have s10 := conv_bytes s9; go_simp; (try with_reducible rfl))
  try simp only [Act.put, List.setIfInBounds_toArray, List.set_cons_zero, List.set_cons_succ]
  refine takeD (i := 3) (d := some 6) (v := ?vT3) rfl rfl (by kernel_rfl) (by kernel_rfl) (by kernel_rfl) (fun _ _ _ h => h) (Or.inl ⟨by rfl, ?hyT3⟩) (by assumption) ?rstT3
  case hyT3 => (intro w hSw; (try dsimp only at hSw); obtain ⟨⟨s0, s1, s2⟩, s9⟩ := hSw; have s10 := conv_bytes s9; go_simp; (try with_reducible rfl))
  try simp only [Act.put, List.setIfInBounds_toArray, List.set_cons_zero, List.set_cons_succ]
  refine takeD (i := 4) (d := some 7) (v := ?vT4) rfl rfl (by kernel_rfl) (by kernel_rfl) (by kernel_rfl) (fun _ _ _ h => h) (Or.inl ⟨by rfl, ?hyT4⟩) (by assumption) ?rstT4
  case hyT4 => (intro w hSw; (try dsimp only at hSw); obtain ⟨⟨s0, s1, s2⟩, s9⟩ := hSw; have s10 := conv_bytes s9; go_simp; (try with_reducible rfl))
  try simp only [Act.put, List.setIfInBounds_toArray, List.set_cons_zero, List.set_cons_succ]
  refine takeD (i := 6) (d := some 9) (v := ?vT5) rfl rfl (by kernel_rfl) (by kernel_rfl) (by kernel_rfl) (fun _ _ _ h => h) (Or.inl ⟨by rfl, ?hyT5⟩) (by assumption) ?rstT5
  case hyT5 => (intro w hSw; (try dsimp only at hSw); obtain ⟨⟨s0, s1, s2⟩, s9⟩ := hSw; have s10 := conv_bytes s9; go_simp; (try with_reducible rfl))
  try simp only [Act.put, List.setIfInBounds_toArray, List.set_cons_zero, List.set_cons_succ]
  refine takeD (i := 7) (d := some 10) (v := ?vT6) rfl rfl (by kernel_rfl) (by kernel_rfl) (by kernel_rfl) (fun _ _ _ h => h) (Or.inl ⟨by rfl, ?hyT6⟩) (by assumption) ?rstT6
  case hyT6 => (intro w hSw; (try dsimp only at hSw); obtain ⟨⟨s0, s1, s2⟩, s9⟩ := hSw; have s10 := conv_bytes s9; go_simp; (try with_reducible rfl))
  try simp only [Act.put, List.setIfInBounds_toArray, List.set_cons_zero, List.set_cons_succ]
  refine takeD (i := 8) (d := some 11) (v := ?vT7) rfl rfl (by kernel_rfl) (by kernel_rfl) (by kernel_rfl) (fun _ _ _ h => h) (Or.inl ⟨by rfl, ?hyT7⟩) (by assumption) ?rstT7
  case hyT7 => (intro w hSw; (try dsimp only at hSw); obtain ⟨⟨s0, s1, s2⟩, s9⟩ := hSw; have s10 := conv_bytes s9; go_simp; (try with_reducible rfl))
  try simp only [Act.put, List.setIfInBounds_toArray, List.set_cons_zero, List.set_cons_succ]
  refine wpAnyH_ready (rs := [2, 9]) (by kernel_rfl) (by simp) ?_
  refine AllReadyH.cons rfl (fun K hK => ?bA8) (AllReadyH.cons rfl (fun K hK => ?bB8) AllReadyH.nil)
  case bA8 =>
    go_simp
    refine (HP1.out _).mono ?_
    rintro e w' ⟨rfl, hw⟩
    obtain rfl := hw.symm
    clear hw
    dsimp only
    clear hHeld
    refine hK.out _ _ ?hS9 (fun hHeld => ?rest9)
    case hS9 => (first | exact HHS.out | exact HS2.out)
    clear hK K
    try simp only [Act.put, List.setIfInBounds_toArray, List.set_cons_zero, List.set_cons_succ]
    refine wpAnyH_ready (rs := [5, 9]) (by kernel_rfl) (by simp) ?_
    refine AllReadyH.cons rfl (fun K hK => ?bA10) (AllReadyH.cons rfl (fun K hK => ?bB10) AllReadyH.nil)
    case bA10 =>
      go_simp
      refine (HP2.out _).mono ?_
      rintro e w' ⟨rfl, hw⟩
      obtain rfl := hw.symm
      clear hw
      dsimp only
      clear hHeld
      refine hK.out _ _ ?hS11 (fun hHeld => ?rest11)
      case hS11 => (first | exact HHS.out | exact HS2.out)
      clear hK K
      try simp only [Act.put, List.setIfInBounds_toArray, List.set_cons_zero, List.set_cons_succ]
      refine wpAnyH_ready (rs := [9]) (by kernel_rfl) (by simp) ?_
      refine AllReadyH.cons rfl (fun K hK => ?_) AllReadyH.nil
      go_simp
      clear hHeld
      refine hK.out _ _ ?hS13 (fun hHeld => ?rest13)
      case hS13 => exact HS2.out
      clear hK K
      try simp only [Act.put, List.setIfInBounds_toArray, List.set_cons_zero, List.set_cons_succ]
      refine takeD (i := 10) (d := some 13) (v := ?vT14) rfl rfl (by kernel_rfl) (by kernel_rfl) (by kernel_rfl) (fun _ _ _ h => h) (Or.inl ⟨by rfl, ?hyT14⟩) (by assumption) ?rstT14
      case hyT14 => (intro w hSw; (try dsimp only at hSw); obtain ⟨⟨s0, s1, s2⟩, s9⟩ := hSw; have s10 := conv_bytes s9; go_simp; (try with_reducible rfl))
      try simp only [Act.put, List.setIfInBounds_toArray, List.set_cons_zero, List.set_cons_succ]
      refine wpAnyH_ready (rs := [11]) (by kernel_rfl) (by simp) ?_
      refine AllReadyH.cons rfl (fun K hK => ?_) AllReadyH.nil
      go_simp
      clear hHeld
      refine hK.out _ _ ?hS16 (fun hHeld => ?rest16)
      case hS16 => exact HK9.out
      clear hK K
      try simp only [Act.put, List.setIfInBounds_toArray, List.set_cons_zero, List.set_cons_succ]
      refine wpAnyH_done (by kernel_rfl) ?_ _
      go_wp2_with fail
      refine bodyPost_ret (v := .agg #[.int .i64 pf, .int .i64 pt, .slice (some ⟨g, 0, none⟩) m cap]) (by simp [results, Try.results31, go_sem, y0, y1, y2]) rfl ?_
      exact ⟨g, cap, rfl, HP.out⟩
    case bB10 =>
      go_simp
      clear hHeld
      refine hK.out _ _ ?hS17 (fun hHeld => ?rest17)
      case hS17 => exact HS2.out
      clear hK K
      try simp only [Act.put, List.setIfInBounds_toArray, List.set_cons_zero, List.set_cons_succ]
      refine wpAnyH_ready (rs := [5]) (by kernel_rfl) (by simp) ?_
      refine AllReadyH.cons rfl (fun K hK => ?_) AllReadyH.nil
      go_simp
      refine (HP2.out _).mono ?_
      rintro e w' ⟨rfl, hw⟩
      obtain rfl := hw.symm
      clear hw
      dsimp only
      clear hHeld
      refine hK.out _ _ ?hS19 (fun hHeld => ?rest19)
      case hS19 => (first | exact HHS.out | exact HS2.out)
      clear hK K
      try simp only [Act.put, List.setIfInBounds_toArray, List.set_cons_zero, List.set_cons_succ]
      refine takeD (i := 10) (d := some 13) (v := ?vT20) rfl rfl (by kernel_rfl) (by kernel_rfl) (by kernel_rfl) (fun _ _ _ h => h) (Or.inl ⟨by rfl, ?hyT20⟩) (by assumption) ?rstT20
      case hyT20 => (intro w hSw; (try dsimp only at hSw); obtain ⟨⟨s0, s1, s2⟩, s9⟩ := hSw; have s10 := conv_bytes s9; go_simp; (try with_reducible rfl))
      try simp only [Act.put, List.setIfInBounds_toArray, List.set_cons_zero, List.set_cons_succ]
      refine wpAnyH_ready (rs := [11]) (by kernel_rfl) (by simp) ?_
      refine AllReadyH.cons rfl (fun K hK => ?_) AllReadyH.nil
      go_simp
      clear hHeld
      refine hK.out _ _ ?hS22 (fun hHeld => ?rest22)
      case hS22 => exact HK9.out
      clear hK K
      try simp only [Act.put, List.setIfInBounds_toArray, List.set_cons_zero, List.set_cons_succ]
      refine wpAnyH_done (by kernel_rfl) ?_ _
      go_wp2_with fail
      refine bodyPost_ret (v := .agg #[.int .i64 pf, .int .i64 pt, .slice (some ⟨g, 0, none⟩) m cap]) (by simp [results, Try.results31, go_sem, y0, y1, y2]) rfl ?_
      exact ⟨g, cap, rfl, HP.out⟩
  case bB8 =>
    go_simp
    clear hHeld
    refine hK.out _ _ ?hS23 (fun hHeld => ?rest23)
    case hS23 => exact HS2.out
    clear hK K
    try simp only [Act.put, List.setIfInBounds_toArray, List.set_cons_zero, List.set_cons_succ]
    refine wpAnyH_ready (rs := [2]) (by kernel_rfl) (by simp) ?_
    refine AllReadyH.cons rfl (fun K hK => ?_) AllReadyH.nil
    go_simp
    refine (HP1.out _).mono ?_
    rintro e w' ⟨rfl, hw⟩
    obtain rfl := hw.symm
    clear hw
    dsimp only
    clear hHeld
    refine hK.out _ _ ?hS25 (fun hHeld => ?rest25)
    case hS25 => (first | exact HHS.out | exact HS2.out)
    clear hK K
    try simp only [Act.put, List.setIfInBounds_toArray, List.set_cons_zero, List.set_cons_succ]
    refine wpAnyH_ready (rs := [5]) (by kernel_rfl) (by simp) ?_
    refine AllReadyH.cons rfl (fun K hK => ?_) AllReadyH.nil
    go_simp
    refine (HP2.out _).mono ?_
    rintro e w' ⟨rfl, hw⟩
    obtain rfl := hw.symm
    clear hw
    dsimp only
    clear hHeld
    refine hK.out _ _ ?hS27 (fun hHeld => ?rest27)
    case hS27 => (first | exact HHS.out | exact HS2.out)
    clear hK K
    try simp only [Act.put, List.setIfInBounds_toArray, List.set_cons_zero, List.set_cons_succ]
    refine takeD (i := 10) (d := some 13) (v := ?vT28) rfl rfl (by kernel_rfl) (by kernel_rfl) (by kernel_rfl) (fun _ _ _ h => h) (Or.inl ⟨by rfl, ?hyT28⟩) (by assumption) ?rstT28
    case hyT28 => (intro w hSw; (try dsimp only at hSw); obtain ⟨⟨s0, s1, s2⟩, s9⟩ := hSw; have s10 := conv_bytes s9; go_simp; (try with_reducible rfl))
    try simp only [Act.put, List.setIfInBounds_toArray, List.set_cons_zero, List.set_cons_succ]
    refine wpAnyH_ready (rs := [11]) (by kernel_rfl) (by simp) ?_
    refine AllReadyH.cons rfl (fun K hK => ?_) AllReadyH.nil
    go_simp
    clear hHeld
    refine hK.out _ _ ?hS30 (fun hHeld => ?rest30)
    case hS30 => exact HK9.out
    clear hK K
    try simp only [Act.put, List.setIfInBounds_toArray, List.set_cons_zero, List.set_cons_succ]
    refine wpAnyH_done (by kernel_rfl) ?_ _
    go_wp2_with fail
    refine bodyPost_ret (v := .agg #[.int .i64 pf, .int .i64 pt, .slice (some ⟨g, 0, none⟩) m cap]) (by simp [results, Try.results31, go_sem, y0, y1, y2]) rfl ?_
    exact ⟨g, cap, rfl, HP.out⟩
end Go.Proofs.Ytdmhajlhpieedaa
