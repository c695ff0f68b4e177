import Derived.Test.YtokkodkhkpgebaaDoorKcF
/-! The sentences' own does, the first time; arrived. -/
namespace Go.Proofs.YtokkodkhkpgebaaDoor
open Go.RowKit Go.Lib
set_option maxRecDepth 100000

theorem setBoxG {W : World} {b : Nat} {T : TypeId} {us : Array Value} (h : W.heap[b]? = some (.cells us T)) (i : Nat) (v : Value) (cs : Array Value) (hc : us.setIfInBounds i v = cs) :
    ∃ W9, W.setCell ⟨b, i, none⟩ v = W9 ∧ W9.heap[b]? = some (.cells cs T) ∧ Chg (fun g => g = b) W W9 := by
  have h0 := heap_setCell_same _ b i _ _ v h
  rw [hc] at h0
  exact ⟨_, rfl, h0, Chg.set (D := fun g => g = b) (q := b) i W v rfl⟩
theorem box5 {W : World} {b : Nat} {T : TypeId} {v0 v1 v2 v3 v4 : Value} (h : W.heap[b]? = some (.cells #[v0, v1, v2, v3, v4] T)) : W.cell? ⟨b, 0, none⟩ = some v0 ∧ W.cell? ⟨b, 1, none⟩ = some v1 ∧ W.cell? ⟨b, 2, none⟩ = some v2 ∧ W.cell? ⟨b, 3, none⟩ = some v3 ∧ W.cell? ⟨b, 4, none⟩ = some v4 := by
  simp only [Lib.cell_of_heap h]
  exact ⟨rfl, rfl, rfl, rfl, rfl⟩
theorem bar_ne {W : World} (h : Bar W) {g : Nat} {o : Obj} (hg : W.heap[g]? = some o) (hn : ∀ t fr, o ≠ .cells barCells t fr) : g ≠ 0 := by
  rintro rfl
  obtain ⟨t, fr, h2⟩ := h.lies
  rw [hg] at h2
  exact hn t fr (Option.some.inj h2)
def edF (x : (Int × Int) × Bool) : List Value := [.int .i64 x.1.1, .int .i64 x.1.2, .bool x.2]
theorem layE : Lay edF 3 := ⟨fun _ => rfl, by decide, fun x u hu => by simp [edF] at hu; rcases hu with rfl | rfl | rfl <;> rfl⟩
theorem kindE : Kind Tryd.prog 30 44 3 24 := kind_of Tryd.underlying30 (z := .agg #[.int .i64 0, .int .i64 0, .bool false]) (by kernel_rfl) rfl
theorem His1.lt {W : World} {h r oa oc na nc : Nat} {pa : Option Addr} {pc : Nat} (H : His1 W h r oa oc na nc pa pc) : oa < W.heap.size ∧ na < W.heap.size ∧ ∀ ad, pa = some ad → ad.block < W.heap.size := by
  obtain ⟨g, off, e, hg, _⟩ := H.his.ops 0 _ rfl
  cases e
  obtain ⟨g, off, e, hg2, _⟩ := H.his.now 0 _ rfl
  cases e
  refine ⟨hg, hg2, fun ad e => ?_⟩
  obtain ⟨g, off, e2, hg3, _⟩ := (H.pls _ (List.mem_singleton.2 rfl)).1.cells (by simp [E1])
  simp only [E1] at e2
  rw [e] at e2
  cases e2
  exact hg3
def HK (k h r oa na : Nat) (pa : Option Addr) : Prop := k ≠ h ∧ k ≠ r ∧ k ≠ oa ∧ k ≠ na ∧ ∀ ad, pa = some ad → ad.block ≠ k
theorem HK.his {k h r oa oc na nc : Nat} {pa : Option Addr} {pc : Nat} (hk : HK k h r oa na pa) {W W' : World} (H : His1 W h r oa oc na nc pa pc) (hC : Chg (fun g => g = k) W W') : His1 W' h r oa oc na nc pa pc :=
  H.chg hC (fun e => hk.1 e.symm) (fun e => hk.2.1 e.symm) (fun e => hk.2.2.1 e.symm) (fun e => hk.2.2.2.1 e.symm) (fun ad e => hk.2.2.2.2 ad e)
theorem len0 {w : World} {h r : Nat} {M : List ((Int × Int) × Int)} (H : HisB w h r none 0 0 none 0 0 0 M) :
    Calls Tryd.prog 27 #[.pointer (some ⟨h, 0, none⟩)] w fun e w' => e = .returned (.int .i64 0) ∧ Below w.heap.size w w' := by
  obtain ⟨b0, b1, b2, b3⟩ := box4 H.box
  clear H
  go_enter Tryd.func27, Tryd.ntmps27
  go_wp2_with fail
  go_ret
  exact ⟨rfl, Below.refl _ _⟩

set_option maxHeartbeats 16000000 in
theorem doesX {w : World} {u s h r : Nat} (hu : w.heap[u]? = some (.cells #[.pointer (some ⟨h, 0, none⟩), .pointer (some ⟨s, 0, none⟩), .slice none 0 0, .int .i64 0, .int .i64 0] 32)) (H : HisB w h r none 0 0 none 0 0 0 []) (hS : StkAt w s (fun g => g = s) [] [] (.slice none 0 0) (.slice none 0 0)) (hw : Bar w) :
    Calls Tryd.prog 13 #[.pointer (some ⟨u, 0, none⟩)] w fun e w' => e = .returned (.bool true) ∧ (∃ oa oc na nc pa pc P, Usr w' u s h r oa oc na nc pa pc P [(1, 1)] [] (fun g => g < w.heap.size ∧ g ≠ s) ∧ w.heap.size ≤ P) ∧ Chg (fun g => g = u ∨ g = s ∨ g = h ∨ g = r) w w' := by
  obtain ⟨es, ck, hr0, hE⟩ := H.map
  have lu := (Array.getElem?_eq_some_iff.1 hu).1
  have lh := (Array.getElem?_eq_some_iff.1 H.box).1
  have lr := (Array.getElem?_eq_some_iff.1 hr0).1
  have ls := hS.lt
  have huh : ¬ u = h := fun e => by have hb := H.box; rw [← e, hu] at hb; simp at hb
  have hur : ¬ u = r := fun e => by rw [← e, hu] at hr0; simp at hr0
  have hus : ¬ u = s := fun e => by have hb := hS.box; rw [← e, hu] at hb; simp at hb
  have hhs : ¬ h = s := fun e => by have hb := hS.box; rw [← e, H.box] at hb; simp at hb
  have hrs : ¬ r = s := fun e => by have hb := hS.box; rw [← e, hr0] at hb; simp at hb
  have hbu : u ≠ 0 := bar_ne hw hu (fun t fr => by simp [barCells])
  have hbh : ¬ w.heap.size = h := by omega
  have hbr : ¬ w.heap.size = r := by omega
  have hbs : ¬ w.heap.size = s := by omega
  have hbu2 : ¬ w.heap.size = u := by omega
  obtain ⟨w1, hw1⟩ : ∃ w1, w.alloc (.cells #[.int .i64 0, .int .i64 0, .int .i64 0, .int .i64 0, .string ⟨#[]⟩, .slice none 0 0, .int .i64 0, .int .i64 0, .bool false] 70) = w1 := ⟨_, rfl⟩
  have k1 : Below w.heap.size w w1 := by rw [← hw1]; exact (Below.refl _ _).alloc (Nat.le_refl _) _
  have hb1 : w1.heap[w.heap.size]? = some (.cells #[.int .i64 0, .int .i64 0, .int .i64 0, .int .i64 0, .string ⟨#[]⟩, .slice none 0 0, .int .i64 0, .int .i64 0, .bool false] 70) := by rw [← hw1]; exact heap_alloc_new _ _
  have hu1 := (k1.block u lu).trans hu
  obtain ⟨W2, e2, hu2, hC2⟩ := setBoxG hu1 3 (.int .i64 1) #[.pointer (some ⟨h, 0, none⟩), .pointer (some ⟨s, 0, none⟩), .slice none 0 0, .int .i64 1, .int .i64 0] rfl
  have hb2 := hC2.block hb1 hbu2
  obtain ⟨W3, e3, hb3, hC3⟩ := setBoxG hb2 0 (.int .i64 1) _ rfl
  obtain ⟨W4, e4, hb4, hC4⟩ := setBoxG hb3 1 (.int .i64 1) _ rfl
  obtain ⟨W5, e5, hb5, hC5⟩ := setBoxG hb4 2 (.int .i64 1) _ rfl
  obtain ⟨X, eX, hbX, hC6⟩ := setBoxG hb5 4 (.string ⟨#[120]⟩) #[.int .i64 1, .int .i64 1, .int .i64 1, .int .i64 0, .string xB, .slice none 0 0, .int .i64 0, .int .i64 0, .bool false] rfl
  have hCb : Chg (fun g => g = w.heap.size) W2 X := ((hC3.trans hC4).trans hC5).trans hC6
  have hC0 : Chg (fun g => g = u ∨ w.heap.size ≤ g) w X := ((Chg.of_below k1).trans (hC2.mono (fun g _ hg => .inl hg))).trans (hCb.mono (fun g _ hg => .inr (by omega)))
  have hnd : ∀ g, g < w.heap.size → ¬ g = u → ¬ (g = u ∨ w.heap.size ≤ g) := fun g a b c => by omega
  have huX := hCb.block hu2 (fun e => hbu2 e.symm)
  have HX : HisB X h r none 0 0 none 0 0 0 [] := H.chg hC0 (hnd h lh (fun e => huh e.symm)) (hnd r lr (fun e => hur e.symm))
  have hSX : StkAt X s (fun g => g = s) [] [] (.slice none 0 0) (.slice none 0 0) := hS.chg hC0 (fun g hg => by rw [hg]; exact hnd s ls (fun e => hus e.symm))
  have hwX : Bar X := hw.chg hC0 (fun e => by
    obtain ⟨t, fr, h2⟩ := hw.lies
    have := (Array.getElem?_eq_some_iff.1 h2).1
    rcases e with e | e
    · exact hbu e.symm
    · omega)
  have HLen : Hid (∀ W, Below X.heap.size X W → Calls Tryd.prog 27 #[.pointer (some ⟨h, 0, none⟩)] W fun e w' => e = .returned (.int .i64 0) ∧ Below W.heap.size W w') := fun W hb => len0 (HX.below hb)
  have HPut : Hid (∀ W, Below X.heap.size X W → Calls Tryd.prog 26 #[.pointer (some ⟨h, 0, none⟩), .int .i64 0, .agg #[.int .i64 1, .int .i64 1, .int .i64 1, .int .i64 0, .string xB, .slice none 0 0, .int .i64 0, .int .i64 0, .bool false]] W fun e w' => putP W h r 1 1 e w') := fun W hb => putX (HX.below hb) (c := 1) (n := 1) (by decide) (hwX.below hb)
  have HSX : Hid (StkAt X s (fun g => g = s) [] [] (.slice none 0 0) (.slice none 0 0)) := hSX
  have HC0 : Hid (Chg (fun g => g = u ∨ w.heap.size ≤ g) w X) := hC0
  have hszX := hC0.size
  obtain ⟨c0, c1, c2, c3, c4⟩ := box5 hu1
  obtain ⟨d0, d1, d2, d3, d4⟩ := box5 hu2
  have f3 := Lib.frozen_of_heap hu1 3
  obtain ⟨z0, z1, z2, z3, z4, z5, z6, z7, z8⟩ := box9 hb2
  obtain ⟨y0, y1, y2, y3, y4, y5, y6, y7, y8⟩ := wr9 hb2
  have eB : (((W2.setCell ⟨w.heap.size, 0, none⟩ (.int .i64 1)).setCell ⟨w.heap.size, 1, none⟩ (.int .i64 1)).setCell ⟨w.heap.size, 2, none⟩ (.int .i64 1)).setCell ⟨w.heap.size, 4, none⟩ (.string ⟨#[120]⟩) = X := by rw [e3, e4, e5, eX]
  clear e3 e4 e5 eX hC3 hC4 hC5 hC6 hb3 hb4 hb5 hSX hC0 HX hwX hCb hC2 hb1 hu1 hb2 k1 hS H hw hr0 hE hnd hu2
  go_enter Tryd.func13, Tryd.ntmps13
  go_wp2_with fail
  try rw [eB]
  clear c0 c1 c2 c3 c4 d0 d1 d2 d3 d4 f3 z0 z1 z2 z3 z4 z5 z6 z7 z8 y0 y1 y2 y3 y4 y5 y6 y7 y8 e2 eB hw1
  obtain ⟨c0, c1, c2, c3, c4⟩ := box5 huX
  obtain ⟨q0, q1, q2, q3, q4, q5, q6, q7, q8⟩ := box9 hbX
  have luX := (Array.getElem?_eq_some_iff.1 huX).1
  have lbX := (Array.getElem?_eq_some_iff.1 hbX).1
  have hcur : Below X.heap.size X X := Below.refl _ _
  go_cut [5] (fun v5 wx => v5 = .int .i64 0 ∧ ∃ oa oc na nc pa pc, His1 wx h r oa oc na nc pa pc ∧ X.heap.size ≤ oa ∧ X.heap.size ≤ na ∧ (∀ ad, pa = some ad → X.heap.size ≤ ad.block) ∧ Chg (fun g => g = h ∨ g = r) X wx)
  case first =>
    refine wp_region_held_drew (S := (fun W => ∀ p : Addr, p.block < X.heap.size → p.block ≠ h → p.block ≠ r → W.cell? p = X.cell? p)) (by kernel_rfl) ?hS148 (fun hHeld => ?rest148)
    case hS148 => (intro p hp h1 h2; refine Below.cell (B := X.heap.size) ?_ hp; (repeat (first | with_reducible exact hcur | (with_reducible refine Below.drew ?_))))
    refine takeD (i := 0) (d := some 27) (v := ?vT139) rfl rfl (by kernel_rfl) (by kernel_rfl) (by kernel_rfl) (fun _ _ _ h => h) (Or.inl ⟨by rfl, ?hyT139⟩) (by assumption) ?rstT139
    case hyT139 => (intro w hSw; (try dsimp only at hSw); go_simp; (try with_reducible rfl))
    try simp only [Act.put, List.setIfInBounds_toArray, List.set_cons_zero, List.set_cons_succ]
    refine takeD (i := 1) (d := some 28) (v := ?vT140) rfl rfl (by kernel_rfl) (by kernel_rfl) (by kernel_rfl) (fun _ _ _ h => h) (Or.inl ⟨by rfl, ?hyT140⟩) (by assumption) ?rstT140
    case hyT140 => (intro w hSw; (try dsimp only at hSw); go_simp; (try with_reducible rfl))
    try simp only [Act.put, List.setIfInBounds_toArray, List.set_cons_zero, List.set_cons_succ]
    refine takeD (i := 2) (d := some 29) (v := ?vT141) rfl rfl (by kernel_rfl) (by kernel_rfl) (by kernel_rfl) (fun _ _ _ h => h) (Or.inl ⟨by rfl, ?hyT141⟩) (by assumption) ?rstT141
    case hyT141 => (intro w hSw; (try dsimp only at hSw); go_simp; (try with_reducible rfl))
    try simp only [Act.put, List.setIfInBounds_toArray, List.set_cons_zero, List.set_cons_succ]
    refine takeD (i := 3) (d := some 30) (v := ?vT142) rfl rfl (by kernel_rfl) (by kernel_rfl) (by kernel_rfl) (fun _ _ _ h => h) (Or.inl ⟨by rfl, ?hyT142⟩) (by assumption) ?rstT142
    case hyT142 => (intro w hSw; (try dsimp only at hSw); go_simp; (try with_reducible rfl))
    try simp only [Act.put, List.setIfInBounds_toArray, List.set_cons_zero, List.set_cons_succ]
    refine takeD (i := 4) (d := some 31) (v := ?vT143) rfl rfl (by kernel_rfl) (by kernel_rfl) (by kernel_rfl) (fun _ _ _ h => h) (Or.inl ⟨by rfl, ?hyT143⟩) (by assumption) ?rstT143
    case hyT143 => (intro w hSw; (try dsimp only at hSw); go_simp; (try with_reducible rfl))
    try simp only [Act.put, List.setIfInBounds_toArray, List.set_cons_zero, List.set_cons_succ]
    refine takeD (i := 5) (d := some 32) (v := ?vT144) rfl rfl (by kernel_rfl) (by kernel_rfl) (by kernel_rfl) (fun _ _ _ h => h) (Or.inl ⟨by rfl, ?hyT144⟩) (by assumption) ?rstT144
    case hyT144 => (intro w hSw; (try dsimp only at hSw); go_simp; (try with_reducible rfl))
    try simp only [Act.put, List.setIfInBounds_toArray, List.set_cons_zero, List.set_cons_succ]
    refine takeD (i := 6) (d := some 33) (v := ?vT145) rfl rfl (by kernel_rfl) (by kernel_rfl) (by kernel_rfl) (fun _ _ _ h => h) (Or.inl ⟨by rfl, ?hyT145⟩) (by assumption) ?rstT145
    case hyT145 => (intro w hSw; (try dsimp only at hSw); go_simp; (try with_reducible rfl))
    try simp only [Act.put, List.setIfInBounds_toArray, List.set_cons_zero, List.set_cons_succ]
    refine takeD (i := 7) (d := some 34) (v := ?vT146) rfl rfl (by kernel_rfl) (by kernel_rfl) (by kernel_rfl) (fun _ _ _ h => h) (Or.inl ⟨by rfl, ?hyT146⟩) (by assumption) ?rstT146
    case hyT146 => (intro w hSw; (try dsimp only at hSw); go_simp; (try with_reducible rfl))
    try simp only [Act.put, List.setIfInBounds_toArray, List.set_cons_zero, List.set_cons_succ]
    refine takeD (i := 9) (d := some 36) (v := ?vT147) rfl rfl (by kernel_rfl) (by kernel_rfl) (by kernel_rfl) (fun _ _ _ h => h) (Or.inl ⟨by rfl, ?hyT147⟩) (by assumption) ?rstT147
    case hyT147 => (intro w hSw; (try dsimp only at hSw); go_simp; (try with_reducible rfl))
    try simp only [Act.put, List.setIfInBounds_toArray, List.set_cons_zero, List.set_cons_succ]
    refine wpAnyH_ready (rs := [8, 14]) (by kernel_rfl) (by simp) (AllReadyH.cons rfl (fun K hK => ?b179) (AllReadyH.cons rfl (fun K hK => ?b180) AllReadyH.nil))
    case b179 =>
      go_simp
      refine (HLen.out _ ?_).mono ?_
      · first | exact hcur | exact hcur.drew
      rintro e2 wl ⟨rfl, hb2⟩
      have hcur2 : Below X.heap.size X wl := by first | exact hcur.trans (hb2.mono hcur.size) | exact hcur.drew.trans (hb2.mono hcur.drew.size)
      clear hcur hb2
      have hcur := hcur2
      clear hcur2
      clear hHeld
      refine hK.out _ _ ?hS181 (fun hHeld => ?rest181)
      case hS181 => (intro p hp h1 h2; refine Below.cell (B := X.heap.size) ?_ hp; (repeat (first | with_reducible exact hcur | (with_reducible refine Below.drew ?_))))
      clear hK K
      try simp only [Act.put, List.setIfInBounds_toArray, List.set_cons_zero, List.set_cons_succ]
      refine wpAnyH_ready (rs := [10, 14]) (by kernel_rfl) (by simp) (AllReadyH.cons rfl (fun K hK => ?b165) (AllReadyH.cons rfl (fun K hK => ?b166) AllReadyH.nil))
      case b165 =>
        go_simp
        refine (HPut.out _ ?_).mono ?_
        · first | exact hcur | exact hcur.drew
        rintro e2 wp ⟨xa, xc, oa, oc, na, nc, pa, pc, rfl, hR, hPl, hgo, hgn, hgp, hCp⟩
        have hch : Chg (fun g => g = h ∨ g = r) X wp := (Chg.of_below hcur).trans hCp
        have hsX := hcur.size
        have hH : His1 wp h r oa oc na nc pa pc := ⟨hR, hPl⟩
        obtain ⟨lo1, lo2, lo3⟩ := hH.lt
        clear hcur hCp hR hPl
        simp only [opVal, oX]
        clear hHeld
        refine hK.out _ _ ?hS167 (fun hHeld => ?rest167)
        case hS167 => (intro p hp h1 h2; exact Chg.cell hch hp (fun e => e.elim h1 h2))
        clear hK K
        try simp only [Act.put, List.setIfInBounds_toArray, List.set_cons_zero, List.set_cons_succ]
        refine takeD (i := 11) (d := some 26) (v := ?vT149) rfl rfl (by kernel_rfl) (by kernel_rfl) (by kernel_rfl) (fun _ _ _ h => h) (Or.inl ⟨by rfl, ?hyT149⟩) (by assumption) ?rstT149
        case hyT149 => (intro w hSw; (try dsimp only at hSw); go_simp; (try with_reducible rfl))
        try simp only [Act.put, List.setIfInBounds_toArray, List.set_cons_zero, List.set_cons_succ]
        refine takeD (i := 12) (d := some 38) (v := ?vT150) rfl rfl (by kernel_rfl) (by kernel_rfl) (by kernel_rfl) (fun _ _ _ h => h) (Or.inl ⟨by rfl, ?hyT150⟩) (by assumption) ?rstT150
        case hyT150 => (intro w hSw; (try dsimp only at hSw); go_simp; (try with_reducible rfl))
        try simp only [Act.put, List.setIfInBounds_toArray, List.set_cons_zero, List.set_cons_succ]
        refine takeD (i := 13) (d := some 39) (v := ?vT151) rfl rfl (by kernel_rfl) (by kernel_rfl) (by kernel_rfl) (fun _ _ _ h => h) (Or.inl ⟨by rfl, ?hyT151⟩) (by assumption) ?rstT151
        case hyT151 => (intro w hSw; (try dsimp only at hSw); go_simp; (try with_reducible rfl))
        try simp only [Act.put, List.setIfInBounds_toArray, List.set_cons_zero, List.set_cons_succ]
        refine wpAnyH_ready (rs := [14]) (by kernel_rfl) (by simp) (AllReadyH.cons rfl (fun K hK => ?b155) AllReadyH.nil)
        case b155 =>
          go_simp
          obtain ⟨wz, hwz⟩ : ∃ wz, wp.alloc (.cells #[.int .i64 0, .int .i64 0, .int .i64 0, .int .i64 0, .string ⟨#[]⟩, .slice none 0 0, .int .i64 0, .int .i64 0, .bool false] 70) = wz := ⟨_, rfl⟩
          rw [hwz]
          have hb2 : Below wp.heap.size wp wz := by rw [← hwz]; exact ((Below.refl _ _).alloc (Nat.le_refl _) _)
          have hz : wz.heap[wp.heap.size]? = some (.cells #[.int .i64 0, .int .i64 0, .int .i64 0, .int .i64 0, .string ⟨#[]⟩, .slice none 0 0, .int .i64 0, .int .i64 0, .bool false] 70) := by rw [← hwz]; exact heap_alloc_new wp _
          clear hwz
          have hch2 := hch.trans (Chg.of_below (D := fun g => g = h ∨ g = r) hb2)
          have hs9 := hch.size
          have hk : HK wp.heap.size h r oa na pa := ⟨by omega, by omega, by omega, by omega, fun ad e => by have := lo3 ad e; omega⟩
          have hH2 := hH.chg (D := fun _ => False) (Chg.of_below hb2) id id id id (fun _ _ => id)
          clear hch hH hb2
          have hch := hch2
          have hH := hH2
          clear hHeld
          refine hK.out _ _ ?hS156 (fun hHeld => ?rest156)
          case hS156 => (intro p hp h1 h2; exact Chg.cell hch hp (fun e => e.elim h1 h2))
          clear hK K
          try simp only [Act.put, List.setIfInBounds_toArray, List.set_cons_zero, List.set_cons_succ]
          refine wpAnyH_ready (rs := [15]) (by kernel_rfl) (by simp) (AllReadyH.cons rfl (fun K hK => ?b153) AllReadyH.nil)
          case b153 =>
            obtain ⟨cz0, cz1, cz2, cz3, cz4, cz5, cz6, cz7, cz8⟩ := box9 hz
            obtain ⟨fz0, fz1, fz2, fz3, fz4, fz5, fz6, fz7, fz8⟩ := wr9 hz
            have hgk : X.heap.size ≤ wp.heap.size := by have := hs9; omega
            obtain ⟨W9, e9, hx9, B9, K9⟩ := store9 hz (Below.refl wp.heap.size _) (Nat.le_refl _) (.int .i64 0) (.int .i64 0) (.int .i64 1) (.int .i64 0) (.string xB) (.slice xa 0 xc) (.int .i64 0) (.int .i64 0) (.bool false)
            have hC9 := K9.chg (B9.mono (Nat.zero_le _))
            go_simp
            try rw [e9]
            clear hHeld
            refine hK.out _ _ ?hS154 (fun hHeld => ?rest154)
            case hS154 => (intro p hp h1 h2; exact (Chg.cell hC9 (by have := hch.size; omega) (by omega)).trans (Chg.cell hch hp (fun e => e.elim h1 h2)))
            clear hK K
            try simp only [Act.put, List.setIfInBounds_toArray, List.set_cons_zero, List.set_cons_succ]
            refine takeD (i := 16) (d := some 5) (v := ?vT152) rfl rfl (by kernel_rfl) (by kernel_rfl) (by kernel_rfl) (fun _ _ _ h => h) (Or.inl ⟨by rfl, ?hyT152⟩) (by assumption) ?rstT152
            case hyT152 => (intro w hSw; (try dsimp only at hSw); go_simp; (try with_reducible rfl))
            try simp only [Act.put, List.setIfInBounds_toArray, List.set_cons_zero, List.set_cons_succ]
            refine wpAnyH_done (by kernel_rfl) ?_ _
            go_wp2_with fail
            go_meet
            case rel => exact ⟨rfl, oa, oc, na, nc, pa, pc, hk.his hH hC9, by omega, by omega, fun ad e => by have := hgp ad e; omega, ((hch.mono (E := fun g => (g = h ∨ g = r) ∨ X.heap.size ≤ g) (fun g _ hg => .inl hg)).trans (hC9.mono (fun g _ hg => .inr (by omega)))).mono (fun g hg hd => by omega)⟩
      case b166 =>
        go_simp
        obtain ⟨wz, hwz⟩ : ∃ wz, wl.alloc (.cells #[.int .i64 0, .int .i64 0, .int .i64 0, .int .i64 0, .string ⟨#[]⟩, .slice none 0 0, .int .i64 0, .int .i64 0, .bool false] 70) = wz := ⟨_, rfl⟩
        rw [hwz]
        have hb2 : Below wl.heap.size wl wz := by rw [← hwz]; exact ((Below.refl _ _).alloc (Nat.le_refl _) _)
        have hz : wz.heap[wl.heap.size]? = some (.cells #[.int .i64 0, .int .i64 0, .int .i64 0, .int .i64 0, .string ⟨#[]⟩, .slice none 0 0, .int .i64 0, .int .i64 0, .bool false] 70) := by rw [← hwz]; exact heap_alloc_new wl _
        clear hwz
        have hgx0 : X.heap.size ≤ wl.heap.size := hcur.size
        have hzl : wl.heap.size < wz.heap.size := (Array.getElem?_eq_some_iff.1 hz).1
        have hcur2 : Below X.heap.size X wz := hcur.trans (hb2.mono hcur.size)
        clear hcur hb2
        have hcur := hcur2
        clear hcur2
        clear hHeld
        refine hK.out _ _ ?hS168 (fun hHeld => ?rest168)
        case hS168 => (intro p hp h1 h2; refine Below.cell (B := X.heap.size) ?_ hp; (repeat (first | with_reducible exact hcur | (with_reducible refine Below.drew ?_))))
        clear hK K
        try simp only [Act.put, List.setIfInBounds_toArray, List.set_cons_zero, List.set_cons_succ]
        refine wpAnyH_ready (rs := [10]) (by kernel_rfl) (by simp) (AllReadyH.cons rfl (fun K hK => ?b163) AllReadyH.nil)
        case b163 =>
          go_simp
          refine (HPut.out _ ?_).mono ?_
          · first | exact hcur | exact hcur.drew
          rintro e2 wp ⟨xa, xc, oa, oc, na, nc, pa, pc, rfl, hR, hPl, hgo, hgn, hgp, hCp⟩
          have hch : Chg (fun g => g = h ∨ g = r) X wp := (Chg.of_below hcur).trans hCp
          have hsX := hcur.size
          have hH : His1 wp h r oa oc na nc pa pc := ⟨hR, hPl⟩
          obtain ⟨lo1, lo2, lo3⟩ := hH.lt
          have hgx := hgx0
          have hz2 := hCp.block hz (fun e => by omega)
          have hk : HK (wl.heap.size) h r oa na pa := ⟨by omega, by omega, by omega, by omega, fun ad e => by have := hgp ad e; omega⟩
          clear hz hgx
          have hz := hz2
          clear hcur hCp hR hPl
          simp only [opVal, oX]
          clear hHeld
          refine hK.out _ _ ?hS164 (fun hHeld => ?rest164)
          case hS164 => (intro p hp h1 h2; exact Chg.cell hch hp (fun e => e.elim h1 h2))
          clear hK K
          try simp only [Act.put, List.setIfInBounds_toArray, List.set_cons_zero, List.set_cons_succ]
          refine takeD (i := 11) (d := some 26) (v := ?vT157) rfl rfl (by kernel_rfl) (by kernel_rfl) (by kernel_rfl) (fun _ _ _ h => h) (Or.inl ⟨by rfl, ?hyT157⟩) (by assumption) ?rstT157
          case hyT157 => (intro w hSw; (try dsimp only at hSw); go_simp; (try with_reducible rfl))
          try simp only [Act.put, List.setIfInBounds_toArray, List.set_cons_zero, List.set_cons_succ]
          refine takeD (i := 12) (d := some 38) (v := ?vT158) rfl rfl (by kernel_rfl) (by kernel_rfl) (by kernel_rfl) (fun _ _ _ h => h) (Or.inl ⟨by rfl, ?hyT158⟩) (by assumption) ?rstT158
          case hyT158 => (intro w hSw; (try dsimp only at hSw); go_simp; (try with_reducible rfl))
          try simp only [Act.put, List.setIfInBounds_toArray, List.set_cons_zero, List.set_cons_succ]
          refine takeD (i := 13) (d := some 39) (v := ?vT159) rfl rfl (by kernel_rfl) (by kernel_rfl) (by kernel_rfl) (fun _ _ _ h => h) (Or.inl ⟨by rfl, ?hyT159⟩) (by assumption) ?rstT159
          case hyT159 => (intro w hSw; (try dsimp only at hSw); go_simp; (try with_reducible rfl))
          try simp only [Act.put, List.setIfInBounds_toArray, List.set_cons_zero, List.set_cons_succ]
          refine wpAnyH_ready (rs := [15]) (by kernel_rfl) (by simp) (AllReadyH.cons rfl (fun K hK => ?b161) AllReadyH.nil)
          case b161 =>
            obtain ⟨cz0, cz1, cz2, cz3, cz4, cz5, cz6, cz7, cz8⟩ := box9 hz
            obtain ⟨fz0, fz1, fz2, fz3, fz4, fz5, fz6, fz7, fz8⟩ := wr9 hz
            have hgk : X.heap.size ≤ wl.heap.size := hgx0
            obtain ⟨W9, e9, hx9, B9, K9⟩ := store9 hz (Below.refl wl.heap.size _) (Nat.le_refl _) (.int .i64 0) (.int .i64 0) (.int .i64 1) (.int .i64 0) (.string xB) (.slice xa 0 xc) (.int .i64 0) (.int .i64 0) (.bool false)
            have hC9 := K9.chg (B9.mono (Nat.zero_le _))
            go_simp
            try rw [e9]
            clear hHeld
            refine hK.out _ _ ?hS162 (fun hHeld => ?rest162)
            case hS162 => (intro p hp h1 h2; exact (Chg.cell hC9 (by have := hch.size; omega) (by omega)).trans (Chg.cell hch hp (fun e => e.elim h1 h2)))
            clear hK K
            try simp only [Act.put, List.setIfInBounds_toArray, List.set_cons_zero, List.set_cons_succ]
            refine takeD (i := 16) (d := some 5) (v := ?vT160) rfl rfl (by kernel_rfl) (by kernel_rfl) (by kernel_rfl) (fun _ _ _ h => h) (Or.inl ⟨by rfl, ?hyT160⟩) (by assumption) ?rstT160
            case hyT160 => (intro w hSw; (try dsimp only at hSw); go_simp; (try with_reducible rfl))
            try simp only [Act.put, List.setIfInBounds_toArray, List.set_cons_zero, List.set_cons_succ]
            refine wpAnyH_done (by kernel_rfl) ?_ _
            go_wp2_with fail
            go_meet
            case rel => exact ⟨rfl, oa, oc, na, nc, pa, pc, hk.his hH hC9, by omega, by omega, fun ad e => by have := hgp ad e; omega, ((hch.mono (E := fun g => (g = h ∨ g = r) ∨ X.heap.size ≤ g) (fun g _ hg => .inl hg)).trans (hC9.mono (fun g _ hg => .inr (by omega)))).mono (fun g hg hd => by omega)⟩
    case b180 =>
      go_simp
      obtain ⟨wz, hwz⟩ : ∃ wz, (X.alloc (.cells #[.int .i64 0, .int .i64 0, .int .i64 0, .int .i64 0, .string ⟨#[]⟩, .slice none 0 0, .int .i64 0, .int .i64 0, .bool false] 70)).drew = wz := ⟨_, rfl⟩
      rw [hwz]
      have hb2 : Below X.heap.size X wz := by rw [← hwz]; exact ((Below.refl _ _).alloc (Nat.le_refl _) _).drew
      have hz : wz.heap[X.heap.size]? = some (.cells #[.int .i64 0, .int .i64 0, .int .i64 0, .int .i64 0, .string ⟨#[]⟩, .slice none 0 0, .int .i64 0, .int .i64 0, .bool false] 70) := by rw [← hwz]; exact heap_alloc_new X _
      clear hwz
      have hgx0 : X.heap.size ≤ X.heap.size := hcur.size
      have hzl : X.heap.size < wz.heap.size := (Array.getElem?_eq_some_iff.1 hz).1
      have hcur2 : Below X.heap.size X wz := hcur.trans (hb2.mono hcur.size)
      clear hcur hb2
      have hcur := hcur2
      clear hcur2
      clear hHeld
      refine hK.out _ _ ?hS182 (fun hHeld => ?rest182)
      case hS182 => (intro p hp h1 h2; refine Below.cell (B := X.heap.size) ?_ hp; (repeat (first | with_reducible exact hcur | (with_reducible refine Below.drew ?_))))
      clear hK K
      try simp only [Act.put, List.setIfInBounds_toArray, List.set_cons_zero, List.set_cons_succ]
      refine wpAnyH_ready (rs := [8]) (by kernel_rfl) (by simp) (AllReadyH.cons rfl (fun K hK => ?b177) AllReadyH.nil)
      case b177 =>
        go_simp
        refine (HLen.out _ ?_).mono ?_
        · first | exact hcur | exact hcur.drew
        rintro e2 wl ⟨rfl, hb2⟩
        have hcur2 : Below X.heap.size X wl := by first | exact hcur.trans (hb2.mono hcur.size) | exact hcur.drew.trans (hb2.mono hcur.drew.size)
        have hz2 := (hb2.block _ hzl).trans hz
        have hzl2 : X.heap.size < wl.heap.size := Nat.lt_of_lt_of_le hzl hb2.size
        clear hz hzl
        have hz := hz2
        have hzl := hzl2
        clear hz2 hzl2
        clear hcur hb2
        have hcur := hcur2
        clear hcur2
        clear hHeld
        refine hK.out _ _ ?hS178 (fun hHeld => ?rest178)
        case hS178 => (intro p hp h1 h2; refine Below.cell (B := X.heap.size) ?_ hp; (repeat (first | with_reducible exact hcur | (with_reducible refine Below.drew ?_))))
        clear hK K
        try simp only [Act.put, List.setIfInBounds_toArray, List.set_cons_zero, List.set_cons_succ]
        refine wpAnyH_ready (rs := [10]) (by kernel_rfl) (by simp) (AllReadyH.cons rfl (fun K hK => ?b175) AllReadyH.nil)
        case b175 =>
          go_simp
          refine (HPut.out _ ?_).mono ?_
          · first | exact hcur | exact hcur.drew
          rintro e2 wp ⟨xa, xc, oa, oc, na, nc, pa, pc, rfl, hR, hPl, hgo, hgn, hgp, hCp⟩
          have hch : Chg (fun g => g = h ∨ g = r) X wp := (Chg.of_below hcur).trans hCp
          have hsX := hcur.size
          have hH : His1 wp h r oa oc na nc pa pc := ⟨hR, hPl⟩
          obtain ⟨lo1, lo2, lo3⟩ := hH.lt
          have hgx := hgx0
          have hz2 := hCp.block hz (fun e => by omega)
          have hk : HK (X.heap.size) h r oa na pa := ⟨by omega, by omega, by omega, by omega, fun ad e => by have := hgp ad e; omega⟩
          clear hz hgx
          have hz := hz2
          clear hcur hCp hR hPl
          simp only [opVal, oX]
          clear hHeld
          refine hK.out _ _ ?hS176 (fun hHeld => ?rest176)
          case hS176 => (intro p hp h1 h2; exact Chg.cell hch hp (fun e => e.elim h1 h2))
          clear hK K
          try simp only [Act.put, List.setIfInBounds_toArray, List.set_cons_zero, List.set_cons_succ]
          refine takeD (i := 11) (d := some 26) (v := ?vT169) rfl rfl (by kernel_rfl) (by kernel_rfl) (by kernel_rfl) (fun _ _ _ h => h) (Or.inl ⟨by rfl, ?hyT169⟩) (by assumption) ?rstT169
          case hyT169 => (intro w hSw; (try dsimp only at hSw); go_simp; (try with_reducible rfl))
          try simp only [Act.put, List.setIfInBounds_toArray, List.set_cons_zero, List.set_cons_succ]
          refine takeD (i := 12) (d := some 38) (v := ?vT170) rfl rfl (by kernel_rfl) (by kernel_rfl) (by kernel_rfl) (fun _ _ _ h => h) (Or.inl ⟨by rfl, ?hyT170⟩) (by assumption) ?rstT170
          case hyT170 => (intro w hSw; (try dsimp only at hSw); go_simp; (try with_reducible rfl))
          try simp only [Act.put, List.setIfInBounds_toArray, List.set_cons_zero, List.set_cons_succ]
          refine takeD (i := 13) (d := some 39) (v := ?vT171) rfl rfl (by kernel_rfl) (by kernel_rfl) (by kernel_rfl) (fun _ _ _ h => h) (Or.inl ⟨by rfl, ?hyT171⟩) (by assumption) ?rstT171
          case hyT171 => (intro w hSw; (try dsimp only at hSw); go_simp; (try with_reducible rfl))
          try simp only [Act.put, List.setIfInBounds_toArray, List.set_cons_zero, List.set_cons_succ]
          refine wpAnyH_ready (rs := [15]) (by kernel_rfl) (by simp) (AllReadyH.cons rfl (fun K hK => ?b173) AllReadyH.nil)
          case b173 =>
            obtain ⟨cz0, cz1, cz2, cz3, cz4, cz5, cz6, cz7, cz8⟩ := box9 hz
            obtain ⟨fz0, fz1, fz2, fz3, fz4, fz5, fz6, fz7, fz8⟩ := wr9 hz
            have hgk : X.heap.size ≤ X.heap.size := Nat.le_refl _
            obtain ⟨W9, e9, hx9, B9, K9⟩ := store9 hz (Below.refl X.heap.size _) (Nat.le_refl _) (.int .i64 0) (.int .i64 0) (.int .i64 1) (.int .i64 0) (.string xB) (.slice xa 0 xc) (.int .i64 0) (.int .i64 0) (.bool false)
            have hC9 := K9.chg (B9.mono (Nat.zero_le _))
            go_simp
            try rw [e9]
            clear hHeld
            refine hK.out _ _ ?hS174 (fun hHeld => ?rest174)
            case hS174 => (intro p hp h1 h2; exact (Chg.cell hC9 (by have := hch.size; omega) (by omega)).trans (Chg.cell hch hp (fun e => e.elim h1 h2)))
            clear hK K
            try simp only [Act.put, List.setIfInBounds_toArray, List.set_cons_zero, List.set_cons_succ]
            refine takeD (i := 16) (d := some 5) (v := ?vT172) rfl rfl (by kernel_rfl) (by kernel_rfl) (by kernel_rfl) (fun _ _ _ h => h) (Or.inl ⟨by rfl, ?hyT172⟩) (by assumption) ?rstT172
            case hyT172 => (intro w hSw; (try dsimp only at hSw); go_simp; (try with_reducible rfl))
            try simp only [Act.put, List.setIfInBounds_toArray, List.set_cons_zero, List.set_cons_succ]
            refine wpAnyH_done (by kernel_rfl) ?_ _
            go_wp2_with fail
            go_meet
            case rel => exact ⟨rfl, oa, oc, na, nc, pa, pc, hk.his hH hC9, by omega, by omega, fun ad e => by have := hgp ad e; omega, ((hch.mono (E := fun g => (g = h ∨ g = r) ∨ X.heap.size ≤ g) (fun g _ hg => .inl hg)).trans (hC9.mono (fun g _ hg => .inr (by omega)))).mono (fun g hg hd => by omega)⟩
  case rest =>
    obtain ⟨X7, rfl⟩ : ∃ x, x = wc := ⟨_, rfl⟩
    obtain ⟨rfl, oa, oc, na, nc, pa, pc, hH, hgo, hgn, hgp, hC7⟩ := hcut
    clear c0 c1 c2 c3 c4 q0 q1 q2 q3 q4 q5 q6 q7 q8 hcur HLen HPut
    have hu7 := hC7.block huX (fun e => e.elim huh hur)
    have hb7 := hC7.block hbX (fun e => e.elim hbh hbr)
    have hS7 : StkAt X7 s (fun g => g = s) [] [] (.slice none 0 0) (.slice none 0 0) := HSX.out.chg hC7 (fun g hg => by rw [hg]; exact fun e => e.elim (fun e => hhs e.symm) (fun e => hrs e.symm))
    have HD : Hid (Calls Tryd.prog 7 #[.pointer (some ⟨s, 0, none⟩), .agg #[.int .i64 1, .int .i64 1]] X7.drew fun e w' => e = .returned (.int .i64 0) ∧ (∃ vu' vr', StkAt w' s (fun g => g = s ∨ X7.heap.size ≤ g) [(1, 1)] [] vu' vr') ∧ Chg (fun g => g = s) X7 w') := (did_any (hS7.chg (E := fun _ => False) (Chg.of_below (Below.refl _ _).drew) (fun _ _ h => h)) (by simp) (1, 1)).mono fun e w' ⟨h1, h2, h3⟩ => ⟨h1, h2, (Chg.of_below (Below.refl _ _).drew).trans h3⟩
    have hsz7 := hC7.size
    obtain ⟨c0, c1, c2, c3, c4⟩ := box5 hu7
    obtain ⟨q0, q1, q2, q3, q4, q5, q6, q7, q8⟩ := box9 hb7
    have HC7 : Hid (Chg (fun g => g = h ∨ g = r) X X7) := hC7
    clear hS7 hC7 huX hbX
    go_wp2_with fail
    refine wp_region_held_drew (S := (fun W => ∀ p : Addr, (p.block = u ∨ p.block = w.heap.size) → W.cell? p = X7.cell? p)) (by kernel_rfl) ?hS183 (fun hHeld => ?rest183)
    case hS183 => (intro p hp; rfl)
    refine takeD (i := 0) (d := some 40) (v := ?vT184) rfl rfl (by kernel_rfl) (by kernel_rfl) (by kernel_rfl) (fun _ _ _ h => h) (Or.inl ⟨by rfl, ?hyT184⟩) (by assumption) ?rstT184
    case hyT184 => (intro w hSw; (try dsimp only at hSw); go_simp; (try with_reducible rfl))
    try simp only [Act.put, List.setIfInBounds_toArray, List.set_cons_zero, List.set_cons_succ]
    refine takeD (i := 1) (d := some 41) (v := ?vT185) rfl rfl (by kernel_rfl) (by kernel_rfl) (by kernel_rfl) (fun _ _ _ h => h) (Or.inl ⟨by rfl, ?hyT185⟩) (by assumption) ?rstT185
    case hyT185 => (intro w hSw; (try dsimp only at hSw); go_simp; (try with_reducible rfl))
    try simp only [Act.put, List.setIfInBounds_toArray, List.set_cons_zero, List.set_cons_succ]
    refine takeD (i := 2) (d := some 42) (v := ?vT186) rfl rfl (by kernel_rfl) (by kernel_rfl) (by kernel_rfl) (fun _ _ _ h => h) (Or.inl ⟨by rfl, ?hyT186⟩) (by assumption) ?rstT186
    case hyT186 => (intro w hSw; (try dsimp only at hSw); go_simp; (try with_reducible rfl))
    try simp only [Act.put, List.setIfInBounds_toArray, List.set_cons_zero, List.set_cons_succ]
    refine takeD (i := 3) (d := some 43) (v := ?vT187) rfl rfl (by kernel_rfl) (by kernel_rfl) (by kernel_rfl) (fun _ _ _ h => h) (Or.inl ⟨by rfl, ?hyT187⟩) (by assumption) ?rstT187
    case hyT187 => (intro w hSw; (try dsimp only at hSw); go_simp; (try with_reducible rfl))
    try simp only [Act.put, List.setIfInBounds_toArray, List.set_cons_zero, List.set_cons_succ]
    refine takeD (i := 4) (d := some 44) (v := ?vT188) rfl rfl (by kernel_rfl) (by kernel_rfl) (by kernel_rfl) (fun _ _ _ h => h) (Or.inl ⟨by rfl, ?hyT188⟩) (by assumption) ?rstT188
    case hyT188 => (intro w hSw; (try dsimp only at hSw); go_simp; (try with_reducible rfl))
    try simp only [Act.put, List.setIfInBounds_toArray, List.set_cons_zero, List.set_cons_succ]
    refine takeD (i := 5) (d := some 45) (v := ?vT189) rfl rfl (by kernel_rfl) (by kernel_rfl) (by kernel_rfl) (fun _ _ _ h => h) (Or.inl ⟨by rfl, ?hyT189⟩) (by assumption) ?rstT189
    case hyT189 => (intro w hSw; (try dsimp only at hSw); go_simp; (try with_reducible rfl))
    try simp only [Act.put, List.setIfInBounds_toArray, List.set_cons_zero, List.set_cons_succ]
    refine takeD (i := 6) (d := some 46) (v := ?vT190) rfl rfl (by kernel_rfl) (by kernel_rfl) (by kernel_rfl) (fun _ _ _ h => h) (Or.inl ⟨by rfl, ?hyT190⟩) (by assumption) ?rstT190
    case hyT190 => (intro w hSw; (try dsimp only at hSw); go_simp; (try with_reducible rfl))
    try simp only [Act.put, List.setIfInBounds_toArray, List.set_cons_zero, List.set_cons_succ]
    refine wpAnyH_ready (rs := [7]) (by kernel_rfl) (by simp) ?_
    refine AllReadyH.cons rfl (fun K hK => ?_) AllReadyH.nil
    go_simp
    refine HD.out.mono ?_
    rintro e2 wd ⟨rfl, ⟨vu, vr, hSd⟩, hCd⟩
    clear hHeld
    refine hK.out _ _ ?hS191 (fun hHeld => ?rest191)
    case hS191 => (intro p hp; exact Chg.cell hCd (show p.block < X7.heap.size by omega) (fun hx => hp.elim (fun e => hus (e.symm.trans hx)) (fun e => hbs (e.symm.trans hx))))
    clear hK K
    try simp only [Act.put, List.setIfInBounds_toArray, List.set_cons_zero, List.set_cons_succ]
    refine takeD (i := 8) (d := some 6) (v := ?vT192) rfl rfl (by kernel_rfl) (by kernel_rfl) (by kernel_rfl) (fun _ _ _ h => h) (Or.inl ⟨by rfl, ?hyT192⟩) (by assumption) ?rstT192
    case hyT192 => (intro w hSw; (try dsimp only at hSw); go_simp; (try with_reducible rfl))
    try simp only [Act.put, List.setIfInBounds_toArray, List.set_cons_zero, List.set_cons_succ]
    refine wpAnyH_done (by kernel_rfl) ?_ _
    have hu8 := hCd.block hu7 hus
    have hb8 := hCd.block hb7 hbs
    have hsz8 := hCd.size
    have hH8 := hH.chg hCd hhs hrs (by omega) (by omega) (fun ad e => by have := hgp ad e; omega)
    obtain ⟨lo1, lo2, lo3⟩ := hH.lt
    have HSD : Hid (StkAt wd s (fun g => g = s ∨ X7.heap.size ≤ g) [(1, 1)] [] vu vr) := hSd
    have HCD : Hid (Chg (fun g => g = s) X7 wd) := hCd
    clear hSd hCd hu7 hb7 hH c0 c1 c2 c3 c4 q0 q1 q2 q3 q4 q5 q6 q7 q8 HD hHeld
    obtain ⟨X8, rfl⟩ : ∃ x, x = wd := ⟨_, rfl⟩
    obtain ⟨q0, q1, q2, q3, q4, q5, q6, q7, q8⟩ := box9 hb8
    have lu8 := (Array.getElem?_eq_some_iff.1 hu8).1
    have lb8 := (Array.getElem?_eq_some_iff.1 hb8).1
    have hcur : Below X8.heap.size X8 X8 := Below.refl _ _
    go_wp2_with fail
    go_cut [58] (fun _ wx => ∃ ve, wx.heap[u]? = some (.cells #[.pointer (some ⟨h, 0, none⟩), .pointer (some ⟨s, 0, none⟩), ve, .int .i64 1, .int .i64 0] 32) ∧ Chg (fun g => g = u) X8 wx)
    case first =>
      refine wp_region_held_drew (S := (fun W => ∀ p : Addr, p.block = w.heap.size → W.cell? p = X8.cell? p)) (by kernel_rfl) ?hS193 (fun hHeld => ?rest193)
      case hS193 => (intro p hp; refine Below.cell (B := X8.heap.size) ?_ (by omega); (repeat (first | with_reducible exact hcur | (with_reducible refine Below.drew ?_))))
      refine takeD (i := 0) (d := some 48) (v := ?vT194) rfl rfl (by kernel_rfl) (by kernel_rfl) (by kernel_rfl) (fun _ _ _ h => h) (Or.inl ⟨by rfl, ?hyT194⟩) (by assumption) ?rstT194
      case hyT194 => (intro w hSw; (try dsimp only at hSw); go_simp; (try with_reducible rfl))
      try simp only [Act.put, List.setIfInBounds_toArray, List.set_cons_zero, List.set_cons_succ]
      refine takeD (i := 1) (d := some 49) (v := ?vT195) rfl rfl (by kernel_rfl) (by kernel_rfl) (by kernel_rfl) (fun _ _ _ h => h) (Or.inl ⟨by rfl, ?hyT195⟩) (by assumption) ?rstT195
      case hyT195 => (intro w hSw; (try dsimp only at hSw); go_simp; (try with_reducible rfl))
      try simp only [Act.put, List.setIfInBounds_toArray, List.set_cons_zero, List.set_cons_succ]
      refine takeD (i := 2) (d := some 50) (v := ?vT196) rfl rfl (by kernel_rfl) (by kernel_rfl) (by kernel_rfl) (fun _ _ _ h => h) (Or.inl ⟨by rfl, ?hyT196⟩) (by assumption) ?rstT196
      case hyT196 => (intro w hSw; (try dsimp only at hSw); go_simp; (try with_reducible rfl))
      try simp only [Act.put, List.setIfInBounds_toArray, List.set_cons_zero, List.set_cons_succ]
      refine takeD (i := 3) (d := some 51) (v := ?vT197) rfl rfl (by kernel_rfl) (by kernel_rfl) (by kernel_rfl) (fun _ _ _ h => h) (Or.inl ⟨by rfl, ?hyT197⟩) (by assumption) ?rstT197
      case hyT197 => (intro w hSw; (try dsimp only at hSw); go_simp; (try with_reducible rfl))
      try simp only [Act.put, List.setIfInBounds_toArray, List.set_cons_zero, List.set_cons_succ]
      refine takeD (i := 5) (d := some 53) (v := ?vT198) rfl rfl (by kernel_rfl) (by kernel_rfl) (by kernel_rfl) (fun _ _ _ h => h) (Or.inl ⟨by rfl, ?hyT198⟩) (by assumption) ?rstT198
      case hyT198 => (intro w hSw; (try dsimp only at hSw); go_simp; (try with_reducible rfl))
      try simp only [Act.put, List.setIfInBounds_toArray, List.set_cons_zero, List.set_cons_succ]
      refine takeD (i := 6) (d := some 54) (v := ?vT199) rfl rfl (by kernel_rfl) (by kernel_rfl) (by kernel_rfl) (fun _ _ _ h => h) (Or.inl ⟨by rfl, ?hyT199⟩) (by assumption) ?rstT199
      case hyT199 => (intro w hSw; (try dsimp only at hSw); go_simp; (try with_reducible rfl))
      try simp only [Act.put, List.setIfInBounds_toArray, List.set_cons_zero, List.set_cons_succ]
      refine takeD (i := 7) (d := some 55) (v := ?vT200) rfl rfl (by kernel_rfl) (by kernel_rfl) (by kernel_rfl) (fun _ _ _ h => h) (Or.inl ⟨by rfl, ?hyT200⟩) (by assumption) ?rstT200
      case hyT200 => (intro w hSw; (try dsimp only at hSw); go_simp; (try with_reducible rfl))
      try simp only [Act.put, List.setIfInBounds_toArray, List.set_cons_zero, List.set_cons_succ]
      refine takeD (i := 8) (d := some 56) (v := ?vT201) rfl rfl (by kernel_rfl) (by kernel_rfl) (by kernel_rfl) (fun _ _ _ h => h) (Or.inl ⟨by rfl, ?hyT201⟩) (by assumption) ?rstT201
      case hyT201 => (intro w hSw; (try dsimp only at hSw); go_simp; (try with_reducible rfl))
      try simp only [Act.put, List.setIfInBounds_toArray, List.set_cons_zero, List.set_cons_succ]
      refine wpAnyH_ready (rs := [4, 9]) (by kernel_rfl) (by simp) (AllReadyH.cons rfl (fun K hK => ?b218) (AllReadyH.cons rfl (fun K hK => ?b219) AllReadyH.nil))
      case b218 =>
        have hl1 := (box5 ((hcur.block u lu8).trans hu8)).2.2.1
        go_simp
        clear hHeld
        refine hK.out _ _ ?hS220 (fun hHeld => ?rest220)
        case hS220 => (intro p hp; refine Below.cell (B := X8.heap.size) ?_ (by omega); (repeat (first | with_reducible exact hcur | (with_reducible refine Below.drew ?_))))
        clear hK K
        try simp only [Act.put, List.setIfInBounds_toArray, List.set_cons_zero, List.set_cons_succ]
        refine wpAnyH_ready (rs := [9]) (by kernel_rfl) (by simp) (AllReadyH.cons rfl (fun K hK => ?b208) AllReadyH.nil)
        case b208 =>
          go_simp
          obtain ⟨wz, hwz⟩ : ∃ wz, (X8.alloc (.cells #[.int .i64 1, .int .i64 1, .bool true] 44)).drew = wz := ⟨_, rfl⟩
          rw [hwz]
          have hb2 : Below X8.heap.size X8 wz := by rw [← hwz]; exact ((Below.refl _ _).alloc (Nat.le_refl _) _).drew
          have hzr : Rw edF 3 wz (some ⟨X8.heap.size, 0, none⟩) 1 1 [((1, 1), true)] := by rw [← hwz]; exact (rw_lit X8 ((1, 1), true) _ rfl _).below (Below.refl _ _).drew
          clear hwz
          have hcur2 : Below X8.heap.size X8 wz := by first | exact hcur.trans (hb2.mono hcur.size) | exact hcur.drew.trans (hb2.mono hcur.drew.size)
          clear hcur hb2
          have hcur := hcur2
          clear hcur2
          clear hHeld
          refine hK.out _ _ ?hS209 (fun hHeld => ?rest209)
          case hS209 => (intro p hp; refine Below.cell (B := X8.heap.size) ?_ (by omega); (repeat (first | with_reducible exact hcur | (with_reducible refine Below.drew ?_))))
          clear hK K
          try simp only [Act.put, List.setIfInBounds_toArray, List.set_cons_zero, List.set_cons_succ]
          refine wpAnyH_ready (rs := [10]) (by kernel_rfl) (by simp) (AllReadyH.cons rfl (fun K hK => ?b206) AllReadyH.nil)
          case b206 =>
            obtain ⟨g6, cap6, w6, hr6, ho6, hb6, _⟩ := appendF kindE layE (ownF_nil wz X8.heap.size) hcur.size hzr (by omega) (by simp) (by simp) 30
            simp only [List.length_nil, List.nil_append, Nat.zero_add] at hr6 ho6
            rw [if_pos (by rfl)]
            refine wp_append_hr (.tmp 52) (.tmp 57) 30 (some 58) rfl rfl _ _ rfl rfl hr6 ?_
            have hcur2 : Below X8.heap.size X8 w6 := hcur.trans hb6
            clear hcur hb6 hr6 hzr ho6
            have hcur := hcur2
            clear hcur2
            clear hHeld
            refine hK.out _ _ ?hS207 (fun hHeld => ?rest207)
            case hS207 => (intro p hp; refine Below.cell (B := X8.heap.size) ?_ (by omega); (repeat (first | with_reducible exact hcur | (with_reducible refine Below.drew ?_))))
            clear hK K
            try simp only [Act.put, List.setIfInBounds_toArray, List.set_cons_zero, List.set_cons_succ]
            refine takeD (i := 11) (d := some 59) (v := ?vT202) rfl rfl (by kernel_rfl) (by kernel_rfl) (by kernel_rfl) (fun _ _ _ h => h) (Or.inl ⟨by rfl, ?hyT202⟩) (by assumption) ?rstT202
            case hyT202 => (intro w hSw; (try dsimp only at hSw); go_simp; (try with_reducible rfl))
            try simp only [Act.put, List.setIfInBounds_toArray, List.set_cons_zero, List.set_cons_succ]
            refine takeD (i := 12) (d := some 60) (v := ?vT203) rfl rfl (by kernel_rfl) (by kernel_rfl) (by kernel_rfl) (fun _ _ _ h => h) (Or.inl ⟨by rfl, ?hyT203⟩) (by assumption) ?rstT203
            case hyT203 => (intro w hSw; (try dsimp only at hSw); go_simp; (try with_reducible rfl))
            try simp only [Act.put, List.setIfInBounds_toArray, List.set_cons_zero, List.set_cons_succ]
            refine wpAnyH_ready (rs := [13]) (by kernel_rfl) (by simp) (AllReadyH.cons rfl (fun K hK => ?b204) AllReadyH.nil)
            case b204 =>
              have hui := (hcur.block u lu8).trans hu8
              obtain ⟨e0', e1', e2', e3', e4'⟩ := box5 hui
              have ff := Lib.frozen_of_heap hui 2
              obtain ⟨W9, e9, hu9, hC9⟩ := setBoxG hui 2 (.slice (some ⟨g6, 0, none⟩) 1 cap6) #[.pointer (some ⟨h, 0, none⟩), .pointer (some ⟨s, 0, none⟩), .slice (some ⟨g6, 0, none⟩) 1 cap6, .int .i64 1, .int .i64 0] rfl
              go_simp
              try rw [e9]
              clear hHeld
              refine hK.out _ _ ?hS205 (fun hHeld => ?rest205)
              case hS205 => (intro p hp; exact (Chg.cell hC9 (by have := hcur.size; omega) (by omega)).trans (hcur.cell (by omega)))
              clear hK K
              try simp only [Act.put, List.setIfInBounds_toArray, List.set_cons_zero, List.set_cons_succ]
              refine wpAnyH_done (by kernel_rfl) ?_ _
              go_wp2_with fail
              go_meet
              case rel => exact ⟨_, hu9, (Chg.of_below hcur).trans hC9⟩
      case b219 =>
        go_simp
        obtain ⟨wz, hwz⟩ : ∃ wz, (X8.alloc (.cells #[.int .i64 1, .int .i64 1, .bool true] 44)).drew = wz := ⟨_, rfl⟩
        rw [hwz]
        have hb2 : Below X8.heap.size X8 wz := by rw [← hwz]; exact ((Below.refl _ _).alloc (Nat.le_refl _) _).drew
        have hzr : Rw edF 3 wz (some ⟨X8.heap.size, 0, none⟩) 1 1 [((1, 1), true)] := by rw [← hwz]; exact (rw_lit X8 ((1, 1), true) _ rfl _).below (Below.refl _ _).drew
        clear hwz
        have hcur2 : Below X8.heap.size X8 wz := by first | exact hcur.trans (hb2.mono hcur.size) | exact hcur.drew.trans (hb2.mono hcur.drew.size)
        clear hcur hb2
        have hcur := hcur2
        clear hcur2
        clear hHeld
        refine hK.out _ _ ?hS221 (fun hHeld => ?rest221)
        case hS221 => (intro p hp; refine Below.cell (B := X8.heap.size) ?_ (by omega); (repeat (first | with_reducible exact hcur | (with_reducible refine Below.drew ?_))))
        clear hK K
        try simp only [Act.put, List.setIfInBounds_toArray, List.set_cons_zero, List.set_cons_succ]
        refine wpAnyH_ready (rs := [4]) (by kernel_rfl) (by simp) (AllReadyH.cons rfl (fun K hK => ?b216) AllReadyH.nil)
        case b216 =>
          have hl1 := (box5 ((hcur.block u lu8).trans hu8)).2.2.1
          go_simp
          clear hHeld
          refine hK.out _ _ ?hS217 (fun hHeld => ?rest217)
          case hS217 => (intro p hp; refine Below.cell (B := X8.heap.size) ?_ (by omega); (repeat (first | with_reducible exact hcur | (with_reducible refine Below.drew ?_))))
          clear hK K
          try simp only [Act.put, List.setIfInBounds_toArray, List.set_cons_zero, List.set_cons_succ]
          refine wpAnyH_ready (rs := [10]) (by kernel_rfl) (by simp) (AllReadyH.cons rfl (fun K hK => ?b214) AllReadyH.nil)
          case b214 =>
            obtain ⟨g6, cap6, w6, hr6, ho6, hb6, _⟩ := appendF kindE layE (ownF_nil wz X8.heap.size) hcur.size hzr (by omega) (by simp) (by simp) 30
            simp only [List.length_nil, List.nil_append, Nat.zero_add] at hr6 ho6
            rw [if_pos (by rfl)]
            refine wp_append_hr (.tmp 52) (.tmp 57) 30 (some 58) rfl rfl _ _ rfl rfl hr6 ?_
            have hcur2 : Below X8.heap.size X8 w6 := hcur.trans hb6
            clear hcur hb6 hr6 hzr ho6
            have hcur := hcur2
            clear hcur2
            clear hHeld
            refine hK.out _ _ ?hS215 (fun hHeld => ?rest215)
            case hS215 => (intro p hp; refine Below.cell (B := X8.heap.size) ?_ (by omega); (repeat (first | with_reducible exact hcur | (with_reducible refine Below.drew ?_))))
            clear hK K
            try simp only [Act.put, List.setIfInBounds_toArray, List.set_cons_zero, List.set_cons_succ]
            refine takeD (i := 11) (d := some 59) (v := ?vT210) rfl rfl (by kernel_rfl) (by kernel_rfl) (by kernel_rfl) (fun _ _ _ h => h) (Or.inl ⟨by rfl, ?hyT210⟩) (by assumption) ?rstT210
            case hyT210 => (intro w hSw; (try dsimp only at hSw); go_simp; (try with_reducible rfl))
            try simp only [Act.put, List.setIfInBounds_toArray, List.set_cons_zero, List.set_cons_succ]
            refine takeD (i := 12) (d := some 60) (v := ?vT211) rfl rfl (by kernel_rfl) (by kernel_rfl) (by kernel_rfl) (fun _ _ _ h => h) (Or.inl ⟨by rfl, ?hyT211⟩) (by assumption) ?rstT211
            case hyT211 => (intro w hSw; (try dsimp only at hSw); go_simp; (try with_reducible rfl))
            try simp only [Act.put, List.setIfInBounds_toArray, List.set_cons_zero, List.set_cons_succ]
            refine wpAnyH_ready (rs := [13]) (by kernel_rfl) (by simp) (AllReadyH.cons rfl (fun K hK => ?b212) AllReadyH.nil)
            case b212 =>
              have hui := (hcur.block u lu8).trans hu8
              obtain ⟨e0', e1', e2', e3', e4'⟩ := box5 hui
              have ff := Lib.frozen_of_heap hui 2
              obtain ⟨W9, e9, hu9, hC9⟩ := setBoxG hui 2 (.slice (some ⟨g6, 0, none⟩) 1 cap6) #[.pointer (some ⟨h, 0, none⟩), .pointer (some ⟨s, 0, none⟩), .slice (some ⟨g6, 0, none⟩) 1 cap6, .int .i64 1, .int .i64 0] rfl
              go_simp
              try rw [e9]
              clear hHeld
              refine hK.out _ _ ?hS213 (fun hHeld => ?rest213)
              case hS213 => (intro p hp; exact (Chg.cell hC9 (by have := hcur.size; omega) (by omega)).trans (hcur.cell (by omega)))
              clear hK K
              try simp only [Act.put, List.setIfInBounds_toArray, List.set_cons_zero, List.set_cons_succ]
              refine wpAnyH_done (by kernel_rfl) ?_ _
              go_wp2_with fail
              go_meet
              case rel => exact ⟨_, hu9, (Chg.of_below hcur).trans hC9⟩
    case rest =>
      obtain ⟨X9, rfl⟩ : ∃ x, x = wc := ⟨_, rfl⟩
      obtain ⟨ve, hu9, hC9⟩ := hcut
      clear q0 q1 q2 q3 q4 q5 q6 q7 q8 hcur hu8
      have hb9 := hC9.block hb8 hbu2
      have hsz9 := hC9.size
      have hS9 := HSD.out.chg hC9 (fun g hg e => by rw [e] at hg; omega)
      have hH9 := hH8.chg hC9 (fun e => huh e.symm) (fun e => hur e.symm) (by omega) (by omega) (fun ad e => by have := hgp ad e; omega)
      have hU9 : Usr X9 u s h r oa oc na nc pa pc X7.heap.size [(1, 1)] [] (fun g => g < w.heap.size ∧ g ≠ s) := ⟨⟨_, _, _, hu9⟩, hH9, ⟨fun g => g = s ∨ (X7.heap.size ≤ g ∧ g < X9.heap.size), vu, vr, hS9.mono (fun g hg hd => by omega), fun g hd => by omega, fun g hg => ⟨fun hd => by have h1 := hg.1; have h2 := hg.2; omega, by have h1 := hg.1; omega⟩⟩, ⟨⟨by omega, hus⟩, ⟨by omega, hhs⟩, ⟨by omega, hrs⟩, ⟨lo1, by omega⟩, ⟨lo2, by omega⟩, fun ad e => ⟨lo3 ad e, by have := hgp ad e; omega⟩⟩, by omega⟩
      have HL := lists_any hS9 (by simp) (by simp)
      simp only [List.length_cons, List.length_nil, Nat.zero_add] at HL
      have HU9 : Hid (Usr X9 u s h r oa oc na nc pa pc X7.heap.size [(1, 1)] [] (fun g => g < w.heap.size ∧ g ≠ s)) := hU9
      have HCC : Hid (Chg (fun g => g = u ∨ g = s ∨ g = h ∨ g = r) w X9) := ((((HC0.out.mono (E := fun g => (g = u ∨ g = s ∨ g = h ∨ g = r) ∨ w.heap.size ≤ g) (fun g _ hg => by omega)).trans (HC7.out.mono (fun g _ hg => by omega))).trans (HCD.out.mono (fun g _ hg => by omega))).trans (hC9.mono (fun g _ hg => by omega))).mono (fun g hg hd => by omega)
      obtain ⟨c0, c1, c2, c3, c4⟩ := box5 hu9
      clear hS9 hH9 hH8 hU9 HSD hC9 HCD HC7 HC0 HSX
      go_wp2_with fail
      refine HL.mono ?_
      rintro e wL ⟨a1, l1, a2, l2, rfl, ho1, ho2, hbL⟩
      obtain ⟨g1, cp1, e1, hg1, hgl1, -⟩ := ho1.ptr (by simp)
      simp only [List.length_cons, List.length_nil, Nat.zero_add, Value.slice.injEq] at e1
      obtain ⟨rfl, -, rfl⟩ := e1
      obtain ⟨g', off, ha0, hgl, hcl⟩ := (ho1.rw_ layI).cells (by omega)
      cases ha0
      have p0 : wL.cell? ⟨g1, 0, none⟩ = some (.int .i64 1) := hcl 0 _ rfl 0 _ rfl
      have p1 : wL.cell? ⟨g1, 1, none⟩ = some (.int .i64 1) := hcl 0 _ rfl 1 _ rfl
      have hbl := (hbL.block w.heap.size (Array.getElem?_eq_some_iff.1 hb9).1).trans hb9
      obtain ⟨q0, q1, q2, q3, q4, q5, q6, q7, q8⟩ := box9 hbl
      have lbl := (Array.getElem?_eq_some_iff.1 hbl).1
      have HG : Tryd.prog.eqGuardType Tryd.prog.depth 23 = false := by kernel_rfl
      have heq : ∀ W : World, (Op.equalIn 10000 23 (.agg #[.int .i64 1, .int .i64 1]) (.agg #[.int .i64 1, .int .i64 1])).run Tryd.prog W = .ok true W := fun W => by rw [run_eqI]; rfl
      have i0 : IntKind.i64.wrap 0 = 0 := by decide
      clear HL ho1 ho2 hcl hb9 hbl c0 c1 c2 c3 c4
      go_wp2_with fail
      refine wp_region_held_drew (S := (fun W => ∀ p : Addr, p.block < wL.heap.size → W.cell? p = wL.cell? p)) (by kernel_rfl) ?hS222 (fun hHeld => ?rest222)
      case hS222 => (intro p hp; rfl)
      refine takeD (i := 0) (d := some 69) (v := ?vT223) rfl rfl (by kernel_rfl) (by kernel_rfl) (by kernel_rfl) (fun _ _ _ h => h) (Or.inl ⟨by rfl, ?hyT223⟩) (by assumption) ?rstT223
      case hyT223 => (intro w hSw; (try dsimp only at hSw); go_simp; (try with_reducible rfl))
      try simp only [Act.put, List.setIfInBounds_toArray, List.set_cons_zero, List.set_cons_succ]
      refine takeD (i := 1) (d := some 70) (v := ?vT224) rfl rfl (by kernel_rfl) (by kernel_rfl) (by kernel_rfl) (fun _ _ _ h => h) (Or.inl ⟨by rfl, ?hyT224⟩) (by assumption) ?rstT224
      case hyT224 => (intro w hSw; (try dsimp only at hSw); go_simp; (try with_reducible rfl))
      try simp only [Act.put, List.setIfInBounds_toArray, List.set_cons_zero, List.set_cons_succ]
      refine takeD (i := 2) (d := some 71) (v := ?vT225) rfl rfl (by kernel_rfl) (by kernel_rfl) (by kernel_rfl) (fun _ _ _ h => h) (Or.inl ⟨by rfl, ?hyT225⟩) (by assumption) ?rstT225
      case hyT225 => (intro w hSw; (try dsimp only at hSw); go_simp; (try with_reducible rfl))
      try simp only [Act.put, List.setIfInBounds_toArray, List.set_cons_zero, List.set_cons_succ]
      refine takeD (i := 3) (d := some 72) (v := ?vT226) rfl rfl (by kernel_rfl) (by kernel_rfl) (by kernel_rfl) (fun _ _ _ h => h) (Or.inl ⟨by rfl, ?hyT226⟩) (by assumption) ?rstT226
      case hyT226 => (intro w hSw; (try dsimp only at hSw); go_simp; (try with_reducible rfl))
      try simp only [Act.put, List.setIfInBounds_toArray, List.set_cons_zero, List.set_cons_succ]
      refine takeD (i := 4) (d := some 73) (v := ?vT227) rfl rfl (by kernel_rfl) (by kernel_rfl) (by kernel_rfl) (fun _ _ _ h => h) (Or.inl ⟨by rfl, ?hyT227⟩) (by assumption) ?rstT227
      case hyT227 => (intro w hSw; (try dsimp only at hSw); go_simp; (try with_reducible rfl))
      try simp only [Act.put, List.setIfInBounds_toArray, List.set_cons_zero, List.set_cons_succ]
      refine takeD (i := 5) (d := some 74) (v := ?vT228) rfl rfl (by kernel_rfl) (by kernel_rfl) (by kernel_rfl) (fun _ _ _ h => h) (Or.inl ⟨by rfl, ?hyT228⟩) (by assumption) ?rstT228
      case hyT228 => (intro w hSw; (try dsimp only at hSw); go_simp; (try with_reducible rfl))
      try simp only [Act.put, List.setIfInBounds_toArray, List.set_cons_zero, List.set_cons_succ]
      refine takeD (i := 6) (d := some 75) (v := ?vT229) rfl rfl (by kernel_rfl) (by kernel_rfl) (by kernel_rfl) (fun _ _ _ h => h) (Or.inl ⟨by rfl, ?hyT229⟩) (by assumption) ?rstT229
      case hyT229 => (intro w hSw; (try dsimp only at hSw); go_simp; (try with_reducible rfl))
      try simp only [Act.put, List.setIfInBounds_toArray, List.set_cons_zero, List.set_cons_succ]
      refine takeD (i := 7) (d := some 76) (v := ?vT230) rfl rfl (by kernel_rfl) (by kernel_rfl) (by kernel_rfl) (fun _ _ _ h => h) (Or.inl ⟨by rfl, ?hyT230⟩) (by assumption) ?rstT230
      case hyT230 => (intro w hSw; (try dsimp only at hSw); go_simp; (try with_reducible rfl))
      try simp only [Act.put, List.setIfInBounds_toArray, List.set_cons_zero, List.set_cons_succ]
      refine takeD (i := 8) (d := some 77) (v := ?vT231) rfl rfl (by kernel_rfl) (by kernel_rfl) (by kernel_rfl) (fun _ _ _ h => h) (Or.inl ⟨by rfl, ?hyT231⟩) (by assumption) ?rstT231
      case hyT231 => (intro w hSw; (try dsimp only at hSw); go_simp; (try with_reducible rfl))
      try simp only [Act.put, List.setIfInBounds_toArray, List.set_cons_zero, List.set_cons_succ]
      refine takeD (i := 9) (d := some 78) (v := ?vT232) rfl rfl (by kernel_rfl) (by kernel_rfl) (by kernel_rfl) (fun _ _ _ h => h) (Or.inl ⟨by rfl, ?hyT232⟩) (by assumption) ?rstT232
      case hyT232 => (intro w hSw; (try dsimp only at hSw); go_simp; (try with_reducible rfl))
      try simp only [Act.put, List.setIfInBounds_toArray, List.set_cons_zero, List.set_cons_succ]
      refine takeD (i := 10) (d := some 79) (v := ?vT233) rfl rfl (by kernel_rfl) (by kernel_rfl) (by kernel_rfl) (fun _ _ _ h => h) (Or.inl ⟨by rfl, ?hyT233⟩) (by assumption) ?rstT233
      case hyT233 => (intro w hSw; (try dsimp only at hSw); go_simp; (try with_reducible rfl))
      try simp only [Act.put, List.setIfInBounds_toArray, List.set_cons_zero, List.set_cons_succ]
      refine takeD (i := 11) (d := some 80) (v := ?vT234) rfl rfl (by kernel_rfl) (by kernel_rfl) (by kernel_rfl) (fun _ _ _ h => h) (Or.inl ⟨by rfl, ?hyT234⟩) (by assumption) ?rstT234
      case hyT234 => (intro w hSw; (try dsimp only at hSw); go_simp; (try with_reducible rfl))
      try simp only [Act.put, List.setIfInBounds_toArray, List.set_cons_zero, List.set_cons_succ]
      refine takeD (i := 12) (d := some 81) (v := ?vT235) rfl rfl (by kernel_rfl) (by kernel_rfl) (by kernel_rfl) (fun _ _ _ h => h) (Or.inl ⟨by rfl, ?hyT235⟩) (by assumption) ?rstT235
      case hyT235 => (intro w hSw; (try dsimp only at hSw); go_simp; (try with_reducible rfl))
      try simp only [Act.put, List.setIfInBounds_toArray, List.set_cons_zero, List.set_cons_succ]
      refine takeD (i := 13) (d := some 82) (v := ?vT236) rfl rfl (by kernel_rfl) (by kernel_rfl) (by kernel_rfl) (fun _ _ _ h => h) (Or.inl ⟨by rfl, ?hyT236⟩) (by assumption) ?rstT236
      case hyT236 => (intro w hSw; (try dsimp only at hSw); go_simp; (try with_reducible rfl))
      try simp only [Act.put, List.setIfInBounds_toArray, List.set_cons_zero, List.set_cons_succ]
      refine takeD (i := 14) (d := some 83) (v := ?vT237) rfl rfl (by kernel_rfl) (by kernel_rfl) (by kernel_rfl) (fun _ _ _ h => h) (Or.inl ⟨by rfl, ?hyT237⟩) (by assumption) ?rstT237
      case hyT237 => (intro w hSw; (try dsimp only at hSw); go_simp; (try with_reducible rfl))
      try simp only [Act.put, List.setIfInBounds_toArray, List.set_cons_zero, List.set_cons_succ]
      refine takeD (i := 15) (d := some 84) (v := ?vT238) rfl rfl (by kernel_rfl) (by kernel_rfl) (by kernel_rfl) (fun _ _ _ h => h) (Or.inl ⟨by rfl, ?hyT238⟩) (by assumption) ?rstT238
      case hyT238 => (intro w hSw; (try dsimp only at hSw); go_simp; (try with_reducible rfl))
      try simp only [Act.put, List.setIfInBounds_toArray, List.set_cons_zero, List.set_cons_succ]
      refine takeD (i := 16) (d := some 85) (v := ?vT239) rfl rfl (by kernel_rfl) (by kernel_rfl) (by kernel_rfl) (fun _ _ _ h => h) (Or.inl ⟨by rfl, ?hyT239⟩) (by assumption) ?rstT239
      case hyT239 => (intro w hSw; (try dsimp only at hSw); go_simp; (try with_reducible rfl))
      try simp only [Act.put, List.setIfInBounds_toArray, List.set_cons_zero, List.set_cons_succ]
      refine takeD (i := 17) (d := some 86) (v := ?vT240) rfl rfl (by kernel_rfl) (by kernel_rfl) (by kernel_rfl) (fun _ _ _ h => h) (Or.inl ⟨by rfl, ?hyT240⟩) (by assumption) ?rstT240
      case hyT240 => (intro w hSw; (try dsimp only at hSw); go_simp; (try with_reducible rfl))
      try simp only [Act.put, List.setIfInBounds_toArray, List.set_cons_zero, List.set_cons_succ]
      refine takeD (i := 18) (d := some 87) (v := ?vT241) rfl rfl (by kernel_rfl) (by kernel_rfl) (by kernel_rfl) (fun _ _ _ h => h) (Or.inl ⟨by rfl, ?hyT241⟩) (by assumption) ?rstT241
      case hyT241 => (intro w hSw; (try dsimp only at hSw); go_simp; (try with_reducible rfl))
      try simp only [Act.put, List.setIfInBounds_toArray, List.set_cons_zero, List.set_cons_succ]
      refine takeD (i := 19) (d := some 88) (v := ?vT242) rfl rfl (by kernel_rfl) (by kernel_rfl) (by kernel_rfl) (fun _ _ _ h => h) (Or.inl ⟨by rfl, ?hyT242⟩) (by assumption) ?rstT242
      case hyT242 => (intro w hSw; (try dsimp only at hSw); go_simp; (try with_reducible rfl))
      try simp only [Act.put, List.setIfInBounds_toArray, List.set_cons_zero, List.set_cons_succ]
      refine takeD (i := 20) (d := some 89) (v := ?vT243) rfl rfl (by kernel_rfl) (by kernel_rfl) (by kernel_rfl) (fun _ _ _ h => h) (Or.inl ⟨by rfl, ?hyT243⟩) (by assumption) ?rstT243
      case hyT243 => (intro w hSw; (try dsimp only at hSw); go_simp; (try with_reducible rfl))
      try simp only [Act.put, List.setIfInBounds_toArray, List.set_cons_zero, List.set_cons_succ]
      refine takeD (i := 21) (d := some 90) (v := ?vT244) rfl rfl (by kernel_rfl) (by kernel_rfl) (by kernel_rfl) (fun _ _ _ h => h) (Or.inl ⟨by rfl, ?hyT244⟩) (by assumption) ?rstT244
      case hyT244 => (intro w hSw; (try dsimp only at hSw); go_simp; (try with_reducible rfl))
      try simp only [Act.put, List.setIfInBounds_toArray, List.set_cons_zero, List.set_cons_succ]
      refine takeD (i := 22) (d := some 91) (v := ?vT245) rfl rfl (by kernel_rfl) (by kernel_rfl) (by kernel_rfl) (fun _ _ _ h => h) (Or.inl ⟨by rfl, ?hyT245⟩) (by assumption) ?rstT245
      case hyT245 => (intro w hSw; (try dsimp only at hSw); go_simp; (try with_reducible rfl))
      try simp only [Act.put, List.setIfInBounds_toArray, List.set_cons_zero, List.set_cons_succ]
      refine takeD (i := 23) (d := some 92) (v := ?vT246) rfl rfl (by kernel_rfl) (by kernel_rfl) (by kernel_rfl) (fun _ _ _ h => h) (Or.inl ⟨by rfl, ?hyT246⟩) (by assumption) ?rstT246
      case hyT246 => (intro w hSw; (try dsimp only at hSw); go_simp; (try with_reducible rfl))
      try simp only [Act.put, List.setIfInBounds_toArray, List.set_cons_zero, List.set_cons_succ]
      refine takeD (i := 24) (d := some 93) (v := ?vT247) rfl rfl (by kernel_rfl) (by kernel_rfl) (by kernel_rfl) (fun _ _ _ h => h) (Or.inl ⟨by rfl, ?hyT247⟩) (by assumption) ?rstT247
      case hyT247 => (intro w hSw; (try dsimp only at hSw); go_simp; (try with_reducible rfl))
      try simp only [Act.put, List.setIfInBounds_toArray, List.set_cons_zero, List.set_cons_succ]
      refine takeD (i := 25) (d := some 94) (v := ?vT248) rfl rfl (by kernel_rfl) (by kernel_rfl) (by kernel_rfl) (fun _ _ _ h => h) (Or.inl ⟨by rfl, ?hyT248⟩) (by assumption) ?rstT248
      case hyT248 => (intro w hSw; (try dsimp only at hSw); go_simp; (try with_reducible rfl))
      try simp only [Act.put, List.setIfInBounds_toArray, List.set_cons_zero, List.set_cons_succ]
      refine takeD (i := 26) (d := some 95) (v := ?vT249) rfl rfl (by kernel_rfl) (by kernel_rfl) (by kernel_rfl) (fun _ _ _ h => h) (Or.inl ⟨by rfl, ?hyT249⟩) (by assumption) ?rstT249
      case hyT249 => (intro w hSw; (try dsimp only at hSw); go_simp; (try with_reducible rfl))
      try simp only [Act.put, List.setIfInBounds_toArray, List.set_cons_zero, List.set_cons_succ]
      refine takeD (i := 27) (d := some 96) (v := ?vT250) rfl rfl (by kernel_rfl) (by kernel_rfl) (by kernel_rfl) (fun _ _ _ h => h) (Or.inl ⟨by rfl, ?hyT250⟩) (by assumption) ?rstT250
      case hyT250 => (intro w hSw; (try dsimp only at hSw); go_simp; (try with_reducible rfl))
      try simp only [Act.put, List.setIfInBounds_toArray, List.set_cons_zero, List.set_cons_succ]
      refine takeD (i := 28) (d := some 2) (v := ?vT251) rfl rfl (by kernel_rfl) (by kernel_rfl) (by kernel_rfl) (fun _ _ _ h => h) (Or.inl ⟨by rfl, ?hyT251⟩) (by assumption) ?rstT251
      case hyT251 => (intro w hSw; (try dsimp only at hSw); go_simp; (try with_reducible rfl))
      try simp only [Act.put, List.setIfInBounds_toArray, List.set_cons_zero, List.set_cons_succ]
      refine wpAnyH_done (by kernel_rfl) ?_ _
      go_wp2_with fail
      go_ret
      exact ⟨rfl, ⟨oa, oc, na, nc, pa, pc, X7.heap.size, HU9.out.below hbL.drew, by omega⟩, HCC.out.trans (Chg.of_below hbL.drew)⟩
end Go.Proofs.YtokkodkhkpgebaaDoor
