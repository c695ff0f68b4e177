import Derived.Test.YtajnadcinegmjaaDoorOeA
import Derived.Deep.RegionHeld3
import Derived.Deep.DeepCutAuto
/-! OpEqualMeans. -/
namespace Go.Proofs.YtajnadcinegmjaaDoor
open Go.RowKit Go.Lib Sp
set_option maxRecDepth 100000

/-- wpAnyH_take, the slot written out. -/
theorem takeD {P : Program} {md : Region.Mode} {ops : Array Oper} {Q : Exit → Act → World → Prop} {S : World → Prop} {i : Nat} {oi : Oper} {d : Option Nat} {v : Value} {fuel : Nat} {listed : Array Bool} {a : Act} {w : World} (hi : ops[i]? = some oi) (hd : oi.dst = d)
    (hs : Region.noSelect ops = true) (hf : Region.free md ops listed i = true) (hr : (Region.ready md ops listed).contains i = true)
    (hQ : ∀ c a w, Q (.panic c) (a.put oi.dst v) w → Q (.panic c) a w) (hy : YieldsIf P ops S oi v a) (hS : S w)
    (h : wpAnyH P md ops Q S fuel (listed.setIfInBounds i true) (a.put d v) w) : wpAnyH P md ops Q S (fuel + 1) listed a w := by
  subst hd
  exact wpAnyH_take hi hs hf hr hQ hy hS h
theorem box4 {W : World} {b : Nat} {T : TypeId} {v0 v1 v2 v3 : Value} (h : W.heap[b]? = some (.cells #[v0, v1, v2, v3] T)) : W.cell? ⟨b, 0, none⟩ = some v0 ∧ W.cell? ⟨b, 1, none⟩ = some v1 ∧ W.cell? ⟨b, 2, none⟩ = some v2 ∧ W.cell? ⟨b, 3, none⟩ = some v3 := by
  simp only [Lib.cell_of_heap h]
  exact ⟨rfl, rfl, rfl, rfl⟩
theorem rng_lt {w : World} {a : Option Addr} {m cap : Nat} {l : List (Int × Int)} (h : Rng w a m cap l) (h0 : 0 < m) : ∀ g off, a = some ⟨g, off, none⟩ → g < w.heap.size := fun g off e => by
  obtain ⟨g', off', ha, hg, _⟩ := h.cells 0 h0
  rw [e] at ha
  cases ha
  exact hg
theorem But.rng {b : Nat} {w w' : World} (h : But b w w') {a : Option Addr} {m cap : Nat} {l : List (Int × Int)} (hr : Rng w a m cap l) (hne : ∀ g off, a = some ⟨g, off, none⟩ → 0 < m → g ≠ b) : Rng w' a m cap l :=
  ⟨hr.len, hr.room, fun j hj => by
    obtain ⟨g, off, ha, hg, h1, h2⟩ := hr.cells j hj
    have hb := hne g off ha (by omega)
    have hq := h.2 g hb
    refine ⟨g, off, ha, by rw [h.1]; exact hg, ?_, ?_⟩
    · rw [← h1]; simp only [World.cell?, hq]
    · rw [← h2]; simp only [World.cell?, hq]⟩

theorem flatR_put : ∀ (l : List (Int × Int)) (j : Nat) (x : Int × Int) (z : Int), l[j]? = some x → (flatF rangeV l).set (j * 2 + 1) (.int .i64 z) = flatF rangeV (l.set j (x.1, z))
  | [], j, x, z, h => by simp at h
  | y :: t, 0, x, z, h => by
    simp at h; subst h
    simp [flatF, rangeV]
  | y :: t, j + 1, x, z, h => by
    simp at h
    have ih := flatR_put t j x z h
    simp only [flatF, List.flatMap_cons, List.set_cons_succ] at ih ⊢
    rw [← ih, show (j + 1) * 2 + 1 = (rangeV y).length + (j * 2 + 1) by simp [rangeV]; omega, List.set_append_right _ _ (by omega), Nat.add_sub_cancel_left]
theorem ownR_put {W : World} {B g n cap : Nat} {l : List (Int × Int)} (h : OwnF rangeV 2 42 W B (.slice (some ⟨g, 0, none⟩) n cap) l) {j : Nat} {x : Int × Int} (hx : l[j]? = some x) (z : Int) :
    OwnF rangeV 2 42 (W.setCell ⟨g, j * 2 + 1, none⟩ (.int .i64 z)) B (.slice (some ⟨g, 0, none⟩) n cap) (l.set j (x.1, z)) := by
  have hl : l.length = n := (h.rw_ layG).len
  have h2 := h
  unfold OwnF at h2 ⊢
  rw [List.length_set, ← flatR_put l j x z hx]
  rw [hl] at h2 ⊢
  exact (World.ownsRow.stored h2 (j * 2 + 1) (.int .i64 z)).1
theorem ownR_at {W : World} {B n cap : Nat} {a : Option Addr} {l : List (Int × Int)} (h : OwnF rangeV 2 42 W B (.slice a n cap) l) {j : Nat} {x : Int × Int} (hx : l[j]? = some x) :
    ∃ g, a = some ⟨g, 0, none⟩ ∧ B ≤ g ∧ g < W.heap.size ∧ W.cell? ⟨g, j * 2 + 1, none⟩ = some (.int .i64 x.2) ∧ W.frozen? ⟨g, j * 2 + 1, none⟩ = false := by
  have hj : j < l.length := by
    rcases Nat.lt_or_ge j l.length with h' | h'
    · exact h'
    · rw [List.getElem?_eq_none h'] at hx; cases hx
  have hrw := h.rw_ layG
  rcases h.2 with ⟨e, h0⟩ | ⟨g, cap', cur, e, hB, hh, _⟩
  · omega
  · simp only [Value.slice.injEq] at e
    obtain ⟨rfl, rfl, rfl⟩ := e
    obtain ⟨g', off, y, ha, hg, hy, hc⟩ := hrw.at j hj
    cases ha
    rw [hx] at hy
    cases hy
    refine ⟨g, rfl, hB, hg, ?_, Lib.frozen_of_heap hh _⟩
    have := hc 1 (.int .i64 x.2) rfl
    simpa using this
theorem app_ne (s : ByteArray) : s ++ ⟨#[97]⟩ ≠ s := fun h => by
  have := congrArg ByteArray.size h
  rw [ByteArray.size_append] at this
  have h1 : (⟨#[97]⟩ : ByteArray).size = 1 := rfl
  omega
theorem app_ne2 (l : List (Int × Int)) (r : Int × Int) : l ++ [r] ≠ l := fun h => by
  have := congrArg List.length h
  simp at this
set_option maxHeartbeats 16000000 in
theorem opEqualMeans_any {dk dp ek ep tot : Int} {ta pa tb pb : Option Addr} {n1 c1 n2 c2 n3 c3 n4 c4 : Nat} {zs ys zs2 ys2 : List Int} {w : World} (hT : Rw rune1 1 w ta n1 c1 zs) (hP : Rw int1 1 w pa n2 c2 ys) (hT2 : Rw rune1 1 w tb n3 c3 zs2) (hP2 : Rw int1 1 w pb n4 c4 ys2) (hw : Bar w) (hp : Pow w) (hd : Deb w) :
    Calls Tryd.prog 3 #[deedV dk dp (.slice ta n1 c1) (.slice pa n2 c2), deedV ek ep (.slice tb n3 c3) (.slice pb n4 c4), .int .i64 tot] w fun e w' => e = .returned (.bool true) ∧ Below w.heap.size w w' := by
  have b0 := Int.emod_nonneg tot (show (64 : Int) ≠ 0 by decide)
  have b1 := Int.emod_lt_of_pos tot (show (0 : Int) < 64 by decide)
  obtain ⟨t, ht⟩ : ∃ t : Nat, tot % 64 = (t : Int) := ⟨(tot % 64).toNat, by omega⟩
  have H1 : Hid (∀ w : World, Calls Tryd.prog 4 #[.int .i64 tot, .int .i64 64] w fun e w' => e = .returned (.int .i64 (t : Int)) ∧ w' = w) := ht ▸ pick_any tot 64 (by decide) (by decide)
  have ht2 : t ≤ 1000 := by omega
  clear b0 b1 ht
  obtain ⟨X, hX⟩ : ∃ X, (w.alloc (.cells #[.int .i64 dk, .int .i64 dp, .slice ta n1 c1, .slice pa n2 c2] 25)).alloc (.cells #[.int .i64 ek, .int .i64 ep, .slice tb n3 c3, .slice pb n4 c4] 25) = X := ⟨_, rfl⟩
  have hB0 : Below w.heap.size w X := by rw [← hX]; exact ((Below.refl w.heap.size w).alloc (Nat.le_refl _) _).alloc (by simp) _
  have hsX : X.heap.size = w.heap.size + 2 := by rw [← hX]; simp
  have ha : X.heap[w.heap.size]? = some (.cells #[.int .i64 dk, .int .i64 dp, .slice ta n1 c1, .slice pa n2 c2] 25) := by rw [← hX]; exact (Below.heap_alloc _ _ _ (by simp)).trans (alloc_last _ _ _ rfl)
  have hb : X.heap[w.heap.size + 1]? = some (.cells #[.int .i64 ek, .int .i64 ep, .slice tb n3 c3, .slice pb n4 c4] 25) := by rw [← hX]; exact alloc_last _ _ _ (by simp)
  have HA : Hid (∀ W : World, Below X.heap.size X W → Calls Tryd.prog 5 #[deedV dk dp (.slice ta n1 c1) (.slice pa n2 c2), .int .i64 (t : Int), .int .i64 1] W fun e w' => ∃ o a m cap, e = .returned (opVal o (.slice a m cap)) ∧ Sane o ∧ Rng w' a m cap o.l ∧ (∀ g off, a = some ⟨g, off, none⟩ → W.heap.size ≤ g) ∧ Below W.heap.size W w') := fun W h => have h' := hB0.trans (h.mono hB0.size); right_any (hT.below h') (hP.below h') t ht2
  have HB : Hid (∀ W : World, Below X.heap.size X W → Calls Tryd.prog 5 #[deedV ek ep (.slice tb n3 c3) (.slice pb n4 c4), .int .i64 (t : Int), .int .i64 1] W fun e w' => ∃ o a m cap, e = .returned (opVal o (.slice a m cap)) ∧ Sane o ∧ Rng w' a m cap o.l ∧ (∀ g off, a = some ⟨g, off, none⟩ → W.heap.size ≤ g) ∧ Below W.heap.size W w') := fun W h => have h' := hB0.trans (h.mono hB0.size); right_any (hT2.below h') (hP2.below h') t ht2
  have HW : Hid (Bar w ∧ Pow w ∧ Deb w) := ⟨hw, hp, hd⟩
  clear hT hP hT2 hP2 hw hp hd
  simp only [deedV]
  go_enter Tryd.func3, Tryd.ntmps3
  go_wp2_with fail
  refine (H1.out _).mono ?_
  rintro e w1 ⟨rfl, hw1⟩
  subst hw1
  clear H1
  go_wp2_with fail
  obtain ⟨X, rfl⟩ : ∃ x, x = w1 := ⟨_, rfl⟩
  have la : w.heap.size < X.heap.size := by omega
  have lb : w.heap.size + 1 < X.heap.size := by omega
  obtain ⟨a0, a1, a2, a3⟩ := box4 ha
  obtain ⟨q0, q1, q2, q3⟩ := box4 hb
  clear hX ha hb hsX
  have hcur : Below X.heap.size X X := Below.refl _ _
  go_cut [7, 8] (fun v7 v8 wx => ∃ b7 b8 o va vm vc x za zm zc, v7 = .pointer (some ⟨b7, 0, none⟩) ∧ v8 = .pointer (some ⟨b8, 0, none⟩) ∧ Sane o ∧ Sane x ∧ wx.heap[b7]? = some (.cells #[.int .i64 o.c, .int .i64 o.n, .int .i64 o.k, .int .i64 o.p, .string o.s, .slice va vm vc, .int .i64 o.tc, .int .i64 o.tn, .bool o.on] 34) ∧ wx.heap[b8]? = some (.cells #[.int .i64 x.c, .int .i64 x.n, .int .i64 x.k, .int .i64 x.p, .string x.s, .slice za zm zc, .int .i64 x.tc, .int .i64 x.tn, .bool x.on] 34) ∧ Rng wx va vm vc o.l ∧ Rng wx za zm zc x.l ∧ X.heap.size ≤ b7 ∧ X.heap.size ≤ b8 ∧ (∀ g off, va = some ⟨g, off, none⟩ → 0 < vm → g ≠ b7) ∧ Below X.heap.size X wx)
  case first =>
    simp only [deedV] at HA HB
    refine wp_region_held_drew (S := (fun W => ∀ p : Addr, p.block < X.heap.size → W.cell? p = X.cell? p)) (by kernel_rfl) ?hS1 (fun hHeld => ?rest1)
    case hS1 => (intro p hp; refine Below.cell (B := X.heap.size) ?_ hp; (repeat (first | with_reducible exact hcur | (with_reducible refine Below.drew ?_))))
    refine takeD (i := 0) (d := some 19) (v := ?vT2) rfl rfl (by kernel_rfl) (by kernel_rfl) (by kernel_rfl) (fun _ _ _ h => h) (Or.inl ⟨by rfl, ?hyT2⟩) (by assumption) ?rstT2
    case hyT2 => (intro w hSw; (try dsimp only at hSw); go_simp; (try with_reducible rfl))
    try simp only [Act.put, List.setIfInBounds_toArray, List.set_cons_zero, List.set_cons_succ]
    refine takeD (i := 1) (d := some 20) (v := ?vT3) rfl rfl (by kernel_rfl) (by kernel_rfl) (by kernel_rfl) (fun _ _ _ h => h) (Or.inl ⟨by rfl, ?hyT3⟩) (by assumption) ?rstT3
    case hyT3 => (intro w hSw; (try dsimp only at hSw); go_simp; (try with_reducible rfl))
    try simp only [Act.put, List.setIfInBounds_toArray, List.set_cons_zero, List.set_cons_succ]
    refine takeD (i := 3) (d := some 22) (v := ?vT4) rfl rfl (by kernel_rfl) (by kernel_rfl) (by kernel_rfl) (fun _ _ _ h => h) (Or.inl ⟨by rfl, ?hyT4⟩) (by assumption) ?rstT4
    case hyT4 => (intro w hSw; (try dsimp only at hSw); go_simp; (try with_reducible rfl))
    try simp only [Act.put, List.setIfInBounds_toArray, List.set_cons_zero, List.set_cons_succ]
    refine takeD (i := 4) (d := some 23) (v := ?vT5) rfl rfl (by kernel_rfl) (by kernel_rfl) (by kernel_rfl) (fun _ _ _ h => h) (Or.inl ⟨by rfl, ?hyT5⟩) (by assumption) ?rstT5
    case hyT5 => (intro w hSw; (try dsimp only at hSw); go_simp; (try with_reducible rfl))
    try simp only [Act.put, List.setIfInBounds_toArray, List.set_cons_zero, List.set_cons_succ]
    refine wpAnyH_ready (rs := [2, 6, 7]) (by kernel_rfl) (by simp) (AllReadyH.cons rfl (fun K hK => ?b116) (AllReadyH.cons rfl (fun K hK => ?b117) (AllReadyH.cons rfl (fun K hK => ?b118) AllReadyH.nil)))
    case b116 =>
      go_simp
      refine (HA.out _ ?_).mono ?_
      · first | exact hcur | exact hcur.drew
      rintro e2 w2 ⟨o, va, vm, vc, rfl, sn2, rg2, ad2, hb2⟩
      have hb2 : Below X.heap.size X w2 := (Below.refl _ _).drew.trans hb2
      replace ad2 : ∀ g off, va = some ⟨g, off, none⟩ → X.heap.size ≤ g := ad2
      have hcur2 : Below X.heap.size X w2 := hcur.trans (hb2.mono hcur.size)
      clear hcur hb2
      have hcur := hcur2
      clear hcur2
      simp only [opVal]
      clear hHeld
      refine hK.out _ _ ?hS119 (fun hHeld => ?rest119)
      case hS119 => (intro p hp; refine Below.cell (B := X.heap.size) ?_ hp; (repeat (first | with_reducible exact hcur | (with_reducible refine Below.drew ?_))))
      clear hK K
      try simp only [Act.put, List.setIfInBounds_toArray, List.set_cons_zero, List.set_cons_succ]
      refine wpAnyH_ready (rs := [5, 6, 7]) (by kernel_rfl) (by simp) (AllReadyH.cons rfl (fun K hK => ?b54) (AllReadyH.cons rfl (fun K hK => ?b55) (AllReadyH.cons rfl (fun K hK => ?b56) AllReadyH.nil)))
      case b54 =>
        go_simp
        refine (HB.out _ ?_).mono ?_
        · first | exact hcur | exact hcur.drew
        rintro e2 w5 ⟨x, za, zm, zc, rfl, sn5, rg5, ad5, hb2⟩
        have rg2' := rg2.below hb2
        clear rg2
        have rg2 := rg2'
        clear rg2'
        have hcur2 : Below X.heap.size X w5 := hcur.trans (hb2.mono hcur.size)
        clear hcur hb2
        have hcur := hcur2
        clear hcur2
        simp only [opVal]
        clear hHeld
        refine hK.out _ _ ?hS57 (fun hHeld => ?rest57)
        case hS57 => (intro p hp; refine Below.cell (B := X.heap.size) ?_ hp; (repeat (first | with_reducible exact hcur | (with_reducible refine Below.drew ?_))))
        clear hK K
        try simp only [Act.put, List.setIfInBounds_toArray, List.set_cons_zero, List.set_cons_succ]
        refine wpAnyH_ready (rs := [6, 7]) (by kernel_rfl) (by simp) (AllReadyH.cons rfl (fun K hK => ?b18) (AllReadyH.cons rfl (fun K hK => ?b19) AllReadyH.nil))
        case b18 =>
          go_simp
          obtain ⟨w6, hwz⟩ : ∃ wz, w5.alloc (.cells #[.int .i64 0, .int .i64 0, .int .i64 0, .int .i64 0, .string ⟨#[]⟩, .slice none 0 0, .int .i64 0, .int .i64 0, .bool false] 34) = wz := ⟨_, rfl⟩
          rw [hwz]
          have hb2 : Below w5.heap.size w5 w6 := by rw [← hwz]; exact ((Below.refl _ _).alloc (Nat.le_refl _) _)
          obtain ⟨b7, hb⟩ : ∃ b, w5.heap.size = b := ⟨_, rfl⟩
          have bx6 : w6.heap[b7]? = some (.cells #[.int .i64 0, .int .i64 0, .int .i64 0, .int .i64 0, .string ⟨#[]⟩, .slice none 0 0, .int .i64 0, .int .i64 0, .bool false] 34) := by rw [← hwz, ← hb]; exact heap_alloc_new w5 _
          have ge6 : X.heap.size ≤ b7 := by rw [← hb]; exact hcur.size
          have ne26 : ∀ g off, va = some ⟨g, off, none⟩ → 0 < vm → g ≠ b7 := fun g off e h0 => by have := rng_lt rg2 h0 g off e; omega
          have ne56 : ∀ g off, za = some ⟨g, off, none⟩ → 0 < zm → g ≠ b7 := fun g off e h0 => by have := rng_lt rg5 h0 g off e; omega
          have rg2' := rg2.below hb2
          clear rg2
          have rg2 := rg2'
          clear rg2'
          have rg5' := rg5.below hb2
          clear rg5
          have rg5 := rg5'
          clear rg5'
          rw [hb]
          clear hwz hb
          have hcur2 : Below X.heap.size X w6 := hcur.trans (hb2.mono hcur.size)
          clear hcur hb2
          have hcur := hcur2
          clear hcur2
          clear hHeld
          refine hK.out _ _ ?hS20 (fun hHeld => ?rest20)
          case hS20 => (intro p hp; refine Below.cell (B := X.heap.size) ?_ hp; (repeat (first | with_reducible exact hcur | (with_reducible refine Below.drew ?_))))
          clear hK K
          try simp only [Act.put, List.setIfInBounds_toArray, List.set_cons_zero, List.set_cons_succ]
          refine wpAnyH_ready (rs := [7]) (by kernel_rfl) (by simp) (AllReadyH.cons rfl (fun K hK => ?b10) AllReadyH.nil)
          case b10 =>
            go_simp
            obtain ⟨w7, hwz⟩ : ∃ wz, w6.alloc (.cells #[.int .i64 0, .int .i64 0, .int .i64 0, .int .i64 0, .string ⟨#[]⟩, .slice none 0 0, .int .i64 0, .int .i64 0, .bool false] 34) = wz := ⟨_, rfl⟩
            rw [hwz]
            have hb2 : Below w6.heap.size w6 w7 := by rw [← hwz]; exact ((Below.refl _ _).alloc (Nat.le_refl _) _)
            obtain ⟨b8, hb⟩ : ∃ b, w6.heap.size = b := ⟨_, rfl⟩
            have bx7 : w7.heap[b8]? = some (.cells #[.int .i64 0, .int .i64 0, .int .i64 0, .int .i64 0, .string ⟨#[]⟩, .slice none 0 0, .int .i64 0, .int .i64 0, .bool false] 34) := by rw [← hwz, ← hb]; exact heap_alloc_new w6 _
            have ge7 : X.heap.size ≤ b8 := by rw [← hb]; exact hcur.size
            have ne27 : ∀ g off, va = some ⟨g, off, none⟩ → 0 < vm → g ≠ b8 := fun g off e h0 => by have := rng_lt rg2 h0 g off e; omega
            have ne57 : ∀ g off, za = some ⟨g, off, none⟩ → 0 < zm → g ≠ b8 := fun g off e h0 => by have := rng_lt rg5 h0 g off e; omega
            have ne67 : b7 ≠ b8 := by have := (Array.getElem?_eq_some_iff.1 bx6).1; omega
            have rg2' := rg2.below hb2
            clear rg2
            have rg2 := rg2'
            clear rg2'
            have rg5' := rg5.below hb2
            clear rg5
            have rg5 := rg5'
            clear rg5'
            have bx6' := (hb2.block _ (Array.getElem?_eq_some_iff.1 bx6).1).trans bx6
            clear bx6
            have bx6 := bx6'
            clear bx6'
            rw [hb]
            clear hwz hb
            have hcur2 : Below X.heap.size X w7 := hcur.trans (hb2.mono hcur.size)
            clear hcur hb2
            have hcur := hcur2
            clear hcur2
            clear hHeld
            refine hK.out _ _ ?hS11 (fun hHeld => ?rest11)
            case hS11 => (intro p hp; refine Below.cell (B := X.heap.size) ?_ hp; (repeat (first | with_reducible exact hcur | (with_reducible refine Below.drew ?_))))
            clear hK K
            try simp only [Act.put, List.setIfInBounds_toArray, List.set_cons_zero, List.set_cons_succ]
            refine wpAnyH_ready (rs := [8]) (by kernel_rfl) (by simp) (AllReadyH.cons rfl (fun K hK => ?b8) AllReadyH.nil)
            case b8 =>
              obtain ⟨d0, d1, d2, d3, d4, d5, d6, d7, d8⟩ := box9 bx6
              obtain ⟨f0, f1, f2, f3, f4, f5, f6, f7, f8⟩ := wr9 bx6
              obtain ⟨W8, e8, x8, B8, K8⟩ := store9 bx6 hcur ge6 (.int .i64 o.c) (.int .i64 o.n) (.int .i64 o.k) (.int .i64 o.p) (.string o.s) (.slice va vm vc) (.int .i64 o.tc) (.int .i64 o.tn) (.bool o.on)
              go_simp
              try rw [e8]
              have y8 := K8.block bx7 ne67.symm
              have rg2' := K8.rng rg2 ne26
              have rg5' := K8.rng rg5 ne56
              clear d0 d1 d2 d3 d4 d5 d6 d7 d8 f0 f1 f2 f3 f4 f5 f6 f7 f8 e8
              clear hHeld
              refine hK.out _ _ ?hS9 (fun hHeld => ?rest9)
              case hS9 => (intro p hp; exact Below.cell B8 hp)
              clear hK K
              try simp only [Act.put, List.setIfInBounds_toArray, List.set_cons_zero, List.set_cons_succ]
              refine wpAnyH_ready (rs := [9]) (by kernel_rfl) (by simp) (AllReadyH.cons rfl (fun K hK => ?b6) AllReadyH.nil)
              case b6 =>
                obtain ⟨d0, d1, d2, d3, d4, d5, d6, d7, d8⟩ := box9 y8
                obtain ⟨f0, f1, f2, f3, f4, f5, f6, f7, f8⟩ := wr9 y8
                obtain ⟨W9, e9, x9, B9, K9⟩ := store9 y8 B8 ge7 (.int .i64 x.c) (.int .i64 x.n) (.int .i64 x.k) (.int .i64 x.p) (.string x.s) (.slice za zm zc) (.int .i64 x.tc) (.int .i64 x.tn) (.bool x.on)
                go_simp
                try rw [e9]
                have y9 := K9.block x8 ne67
                have rg2f := K9.rng rg2' ne27
                have rg5f := K9.rng rg5' ne57
                clear d0 d1 d2 d3 d4 d5 d6 d7 d8 f0 f1 f2 f3 f4 f5 f6 f7 f8 e9
                clear hHeld
                refine hK.out _ _ ?hS7 (fun hHeld => ?rest7)
                case hS7 => (intro p hp; exact Below.cell B9 hp)
                clear hK K
                try simp only [Act.put, List.setIfInBounds_toArray, List.set_cons_zero, List.set_cons_succ]
                refine wpAnyH_done (by kernel_rfl) ?_ _
                go_wp2_with fail
                go_meet
                case rel => exact ⟨b7, b8, o, va, vm, vc, x, za, zm, zc, rfl, rfl, sn2, sn5, y9, x9, rg2f, rg5f, ge6, ge7, ne26, B9⟩
        case b19 =>
          go_simp
          obtain ⟨w7, hwz⟩ : ∃ wz, w5.alloc (.cells #[.int .i64 0, .int .i64 0, .int .i64 0, .int .i64 0, .string ⟨#[]⟩, .slice none 0 0, .int .i64 0, .int .i64 0, .bool false] 34) = wz := ⟨_, rfl⟩
          rw [hwz]
          have hb2 : Below w5.heap.size w5 w7 := by rw [← hwz]; exact ((Below.refl _ _).alloc (Nat.le_refl _) _)
          obtain ⟨b8, hb⟩ : ∃ b, w5.heap.size = b := ⟨_, rfl⟩
          have bx7 : w7.heap[b8]? = some (.cells #[.int .i64 0, .int .i64 0, .int .i64 0, .int .i64 0, .string ⟨#[]⟩, .slice none 0 0, .int .i64 0, .int .i64 0, .bool false] 34) := by rw [← hwz, ← hb]; exact heap_alloc_new w5 _
          have ge7 : X.heap.size ≤ b8 := by rw [← hb]; exact hcur.size
          have ne27 : ∀ g off, va = some ⟨g, off, none⟩ → 0 < vm → g ≠ b8 := fun g off e h0 => by have := rng_lt rg2 h0 g off e; omega
          have ne57 : ∀ g off, za = some ⟨g, off, none⟩ → 0 < zm → g ≠ b8 := fun g off e h0 => by have := rng_lt rg5 h0 g off e; omega
          have rg2' := rg2.below hb2
          clear rg2
          have rg2 := rg2'
          clear rg2'
          have rg5' := rg5.below hb2
          clear rg5
          have rg5 := rg5'
          clear rg5'
          rw [hb]
          clear hwz hb
          have hcur2 : Below X.heap.size X w7 := hcur.trans (hb2.mono hcur.size)
          clear hcur hb2
          have hcur := hcur2
          clear hcur2
          clear hHeld
          refine hK.out _ _ ?hS21 (fun hHeld => ?rest21)
          case hS21 => (intro p hp; refine Below.cell (B := X.heap.size) ?_ hp; (repeat (first | with_reducible exact hcur | (with_reducible refine Below.drew ?_))))
          clear hK K
          try simp only [Act.put, List.setIfInBounds_toArray, List.set_cons_zero, List.set_cons_succ]
          refine wpAnyH_ready (rs := [6]) (by kernel_rfl) (by simp) (AllReadyH.cons rfl (fun K hK => ?b16) AllReadyH.nil)
          case b16 =>
            go_simp
            obtain ⟨w6, hwz⟩ : ∃ wz, w7.alloc (.cells #[.int .i64 0, .int .i64 0, .int .i64 0, .int .i64 0, .string ⟨#[]⟩, .slice none 0 0, .int .i64 0, .int .i64 0, .bool false] 34) = wz := ⟨_, rfl⟩
            rw [hwz]
            have hb2 : Below w7.heap.size w7 w6 := by rw [← hwz]; exact ((Below.refl _ _).alloc (Nat.le_refl _) _)
            obtain ⟨b7, hb⟩ : ∃ b, w7.heap.size = b := ⟨_, rfl⟩
            have bx6 : w6.heap[b7]? = some (.cells #[.int .i64 0, .int .i64 0, .int .i64 0, .int .i64 0, .string ⟨#[]⟩, .slice none 0 0, .int .i64 0, .int .i64 0, .bool false] 34) := by rw [← hwz, ← hb]; exact heap_alloc_new w7 _
            have ge6 : X.heap.size ≤ b7 := by rw [← hb]; exact hcur.size
            have ne26 : ∀ g off, va = some ⟨g, off, none⟩ → 0 < vm → g ≠ b7 := fun g off e h0 => by have := rng_lt rg2 h0 g off e; omega
            have ne56 : ∀ g off, za = some ⟨g, off, none⟩ → 0 < zm → g ≠ b7 := fun g off e h0 => by have := rng_lt rg5 h0 g off e; omega
            have ne67 : b7 ≠ b8 := by have := (Array.getElem?_eq_some_iff.1 bx7).1; omega
            have rg2' := rg2.below hb2
            clear rg2
            have rg2 := rg2'
            clear rg2'
            have rg5' := rg5.below hb2
            clear rg5
            have rg5 := rg5'
            clear rg5'
            have bx7' := (hb2.block _ (Array.getElem?_eq_some_iff.1 bx7).1).trans bx7
            clear bx7
            have bx7 := bx7'
            clear bx7'
            rw [hb]
            clear hwz hb
            have hcur2 : Below X.heap.size X w6 := hcur.trans (hb2.mono hcur.size)
            clear hcur hb2
            have hcur := hcur2
            clear hcur2
            clear hHeld
            refine hK.out _ _ ?hS17 (fun hHeld => ?rest17)
            case hS17 => (intro p hp; refine Below.cell (B := X.heap.size) ?_ hp; (repeat (first | with_reducible exact hcur | (with_reducible refine Below.drew ?_))))
            clear hK K
            try simp only [Act.put, List.setIfInBounds_toArray, List.set_cons_zero, List.set_cons_succ]
            refine wpAnyH_ready (rs := [8]) (by kernel_rfl) (by simp) (AllReadyH.cons rfl (fun K hK => ?b14) AllReadyH.nil)
            case b14 =>
              obtain ⟨d0, d1, d2, d3, d4, d5, d6, d7, d8⟩ := box9 bx6
              obtain ⟨f0, f1, f2, f3, f4, f5, f6, f7, f8⟩ := wr9 bx6
              obtain ⟨W8, e8, x8, B8, K8⟩ := store9 bx6 hcur ge6 (.int .i64 o.c) (.int .i64 o.n) (.int .i64 o.k) (.int .i64 o.p) (.string o.s) (.slice va vm vc) (.int .i64 o.tc) (.int .i64 o.tn) (.bool o.on)
              go_simp
              try rw [e8]
              have y8 := K8.block bx7 ne67.symm
              have rg2' := K8.rng rg2 ne26
              have rg5' := K8.rng rg5 ne56
              clear d0 d1 d2 d3 d4 d5 d6 d7 d8 f0 f1 f2 f3 f4 f5 f6 f7 f8 e8
              clear hHeld
              refine hK.out _ _ ?hS15 (fun hHeld => ?rest15)
              case hS15 => (intro p hp; exact Below.cell B8 hp)
              clear hK K
              try simp only [Act.put, List.setIfInBounds_toArray, List.set_cons_zero, List.set_cons_succ]
              refine wpAnyH_ready (rs := [9]) (by kernel_rfl) (by simp) (AllReadyH.cons rfl (fun K hK => ?b12) AllReadyH.nil)
              case b12 =>
                obtain ⟨d0, d1, d2, d3, d4, d5, d6, d7, d8⟩ := box9 y8
                obtain ⟨f0, f1, f2, f3, f4, f5, f6, f7, f8⟩ := wr9 y8
                obtain ⟨W9, e9, x9, B9, K9⟩ := store9 y8 B8 ge7 (.int .i64 x.c) (.int .i64 x.n) (.int .i64 x.k) (.int .i64 x.p) (.string x.s) (.slice za zm zc) (.int .i64 x.tc) (.int .i64 x.tn) (.bool x.on)
                go_simp
                try rw [e9]
                have y9 := K9.block x8 ne67
                have rg2f := K9.rng rg2' ne27
                have rg5f := K9.rng rg5' ne57
                clear d0 d1 d2 d3 d4 d5 d6 d7 d8 f0 f1 f2 f3 f4 f5 f6 f7 f8 e9
                clear hHeld
                refine hK.out _ _ ?hS13 (fun hHeld => ?rest13)
                case hS13 => (intro p hp; exact Below.cell B9 hp)
                clear hK K
                try simp only [Act.put, List.setIfInBounds_toArray, List.set_cons_zero, List.set_cons_succ]
                refine wpAnyH_done (by kernel_rfl) ?_ _
                go_wp2_with fail
                go_meet
                case rel => exact ⟨b7, b8, o, va, vm, vc, x, za, zm, zc, rfl, rfl, sn2, sn5, y9, x9, rg2f, rg5f, ge6, ge7, ne26, B9⟩
      case b55 =>
        go_simp
        obtain ⟨w6, hwz⟩ : ∃ wz, w2.alloc (.cells #[.int .i64 0, .int .i64 0, .int .i64 0, .int .i64 0, .string ⟨#[]⟩, .slice none 0 0, .int .i64 0, .int .i64 0, .bool false] 34) = wz := ⟨_, rfl⟩
        rw [hwz]
        have hb2 : Below w2.heap.size w2 w6 := by rw [← hwz]; exact ((Below.refl _ _).alloc (Nat.le_refl _) _)
        obtain ⟨b7, hb⟩ : ∃ b, w2.heap.size = b := ⟨_, rfl⟩
        have bx6 : w6.heap[b7]? = some (.cells #[.int .i64 0, .int .i64 0, .int .i64 0, .int .i64 0, .string ⟨#[]⟩, .slice none 0 0, .int .i64 0, .int .i64 0, .bool false] 34) := by rw [← hwz, ← hb]; exact heap_alloc_new w2 _
        have ge6 : X.heap.size ≤ b7 := by rw [← hb]; exact hcur.size
        have ne26 : ∀ g off, va = some ⟨g, off, none⟩ → 0 < vm → g ≠ b7 := fun g off e h0 => by have := rng_lt rg2 h0 g off e; omega
        have rg2' := rg2.below hb2
        clear rg2
        have rg2 := rg2'
        clear rg2'
        rw [hb]
        clear hwz hb
        have hcur2 : Below X.heap.size X w6 := hcur.trans (hb2.mono hcur.size)
        clear hcur hb2
        have hcur := hcur2
        clear hcur2
        clear hHeld
        refine hK.out _ _ ?hS58 (fun hHeld => ?rest58)
        case hS58 => (intro p hp; refine Below.cell (B := X.heap.size) ?_ hp; (repeat (first | with_reducible exact hcur | (with_reducible refine Below.drew ?_))))
        clear hK K
        try simp only [Act.put, List.setIfInBounds_toArray, List.set_cons_zero, List.set_cons_succ]
        refine wpAnyH_ready (rs := [5, 7]) (by kernel_rfl) (by simp) (AllReadyH.cons rfl (fun K hK => ?b34) (AllReadyH.cons rfl (fun K hK => ?b35) AllReadyH.nil))
        case b34 =>
          go_simp
          refine (HB.out _ ?_).mono ?_
          · first | exact hcur | exact hcur.drew
          rintro e2 w5 ⟨x, za, zm, zc, rfl, sn5, rg5, ad5, hb2⟩
          have ne56 : ∀ g off, za = some ⟨g, off, none⟩ → 0 < zm → g ≠ b7 := fun g off e _ => by have := ad5 g off e; have := (Array.getElem?_eq_some_iff.1 bx6).1; omega
          have rg2' := rg2.below hb2
          clear rg2
          have rg2 := rg2'
          clear rg2'
          have bx6' := (hb2.block _ (Array.getElem?_eq_some_iff.1 bx6).1).trans bx6
          clear bx6
          have bx6 := bx6'
          clear bx6'
          have hcur2 : Below X.heap.size X w5 := hcur.trans (hb2.mono hcur.size)
          clear hcur hb2
          have hcur := hcur2
          clear hcur2
          simp only [opVal]
          clear hHeld
          refine hK.out _ _ ?hS36 (fun hHeld => ?rest36)
          case hS36 => (intro p hp; refine Below.cell (B := X.heap.size) ?_ hp; (repeat (first | with_reducible exact hcur | (with_reducible refine Below.drew ?_))))
          clear hK K
          try simp only [Act.put, List.setIfInBounds_toArray, List.set_cons_zero, List.set_cons_succ]
          refine wpAnyH_ready (rs := [7]) (by kernel_rfl) (by simp) (AllReadyH.cons rfl (fun K hK => ?b26) AllReadyH.nil)
          case b26 =>
            go_simp
            obtain ⟨w7, hwz⟩ : ∃ wz, w5.alloc (.cells #[.int .i64 0, .int .i64 0, .int .i64 0, .int .i64 0, .string ⟨#[]⟩, .slice none 0 0, .int .i64 0, .int .i64 0, .bool false] 34) = wz := ⟨_, rfl⟩
            rw [hwz]
            have hb2 : Below w5.heap.size w5 w7 := by rw [← hwz]; exact ((Below.refl _ _).alloc (Nat.le_refl _) _)
            obtain ⟨b8, hb⟩ : ∃ b, w5.heap.size = b := ⟨_, rfl⟩
            have bx7 : w7.heap[b8]? = some (.cells #[.int .i64 0, .int .i64 0, .int .i64 0, .int .i64 0, .string ⟨#[]⟩, .slice none 0 0, .int .i64 0, .int .i64 0, .bool false] 34) := by rw [← hwz, ← hb]; exact heap_alloc_new w5 _
            have ge7 : X.heap.size ≤ b8 := by rw [← hb]; exact hcur.size
            have ne27 : ∀ g off, va = some ⟨g, off, none⟩ → 0 < vm → g ≠ b8 := fun g off e h0 => by have := rng_lt rg2 h0 g off e; omega
            have ne67 : b7 ≠ b8 := by have := (Array.getElem?_eq_some_iff.1 bx6).1; omega
            have ne57 : ∀ g off, za = some ⟨g, off, none⟩ → 0 < zm → g ≠ b8 := fun g off e h0 => by have := rng_lt rg5 h0 g off e; omega
            have rg2' := rg2.below hb2
            clear rg2
            have rg2 := rg2'
            clear rg2'
            have bx6' := (hb2.block _ (Array.getElem?_eq_some_iff.1 bx6).1).trans bx6
            clear bx6
            have bx6 := bx6'
            clear bx6'
            have rg5' := rg5.below hb2
            clear rg5
            have rg5 := rg5'
            clear rg5'
            rw [hb]
            clear hwz hb
            have hcur2 : Below X.heap.size X w7 := hcur.trans (hb2.mono hcur.size)
            clear hcur hb2
            have hcur := hcur2
            clear hcur2
            clear hHeld
            refine hK.out _ _ ?hS27 (fun hHeld => ?rest27)
            case hS27 => (intro p hp; refine Below.cell (B := X.heap.size) ?_ hp; (repeat (first | with_reducible exact hcur | (with_reducible refine Below.drew ?_))))
            clear hK K
            try simp only [Act.put, List.setIfInBounds_toArray, List.set_cons_zero, List.set_cons_succ]
            refine wpAnyH_ready (rs := [8]) (by kernel_rfl) (by simp) (AllReadyH.cons rfl (fun K hK => ?b24) AllReadyH.nil)
            case b24 =>
              obtain ⟨d0, d1, d2, d3, d4, d5, d6, d7, d8⟩ := box9 bx6
              obtain ⟨f0, f1, f2, f3, f4, f5, f6, f7, f8⟩ := wr9 bx6
              obtain ⟨W8, e8, x8, B8, K8⟩ := store9 bx6 hcur ge6 (.int .i64 o.c) (.int .i64 o.n) (.int .i64 o.k) (.int .i64 o.p) (.string o.s) (.slice va vm vc) (.int .i64 o.tc) (.int .i64 o.tn) (.bool o.on)
              go_simp
              try rw [e8]
              have y8 := K8.block bx7 ne67.symm
              have rg2' := K8.rng rg2 ne26
              have rg5' := K8.rng rg5 ne56
              clear d0 d1 d2 d3 d4 d5 d6 d7 d8 f0 f1 f2 f3 f4 f5 f6 f7 f8 e8
              clear hHeld
              refine hK.out _ _ ?hS25 (fun hHeld => ?rest25)
              case hS25 => (intro p hp; exact Below.cell B8 hp)
              clear hK K
              try simp only [Act.put, List.setIfInBounds_toArray, List.set_cons_zero, List.set_cons_succ]
              refine wpAnyH_ready (rs := [9]) (by kernel_rfl) (by simp) (AllReadyH.cons rfl (fun K hK => ?b22) AllReadyH.nil)
              case b22 =>
                obtain ⟨d0, d1, d2, d3, d4, d5, d6, d7, d8⟩ := box9 y8
                obtain ⟨f0, f1, f2, f3, f4, f5, f6, f7, f8⟩ := wr9 y8
                obtain ⟨W9, e9, x9, B9, K9⟩ := store9 y8 B8 ge7 (.int .i64 x.c) (.int .i64 x.n) (.int .i64 x.k) (.int .i64 x.p) (.string x.s) (.slice za zm zc) (.int .i64 x.tc) (.int .i64 x.tn) (.bool x.on)
                go_simp
                try rw [e9]
                have y9 := K9.block x8 ne67
                have rg2f := K9.rng rg2' ne27
                have rg5f := K9.rng rg5' ne57
                clear d0 d1 d2 d3 d4 d5 d6 d7 d8 f0 f1 f2 f3 f4 f5 f6 f7 f8 e9
                clear hHeld
                refine hK.out _ _ ?hS23 (fun hHeld => ?rest23)
                case hS23 => (intro p hp; exact Below.cell B9 hp)
                clear hK K
                try simp only [Act.put, List.setIfInBounds_toArray, List.set_cons_zero, List.set_cons_succ]
                refine wpAnyH_done (by kernel_rfl) ?_ _
                go_wp2_with fail
                go_meet
                case rel => exact ⟨b7, b8, o, va, vm, vc, x, za, zm, zc, rfl, rfl, sn2, sn5, y9, x9, rg2f, rg5f, ge6, ge7, ne26, B9⟩
        case b35 =>
          go_simp
          obtain ⟨w7, hwz⟩ : ∃ wz, w6.alloc (.cells #[.int .i64 0, .int .i64 0, .int .i64 0, .int .i64 0, .string ⟨#[]⟩, .slice none 0 0, .int .i64 0, .int .i64 0, .bool false] 34) = wz := ⟨_, rfl⟩
          rw [hwz]
          have hb2 : Below w6.heap.size w6 w7 := by rw [← hwz]; exact ((Below.refl _ _).alloc (Nat.le_refl _) _)
          obtain ⟨b8, hb⟩ : ∃ b, w6.heap.size = b := ⟨_, rfl⟩
          have bx7 : w7.heap[b8]? = some (.cells #[.int .i64 0, .int .i64 0, .int .i64 0, .int .i64 0, .string ⟨#[]⟩, .slice none 0 0, .int .i64 0, .int .i64 0, .bool false] 34) := by rw [← hwz, ← hb]; exact heap_alloc_new w6 _
          have ge7 : X.heap.size ≤ b8 := by rw [← hb]; exact hcur.size
          have ne27 : ∀ g off, va = some ⟨g, off, none⟩ → 0 < vm → g ≠ b8 := fun g off e h0 => by have := rng_lt rg2 h0 g off e; omega
          have ne67 : b7 ≠ b8 := by have := (Array.getElem?_eq_some_iff.1 bx6).1; omega
          have rg2' := rg2.below hb2
          clear rg2
          have rg2 := rg2'
          clear rg2'
          have bx6' := (hb2.block _ (Array.getElem?_eq_some_iff.1 bx6).1).trans bx6
          clear bx6
          have bx6 := bx6'
          clear bx6'
          rw [hb]
          clear hwz hb
          have hcur2 : Below X.heap.size X w7 := hcur.trans (hb2.mono hcur.size)
          clear hcur hb2
          have hcur := hcur2
          clear hcur2
          clear hHeld
          refine hK.out _ _ ?hS37 (fun hHeld => ?rest37)
          case hS37 => (intro p hp; refine Below.cell (B := X.heap.size) ?_ hp; (repeat (first | with_reducible exact hcur | (with_reducible refine Below.drew ?_))))
          clear hK K
          try simp only [Act.put, List.setIfInBounds_toArray, List.set_cons_zero, List.set_cons_succ]
          refine wpAnyH_ready (rs := [5]) (by kernel_rfl) (by simp) (AllReadyH.cons rfl (fun K hK => ?b32) AllReadyH.nil)
          case b32 =>
            go_simp
            refine (HB.out _ ?_).mono ?_
            · first | exact hcur | exact hcur.drew
            rintro e2 w5 ⟨x, za, zm, zc, rfl, sn5, rg5, ad5, hb2⟩
            have ne56 : ∀ g off, za = some ⟨g, off, none⟩ → 0 < zm → g ≠ b7 := fun g off e _ => by have := ad5 g off e; have := (Array.getElem?_eq_some_iff.1 bx6).1; omega
            have ne57 : ∀ g off, za = some ⟨g, off, none⟩ → 0 < zm → g ≠ b8 := fun g off e _ => by have := ad5 g off e; have := (Array.getElem?_eq_some_iff.1 bx7).1; omega
            have rg2' := rg2.below hb2
            clear rg2
            have rg2 := rg2'
            clear rg2'
            have bx6' := (hb2.block _ (Array.getElem?_eq_some_iff.1 bx6).1).trans bx6
            clear bx6
            have bx6 := bx6'
            clear bx6'
            have bx7' := (hb2.block _ (Array.getElem?_eq_some_iff.1 bx7).1).trans bx7
            clear bx7
            have bx7 := bx7'
            clear bx7'
            have hcur2 : Below X.heap.size X w5 := hcur.trans (hb2.mono hcur.size)
            clear hcur hb2
            have hcur := hcur2
            clear hcur2
            simp only [opVal]
            clear hHeld
            refine hK.out _ _ ?hS33 (fun hHeld => ?rest33)
            case hS33 => (intro p hp; refine Below.cell (B := X.heap.size) ?_ hp; (repeat (first | with_reducible exact hcur | (with_reducible refine Below.drew ?_))))
            clear hK K
            try simp only [Act.put, List.setIfInBounds_toArray, List.set_cons_zero, List.set_cons_succ]
            refine wpAnyH_ready (rs := [8]) (by kernel_rfl) (by simp) (AllReadyH.cons rfl (fun K hK => ?b30) AllReadyH.nil)
            case b30 =>
              obtain ⟨d0, d1, d2, d3, d4, d5, d6, d7, d8⟩ := box9 bx6
              obtain ⟨f0, f1, f2, f3, f4, f5, f6, f7, f8⟩ := wr9 bx6
              obtain ⟨W8, e8, x8, B8, K8⟩ := store9 bx6 hcur ge6 (.int .i64 o.c) (.int .i64 o.n) (.int .i64 o.k) (.int .i64 o.p) (.string o.s) (.slice va vm vc) (.int .i64 o.tc) (.int .i64 o.tn) (.bool o.on)
              go_simp
              try rw [e8]
              have y8 := K8.block bx7 ne67.symm
              have rg2' := K8.rng rg2 ne26
              have rg5' := K8.rng rg5 ne56
              clear d0 d1 d2 d3 d4 d5 d6 d7 d8 f0 f1 f2 f3 f4 f5 f6 f7 f8 e8
              clear hHeld
              refine hK.out _ _ ?hS31 (fun hHeld => ?rest31)
              case hS31 => (intro p hp; exact Below.cell B8 hp)
              clear hK K
              try simp only [Act.put, List.setIfInBounds_toArray, List.set_cons_zero, List.set_cons_succ]
              refine wpAnyH_ready (rs := [9]) (by kernel_rfl) (by simp) (AllReadyH.cons rfl (fun K hK => ?b28) AllReadyH.nil)
              case b28 =>
                obtain ⟨d0, d1, d2, d3, d4, d5, d6, d7, d8⟩ := box9 y8
                obtain ⟨f0, f1, f2, f3, f4, f5, f6, f7, f8⟩ := wr9 y8
                obtain ⟨W9, e9, x9, B9, K9⟩ := store9 y8 B8 ge7 (.int .i64 x.c) (.int .i64 x.n) (.int .i64 x.k) (.int .i64 x.p) (.string x.s) (.slice za zm zc) (.int .i64 x.tc) (.int .i64 x.tn) (.bool x.on)
                go_simp
                try rw [e9]
                have y9 := K9.block x8 ne67
                have rg2f := K9.rng rg2' ne27
                have rg5f := K9.rng rg5' ne57
                clear d0 d1 d2 d3 d4 d5 d6 d7 d8 f0 f1 f2 f3 f4 f5 f6 f7 f8 e9
                clear hHeld
                refine hK.out _ _ ?hS29 (fun hHeld => ?rest29)
                case hS29 => (intro p hp; exact Below.cell B9 hp)
                clear hK K
                try simp only [Act.put, List.setIfInBounds_toArray, List.set_cons_zero, List.set_cons_succ]
                refine wpAnyH_done (by kernel_rfl) ?_ _
                go_wp2_with fail
                go_meet
                case rel => exact ⟨b7, b8, o, va, vm, vc, x, za, zm, zc, rfl, rfl, sn2, sn5, y9, x9, rg2f, rg5f, ge6, ge7, ne26, B9⟩
      case b56 =>
        go_simp
        obtain ⟨w7, hwz⟩ : ∃ wz, w2.alloc (.cells #[.int .i64 0, .int .i64 0, .int .i64 0, .int .i64 0, .string ⟨#[]⟩, .slice none 0 0, .int .i64 0, .int .i64 0, .bool false] 34) = wz := ⟨_, rfl⟩
        rw [hwz]
        have hb2 : Below w2.heap.size w2 w7 := by rw [← hwz]; exact ((Below.refl _ _).alloc (Nat.le_refl _) _)
        obtain ⟨b8, hb⟩ : ∃ b, w2.heap.size = b := ⟨_, rfl⟩
        have bx7 : w7.heap[b8]? = some (.cells #[.int .i64 0, .int .i64 0, .int .i64 0, .int .i64 0, .string ⟨#[]⟩, .slice none 0 0, .int .i64 0, .int .i64 0, .bool false] 34) := by rw [← hwz, ← hb]; exact heap_alloc_new w2 _
        have ge7 : X.heap.size ≤ b8 := by rw [← hb]; exact hcur.size
        have ne27 : ∀ g off, va = some ⟨g, off, none⟩ → 0 < vm → g ≠ b8 := fun g off e h0 => by have := rng_lt rg2 h0 g off e; omega
        have rg2' := rg2.below hb2
        clear rg2
        have rg2 := rg2'
        clear rg2'
        rw [hb]
        clear hwz hb
        have hcur2 : Below X.heap.size X w7 := hcur.trans (hb2.mono hcur.size)
        clear hcur hb2
        have hcur := hcur2
        clear hcur2
        clear hHeld
        refine hK.out _ _ ?hS59 (fun hHeld => ?rest59)
        case hS59 => (intro p hp; refine Below.cell (B := X.heap.size) ?_ hp; (repeat (first | with_reducible exact hcur | (with_reducible refine Below.drew ?_))))
        clear hK K
        try simp only [Act.put, List.setIfInBounds_toArray, List.set_cons_zero, List.set_cons_succ]
        refine wpAnyH_ready (rs := [5, 6]) (by kernel_rfl) (by simp) (AllReadyH.cons rfl (fun K hK => ?b50) (AllReadyH.cons rfl (fun K hK => ?b51) AllReadyH.nil))
        case b50 =>
          go_simp
          refine (HB.out _ ?_).mono ?_
          · first | exact hcur | exact hcur.drew
          rintro e2 w5 ⟨x, za, zm, zc, rfl, sn5, rg5, ad5, hb2⟩
          have ne57 : ∀ g off, za = some ⟨g, off, none⟩ → 0 < zm → g ≠ b8 := fun g off e _ => by have := ad5 g off e; have := (Array.getElem?_eq_some_iff.1 bx7).1; omega
          have rg2' := rg2.below hb2
          clear rg2
          have rg2 := rg2'
          clear rg2'
          have bx7' := (hb2.block _ (Array.getElem?_eq_some_iff.1 bx7).1).trans bx7
          clear bx7
          have bx7 := bx7'
          clear bx7'
          have hcur2 : Below X.heap.size X w5 := hcur.trans (hb2.mono hcur.size)
          clear hcur hb2
          have hcur := hcur2
          clear hcur2
          simp only [opVal]
          clear hHeld
          refine hK.out _ _ ?hS52 (fun hHeld => ?rest52)
          case hS52 => (intro p hp; refine Below.cell (B := X.heap.size) ?_ hp; (repeat (first | with_reducible exact hcur | (with_reducible refine Below.drew ?_))))
          clear hK K
          try simp only [Act.put, List.setIfInBounds_toArray, List.set_cons_zero, List.set_cons_succ]
          refine wpAnyH_ready (rs := [6]) (by kernel_rfl) (by simp) (AllReadyH.cons rfl (fun K hK => ?b42) AllReadyH.nil)
          case b42 =>
            go_simp
            obtain ⟨w6, hwz⟩ : ∃ wz, w5.alloc (.cells #[.int .i64 0, .int .i64 0, .int .i64 0, .int .i64 0, .string ⟨#[]⟩, .slice none 0 0, .int .i64 0, .int .i64 0, .bool false] 34) = wz := ⟨_, rfl⟩
            rw [hwz]
            have hb2 : Below w5.heap.size w5 w6 := by rw [← hwz]; exact ((Below.refl _ _).alloc (Nat.le_refl _) _)
            obtain ⟨b7, hb⟩ : ∃ b, w5.heap.size = b := ⟨_, rfl⟩
            have bx6 : w6.heap[b7]? = some (.cells #[.int .i64 0, .int .i64 0, .int .i64 0, .int .i64 0, .string ⟨#[]⟩, .slice none 0 0, .int .i64 0, .int .i64 0, .bool false] 34) := by rw [← hwz, ← hb]; exact heap_alloc_new w5 _
            have ge6 : X.heap.size ≤ b7 := by rw [← hb]; exact hcur.size
            have ne26 : ∀ g off, va = some ⟨g, off, none⟩ → 0 < vm → g ≠ b7 := fun g off e h0 => by have := rng_lt rg2 h0 g off e; omega
            have ne67 : b7 ≠ b8 := by have := (Array.getElem?_eq_some_iff.1 bx7).1; omega
            have ne56 : ∀ g off, za = some ⟨g, off, none⟩ → 0 < zm → g ≠ b7 := fun g off e h0 => by have := rng_lt rg5 h0 g off e; omega
            have rg2' := rg2.below hb2
            clear rg2
            have rg2 := rg2'
            clear rg2'
            have bx7' := (hb2.block _ (Array.getElem?_eq_some_iff.1 bx7).1).trans bx7
            clear bx7
            have bx7 := bx7'
            clear bx7'
            have rg5' := rg5.below hb2
            clear rg5
            have rg5 := rg5'
            clear rg5'
            rw [hb]
            clear hwz hb
            have hcur2 : Below X.heap.size X w6 := hcur.trans (hb2.mono hcur.size)
            clear hcur hb2
            have hcur := hcur2
            clear hcur2
            clear hHeld
            refine hK.out _ _ ?hS43 (fun hHeld => ?rest43)
            case hS43 => (intro p hp; refine Below.cell (B := X.heap.size) ?_ hp; (repeat (first | with_reducible exact hcur | (with_reducible refine Below.drew ?_))))
            clear hK K
            try simp only [Act.put, List.setIfInBounds_toArray, List.set_cons_zero, List.set_cons_succ]
            refine wpAnyH_ready (rs := [8]) (by kernel_rfl) (by simp) (AllReadyH.cons rfl (fun K hK => ?b40) AllReadyH.nil)
            case b40 =>
              obtain ⟨d0, d1, d2, d3, d4, d5, d6, d7, d8⟩ := box9 bx6
              obtain ⟨f0, f1, f2, f3, f4, f5, f6, f7, f8⟩ := wr9 bx6
              obtain ⟨W8, e8, x8, B8, K8⟩ := store9 bx6 hcur ge6 (.int .i64 o.c) (.int .i64 o.n) (.int .i64 o.k) (.int .i64 o.p) (.string o.s) (.slice va vm vc) (.int .i64 o.tc) (.int .i64 o.tn) (.bool o.on)
              go_simp
              try rw [e8]
              have y8 := K8.block bx7 ne67.symm
              have rg2' := K8.rng rg2 ne26
              have rg5' := K8.rng rg5 ne56
              clear d0 d1 d2 d3 d4 d5 d6 d7 d8 f0 f1 f2 f3 f4 f5 f6 f7 f8 e8
              clear hHeld
              refine hK.out _ _ ?hS41 (fun hHeld => ?rest41)
              case hS41 => (intro p hp; exact Below.cell B8 hp)
              clear hK K
              try simp only [Act.put, List.setIfInBounds_toArray, List.set_cons_zero, List.set_cons_succ]
              refine wpAnyH_ready (rs := [9]) (by kernel_rfl) (by simp) (AllReadyH.cons rfl (fun K hK => ?b38) AllReadyH.nil)
              case b38 =>
                obtain ⟨d0, d1, d2, d3, d4, d5, d6, d7, d8⟩ := box9 y8
                obtain ⟨f0, f1, f2, f3, f4, f5, f6, f7, f8⟩ := wr9 y8
                obtain ⟨W9, e9, x9, B9, K9⟩ := store9 y8 B8 ge7 (.int .i64 x.c) (.int .i64 x.n) (.int .i64 x.k) (.int .i64 x.p) (.string x.s) (.slice za zm zc) (.int .i64 x.tc) (.int .i64 x.tn) (.bool x.on)
                go_simp
                try rw [e9]
                have y9 := K9.block x8 ne67
                have rg2f := K9.rng rg2' ne27
                have rg5f := K9.rng rg5' ne57
                clear d0 d1 d2 d3 d4 d5 d6 d7 d8 f0 f1 f2 f3 f4 f5 f6 f7 f8 e9
                clear hHeld
                refine hK.out _ _ ?hS39 (fun hHeld => ?rest39)
                case hS39 => (intro p hp; exact Below.cell B9 hp)
                clear hK K
                try simp only [Act.put, List.setIfInBounds_toArray, List.set_cons_zero, List.set_cons_succ]
                refine wpAnyH_done (by kernel_rfl) ?_ _
                go_wp2_with fail
                go_meet
                case rel => exact ⟨b7, b8, o, va, vm, vc, x, za, zm, zc, rfl, rfl, sn2, sn5, y9, x9, rg2f, rg5f, ge6, ge7, ne26, B9⟩
        case b51 =>
          go_simp
          obtain ⟨w6, hwz⟩ : ∃ wz, w7.alloc (.cells #[.int .i64 0, .int .i64 0, .int .i64 0, .int .i64 0, .string ⟨#[]⟩, .slice none 0 0, .int .i64 0, .int .i64 0, .bool false] 34) = wz := ⟨_, rfl⟩
          rw [hwz]
          have hb2 : Below w7.heap.size w7 w6 := by rw [← hwz]; exact ((Below.refl _ _).alloc (Nat.le_refl _) _)
          obtain ⟨b7, hb⟩ : ∃ b, w7.heap.size = b := ⟨_, rfl⟩
          have bx6 : w6.heap[b7]? = some (.cells #[.int .i64 0, .int .i64 0, .int .i64 0, .int .i64 0, .string ⟨#[]⟩, .slice none 0 0, .int .i64 0, .int .i64 0, .bool false] 34) := by rw [← hwz, ← hb]; exact heap_alloc_new w7 _
          have ge6 : X.heap.size ≤ b7 := by rw [← hb]; exact hcur.size
          have ne26 : ∀ g off, va = some ⟨g, off, none⟩ → 0 < vm → g ≠ b7 := fun g off e h0 => by have := rng_lt rg2 h0 g off e; omega
          have ne67 : b7 ≠ b8 := by have := (Array.getElem?_eq_some_iff.1 bx7).1; omega
          have rg2' := rg2.below hb2
          clear rg2
          have rg2 := rg2'
          clear rg2'
          have bx7' := (hb2.block _ (Array.getElem?_eq_some_iff.1 bx7).1).trans bx7
          clear bx7
          have bx7 := bx7'
          clear bx7'
          rw [hb]
          clear hwz hb
          have hcur2 : Below X.heap.size X w6 := hcur.trans (hb2.mono hcur.size)
          clear hcur hb2
          have hcur := hcur2
          clear hcur2
          clear hHeld
          refine hK.out _ _ ?hS53 (fun hHeld => ?rest53)
          case hS53 => (intro p hp; refine Below.cell (B := X.heap.size) ?_ hp; (repeat (first | with_reducible exact hcur | (with_reducible refine Below.drew ?_))))
          clear hK K
          try simp only [Act.put, List.setIfInBounds_toArray, List.set_cons_zero, List.set_cons_succ]
          refine wpAnyH_ready (rs := [5]) (by kernel_rfl) (by simp) (AllReadyH.cons rfl (fun K hK => ?b48) AllReadyH.nil)
          case b48 =>
            go_simp
            refine (HB.out _ ?_).mono ?_
            · first | exact hcur | exact hcur.drew
            rintro e2 w5 ⟨x, za, zm, zc, rfl, sn5, rg5, ad5, hb2⟩
            have ne57 : ∀ g off, za = some ⟨g, off, none⟩ → 0 < zm → g ≠ b8 := fun g off e _ => by have := ad5 g off e; have := (Array.getElem?_eq_some_iff.1 bx7).1; omega
            have ne56 : ∀ g off, za = some ⟨g, off, none⟩ → 0 < zm → g ≠ b7 := fun g off e _ => by have := ad5 g off e; have := (Array.getElem?_eq_some_iff.1 bx6).1; omega
            have rg2' := rg2.below hb2
            clear rg2
            have rg2 := rg2'
            clear rg2'
            have bx7' := (hb2.block _ (Array.getElem?_eq_some_iff.1 bx7).1).trans bx7
            clear bx7
            have bx7 := bx7'
            clear bx7'
            have bx6' := (hb2.block _ (Array.getElem?_eq_some_iff.1 bx6).1).trans bx6
            clear bx6
            have bx6 := bx6'
            clear bx6'
            have hcur2 : Below X.heap.size X w5 := hcur.trans (hb2.mono hcur.size)
            clear hcur hb2
            have hcur := hcur2
            clear hcur2
            simp only [opVal]
            clear hHeld
            refine hK.out _ _ ?hS49 (fun hHeld => ?rest49)
            case hS49 => (intro p hp; refine Below.cell (B := X.heap.size) ?_ hp; (repeat (first | with_reducible exact hcur | (with_reducible refine Below.drew ?_))))
            clear hK K
            try simp only [Act.put, List.setIfInBounds_toArray, List.set_cons_zero, List.set_cons_succ]
            refine wpAnyH_ready (rs := [8]) (by kernel_rfl) (by simp) (AllReadyH.cons rfl (fun K hK => ?b46) AllReadyH.nil)
            case b46 =>
              obtain ⟨d0, d1, d2, d3, d4, d5, d6, d7, d8⟩ := box9 bx6
              obtain ⟨f0, f1, f2, f3, f4, f5, f6, f7, f8⟩ := wr9 bx6
              obtain ⟨W8, e8, x8, B8, K8⟩ := store9 bx6 hcur ge6 (.int .i64 o.c) (.int .i64 o.n) (.int .i64 o.k) (.int .i64 o.p) (.string o.s) (.slice va vm vc) (.int .i64 o.tc) (.int .i64 o.tn) (.bool o.on)
              go_simp
              try rw [e8]
              have y8 := K8.block bx7 ne67.symm
              have rg2' := K8.rng rg2 ne26
              have rg5' := K8.rng rg5 ne56
              clear d0 d1 d2 d3 d4 d5 d6 d7 d8 f0 f1 f2 f3 f4 f5 f6 f7 f8 e8
              clear hHeld
              refine hK.out _ _ ?hS47 (fun hHeld => ?rest47)
              case hS47 => (intro p hp; exact Below.cell B8 hp)
              clear hK K
              try simp only [Act.put, List.setIfInBounds_toArray, List.set_cons_zero, List.set_cons_succ]
              refine wpAnyH_ready (rs := [9]) (by kernel_rfl) (by simp) (AllReadyH.cons rfl (fun K hK => ?b44) AllReadyH.nil)
              case b44 =>
                obtain ⟨d0, d1, d2, d3, d4, d5, d6, d7, d8⟩ := box9 y8
                obtain ⟨f0, f1, f2, f3, f4, f5, f6, f7, f8⟩ := wr9 y8
                obtain ⟨W9, e9, x9, B9, K9⟩ := store9 y8 B8 ge7 (.int .i64 x.c) (.int .i64 x.n) (.int .i64 x.k) (.int .i64 x.p) (.string x.s) (.slice za zm zc) (.int .i64 x.tc) (.int .i64 x.tn) (.bool x.on)
                go_simp
                try rw [e9]
                have y9 := K9.block x8 ne67
                have rg2f := K9.rng rg2' ne27
                have rg5f := K9.rng rg5' ne57
                clear d0 d1 d2 d3 d4 d5 d6 d7 d8 f0 f1 f2 f3 f4 f5 f6 f7 f8 e9
                clear hHeld
                refine hK.out _ _ ?hS45 (fun hHeld => ?rest45)
                case hS45 => (intro p hp; exact Below.cell B9 hp)
                clear hK K
                try simp only [Act.put, List.setIfInBounds_toArray, List.set_cons_zero, List.set_cons_succ]
                refine wpAnyH_done (by kernel_rfl) ?_ _
                go_wp2_with fail
                go_meet
                case rel => exact ⟨b7, b8, o, va, vm, vc, x, za, zm, zc, rfl, rfl, sn2, sn5, y9, x9, rg2f, rg5f, ge6, ge7, ne26, B9⟩
    case b117 =>
      go_simp
      obtain ⟨w6, hwz⟩ : ∃ wz, (X.alloc (.cells #[.int .i64 0, .int .i64 0, .int .i64 0, .int .i64 0, .string ⟨#[]⟩, .slice none 0 0, .int .i64 0, .int .i64 0, .bool false] 34)).drew = wz := ⟨_, rfl⟩
      rw [hwz]
      have hb2 : Below X.heap.size X w6 := by rw [← hwz]; exact ((Below.refl _ _).alloc (Nat.le_refl _) _).drew
      obtain ⟨b7, hb⟩ : ∃ b, X.heap.size = b := ⟨_, rfl⟩
      have bx6 : w6.heap[b7]? = some (.cells #[.int .i64 0, .int .i64 0, .int .i64 0, .int .i64 0, .string ⟨#[]⟩, .slice none 0 0, .int .i64 0, .int .i64 0, .bool false] 34) := by rw [← hwz, ← hb]; exact heap_alloc_new X _
      have ge6 : X.heap.size ≤ b7 := by rw [← hb]; exact hcur.size
      rw [hb]
      clear hwz hb
      have hcur2 : Below X.heap.size X w6 := hcur.trans (hb2.mono hcur.size)
      clear hcur hb2
      have hcur := hcur2
      clear hcur2
      clear hHeld
      refine hK.out _ _ ?hS120 (fun hHeld => ?rest120)
      case hS120 => (intro p hp; refine Below.cell (B := X.heap.size) ?_ hp; (repeat (first | with_reducible exact hcur | (with_reducible refine Below.drew ?_))))
      clear hK K
      try simp only [Act.put, List.setIfInBounds_toArray, List.set_cons_zero, List.set_cons_succ]
      refine wpAnyH_ready (rs := [2, 7]) (by kernel_rfl) (by simp) (AllReadyH.cons rfl (fun K hK => ?b84) (AllReadyH.cons rfl (fun K hK => ?b85) AllReadyH.nil))
      case b84 =>
        go_simp
        refine (HA.out _ ?_).mono ?_
        · first | exact hcur | exact hcur.drew
        rintro e2 w2 ⟨o, va, vm, vc, rfl, sn2, rg2, ad2, hb2⟩
        have ne26 : ∀ g off, va = some ⟨g, off, none⟩ → 0 < vm → g ≠ b7 := fun g off e _ => by have := ad2 g off e; have := (Array.getElem?_eq_some_iff.1 bx6).1; omega
        have bx6' := (hb2.block _ (Array.getElem?_eq_some_iff.1 bx6).1).trans bx6
        clear bx6
        have bx6 := bx6'
        clear bx6'
        have hcur2 : Below X.heap.size X w2 := hcur.trans (hb2.mono hcur.size)
        clear hcur hb2
        have hcur := hcur2
        clear hcur2
        simp only [opVal]
        clear hHeld
        refine hK.out _ _ ?hS86 (fun hHeld => ?rest86)
        case hS86 => (intro p hp; refine Below.cell (B := X.heap.size) ?_ hp; (repeat (first | with_reducible exact hcur | (with_reducible refine Below.drew ?_))))
        clear hK K
        try simp only [Act.put, List.setIfInBounds_toArray, List.set_cons_zero, List.set_cons_succ]
        refine wpAnyH_ready (rs := [5, 7]) (by kernel_rfl) (by simp) (AllReadyH.cons rfl (fun K hK => ?b72) (AllReadyH.cons rfl (fun K hK => ?b73) AllReadyH.nil))
        case b72 =>
          go_simp
          refine (HB.out _ ?_).mono ?_
          · first | exact hcur | exact hcur.drew
          rintro e2 w5 ⟨x, za, zm, zc, rfl, sn5, rg5, ad5, hb2⟩
          have ne56 : ∀ g off, za = some ⟨g, off, none⟩ → 0 < zm → g ≠ b7 := fun g off e _ => by have := ad5 g off e; have := (Array.getElem?_eq_some_iff.1 bx6).1; omega
          have bx6' := (hb2.block _ (Array.getElem?_eq_some_iff.1 bx6).1).trans bx6
          clear bx6
          have bx6 := bx6'
          clear bx6'
          have rg2' := rg2.below hb2
          clear rg2
          have rg2 := rg2'
          clear rg2'
          have hcur2 : Below X.heap.size X w5 := hcur.trans (hb2.mono hcur.size)
          clear hcur hb2
          have hcur := hcur2
          clear hcur2
          simp only [opVal]
          clear hHeld
          refine hK.out _ _ ?hS74 (fun hHeld => ?rest74)
          case hS74 => (intro p hp; refine Below.cell (B := X.heap.size) ?_ hp; (repeat (first | with_reducible exact hcur | (with_reducible refine Below.drew ?_))))
          clear hK K
          try simp only [Act.put, List.setIfInBounds_toArray, List.set_cons_zero, List.set_cons_succ]
          refine wpAnyH_ready (rs := [7]) (by kernel_rfl) (by simp) (AllReadyH.cons rfl (fun K hK => ?b64) AllReadyH.nil)
          case b64 =>
            go_simp
            obtain ⟨w7, hwz⟩ : ∃ wz, w5.alloc (.cells #[.int .i64 0, .int .i64 0, .int .i64 0, .int .i64 0, .string ⟨#[]⟩, .slice none 0 0, .int .i64 0, .int .i64 0, .bool false] 34) = wz := ⟨_, rfl⟩
            rw [hwz]
            have hb2 : Below w5.heap.size w5 w7 := by rw [← hwz]; exact ((Below.refl _ _).alloc (Nat.le_refl _) _)
            obtain ⟨b8, hb⟩ : ∃ b, w5.heap.size = b := ⟨_, rfl⟩
            have bx7 : w7.heap[b8]? = some (.cells #[.int .i64 0, .int .i64 0, .int .i64 0, .int .i64 0, .string ⟨#[]⟩, .slice none 0 0, .int .i64 0, .int .i64 0, .bool false] 34) := by rw [← hwz, ← hb]; exact heap_alloc_new w5 _
            have ge7 : X.heap.size ≤ b8 := by rw [← hb]; exact hcur.size
            have ne67 : b7 ≠ b8 := by have := (Array.getElem?_eq_some_iff.1 bx6).1; omega
            have ne27 : ∀ g off, va = some ⟨g, off, none⟩ → 0 < vm → g ≠ b8 := fun g off e h0 => by have := rng_lt rg2 h0 g off e; omega
            have ne57 : ∀ g off, za = some ⟨g, off, none⟩ → 0 < zm → g ≠ b8 := fun g off e h0 => by have := rng_lt rg5 h0 g off e; omega
            have bx6' := (hb2.block _ (Array.getElem?_eq_some_iff.1 bx6).1).trans bx6
            clear bx6
            have bx6 := bx6'
            clear bx6'
            have rg2' := rg2.below hb2
            clear rg2
            have rg2 := rg2'
            clear rg2'
            have rg5' := rg5.below hb2
            clear rg5
            have rg5 := rg5'
            clear rg5'
            rw [hb]
            clear hwz hb
            have hcur2 : Below X.heap.size X w7 := hcur.trans (hb2.mono hcur.size)
            clear hcur hb2
            have hcur := hcur2
            clear hcur2
            clear hHeld
            refine hK.out _ _ ?hS65 (fun hHeld => ?rest65)
            case hS65 => (intro p hp; refine Below.cell (B := X.heap.size) ?_ hp; (repeat (first | with_reducible exact hcur | (with_reducible refine Below.drew ?_))))
            clear hK K
            try simp only [Act.put, List.setIfInBounds_toArray, List.set_cons_zero, List.set_cons_succ]
            refine wpAnyH_ready (rs := [8]) (by kernel_rfl) (by simp) (AllReadyH.cons rfl (fun K hK => ?b62) AllReadyH.nil)
            case b62 =>
              obtain ⟨d0, d1, d2, d3, d4, d5, d6, d7, d8⟩ := box9 bx6
              obtain ⟨f0, f1, f2, f3, f4, f5, f6, f7, f8⟩ := wr9 bx6
              obtain ⟨W8, e8, x8, B8, K8⟩ := store9 bx6 hcur ge6 (.int .i64 o.c) (.int .i64 o.n) (.int .i64 o.k) (.int .i64 o.p) (.string o.s) (.slice va vm vc) (.int .i64 o.tc) (.int .i64 o.tn) (.bool o.on)
              go_simp
              try rw [e8]
              have y8 := K8.block bx7 ne67.symm
              have rg2' := K8.rng rg2 ne26
              have rg5' := K8.rng rg5 ne56
              clear d0 d1 d2 d3 d4 d5 d6 d7 d8 f0 f1 f2 f3 f4 f5 f6 f7 f8 e8
              clear hHeld
              refine hK.out _ _ ?hS63 (fun hHeld => ?rest63)
              case hS63 => (intro p hp; exact Below.cell B8 hp)
              clear hK K
              try simp only [Act.put, List.setIfInBounds_toArray, List.set_cons_zero, List.set_cons_succ]
              refine wpAnyH_ready (rs := [9]) (by kernel_rfl) (by simp) (AllReadyH.cons rfl (fun K hK => ?b60) AllReadyH.nil)
              case b60 =>
                obtain ⟨d0, d1, d2, d3, d4, d5, d6, d7, d8⟩ := box9 y8
                obtain ⟨f0, f1, f2, f3, f4, f5, f6, f7, f8⟩ := wr9 y8
                obtain ⟨W9, e9, x9, B9, K9⟩ := store9 y8 B8 ge7 (.int .i64 x.c) (.int .i64 x.n) (.int .i64 x.k) (.int .i64 x.p) (.string x.s) (.slice za zm zc) (.int .i64 x.tc) (.int .i64 x.tn) (.bool x.on)
                go_simp
                try rw [e9]
                have y9 := K9.block x8 ne67
                have rg2f := K9.rng rg2' ne27
                have rg5f := K9.rng rg5' ne57
                clear d0 d1 d2 d3 d4 d5 d6 d7 d8 f0 f1 f2 f3 f4 f5 f6 f7 f8 e9
                clear hHeld
                refine hK.out _ _ ?hS61 (fun hHeld => ?rest61)
                case hS61 => (intro p hp; exact Below.cell B9 hp)
                clear hK K
                try simp only [Act.put, List.setIfInBounds_toArray, List.set_cons_zero, List.set_cons_succ]
                refine wpAnyH_done (by kernel_rfl) ?_ _
                go_wp2_with fail
                go_meet
                case rel => exact ⟨b7, b8, o, va, vm, vc, x, za, zm, zc, rfl, rfl, sn2, sn5, y9, x9, rg2f, rg5f, ge6, ge7, ne26, B9⟩
        case b73 =>
          go_simp
          obtain ⟨w7, hwz⟩ : ∃ wz, w2.alloc (.cells #[.int .i64 0, .int .i64 0, .int .i64 0, .int .i64 0, .string ⟨#[]⟩, .slice none 0 0, .int .i64 0, .int .i64 0, .bool false] 34) = wz := ⟨_, rfl⟩
          rw [hwz]
          have hb2 : Below w2.heap.size w2 w7 := by rw [← hwz]; exact ((Below.refl _ _).alloc (Nat.le_refl _) _)
          obtain ⟨b8, hb⟩ : ∃ b, w2.heap.size = b := ⟨_, rfl⟩
          have bx7 : w7.heap[b8]? = some (.cells #[.int .i64 0, .int .i64 0, .int .i64 0, .int .i64 0, .string ⟨#[]⟩, .slice none 0 0, .int .i64 0, .int .i64 0, .bool false] 34) := by rw [← hwz, ← hb]; exact heap_alloc_new w2 _
          have ge7 : X.heap.size ≤ b8 := by rw [← hb]; exact hcur.size
          have ne67 : b7 ≠ b8 := by have := (Array.getElem?_eq_some_iff.1 bx6).1; omega
          have ne27 : ∀ g off, va = some ⟨g, off, none⟩ → 0 < vm → g ≠ b8 := fun g off e h0 => by have := rng_lt rg2 h0 g off e; omega
          have bx6' := (hb2.block _ (Array.getElem?_eq_some_iff.1 bx6).1).trans bx6
          clear bx6
          have bx6 := bx6'
          clear bx6'
          have rg2' := rg2.below hb2
          clear rg2
          have rg2 := rg2'
          clear rg2'
          rw [hb]
          clear hwz hb
          have hcur2 : Below X.heap.size X w7 := hcur.trans (hb2.mono hcur.size)
          clear hcur hb2
          have hcur := hcur2
          clear hcur2
          clear hHeld
          refine hK.out _ _ ?hS75 (fun hHeld => ?rest75)
          case hS75 => (intro p hp; refine Below.cell (B := X.heap.size) ?_ hp; (repeat (first | with_reducible exact hcur | (with_reducible refine Below.drew ?_))))
          clear hK K
          try simp only [Act.put, List.setIfInBounds_toArray, List.set_cons_zero, List.set_cons_succ]
          refine wpAnyH_ready (rs := [5]) (by kernel_rfl) (by simp) (AllReadyH.cons rfl (fun K hK => ?b70) AllReadyH.nil)
          case b70 =>
            go_simp
            refine (HB.out _ ?_).mono ?_
            · first | exact hcur | exact hcur.drew
            rintro e2 w5 ⟨x, za, zm, zc, rfl, sn5, rg5, ad5, hb2⟩
            have ne56 : ∀ g off, za = some ⟨g, off, none⟩ → 0 < zm → g ≠ b7 := fun g off e _ => by have := ad5 g off e; have := (Array.getElem?_eq_some_iff.1 bx6).1; omega
            have ne57 : ∀ g off, za = some ⟨g, off, none⟩ → 0 < zm → g ≠ b8 := fun g off e _ => by have := ad5 g off e; have := (Array.getElem?_eq_some_iff.1 bx7).1; omega
            have bx6' := (hb2.block _ (Array.getElem?_eq_some_iff.1 bx6).1).trans bx6
            clear bx6
            have bx6 := bx6'
            clear bx6'
            have rg2' := rg2.below hb2
            clear rg2
            have rg2 := rg2'
            clear rg2'
            have bx7' := (hb2.block _ (Array.getElem?_eq_some_iff.1 bx7).1).trans bx7
            clear bx7
            have bx7 := bx7'
            clear bx7'
            have hcur2 : Below X.heap.size X w5 := hcur.trans (hb2.mono hcur.size)
            clear hcur hb2
            have hcur := hcur2
            clear hcur2
            simp only [opVal]
            clear hHeld
            refine hK.out _ _ ?hS71 (fun hHeld => ?rest71)
            case hS71 => (intro p hp; refine Below.cell (B := X.heap.size) ?_ hp; (repeat (first | with_reducible exact hcur | (with_reducible refine Below.drew ?_))))
            clear hK K
            try simp only [Act.put, List.setIfInBounds_toArray, List.set_cons_zero, List.set_cons_succ]
            refine wpAnyH_ready (rs := [8]) (by kernel_rfl) (by simp) (AllReadyH.cons rfl (fun K hK => ?b68) AllReadyH.nil)
            case b68 =>
              obtain ⟨d0, d1, d2, d3, d4, d5, d6, d7, d8⟩ := box9 bx6
              obtain ⟨f0, f1, f2, f3, f4, f5, f6, f7, f8⟩ := wr9 bx6
              obtain ⟨W8, e8, x8, B8, K8⟩ := store9 bx6 hcur ge6 (.int .i64 o.c) (.int .i64 o.n) (.int .i64 o.k) (.int .i64 o.p) (.string o.s) (.slice va vm vc) (.int .i64 o.tc) (.int .i64 o.tn) (.bool o.on)
              go_simp
              try rw [e8]
              have y8 := K8.block bx7 ne67.symm
              have rg2' := K8.rng rg2 ne26
              have rg5' := K8.rng rg5 ne56
              clear d0 d1 d2 d3 d4 d5 d6 d7 d8 f0 f1 f2 f3 f4 f5 f6 f7 f8 e8
              clear hHeld
              refine hK.out _ _ ?hS69 (fun hHeld => ?rest69)
              case hS69 => (intro p hp; exact Below.cell B8 hp)
              clear hK K
              try simp only [Act.put, List.setIfInBounds_toArray, List.set_cons_zero, List.set_cons_succ]
              refine wpAnyH_ready (rs := [9]) (by kernel_rfl) (by simp) (AllReadyH.cons rfl (fun K hK => ?b66) AllReadyH.nil)
              case b66 =>
                obtain ⟨d0, d1, d2, d3, d4, d5, d6, d7, d8⟩ := box9 y8
                obtain ⟨f0, f1, f2, f3, f4, f5, f6, f7, f8⟩ := wr9 y8
                obtain ⟨W9, e9, x9, B9, K9⟩ := store9 y8 B8 ge7 (.int .i64 x.c) (.int .i64 x.n) (.int .i64 x.k) (.int .i64 x.p) (.string x.s) (.slice za zm zc) (.int .i64 x.tc) (.int .i64 x.tn) (.bool x.on)
                go_simp
                try rw [e9]
                have y9 := K9.block x8 ne67
                have rg2f := K9.rng rg2' ne27
                have rg5f := K9.rng rg5' ne57
                clear d0 d1 d2 d3 d4 d5 d6 d7 d8 f0 f1 f2 f3 f4 f5 f6 f7 f8 e9
                clear hHeld
                refine hK.out _ _ ?hS67 (fun hHeld => ?rest67)
                case hS67 => (intro p hp; exact Below.cell B9 hp)
                clear hK K
                try simp only [Act.put, List.setIfInBounds_toArray, List.set_cons_zero, List.set_cons_succ]
                refine wpAnyH_done (by kernel_rfl) ?_ _
                go_wp2_with fail
                go_meet
                case rel => exact ⟨b7, b8, o, va, vm, vc, x, za, zm, zc, rfl, rfl, sn2, sn5, y9, x9, rg2f, rg5f, ge6, ge7, ne26, B9⟩
      case b85 =>
        go_simp
        obtain ⟨w7, hwz⟩ : ∃ wz, w6.alloc (.cells #[.int .i64 0, .int .i64 0, .int .i64 0, .int .i64 0, .string ⟨#[]⟩, .slice none 0 0, .int .i64 0, .int .i64 0, .bool false] 34) = wz := ⟨_, rfl⟩
        rw [hwz]
        have hb2 : Below w6.heap.size w6 w7 := by rw [← hwz]; exact ((Below.refl _ _).alloc (Nat.le_refl _) _)
        obtain ⟨b8, hb⟩ : ∃ b, w6.heap.size = b := ⟨_, rfl⟩
        have bx7 : w7.heap[b8]? = some (.cells #[.int .i64 0, .int .i64 0, .int .i64 0, .int .i64 0, .string ⟨#[]⟩, .slice none 0 0, .int .i64 0, .int .i64 0, .bool false] 34) := by rw [← hwz, ← hb]; exact heap_alloc_new w6 _
        have ge7 : X.heap.size ≤ b8 := by rw [← hb]; exact hcur.size
        have ne67 : b7 ≠ b8 := by have := (Array.getElem?_eq_some_iff.1 bx6).1; omega
        have bx6' := (hb2.block _ (Array.getElem?_eq_some_iff.1 bx6).1).trans bx6
        clear bx6
        have bx6 := bx6'
        clear bx6'
        rw [hb]
        clear hwz hb
        have hcur2 : Below X.heap.size X w7 := hcur.trans (hb2.mono hcur.size)
        clear hcur hb2
        have hcur := hcur2
        clear hcur2
        clear hHeld
        refine hK.out _ _ ?hS87 (fun hHeld => ?rest87)
        case hS87 => (intro p hp; refine Below.cell (B := X.heap.size) ?_ hp; (repeat (first | with_reducible exact hcur | (with_reducible refine Below.drew ?_))))
        clear hK K
        try simp only [Act.put, List.setIfInBounds_toArray, List.set_cons_zero, List.set_cons_succ]
        refine wpAnyH_ready (rs := [2]) (by kernel_rfl) (by simp) (AllReadyH.cons rfl (fun K hK => ?b82) AllReadyH.nil)
        case b82 =>
          go_simp
          refine (HA.out _ ?_).mono ?_
          · first | exact hcur | exact hcur.drew
          rintro e2 w2 ⟨o, va, vm, vc, rfl, sn2, rg2, ad2, hb2⟩
          have ne26 : ∀ g off, va = some ⟨g, off, none⟩ → 0 < vm → g ≠ b7 := fun g off e _ => by have := ad2 g off e; have := (Array.getElem?_eq_some_iff.1 bx6).1; omega
          have ne27 : ∀ g off, va = some ⟨g, off, none⟩ → 0 < vm → g ≠ b8 := fun g off e _ => by have := ad2 g off e; have := (Array.getElem?_eq_some_iff.1 bx7).1; omega
          have bx6' := (hb2.block _ (Array.getElem?_eq_some_iff.1 bx6).1).trans bx6
          clear bx6
          have bx6 := bx6'
          clear bx6'
          have bx7' := (hb2.block _ (Array.getElem?_eq_some_iff.1 bx7).1).trans bx7
          clear bx7
          have bx7 := bx7'
          clear bx7'
          have hcur2 : Below X.heap.size X w2 := hcur.trans (hb2.mono hcur.size)
          clear hcur hb2
          have hcur := hcur2
          clear hcur2
          simp only [opVal]
          clear hHeld
          refine hK.out _ _ ?hS83 (fun hHeld => ?rest83)
          case hS83 => (intro p hp; refine Below.cell (B := X.heap.size) ?_ hp; (repeat (first | with_reducible exact hcur | (with_reducible refine Below.drew ?_))))
          clear hK K
          try simp only [Act.put, List.setIfInBounds_toArray, List.set_cons_zero, List.set_cons_succ]
          refine wpAnyH_ready (rs := [5]) (by kernel_rfl) (by simp) (AllReadyH.cons rfl (fun K hK => ?b80) AllReadyH.nil)
          case b80 =>
            go_simp
            refine (HB.out _ ?_).mono ?_
            · first | exact hcur | exact hcur.drew
            rintro e2 w5 ⟨x, za, zm, zc, rfl, sn5, rg5, ad5, hb2⟩
            have ne56 : ∀ g off, za = some ⟨g, off, none⟩ → 0 < zm → g ≠ b7 := fun g off e _ => by have := ad5 g off e; have := (Array.getElem?_eq_some_iff.1 bx6).1; omega
            have ne57 : ∀ g off, za = some ⟨g, off, none⟩ → 0 < zm → g ≠ b8 := fun g off e _ => by have := ad5 g off e; have := (Array.getElem?_eq_some_iff.1 bx7).1; omega
            have bx6' := (hb2.block _ (Array.getElem?_eq_some_iff.1 bx6).1).trans bx6
            clear bx6
            have bx6 := bx6'
            clear bx6'
            have bx7' := (hb2.block _ (Array.getElem?_eq_some_iff.1 bx7).1).trans bx7
            clear bx7
            have bx7 := bx7'
            clear bx7'
            have rg2' := rg2.below hb2
            clear rg2
            have rg2 := rg2'
            clear rg2'
            have hcur2 : Below X.heap.size X w5 := hcur.trans (hb2.mono hcur.size)
            clear hcur hb2
            have hcur := hcur2
            clear hcur2
            simp only [opVal]
            clear hHeld
            refine hK.out _ _ ?hS81 (fun hHeld => ?rest81)
            case hS81 => (intro p hp; refine Below.cell (B := X.heap.size) ?_ hp; (repeat (first | with_reducible exact hcur | (with_reducible refine Below.drew ?_))))
            clear hK K
            try simp only [Act.put, List.setIfInBounds_toArray, List.set_cons_zero, List.set_cons_succ]
            refine wpAnyH_ready (rs := [8]) (by kernel_rfl) (by simp) (AllReadyH.cons rfl (fun K hK => ?b78) AllReadyH.nil)
            case b78 =>
              obtain ⟨d0, d1, d2, d3, d4, d5, d6, d7, d8⟩ := box9 bx6
              obtain ⟨f0, f1, f2, f3, f4, f5, f6, f7, f8⟩ := wr9 bx6
              obtain ⟨W8, e8, x8, B8, K8⟩ := store9 bx6 hcur ge6 (.int .i64 o.c) (.int .i64 o.n) (.int .i64 o.k) (.int .i64 o.p) (.string o.s) (.slice va vm vc) (.int .i64 o.tc) (.int .i64 o.tn) (.bool o.on)
              go_simp
              try rw [e8]
              have y8 := K8.block bx7 ne67.symm
              have rg2' := K8.rng rg2 ne26
              have rg5' := K8.rng rg5 ne56
              clear d0 d1 d2 d3 d4 d5 d6 d7 d8 f0 f1 f2 f3 f4 f5 f6 f7 f8 e8
              clear hHeld
              refine hK.out _ _ ?hS79 (fun hHeld => ?rest79)
              case hS79 => (intro p hp; exact Below.cell B8 hp)
              clear hK K
              try simp only [Act.put, List.setIfInBounds_toArray, List.set_cons_zero, List.set_cons_succ]
              refine wpAnyH_ready (rs := [9]) (by kernel_rfl) (by simp) (AllReadyH.cons rfl (fun K hK => ?b76) AllReadyH.nil)
              case b76 =>
                obtain ⟨d0, d1, d2, d3, d4, d5, d6, d7, d8⟩ := box9 y8
                obtain ⟨f0, f1, f2, f3, f4, f5, f6, f7, f8⟩ := wr9 y8
                obtain ⟨W9, e9, x9, B9, K9⟩ := store9 y8 B8 ge7 (.int .i64 x.c) (.int .i64 x.n) (.int .i64 x.k) (.int .i64 x.p) (.string x.s) (.slice za zm zc) (.int .i64 x.tc) (.int .i64 x.tn) (.bool x.on)
                go_simp
                try rw [e9]
                have y9 := K9.block x8 ne67
                have rg2f := K9.rng rg2' ne27
                have rg5f := K9.rng rg5' ne57
                clear d0 d1 d2 d3 d4 d5 d6 d7 d8 f0 f1 f2 f3 f4 f5 f6 f7 f8 e9
                clear hHeld
                refine hK.out _ _ ?hS77 (fun hHeld => ?rest77)
                case hS77 => (intro p hp; exact Below.cell B9 hp)
                clear hK K
                try simp only [Act.put, List.setIfInBounds_toArray, List.set_cons_zero, List.set_cons_succ]
                refine wpAnyH_done (by kernel_rfl) ?_ _
                go_wp2_with fail
                go_meet
                case rel => exact ⟨b7, b8, o, va, vm, vc, x, za, zm, zc, rfl, rfl, sn2, sn5, y9, x9, rg2f, rg5f, ge6, ge7, ne26, B9⟩
    case b118 =>
      go_simp
      obtain ⟨w7, hwz⟩ : ∃ wz, (X.alloc (.cells #[.int .i64 0, .int .i64 0, .int .i64 0, .int .i64 0, .string ⟨#[]⟩, .slice none 0 0, .int .i64 0, .int .i64 0, .bool false] 34)).drew = wz := ⟨_, rfl⟩
      rw [hwz]
      have hb2 : Below X.heap.size X w7 := by rw [← hwz]; exact ((Below.refl _ _).alloc (Nat.le_refl _) _).drew
      obtain ⟨b8, hb⟩ : ∃ b, X.heap.size = b := ⟨_, rfl⟩
      have bx7 : w7.heap[b8]? = some (.cells #[.int .i64 0, .int .i64 0, .int .i64 0, .int .i64 0, .string ⟨#[]⟩, .slice none 0 0, .int .i64 0, .int .i64 0, .bool false] 34) := by rw [← hwz, ← hb]; exact heap_alloc_new X _
      have ge7 : X.heap.size ≤ b8 := by rw [← hb]; exact hcur.size
      rw [hb]
      clear hwz hb
      have hcur2 : Below X.heap.size X w7 := hcur.trans (hb2.mono hcur.size)
      clear hcur hb2
      have hcur := hcur2
      clear hcur2
      clear hHeld
      refine hK.out _ _ ?hS121 (fun hHeld => ?rest121)
      case hS121 => (intro p hp; refine Below.cell (B := X.heap.size) ?_ hp; (repeat (first | with_reducible exact hcur | (with_reducible refine Below.drew ?_))))
      clear hK K
      try simp only [Act.put, List.setIfInBounds_toArray, List.set_cons_zero, List.set_cons_succ]
      refine wpAnyH_ready (rs := [2, 6]) (by kernel_rfl) (by simp) (AllReadyH.cons rfl (fun K hK => ?b112) (AllReadyH.cons rfl (fun K hK => ?b113) AllReadyH.nil))
      case b112 =>
        go_simp
        refine (HA.out _ ?_).mono ?_
        · first | exact hcur | exact hcur.drew
        rintro e2 w2 ⟨o, va, vm, vc, rfl, sn2, rg2, ad2, hb2⟩
        have ne27 : ∀ g off, va = some ⟨g, off, none⟩ → 0 < vm → g ≠ b8 := fun g off e _ => by have := ad2 g off e; have := (Array.getElem?_eq_some_iff.1 bx7).1; omega
        have bx7' := (hb2.block _ (Array.getElem?_eq_some_iff.1 bx7).1).trans bx7
        clear bx7
        have bx7 := bx7'
        clear bx7'
        have hcur2 : Below X.heap.size X w2 := hcur.trans (hb2.mono hcur.size)
        clear hcur hb2
        have hcur := hcur2
        clear hcur2
        simp only [opVal]
        clear hHeld
        refine hK.out _ _ ?hS114 (fun hHeld => ?rest114)
        case hS114 => (intro p hp; refine Below.cell (B := X.heap.size) ?_ hp; (repeat (first | with_reducible exact hcur | (with_reducible refine Below.drew ?_))))
        clear hK K
        try simp only [Act.put, List.setIfInBounds_toArray, List.set_cons_zero, List.set_cons_succ]
        refine wpAnyH_ready (rs := [5, 6]) (by kernel_rfl) (by simp) (AllReadyH.cons rfl (fun K hK => ?b100) (AllReadyH.cons rfl (fun K hK => ?b101) AllReadyH.nil))
        case b100 =>
          go_simp
          refine (HB.out _ ?_).mono ?_
          · first | exact hcur | exact hcur.drew
          rintro e2 w5 ⟨x, za, zm, zc, rfl, sn5, rg5, ad5, hb2⟩
          have ne57 : ∀ g off, za = some ⟨g, off, none⟩ → 0 < zm → g ≠ b8 := fun g off e _ => by have := ad5 g off e; have := (Array.getElem?_eq_some_iff.1 bx7).1; omega
          have bx7' := (hb2.block _ (Array.getElem?_eq_some_iff.1 bx7).1).trans bx7
          clear bx7
          have bx7 := bx7'
          clear bx7'
          have rg2' := rg2.below hb2
          clear rg2
          have rg2 := rg2'
          clear rg2'
          have hcur2 : Below X.heap.size X w5 := hcur.trans (hb2.mono hcur.size)
          clear hcur hb2
          have hcur := hcur2
          clear hcur2
          simp only [opVal]
          clear hHeld
          refine hK.out _ _ ?hS102 (fun hHeld => ?rest102)
          case hS102 => (intro p hp; refine Below.cell (B := X.heap.size) ?_ hp; (repeat (first | with_reducible exact hcur | (with_reducible refine Below.drew ?_))))
          clear hK K
          try simp only [Act.put, List.setIfInBounds_toArray, List.set_cons_zero, List.set_cons_succ]
          refine wpAnyH_ready (rs := [6]) (by kernel_rfl) (by simp) (AllReadyH.cons rfl (fun K hK => ?b92) AllReadyH.nil)
          case b92 =>
            go_simp
            obtain ⟨w6, hwz⟩ : ∃ wz, w5.alloc (.cells #[.int .i64 0, .int .i64 0, .int .i64 0, .int .i64 0, .string ⟨#[]⟩, .slice none 0 0, .int .i64 0, .int .i64 0, .bool false] 34) = wz := ⟨_, rfl⟩
            rw [hwz]
            have hb2 : Below w5.heap.size w5 w6 := by rw [← hwz]; exact ((Below.refl _ _).alloc (Nat.le_refl _) _)
            obtain ⟨b7, hb⟩ : ∃ b, w5.heap.size = b := ⟨_, rfl⟩
            have bx6 : w6.heap[b7]? = some (.cells #[.int .i64 0, .int .i64 0, .int .i64 0, .int .i64 0, .string ⟨#[]⟩, .slice none 0 0, .int .i64 0, .int .i64 0, .bool false] 34) := by rw [← hwz, ← hb]; exact heap_alloc_new w5 _
            have ge6 : X.heap.size ≤ b7 := by rw [← hb]; exact hcur.size
            have ne67 : b7 ≠ b8 := by have := (Array.getElem?_eq_some_iff.1 bx7).1; omega
            have ne26 : ∀ g off, va = some ⟨g, off, none⟩ → 0 < vm → g ≠ b7 := fun g off e h0 => by have := rng_lt rg2 h0 g off e; omega
            have ne56 : ∀ g off, za = some ⟨g, off, none⟩ → 0 < zm → g ≠ b7 := fun g off e h0 => by have := rng_lt rg5 h0 g off e; omega
            have bx7' := (hb2.block _ (Array.getElem?_eq_some_iff.1 bx7).1).trans bx7
            clear bx7
            have bx7 := bx7'
            clear bx7'
            have rg2' := rg2.below hb2
            clear rg2
            have rg2 := rg2'
            clear rg2'
            have rg5' := rg5.below hb2
            clear rg5
            have rg5 := rg5'
            clear rg5'
            rw [hb]
            clear hwz hb
            have hcur2 : Below X.heap.size X w6 := hcur.trans (hb2.mono hcur.size)
            clear hcur hb2
            have hcur := hcur2
            clear hcur2
            clear hHeld
            refine hK.out _ _ ?hS93 (fun hHeld => ?rest93)
            case hS93 => (intro p hp; refine Below.cell (B := X.heap.size) ?_ hp; (repeat (first | with_reducible exact hcur | (with_reducible refine Below.drew ?_))))
            clear hK K
            try simp only [Act.put, List.setIfInBounds_toArray, List.set_cons_zero, List.set_cons_succ]
            refine wpAnyH_ready (rs := [8]) (by kernel_rfl) (by simp) (AllReadyH.cons rfl (fun K hK => ?b90) AllReadyH.nil)
            case b90 =>
              obtain ⟨d0, d1, d2, d3, d4, d5, d6, d7, d8⟩ := box9 bx6
              obtain ⟨f0, f1, f2, f3, f4, f5, f6, f7, f8⟩ := wr9 bx6
              obtain ⟨W8, e8, x8, B8, K8⟩ := store9 bx6 hcur ge6 (.int .i64 o.c) (.int .i64 o.n) (.int .i64 o.k) (.int .i64 o.p) (.string o.s) (.slice va vm vc) (.int .i64 o.tc) (.int .i64 o.tn) (.bool o.on)
              go_simp
              try rw [e8]
              have y8 := K8.block bx7 ne67.symm
              have rg2' := K8.rng rg2 ne26
              have rg5' := K8.rng rg5 ne56
              clear d0 d1 d2 d3 d4 d5 d6 d7 d8 f0 f1 f2 f3 f4 f5 f6 f7 f8 e8
              clear hHeld
              refine hK.out _ _ ?hS91 (fun hHeld => ?rest91)
              case hS91 => (intro p hp; exact Below.cell B8 hp)
              clear hK K
              try simp only [Act.put, List.setIfInBounds_toArray, List.set_cons_zero, List.set_cons_succ]
              refine wpAnyH_ready (rs := [9]) (by kernel_rfl) (by simp) (AllReadyH.cons rfl (fun K hK => ?b88) AllReadyH.nil)
              case b88 =>
                obtain ⟨d0, d1, d2, d3, d4, d5, d6, d7, d8⟩ := box9 y8
                obtain ⟨f0, f1, f2, f3, f4, f5, f6, f7, f8⟩ := wr9 y8
                obtain ⟨W9, e9, x9, B9, K9⟩ := store9 y8 B8 ge7 (.int .i64 x.c) (.int .i64 x.n) (.int .i64 x.k) (.int .i64 x.p) (.string x.s) (.slice za zm zc) (.int .i64 x.tc) (.int .i64 x.tn) (.bool x.on)
                go_simp
                try rw [e9]
                have y9 := K9.block x8 ne67
                have rg2f := K9.rng rg2' ne27
                have rg5f := K9.rng rg5' ne57
                clear d0 d1 d2 d3 d4 d5 d6 d7 d8 f0 f1 f2 f3 f4 f5 f6 f7 f8 e9
                clear hHeld
                refine hK.out _ _ ?hS89 (fun hHeld => ?rest89)
                case hS89 => (intro p hp; exact Below.cell B9 hp)
                clear hK K
                try simp only [Act.put, List.setIfInBounds_toArray, List.set_cons_zero, List.set_cons_succ]
                refine wpAnyH_done (by kernel_rfl) ?_ _
                go_wp2_with fail
                go_meet
                case rel => exact ⟨b7, b8, o, va, vm, vc, x, za, zm, zc, rfl, rfl, sn2, sn5, y9, x9, rg2f, rg5f, ge6, ge7, ne26, B9⟩
        case b101 =>
          go_simp
          obtain ⟨w6, hwz⟩ : ∃ wz, w2.alloc (.cells #[.int .i64 0, .int .i64 0, .int .i64 0, .int .i64 0, .string ⟨#[]⟩, .slice none 0 0, .int .i64 0, .int .i64 0, .bool false] 34) = wz := ⟨_, rfl⟩
          rw [hwz]
          have hb2 : Below w2.heap.size w2 w6 := by rw [← hwz]; exact ((Below.refl _ _).alloc (Nat.le_refl _) _)
          obtain ⟨b7, hb⟩ : ∃ b, w2.heap.size = b := ⟨_, rfl⟩
          have bx6 : w6.heap[b7]? = some (.cells #[.int .i64 0, .int .i64 0, .int .i64 0, .int .i64 0, .string ⟨#[]⟩, .slice none 0 0, .int .i64 0, .int .i64 0, .bool false] 34) := by rw [← hwz, ← hb]; exact heap_alloc_new w2 _
          have ge6 : X.heap.size ≤ b7 := by rw [← hb]; exact hcur.size
          have ne67 : b7 ≠ b8 := by have := (Array.getElem?_eq_some_iff.1 bx7).1; omega
          have ne26 : ∀ g off, va = some ⟨g, off, none⟩ → 0 < vm → g ≠ b7 := fun g off e h0 => by have := rng_lt rg2 h0 g off e; omega
          have bx7' := (hb2.block _ (Array.getElem?_eq_some_iff.1 bx7).1).trans bx7
          clear bx7
          have bx7 := bx7'
          clear bx7'
          have rg2' := rg2.below hb2
          clear rg2
          have rg2 := rg2'
          clear rg2'
          rw [hb]
          clear hwz hb
          have hcur2 : Below X.heap.size X w6 := hcur.trans (hb2.mono hcur.size)
          clear hcur hb2
          have hcur := hcur2
          clear hcur2
          clear hHeld
          refine hK.out _ _ ?hS103 (fun hHeld => ?rest103)
          case hS103 => (intro p hp; refine Below.cell (B := X.heap.size) ?_ hp; (repeat (first | with_reducible exact hcur | (with_reducible refine Below.drew ?_))))
          clear hK K
          try simp only [Act.put, List.setIfInBounds_toArray, List.set_cons_zero, List.set_cons_succ]
          refine wpAnyH_ready (rs := [5]) (by kernel_rfl) (by simp) (AllReadyH.cons rfl (fun K hK => ?b98) AllReadyH.nil)
          case b98 =>
            go_simp
            refine (HB.out _ ?_).mono ?_
            · first | exact hcur | exact hcur.drew
            rintro e2 w5 ⟨x, za, zm, zc, rfl, sn5, rg5, ad5, hb2⟩
            have ne57 : ∀ g off, za = some ⟨g, off, none⟩ → 0 < zm → g ≠ b8 := fun g off e _ => by have := ad5 g off e; have := (Array.getElem?_eq_some_iff.1 bx7).1; omega
            have ne56 : ∀ g off, za = some ⟨g, off, none⟩ → 0 < zm → g ≠ b7 := fun g off e _ => by have := ad5 g off e; have := (Array.getElem?_eq_some_iff.1 bx6).1; omega
            have bx7' := (hb2.block _ (Array.getElem?_eq_some_iff.1 bx7).1).trans bx7
            clear bx7
            have bx7 := bx7'
            clear bx7'
            have rg2' := rg2.below hb2
            clear rg2
            have rg2 := rg2'
            clear rg2'
            have bx6' := (hb2.block _ (Array.getElem?_eq_some_iff.1 bx6).1).trans bx6
            clear bx6
            have bx6 := bx6'
            clear bx6'
            have hcur2 : Below X.heap.size X w5 := hcur.trans (hb2.mono hcur.size)
            clear hcur hb2
            have hcur := hcur2
            clear hcur2
            simp only [opVal]
            clear hHeld
            refine hK.out _ _ ?hS99 (fun hHeld => ?rest99)
            case hS99 => (intro p hp; refine Below.cell (B := X.heap.size) ?_ hp; (repeat (first | with_reducible exact hcur | (with_reducible refine Below.drew ?_))))
            clear hK K
            try simp only [Act.put, List.setIfInBounds_toArray, List.set_cons_zero, List.set_cons_succ]
            refine wpAnyH_ready (rs := [8]) (by kernel_rfl) (by simp) (AllReadyH.cons rfl (fun K hK => ?b96) AllReadyH.nil)
            case b96 =>
              obtain ⟨d0, d1, d2, d3, d4, d5, d6, d7, d8⟩ := box9 bx6
              obtain ⟨f0, f1, f2, f3, f4, f5, f6, f7, f8⟩ := wr9 bx6
              obtain ⟨W8, e8, x8, B8, K8⟩ := store9 bx6 hcur ge6 (.int .i64 o.c) (.int .i64 o.n) (.int .i64 o.k) (.int .i64 o.p) (.string o.s) (.slice va vm vc) (.int .i64 o.tc) (.int .i64 o.tn) (.bool o.on)
              go_simp
              try rw [e8]
              have y8 := K8.block bx7 ne67.symm
              have rg2' := K8.rng rg2 ne26
              have rg5' := K8.rng rg5 ne56
              clear d0 d1 d2 d3 d4 d5 d6 d7 d8 f0 f1 f2 f3 f4 f5 f6 f7 f8 e8
              clear hHeld
              refine hK.out _ _ ?hS97 (fun hHeld => ?rest97)
              case hS97 => (intro p hp; exact Below.cell B8 hp)
              clear hK K
              try simp only [Act.put, List.setIfInBounds_toArray, List.set_cons_zero, List.set_cons_succ]
              refine wpAnyH_ready (rs := [9]) (by kernel_rfl) (by simp) (AllReadyH.cons rfl (fun K hK => ?b94) AllReadyH.nil)
              case b94 =>
                obtain ⟨d0, d1, d2, d3, d4, d5, d6, d7, d8⟩ := box9 y8
                obtain ⟨f0, f1, f2, f3, f4, f5, f6, f7, f8⟩ := wr9 y8
                obtain ⟨W9, e9, x9, B9, K9⟩ := store9 y8 B8 ge7 (.int .i64 x.c) (.int .i64 x.n) (.int .i64 x.k) (.int .i64 x.p) (.string x.s) (.slice za zm zc) (.int .i64 x.tc) (.int .i64 x.tn) (.bool x.on)
                go_simp
                try rw [e9]
                have y9 := K9.block x8 ne67
                have rg2f := K9.rng rg2' ne27
                have rg5f := K9.rng rg5' ne57
                clear d0 d1 d2 d3 d4 d5 d6 d7 d8 f0 f1 f2 f3 f4 f5 f6 f7 f8 e9
                clear hHeld
                refine hK.out _ _ ?hS95 (fun hHeld => ?rest95)
                case hS95 => (intro p hp; exact Below.cell B9 hp)
                clear hK K
                try simp only [Act.put, List.setIfInBounds_toArray, List.set_cons_zero, List.set_cons_succ]
                refine wpAnyH_done (by kernel_rfl) ?_ _
                go_wp2_with fail
                go_meet
                case rel => exact ⟨b7, b8, o, va, vm, vc, x, za, zm, zc, rfl, rfl, sn2, sn5, y9, x9, rg2f, rg5f, ge6, ge7, ne26, B9⟩
      case b113 =>
        go_simp
        obtain ⟨w6, hwz⟩ : ∃ wz, w7.alloc (.cells #[.int .i64 0, .int .i64 0, .int .i64 0, .int .i64 0, .string ⟨#[]⟩, .slice none 0 0, .int .i64 0, .int .i64 0, .bool false] 34) = wz := ⟨_, rfl⟩
        rw [hwz]
        have hb2 : Below w7.heap.size w7 w6 := by rw [← hwz]; exact ((Below.refl _ _).alloc (Nat.le_refl _) _)
        obtain ⟨b7, hb⟩ : ∃ b, w7.heap.size = b := ⟨_, rfl⟩
        have bx6 : w6.heap[b7]? = some (.cells #[.int .i64 0, .int .i64 0, .int .i64 0, .int .i64 0, .string ⟨#[]⟩, .slice none 0 0, .int .i64 0, .int .i64 0, .bool false] 34) := by rw [← hwz, ← hb]; exact heap_alloc_new w7 _
        have ge6 : X.heap.size ≤ b7 := by rw [← hb]; exact hcur.size
        have ne67 : b7 ≠ b8 := by have := (Array.getElem?_eq_some_iff.1 bx7).1; omega
        have bx7' := (hb2.block _ (Array.getElem?_eq_some_iff.1 bx7).1).trans bx7
        clear bx7
        have bx7 := bx7'
        clear bx7'
        rw [hb]
        clear hwz hb
        have hcur2 : Below X.heap.size X w6 := hcur.trans (hb2.mono hcur.size)
        clear hcur hb2
        have hcur := hcur2
        clear hcur2
        clear hHeld
        refine hK.out _ _ ?hS115 (fun hHeld => ?rest115)
        case hS115 => (intro p hp; refine Below.cell (B := X.heap.size) ?_ hp; (repeat (first | with_reducible exact hcur | (with_reducible refine Below.drew ?_))))
        clear hK K
        try simp only [Act.put, List.setIfInBounds_toArray, List.set_cons_zero, List.set_cons_succ]
        refine wpAnyH_ready (rs := [2]) (by kernel_rfl) (by simp) (AllReadyH.cons rfl (fun K hK => ?b110) AllReadyH.nil)
        case b110 =>
          go_simp
          refine (HA.out _ ?_).mono ?_
          · first | exact hcur | exact hcur.drew
          rintro e2 w2 ⟨o, va, vm, vc, rfl, sn2, rg2, ad2, hb2⟩
          have ne27 : ∀ g off, va = some ⟨g, off, none⟩ → 0 < vm → g ≠ b8 := fun g off e _ => by have := ad2 g off e; have := (Array.getElem?_eq_some_iff.1 bx7).1; omega
          have ne26 : ∀ g off, va = some ⟨g, off, none⟩ → 0 < vm → g ≠ b7 := fun g off e _ => by have := ad2 g off e; have := (Array.getElem?_eq_some_iff.1 bx6).1; omega
          have bx7' := (hb2.block _ (Array.getElem?_eq_some_iff.1 bx7).1).trans bx7
          clear bx7
          have bx7 := bx7'
          clear bx7'
          have bx6' := (hb2.block _ (Array.getElem?_eq_some_iff.1 bx6).1).trans bx6
          clear bx6
          have bx6 := bx6'
          clear bx6'
          have hcur2 : Below X.heap.size X w2 := hcur.trans (hb2.mono hcur.size)
          clear hcur hb2
          have hcur := hcur2
          clear hcur2
          simp only [opVal]
          clear hHeld
          refine hK.out _ _ ?hS111 (fun hHeld => ?rest111)
          case hS111 => (intro p hp; refine Below.cell (B := X.heap.size) ?_ hp; (repeat (first | with_reducible exact hcur | (with_reducible refine Below.drew ?_))))
          clear hK K
          try simp only [Act.put, List.setIfInBounds_toArray, List.set_cons_zero, List.set_cons_succ]
          refine wpAnyH_ready (rs := [5]) (by kernel_rfl) (by simp) (AllReadyH.cons rfl (fun K hK => ?b108) AllReadyH.nil)
          case b108 =>
            go_simp
            refine (HB.out _ ?_).mono ?_
            · first | exact hcur | exact hcur.drew
            rintro e2 w5 ⟨x, za, zm, zc, rfl, sn5, rg5, ad5, hb2⟩
            have ne57 : ∀ g off, za = some ⟨g, off, none⟩ → 0 < zm → g ≠ b8 := fun g off e _ => by have := ad5 g off e; have := (Array.getElem?_eq_some_iff.1 bx7).1; omega
            have ne56 : ∀ g off, za = some ⟨g, off, none⟩ → 0 < zm → g ≠ b7 := fun g off e _ => by have := ad5 g off e; have := (Array.getElem?_eq_some_iff.1 bx6).1; omega
            have bx7' := (hb2.block _ (Array.getElem?_eq_some_iff.1 bx7).1).trans bx7
            clear bx7
            have bx7 := bx7'
            clear bx7'
            have bx6' := (hb2.block _ (Array.getElem?_eq_some_iff.1 bx6).1).trans bx6
            clear bx6
            have bx6 := bx6'
            clear bx6'
            have rg2' := rg2.below hb2
            clear rg2
            have rg2 := rg2'
            clear rg2'
            have hcur2 : Below X.heap.size X w5 := hcur.trans (hb2.mono hcur.size)
            clear hcur hb2
            have hcur := hcur2
            clear hcur2
            simp only [opVal]
            clear hHeld
            refine hK.out _ _ ?hS109 (fun hHeld => ?rest109)
            case hS109 => (intro p hp; refine Below.cell (B := X.heap.size) ?_ hp; (repeat (first | with_reducible exact hcur | (with_reducible refine Below.drew ?_))))
            clear hK K
            try simp only [Act.put, List.setIfInBounds_toArray, List.set_cons_zero, List.set_cons_succ]
            refine wpAnyH_ready (rs := [8]) (by kernel_rfl) (by simp) (AllReadyH.cons rfl (fun K hK => ?b106) AllReadyH.nil)
            case b106 =>
              obtain ⟨d0, d1, d2, d3, d4, d5, d6, d7, d8⟩ := box9 bx6
              obtain ⟨f0, f1, f2, f3, f4, f5, f6, f7, f8⟩ := wr9 bx6
              obtain ⟨W8, e8, x8, B8, K8⟩ := store9 bx6 hcur ge6 (.int .i64 o.c) (.int .i64 o.n) (.int .i64 o.k) (.int .i64 o.p) (.string o.s) (.slice va vm vc) (.int .i64 o.tc) (.int .i64 o.tn) (.bool o.on)
              go_simp
              try rw [e8]
              have y8 := K8.block bx7 ne67.symm
              have rg2' := K8.rng rg2 ne26
              have rg5' := K8.rng rg5 ne56
              clear d0 d1 d2 d3 d4 d5 d6 d7 d8 f0 f1 f2 f3 f4 f5 f6 f7 f8 e8
              clear hHeld
              refine hK.out _ _ ?hS107 (fun hHeld => ?rest107)
              case hS107 => (intro p hp; exact Below.cell B8 hp)
              clear hK K
              try simp only [Act.put, List.setIfInBounds_toArray, List.set_cons_zero, List.set_cons_succ]
              refine wpAnyH_ready (rs := [9]) (by kernel_rfl) (by simp) (AllReadyH.cons rfl (fun K hK => ?b104) AllReadyH.nil)
              case b104 =>
                obtain ⟨d0, d1, d2, d3, d4, d5, d6, d7, d8⟩ := box9 y8
                obtain ⟨f0, f1, f2, f3, f4, f5, f6, f7, f8⟩ := wr9 y8
                obtain ⟨W9, e9, x9, B9, K9⟩ := store9 y8 B8 ge7 (.int .i64 x.c) (.int .i64 x.n) (.int .i64 x.k) (.int .i64 x.p) (.string x.s) (.slice za zm zc) (.int .i64 x.tc) (.int .i64 x.tn) (.bool x.on)
                go_simp
                try rw [e9]
                have y9 := K9.block x8 ne67
                have rg2f := K9.rng rg2' ne27
                have rg5f := K9.rng rg5' ne57
                clear d0 d1 d2 d3 d4 d5 d6 d7 d8 f0 f1 f2 f3 f4 f5 f6 f7 f8 e9
                clear hHeld
                refine hK.out _ _ ?hS105 (fun hHeld => ?rest105)
                case hS105 => (intro p hp; exact Below.cell B9 hp)
                clear hK K
                try simp only [Act.put, List.setIfInBounds_toArray, List.set_cons_zero, List.set_cons_succ]
                refine wpAnyH_done (by kernel_rfl) ?_ _
                go_wp2_with fail
                go_meet
                case rel => exact ⟨b7, b8, o, va, vm, vc, x, za, zm, zc, rfl, rfl, sn2, sn5, y9, x9, rg2f, rg5f, ge6, ge7, ne26, B9⟩
  case rest =>
    obtain ⟨X3, rfl⟩ : ∃ x, x = wc := ⟨_, rfl⟩
    obtain ⟨b7, b8, o, va, vm, vc, x, za, zm, zc, rfl, rfl, sno, snx, hbo, hbx, rgo, rgx, ge7, ge8, ne7, hBX⟩ := hcut
    have hB3 : Below w.heap.size w X3 := hB0.trans (hBX.mono hB0.size)
    clear a0 a1 a2 a3 q0 q1 q2 q3 hcur HA HB hBX hB0 la lb
    obtain ⟨q, hq⟩ : ∃ q, eqP o x = q := ⟨_, rfl⟩
    have hqs : ((bs (printP o)).toList == (bs (printP x)).toList) = q := by
      by_cases e : o = x
      · subst e; rw [← hq, eqP_self]; exact beq_self_eq_true _
      · rw [← hq, eqP_ne e]; exact beq_eq_false_iff_ne.2 fun h => e (print_inj sno.own snx.own (toList_inj h))
    have HP1 : Hid (∀ W : World, Below X3.heap.size X3 W → Calls Tryd.prog 6 #[.agg #[.int .i64 o.c, .int .i64 o.n, .int .i64 o.k, .int .i64 o.p, .string o.s, .slice va vm vc, .int .i64 o.tc, .int .i64 o.tn, .bool o.on]] W fun e w' => e = .returned (.tuple #[.string (bs (printP o)), .int .i64 0]) ∧ Below W.heap.size W w') := fun W h => have h' := hB3.trans (h.mono hB3.size); print_right (o := o) (rgo.below h) sno.own (by have := sno.size; omega) (HW.out.1.below h') (HW.out.2.1.below h') (HW.out.2.2.below h')
    have HP2 : Hid (∀ W : World, Below X3.heap.size X3 W → Calls Tryd.prog 6 #[.agg #[.int .i64 x.c, .int .i64 x.n, .int .i64 x.k, .int .i64 x.p, .string x.s, .slice za zm zc, .int .i64 x.tc, .int .i64 x.tn, .bool x.on]] W fun e w' => e = .returned (.tuple #[.string (bs (printP x)), .int .i64 0]) ∧ Below W.heap.size W w') := fun W h => have h' := hB3.trans (h.mono hB3.size); print_right (o := x) (rgx.below h) snx.own (by have := snx.size; omega) (HW.out.1.below h') (HW.out.2.1.below h') (HW.out.2.2.below h')
    have HE : Hid (∀ W : World, Below X3.heap.size X3 W → Calls Tryd.prog 7 #[.agg #[.int .i64 o.c, .int .i64 o.n, .int .i64 o.k, .int .i64 o.p, .string o.s, .slice va vm vc, .int .i64 o.tc, .int .i64 o.tn, .bool o.on], .agg #[.int .i64 x.c, .int .i64 x.n, .int .i64 x.k, .int .i64 x.p, .string x.s, .slice za zm zc, .int .i64 x.tc, .int .i64 x.tn, .bool x.on]] W fun e w' => e = .returned (.bool q) ∧ Below W.heap.size W w') := fun W h => hq ▸ opEqual_any (o := o) (x := x) (rgo.below h) (rgx.below h)
    have HC : Hid (∀ W : World, Below X3.heap.size X3 W → Calls Tryd.prog 8 #[.agg #[.int .i64 o.c, .int .i64 o.n, .int .i64 o.k, .int .i64 o.p, .string o.s, .slice va vm vc, .int .i64 o.tc, .int .i64 o.tn, .bool o.on]] W fun e w' => ∃ a' cap', e = .returned (.agg #[.int .i64 o.c, .int .i64 o.n, .int .i64 o.k, .int .i64 o.p, .string o.s, .slice a' vm cap', .int .i64 o.tc, .int .i64 o.tn, .bool o.on]) ∧ OwnF rangeV 2 42 w' (W.heap.size + 2) (.slice a' vm cap') o.l ∧ Below W.heap.size W w') := fun W h => opClone_any (o := o) (rgo.below h) (by have := rgo.len; have := sno.few; omega) (by have := sno.size; omega)
    have HQ : Hid (∀ (y : OpV) (a : Option Addr) (m c : Nat) (W : World), Below X3.heap.size X3 W → Rng W a m c y.l → Calls Tryd.prog 7 #[.agg #[.int .i64 o.c, .int .i64 o.n, .int .i64 o.k, .int .i64 o.p, .string o.s, .slice va vm vc, .int .i64 o.tc, .int .i64 o.tn, .bool o.on], .agg #[.int .i64 y.c, .int .i64 y.n, .int .i64 y.k, .int .i64 y.p, .string y.s, .slice a m c, .int .i64 y.tc, .int .i64 y.tn, .bool y.on]] W fun e w' => e = .returned (.bool (eqP o y)) ∧ Below W.heap.size W w') := fun y a m c W h hr => opEqual_any (o := o) (x := y) (rgo.below h) hr
    have HR : Hid (∀ (y : OpV) (a : Option Addr) (m c : Nat) (W : World), Below X3.heap.size X3 W → Rng W a m c y.l → Calls Tryd.prog 7 #[.agg #[.int .i64 y.c, .int .i64 y.n, .int .i64 y.k, .int .i64 y.p, .string y.s, .slice a m c, .int .i64 y.tc, .int .i64 y.tn, .bool y.on], .agg #[.int .i64 o.c, .int .i64 o.n, .int .i64 o.k, .int .i64 o.p, .string o.s, .slice va vm vc, .int .i64 o.tc, .int .i64 o.tn, .bool o.on]] W fun e w' => e = .returned (.bool (eqP y o)) ∧ Below W.heap.size W w') := fun y a m c W h hr => opEqual_any (o := y) (x := o) hr (rgo.below h)
    have hlo := (Array.getElem?_eq_some_iff.1 hbo).1
    have hlx := (Array.getElem?_eq_some_iff.1 hbx).1
    obtain ⟨o0, o1, o2, o3, o4, o5, o6, o7, o8⟩ := box9 hbo
    go_wp2_with fail
    refine (HP1.out _ (Below.refl _ _)).mono ?_
    rintro e w4 ⟨rfl, hb4⟩
    clear o0 o1 o2 o3 o4 o5 o6 o7 o8
    obtain ⟨x0, x1, x2, x3, x4, x5, x6, x7, x8⟩ := box9 ((hb4.block _ hlx).trans hbx)
    go_wp2_with fail
    refine (HP2.out _ hb4).mono ?_
    rintro e X5 ⟨rfl, hb5⟩
    have hB5 : Below X3.heap.size X3 X5 := hb4.trans (hb5.mono hb4.size)
    clear x0 x1 x2 x3 x4 x5 x6 x7 x8 HP1 HP2 hb4 hb5
    generalize bs (printP o) = S1 at *
    generalize bs (printP x) = S2 at *
    obtain ⟨x0, x1, x2, x3, x4, x5, x6, x7, x8⟩ := box9 ((hB5.block _ hlx).trans hbx)
    have hbo5 := (hB5.block _ hlo).trans hbo
    obtain ⟨o0, o1, o2, o3, o4, o5, o6, o7, o8⟩ := box9 hbo5
    have hlo5 := (Array.getElem?_eq_some_iff.1 hbo5).1
    have hlx5 : b8 < X5.heap.size := Nat.lt_of_lt_of_le hlx hB5.size
    have HB5 : Hid (Below X3.heap.size X3 X5) := hB5
    have hcur : Below X5.heap.size X5 X5 := Below.refl _ _
    clear hB5 hbx
    go_wp2_with fail
    go_cut [56] (fun v56 wx => v56 = .bool false ∧ Below X5.heap.size X5 wx)
    case first =>
      refine wp_region_held_drew (S := (fun W => ∀ p : Addr, p.block < X5.heap.size → W.cell? p = X5.cell? p)) (by kernel_rfl) ?hS122 (fun hHeld => ?rest122)
      case hS122 => (intro p hp; refine Below.cell (B := X5.heap.size) ?_ hp; (repeat (first | with_reducible exact hcur | (with_reducible refine Below.drew ?_))))
      refine takeD (i := 0) (d := some 35) (v := ?vT123) rfl rfl (by kernel_rfl) (by kernel_rfl) (by kernel_rfl) (fun _ _ _ h => h) (Or.inl ⟨by rfl, ?hyT123⟩) (by assumption) ?rstT123
      case hyT123 => (intro w hSw; (try dsimp only at hSw); go_simp; (try with_reducible rfl))
      try simp only [Act.put, List.setIfInBounds_toArray, List.set_cons_zero, List.set_cons_succ]
      refine takeD (i := 1) (d := some 36) (v := ?vT124) rfl rfl (by kernel_rfl) (by kernel_rfl) (by kernel_rfl) (fun _ _ _ h => h) (Or.inl ⟨by rfl, ?hyT124⟩) (by assumption) ?rstT124
      case hyT124 => (intro w hSw; (try dsimp only at hSw); go_simp; (try with_reducible rfl))
      try simp only [Act.put, List.setIfInBounds_toArray, List.set_cons_zero, List.set_cons_succ]
      refine takeD (i := 2) (d := some 37) (v := ?vT125) rfl rfl (by kernel_rfl) (by kernel_rfl) (by kernel_rfl) (fun _ _ _ h => h) (Or.inl ⟨by rfl, ?hyT125⟩) (by assumption) ?rstT125
      case hyT125 => (intro w hSw; (try dsimp only at hSw); go_simp; (try with_reducible rfl))
      try simp only [Act.put, List.setIfInBounds_toArray, List.set_cons_zero, List.set_cons_succ]
      refine takeD (i := 3) (d := some 38) (v := ?vT126) rfl rfl (by kernel_rfl) (by kernel_rfl) (by kernel_rfl) (fun _ _ _ h => h) (Or.inl ⟨by rfl, ?hyT126⟩) (by assumption) ?rstT126
      case hyT126 => (intro w hSw; (try dsimp only at hSw); go_simp; (try with_reducible rfl))
      try simp only [Act.put, List.setIfInBounds_toArray, List.set_cons_zero, List.set_cons_succ]
      refine takeD (i := 4) (d := some 39) (v := ?vT127) rfl rfl (by kernel_rfl) (by kernel_rfl) (by kernel_rfl) (fun _ _ _ h => h) (Or.inl ⟨by rfl, ?hyT127⟩) (by assumption) ?rstT127
      case hyT127 => (intro w hSw; (try dsimp only at hSw); go_simp; (try with_reducible rfl))
      try simp only [Act.put, List.setIfInBounds_toArray, List.set_cons_zero, List.set_cons_succ]
      refine takeD (i := 5) (d := some 40) (v := ?vT128) rfl rfl (by kernel_rfl) (by kernel_rfl) (by kernel_rfl) (fun _ _ _ h => h) (Or.inl ⟨by rfl, ?hyT128⟩) (by assumption) ?rstT128
      case hyT128 => (intro w hSw; (try dsimp only at hSw); go_simp; (try with_reducible rfl))
      try simp only [Act.put, List.setIfInBounds_toArray, List.set_cons_zero, List.set_cons_succ]
      refine takeD (i := 6) (d := some 41) (v := ?vT129) rfl rfl (by kernel_rfl) (by kernel_rfl) (by kernel_rfl) (fun _ _ _ h => h) (Or.inl ⟨by rfl, ?hyT129⟩) (by assumption) ?rstT129
      case hyT129 => (intro w hSw; (try dsimp only at hSw); go_simp; (try with_reducible rfl))
      try simp only [Act.put, List.setIfInBounds_toArray, List.set_cons_zero, List.set_cons_succ]
      refine takeD (i := 7) (d := some 42) (v := ?vT130) rfl rfl (by kernel_rfl) (by kernel_rfl) (by kernel_rfl) (fun _ _ _ h => h) (Or.inl ⟨by rfl, ?hyT130⟩) (by assumption) ?rstT130
      case hyT130 => (intro w hSw; (try dsimp only at hSw); go_simp; (try with_reducible rfl))
      try simp only [Act.put, List.setIfInBounds_toArray, List.set_cons_zero, List.set_cons_succ]
      refine takeD (i := 8) (d := some 43) (v := ?vT131) rfl rfl (by kernel_rfl) (by kernel_rfl) (by kernel_rfl) (fun _ _ _ h => h) (Or.inl ⟨by rfl, ?hyT131⟩) (by assumption) ?rstT131
      case hyT131 => (intro w hSw; (try dsimp only at hSw); go_simp; (try with_reducible rfl))
      try simp only [Act.put, List.setIfInBounds_toArray, List.set_cons_zero, List.set_cons_succ]
      refine takeD (i := 10) (d := some 45) (v := ?vT132) rfl rfl (by kernel_rfl) (by kernel_rfl) (by kernel_rfl) (fun _ _ _ h => h) (Or.inl ⟨by rfl, ?hyT132⟩) (by assumption) ?rstT132
      case hyT132 => (intro w hSw; (try dsimp only at hSw); go_simp; (try with_reducible rfl))
      try simp only [Act.put, List.setIfInBounds_toArray, List.set_cons_zero, List.set_cons_succ]
      refine takeD (i := 11) (d := some 46) (v := ?vT133) rfl rfl (by kernel_rfl) (by kernel_rfl) (by kernel_rfl) (fun _ _ _ h => h) (Or.inl ⟨by rfl, ?hyT133⟩) (by assumption) ?rstT133
      case hyT133 => (intro w hSw; (try dsimp only at hSw); go_simp; (try with_reducible rfl))
      try simp only [Act.put, List.setIfInBounds_toArray, List.set_cons_zero, List.set_cons_succ]
      refine takeD (i := 12) (d := some 47) (v := ?vT134) rfl rfl (by kernel_rfl) (by kernel_rfl) (by kernel_rfl) (fun _ _ _ h => h) (Or.inl ⟨by rfl, ?hyT134⟩) (by assumption) ?rstT134
      case hyT134 => (intro w hSw; (try dsimp only at hSw); go_simp; (try with_reducible rfl))
      try simp only [Act.put, List.setIfInBounds_toArray, List.set_cons_zero, List.set_cons_succ]
      refine wpAnyH_ready (rs := [9]) (by kernel_rfl) (by simp) ?_
      refine AllReadyH.cons rfl (fun K hK => ?_) AllReadyH.nil
      go_simp
      refine (HE.out _ ?_).mono ?_
      · first | exact HB5.out.trans (hcur.mono HB5.out.size) | exact HB5.out.trans (hcur.drew.mono HB5.out.size)
      rintro e2 w6 ⟨rfl, hb2⟩
      have hcur2 : Below X5.heap.size X5 w6 := by first | exact hcur.trans (hb2.mono hcur.size) | exact hcur.drew.trans (hb2.mono hcur.drew.size)
      clear hcur hb2
      have hcur := hcur2
      clear hcur2
      clear hHeld
      refine hK.out _ _ ?hS135 (fun hHeld => ?rest135)
      case hS135 => (intro p hp; refine Below.cell (B := X5.heap.size) ?_ hp; (repeat (first | with_reducible exact hcur | (with_reducible refine Below.drew ?_))))
      clear hK K
      try simp only [Act.put, List.setIfInBounds_toArray, List.set_cons_zero, List.set_cons_succ]
      refine takeD (i := 13) (d := some 48) (v := ?vT136) rfl rfl (by kernel_rfl) (by kernel_rfl) (by kernel_rfl) (fun _ _ _ h => h) (Or.inl ⟨by rfl, ?hyT136⟩) (by assumption) ?rstT136
      case hyT136 => (intro w hSw; (try dsimp only at hSw); go_simp; (try with_reducible rfl))
      try simp only [Act.put, List.setIfInBounds_toArray, List.set_cons_zero, List.set_cons_succ]
      refine takeD (i := 14) (d := some 49) (v := ?vT137) rfl rfl (by kernel_rfl) (by kernel_rfl) (by kernel_rfl) (fun _ _ _ h => h) (Or.inl ⟨by rfl, ?hyT137⟩) (by assumption) ?rstT137
      case hyT137 => (intro w hSw; (try dsimp only at hSw); go_simp; (try with_reducible rfl))
      try simp only [Act.put, List.setIfInBounds_toArray, List.set_cons_zero, List.set_cons_succ]
      refine takeD (i := 15) (d := some 50) (v := ?vT138) rfl rfl (by kernel_rfl) (by kernel_rfl) (by kernel_rfl) (fun _ _ _ h => h) (Or.inl ⟨by rfl, ?hyT138⟩) (by assumption) ?rstT138
      case hyT138 => (intro w hSw; (try dsimp only at hSw); go_simp; (try with_reducible rfl))
      try simp only [Act.put, List.setIfInBounds_toArray, List.set_cons_zero, List.set_cons_succ]
      refine takeD (i := 16) (d := some 51) (v := ?vT139) rfl rfl (by kernel_rfl) (by kernel_rfl) (by kernel_rfl) (fun _ _ _ h => h) (Or.inl ⟨by rfl, ?hyT139⟩) (by assumption) ?rstT139
      case hyT139 => (intro w hSw; (try dsimp only at hSw); go_simp; (try with_reducible rfl))
      try simp only [Act.put, List.setIfInBounds_toArray, List.set_cons_zero, List.set_cons_succ]
      refine takeD (i := 17) (d := some 52) (v := ?vT140) rfl rfl (by kernel_rfl) (by kernel_rfl) (by kernel_rfl) (fun _ _ _ h => h) (Or.inl ⟨by rfl, ?hyT140⟩) (by assumption) ?rstT140
      case hyT140 => (intro w hSw; (try dsimp only at hSw); go_simp; (try with_reducible rfl))
      try simp only [Act.put, List.setIfInBounds_toArray, List.set_cons_zero, List.set_cons_succ]
      refine wpAnyH_ready (rs := [18]) (by kernel_rfl) (by simp) ?_
      refine AllReadyH.cons rfl (fun K hK => ?_) AllReadyH.nil
      go_simp
      refine (HC.out _ ?_).mono ?_
      · first | exact HB5.out.trans (hcur.mono HB5.out.size) | exact HB5.out.trans (hcur.drew.mono HB5.out.size)
      rintro e2 w7 ⟨ya, yc, rfl, hyo, hb2⟩
      have hyr := rng_of_rw (hyo.rw_ layG)
      clear hyo
      have hcur2 : Below X5.heap.size X5 w7 := by first | exact hcur.trans (hb2.mono hcur.size) | exact hcur.drew.trans (hb2.mono hcur.drew.size)
      clear hcur hb2
      have hcur := hcur2
      clear hcur2
      clear hHeld
      refine hK.out _ _ ?hS141 (fun hHeld => ?rest141)
      case hS141 => (intro p hp; refine Below.cell (B := X5.heap.size) ?_ hp; (repeat (first | with_reducible exact hcur | (with_reducible refine Below.drew ?_))))
      clear hK K
      try simp only [Act.put, List.setIfInBounds_toArray, List.set_cons_zero, List.set_cons_succ]
      refine wpAnyH_ready (rs := [19]) (by kernel_rfl) (by simp) ?_
      refine AllReadyH.cons rfl (fun K hK => ?_) AllReadyH.nil
      go_simp
      refine (HQ.out o ya vm yc _ ?_ ?_).mono ?_
      · first | exact HB5.out.trans (hcur.mono HB5.out.size) | exact HB5.out.trans (hcur.drew.mono HB5.out.size)
      · exact hyr
      rintro e2 w8 ⟨rfl, hb2⟩
      rw [eqP_self]
      have hcur2 : Below X5.heap.size X5 w8 := by first | exact hcur.trans (hb2.mono hcur.size) | exact hcur.drew.trans (hb2.mono hcur.drew.size)
      clear hcur hb2
      have hcur := hcur2
      clear hcur2
      clear hHeld
      refine hK.out _ _ ?hS142 (fun hHeld => ?rest142)
      case hS142 => (intro p hp; refine Below.cell (B := X5.heap.size) ?_ hp; (repeat (first | with_reducible exact hcur | (with_reducible refine Below.drew ?_))))
      clear hK K
      try simp only [Act.put, List.setIfInBounds_toArray, List.set_cons_zero, List.set_cons_succ]
      refine takeD (i := 20) (d := some 55) (v := ?vT143) rfl rfl (by kernel_rfl) (by kernel_rfl) (by kernel_rfl) (fun _ _ _ h => h) (Or.inl ⟨by rfl, ?hyT143⟩) (by assumption) ?rstT143
      case hyT143 => (intro w hSw; (try dsimp only at hSw); go_simp; (try with_reducible rfl))
      try simp only [Act.put, List.setIfInBounds_toArray, List.set_cons_zero, List.set_cons_succ]
      refine takeD (i := 21) (d := some 56) (v := ?vT144) rfl rfl (by kernel_rfl) (by kernel_rfl) (by kernel_rfl) (fun _ _ _ h => h) (Or.inl ⟨by rfl, ?hyT144⟩) (by assumption) ?rstT144
      case hyT144 => (intro w hSw; (try dsimp only at hSw); go_simp; (try with_reducible rfl))
      try simp only [Act.put, List.setIfInBounds_toArray, List.set_cons_zero, List.set_cons_succ]
      refine wpAnyH_done (by kernel_rfl) ?_ _
      go_wp2_with fail
      go_meet
      case rel => exact ⟨rfl, hcur⟩
    case rest =>
      obtain ⟨X6, rfl⟩ : ∃ x, x = wc := ⟨_, rfl⟩
      obtain ⟨rfl, hB6⟩ := hcut
      have hbo6 := (hB6.block _ hlo5).trans hbo5
      have hB36 : Hid (Below X3.heap.size X3 X6) := HB5.out.trans (hB6.mono HB5.out.size)
      have HBw : Hid (Below w.heap.size w X6) := hB3.trans (hB36.out.mono hB3.size)
      have hrl := rgo.len
      clear x0 x1 x2 x3 x4 x5 x6 x7 x8 o0 o1 o2 o3 o4 o5 o6 o7 o8 hcur HE hqs hq hbo hbo5 hlo5 hlo hlx hlx5 rgo rgx snx ge7 ge8 ne7 hB3 hB6 HB5 HW
      obtain ⟨c, n, k, p, s, l, tc, tn, on⟩ := o
      have ⟨e1, e2⟩ := sno.id
      have ⟨e3, e4, e5⟩ := sno.rest
      have ⟨hk1, hk2⟩ := sno.kind
      have ⟨hp1, hp2⟩ := sno.at_
      have hsz := sno.size
      have hfew := sno.few
      have HTop : Hid (∀ r ∈ l, 0 ≤ r.2 ∧ r.2 ≤ 1000) := sno.top
      simp only at e1 e2 e3 e4 e5 hk1 hk2 hp1 hp2 hsz hfew hrl hbo6 HC HQ HR
      subst e1 e2 e3 e4 e5
      subst hrl
      clear sno
      have hlo6 := (Array.getElem?_eq_some_iff.1 hbo6).1
      have hbo7 : Hid (X6.heap[b7]? = some (.cells #[.int .i64 2, .int .i64 1, .int .i64 k, .int .i64 p, .string s, .slice va l.length vc, .int .i64 0, .int .i64 0, .bool false] 34)) := hbo6
      go_wp2_with fail
      go_loopw [13, 14] (fun v13 v14 wr => ∃ j : Nat, v13 = .int .i64 j ∧ j ≤ 8 ∧ Below X6.heap.size X6 wr) (fun v13 _ _ => 8 - (RowKit.intOf v13).toNat)
      case atStart => exact ⟨0, rfl, by omega, Below.refl _ _⟩
      case round =>
        obtain ⟨j, rfl, hj8, hB⟩ := hrel
        have hbr := (hB.block _ hlo6).trans hbo6
        obtain ⟨o0, o1, o2, o3, o4, o5, o6, o7, o8⟩ := box9 hbr
        have hB3r : Below X3.heap.size X3 wr := hB36.out.trans (hB.mono hB36.out.size)
        by_cases hj : j < 8
        · have hji : (j : Int) < 8 := by omega
          go_wp2_with fail
          refine (HC.out _ hB3r).mono ?_
          rintro e w7 ⟨ya, yc, rfl, hyo, hb7⟩
          have hj9 : j = 0 ∨ j = 1 ∨ j = 2 ∨ j = 3 ∨ j = 4 ∨ j = 5 ∨ j = 6 ∨ j = 7 := by omega
          have hB7 : Below X6.heap.size X6 w7 := hB.trans (hb7.mono hB.size)
          have hyo := hyo.mono (C := X6.heap.size) (by have := hB.size; omega)
          have hs67 := hB7.size
          have hbr7 := (hb7.block _ (Array.getElem?_eq_some_iff.1 hbr).1).trans hbr
          have hl7 := (Array.getElem?_eq_some_iff.1 hbr7).1
          clear hB hb7 o0 o1 o2 o3 o4 o5 o6 o7 o8 hbr hB3r hji
          obtain ⟨o0, o1, o2, o3, o4, o5, o6, o7, o8⟩ := box9 hbr7
          have hyr := rng_of_rw (hyo.rw_ layG)
          have HY3 : Hid (Below X3.heap.size X3 w7) := hB36.out.trans (hB7.mono hB36.out.size)
          rcases hj9 with rfl | rfl | rfl | rfl | rfl | rfl | rfl | rfl
          · have NEQ : ¬ ((3) = (2 : Int)) := by decide
            have EQ1 := eqP_ne (o := ⟨2, 1, k, p, s, l, 0, 0, false⟩) (x := ⟨3, 1, k, p, s, l, 0, 0, false⟩) (fun h => NEQ (congrArg OpV.c h).symm)
            have EQ2 := eqP_ne (o := ⟨3, 1, k, p, s, l, 0, 0, false⟩) (x := ⟨2, 1, k, p, s, l, 0, 0, false⟩) (fun h => NEQ (congrArg OpV.c h))
            clear NEQ
            go_wp2_with fail
            obtain ⟨wz, hwz⟩ : ∃ wz, w7.alloc (.cells #[.int .i64 3, .int .i64 1, .int .i64 (k), .int .i64 (p), .string s, .slice ya l.length yc, .int .i64 0, .int .i64 0, .bool false] 34) = wz := ⟨_, rfl⟩
            have hz : wz.heap[w7.heap.size]? = some (.cells #[.int .i64 3, .int .i64 1, .int .i64 (k), .int .i64 (p), .string s, .slice ya l.length yc, .int .i64 0, .int .i64 0, .bool false] 34) := by rw [← hwz]; exact heap_alloc_new _ _
            have hbz : Below w7.heap.size w7 wz := by rw [← hwz]; exact (Below.refl _ _).alloc (Nat.le_refl _) _
            rw [hwz]
            have hyz := hyr.below hbz
            have hBz : Below X6.heap.size X6 wz := hB7.trans (hbz.mono hB7.size)
            have hbrz := (hbz.block _ hl7).trans hbr7
            refine (HQ.out ⟨3, 1, k, p, s, l, 0, 0, false⟩ ya l.length yc _ ?_ ?_).mono ?_
            · exact hB36.out.trans (hBz.mono hB36.out.size)
            · exact hyz
            rintro e w8 ⟨rfl, hb8⟩
            rw [EQ1]
            have hz8 := (hb8.block _ (Array.getElem?_eq_some_iff.1 hz).1).trans hz
            have hbr8 := (hb8.block _ (Array.getElem?_eq_some_iff.1 hbrz).1).trans hbrz
            have hB8 := hBz.trans (hb8.mono hBz.size)
            have hy8 := hyz.below hb8
            clear o0 o1 o2 o3 o4 o5 o6 o7 o8 hwz hz hbrz hBz hyz hb8 hyr hyo hB7 hbr7
            obtain ⟨o0, o1, o2, o3, o4, o5, o6, o7, o8⟩ := box9 hbr8
            obtain ⟨y0, y1, y2, y3, y4, y5, y6, y7, y8⟩ := box9 hz8
            go_wp2_with fail
            refine (HR.out ⟨3, 1, k, p, s, l, 0, 0, false⟩ ya l.length yc _ ?_ ?_).mono ?_
            · exact hB36.out.trans (hB8.mono hB36.out.size)
            · exact hy8
            rintro e w9 ⟨rfl, hb9⟩
            rw [EQ2]
            have hB9 := hB8.trans (hb9.mono hB8.size)
            clear o0 o1 o2 o3 o4 o5 o6 o7 o8 y0 y1 y2 y3 y4 y5 y6 y7 y8 hB8 hb9 hy8 EQ1 EQ2
            go_wp2_with fail
            go_roundw
            case rel => exact ⟨0 + 1, by go_num, by omega, hB9⟩
            case measure => simp [RowKit.intOf]
          · have NEQ : ¬ ((0) = (1 : Int)) := by decide
            have EQ1 := eqP_ne (o := ⟨2, 1, k, p, s, l, 0, 0, false⟩) (x := ⟨2, 0, k, p, s, l, 0, 0, false⟩) (fun h => NEQ (congrArg OpV.n h).symm)
            have EQ2 := eqP_ne (o := ⟨2, 0, k, p, s, l, 0, 0, false⟩) (x := ⟨2, 1, k, p, s, l, 0, 0, false⟩) (fun h => NEQ (congrArg OpV.n h))
            clear NEQ
            go_wp2_with fail
            obtain ⟨wz, hwz⟩ : ∃ wz, w7.alloc (.cells #[.int .i64 2, .int .i64 0, .int .i64 (k), .int .i64 (p), .string s, .slice ya l.length yc, .int .i64 0, .int .i64 0, .bool false] 34) = wz := ⟨_, rfl⟩
            have hz : wz.heap[w7.heap.size]? = some (.cells #[.int .i64 2, .int .i64 0, .int .i64 (k), .int .i64 (p), .string s, .slice ya l.length yc, .int .i64 0, .int .i64 0, .bool false] 34) := by rw [← hwz]; exact heap_alloc_new _ _
            have hbz : Below w7.heap.size w7 wz := by rw [← hwz]; exact (Below.refl _ _).alloc (Nat.le_refl _) _
            rw [hwz]
            have hyz := hyr.below hbz
            have hBz : Below X6.heap.size X6 wz := hB7.trans (hbz.mono hB7.size)
            have hbrz := (hbz.block _ hl7).trans hbr7
            refine (HQ.out ⟨2, 0, k, p, s, l, 0, 0, false⟩ ya l.length yc _ ?_ ?_).mono ?_
            · exact hB36.out.trans (hBz.mono hB36.out.size)
            · exact hyz
            rintro e w8 ⟨rfl, hb8⟩
            rw [EQ1]
            have hz8 := (hb8.block _ (Array.getElem?_eq_some_iff.1 hz).1).trans hz
            have hbr8 := (hb8.block _ (Array.getElem?_eq_some_iff.1 hbrz).1).trans hbrz
            have hB8 := hBz.trans (hb8.mono hBz.size)
            have hy8 := hyz.below hb8
            clear o0 o1 o2 o3 o4 o5 o6 o7 o8 hwz hz hbrz hBz hyz hb8 hyr hyo hB7 hbr7
            obtain ⟨o0, o1, o2, o3, o4, o5, o6, o7, o8⟩ := box9 hbr8
            obtain ⟨y0, y1, y2, y3, y4, y5, y6, y7, y8⟩ := box9 hz8
            go_wp2_with fail
            refine (HR.out ⟨2, 0, k, p, s, l, 0, 0, false⟩ ya l.length yc _ ?_ ?_).mono ?_
            · exact hB36.out.trans (hB8.mono hB36.out.size)
            · exact hy8
            rintro e w9 ⟨rfl, hb9⟩
            rw [EQ2]
            have hB9 := hB8.trans (hb9.mono hB8.size)
            clear o0 o1 o2 o3 o4 o5 o6 o7 o8 y0 y1 y2 y3 y4 y5 y6 y7 y8 hB8 hb9 hy8 EQ1 EQ2
            go_wp2_with fail
            go_roundw
            case rel => exact ⟨1 + 1, by go_num, by omega, hB9⟩
            case measure => simp [RowKit.intOf]
          · have NEQ : ¬ ((k + 1) = (k : Int)) := by omega
            have EQ1 := eqP_ne (o := ⟨2, 1, k, p, s, l, 0, 0, false⟩) (x := ⟨2, 1, k + 1, p, s, l, 0, 0, false⟩) (fun h => NEQ (congrArg OpV.k h).symm)
            have EQ2 := eqP_ne (o := ⟨2, 1, k + 1, p, s, l, 0, 0, false⟩) (x := ⟨2, 1, k, p, s, l, 0, 0, false⟩) (fun h => NEQ (congrArg OpV.k h))
            clear NEQ
            go_wp2_with fail
            obtain ⟨wz, hwz⟩ : ∃ wz, w7.alloc (.cells #[.int .i64 2, .int .i64 1, .int .i64 (k + 1), .int .i64 (p), .string s, .slice ya l.length yc, .int .i64 0, .int .i64 0, .bool false] 34) = wz := ⟨_, rfl⟩
            have hz : wz.heap[w7.heap.size]? = some (.cells #[.int .i64 2, .int .i64 1, .int .i64 (k + 1), .int .i64 (p), .string s, .slice ya l.length yc, .int .i64 0, .int .i64 0, .bool false] 34) := by rw [← hwz]; exact heap_alloc_new _ _
            have hbz : Below w7.heap.size w7 wz := by rw [← hwz]; exact (Below.refl _ _).alloc (Nat.le_refl _) _
            rw [hwz]
            have hyz := hyr.below hbz
            have hBz : Below X6.heap.size X6 wz := hB7.trans (hbz.mono hB7.size)
            have hbrz := (hbz.block _ hl7).trans hbr7
            refine (HQ.out ⟨2, 1, k + 1, p, s, l, 0, 0, false⟩ ya l.length yc _ ?_ ?_).mono ?_
            · exact hB36.out.trans (hBz.mono hB36.out.size)
            · exact hyz
            rintro e w8 ⟨rfl, hb8⟩
            rw [EQ1]
            have hz8 := (hb8.block _ (Array.getElem?_eq_some_iff.1 hz).1).trans hz
            have hbr8 := (hb8.block _ (Array.getElem?_eq_some_iff.1 hbrz).1).trans hbrz
            have hB8 := hBz.trans (hb8.mono hBz.size)
            have hy8 := hyz.below hb8
            clear o0 o1 o2 o3 o4 o5 o6 o7 o8 hwz hz hbrz hBz hyz hb8 hyr hyo hB7 hbr7
            obtain ⟨o0, o1, o2, o3, o4, o5, o6, o7, o8⟩ := box9 hbr8
            obtain ⟨y0, y1, y2, y3, y4, y5, y6, y7, y8⟩ := box9 hz8
            go_wp2_with fail
            refine (HR.out ⟨2, 1, k + 1, p, s, l, 0, 0, false⟩ ya l.length yc _ ?_ ?_).mono ?_
            · exact hB36.out.trans (hB8.mono hB36.out.size)
            · exact hy8
            rintro e w9 ⟨rfl, hb9⟩
            rw [EQ2]
            have hB9 := hB8.trans (hb9.mono hB8.size)
            clear o0 o1 o2 o3 o4 o5 o6 o7 o8 y0 y1 y2 y3 y4 y5 y6 y7 y8 hB8 hb9 hy8 EQ1 EQ2
            go_wp2_with fail
            go_roundw
            case rel => exact ⟨2 + 1, by go_num, by omega, hB9⟩
            case measure => simp [RowKit.intOf]
          · have NEQ : ¬ ((p - 1) = (p : Int)) := by omega
            have EQ1 := eqP_ne (o := ⟨2, 1, k, p, s, l, 0, 0, false⟩) (x := ⟨2, 1, k, p - 1, s, l, 0, 0, false⟩) (fun h => NEQ (congrArg OpV.p h).symm)
            have EQ2 := eqP_ne (o := ⟨2, 1, k, p - 1, s, l, 0, 0, false⟩) (x := ⟨2, 1, k, p, s, l, 0, 0, false⟩) (fun h => NEQ (congrArg OpV.p h))
            clear NEQ
            go_wp2_with fail
            obtain ⟨wz, hwz⟩ : ∃ wz, w7.alloc (.cells #[.int .i64 2, .int .i64 1, .int .i64 (k), .int .i64 (p - 1), .string s, .slice ya l.length yc, .int .i64 0, .int .i64 0, .bool false] 34) = wz := ⟨_, rfl⟩
            have hz : wz.heap[w7.heap.size]? = some (.cells #[.int .i64 2, .int .i64 1, .int .i64 (k), .int .i64 (p - 1), .string s, .slice ya l.length yc, .int .i64 0, .int .i64 0, .bool false] 34) := by rw [← hwz]; exact heap_alloc_new _ _
            have hbz : Below w7.heap.size w7 wz := by rw [← hwz]; exact (Below.refl _ _).alloc (Nat.le_refl _) _
            rw [hwz]
            have hyz := hyr.below hbz
            have hBz : Below X6.heap.size X6 wz := hB7.trans (hbz.mono hB7.size)
            have hbrz := (hbz.block _ hl7).trans hbr7
            refine (HQ.out ⟨2, 1, k, p - 1, s, l, 0, 0, false⟩ ya l.length yc _ ?_ ?_).mono ?_
            · exact hB36.out.trans (hBz.mono hB36.out.size)
            · exact hyz
            rintro e w8 ⟨rfl, hb8⟩
            rw [EQ1]
            have hz8 := (hb8.block _ (Array.getElem?_eq_some_iff.1 hz).1).trans hz
            have hbr8 := (hb8.block _ (Array.getElem?_eq_some_iff.1 hbrz).1).trans hbrz
            have hB8 := hBz.trans (hb8.mono hBz.size)
            have hy8 := hyz.below hb8
            clear o0 o1 o2 o3 o4 o5 o6 o7 o8 hwz hz hbrz hBz hyz hb8 hyr hyo hB7 hbr7
            obtain ⟨o0, o1, o2, o3, o4, o5, o6, o7, o8⟩ := box9 hbr8
            obtain ⟨y0, y1, y2, y3, y4, y5, y6, y7, y8⟩ := box9 hz8
            go_wp2_with fail
            refine (HR.out ⟨2, 1, k, p - 1, s, l, 0, 0, false⟩ ya l.length yc _ ?_ ?_).mono ?_
            · exact hB36.out.trans (hB8.mono hB36.out.size)
            · exact hy8
            rintro e w9 ⟨rfl, hb9⟩
            rw [EQ2]
            have hB9 := hB8.trans (hb9.mono hB8.size)
            clear o0 o1 o2 o3 o4 o5 o6 o7 o8 y0 y1 y2 y3 y4 y5 y6 y7 y8 hB8 hb9 hy8 EQ1 EQ2
            go_wp2_with fail
            go_roundw
            case rel => exact ⟨3 + 1, by go_num, by omega, hB9⟩
            case measure => simp [RowKit.intOf]
          · obtain ⟨s2, hs2⟩ : ∃ s2 : ByteArray, s ++ ⟨#[97]⟩ = s2 := ⟨_, rfl⟩
            have NEQ : ¬ ((s2) = (s)) := hs2 ▸ app_ne s
            have EQ1 := eqP_ne (o := ⟨2, 1, k, p, s, l, 0, 0, false⟩) (x := ⟨2, 1, k, p, s2, l, 0, 0, false⟩) (fun h => NEQ (congrArg OpV.s h).symm)
            have EQ2 := eqP_ne (o := ⟨2, 1, k, p, s2, l, 0, 0, false⟩) (x := ⟨2, 1, k, p, s, l, 0, 0, false⟩) (fun h => NEQ (congrArg OpV.s h))
            clear NEQ
            go_wp2_with fail
            obtain ⟨wz, hwz⟩ : ∃ wz, w7.alloc (.cells #[.int .i64 2, .int .i64 1, .int .i64 (k), .int .i64 (p), .string s2, .slice ya l.length yc, .int .i64 0, .int .i64 0, .bool false] 34) = wz := ⟨_, rfl⟩
            have hz : wz.heap[w7.heap.size]? = some (.cells #[.int .i64 2, .int .i64 1, .int .i64 (k), .int .i64 (p), .string s2, .slice ya l.length yc, .int .i64 0, .int .i64 0, .bool false] 34) := by rw [← hwz]; exact heap_alloc_new _ _
            have hbz : Below w7.heap.size w7 wz := by rw [← hwz]; exact (Below.refl _ _).alloc (Nat.le_refl _) _
            rw [hwz]
            have hyz := hyr.below hbz
            have hBz : Below X6.heap.size X6 wz := hB7.trans (hbz.mono hB7.size)
            have hbrz := (hbz.block _ hl7).trans hbr7
            refine (HQ.out ⟨2, 1, k, p, s2, l, 0, 0, false⟩ ya l.length yc _ ?_ ?_).mono ?_
            · exact hB36.out.trans (hBz.mono hB36.out.size)
            · exact hyz
            rintro e w8 ⟨rfl, hb8⟩
            rw [EQ1]
            have hz8 := (hb8.block _ (Array.getElem?_eq_some_iff.1 hz).1).trans hz
            have hbr8 := (hb8.block _ (Array.getElem?_eq_some_iff.1 hbrz).1).trans hbrz
            have hB8 := hBz.trans (hb8.mono hBz.size)
            have hy8 := hyz.below hb8
            clear o0 o1 o2 o3 o4 o5 o6 o7 o8 hwz hz hbrz hBz hyz hb8 hyr hyo hB7 hbr7
            obtain ⟨o0, o1, o2, o3, o4, o5, o6, o7, o8⟩ := box9 hbr8
            obtain ⟨y0, y1, y2, y3, y4, y5, y6, y7, y8⟩ := box9 hz8
            go_wp2_with fail
            refine (HR.out ⟨2, 1, k, p, s2, l, 0, 0, false⟩ ya l.length yc _ ?_ ?_).mono ?_
            · exact hB36.out.trans (hB8.mono hB36.out.size)
            · exact hy8
            rintro e w9 ⟨rfl, hb9⟩
            rw [EQ2]
            have hB9 := hB8.trans (hb9.mono hB8.size)
            clear o0 o1 o2 o3 o4 o5 o6 o7 o8 y0 y1 y2 y3 y4 y5 y6 y7 y8 hB8 hb9 hy8 EQ1 EQ2
            go_wp2_with fail
            go_roundw
            case rel => exact ⟨4 + 1, by go_num, by omega, hB9⟩
            case measure => simp [RowKit.intOf]
          · have NEQ : ¬ (((l ++ [(90, 91)])) = (l)) := app_ne2 l _
            have EQ1 := eqP_ne (o := ⟨2, 1, k, p, s, l, 0, 0, false⟩) (x := ⟨2, 1, k, p, s, (l ++ [(90, 91)]), 0, 0, false⟩) (fun h => NEQ (congrArg OpV.l h).symm)
            have EQ2 := eqP_ne (o := ⟨2, 1, k, p, s, (l ++ [(90, 91)]), 0, 0, false⟩) (x := ⟨2, 1, k, p, s, l, 0, 0, false⟩) (fun h => NEQ (congrArg OpV.l h))
            clear NEQ
            obtain ⟨wy, hwy⟩ : ∃ wy, w7.alloc (.cells #[.int .i64 2, .int .i64 1, .int .i64 (k), .int .i64 (p), .string s, .slice ya l.length yc, .int .i64 0, .int .i64 0, .bool false] 34) = wy := ⟨_, rfl⟩
            have hy0 : wy.heap[w7.heap.size]? = some (.cells #[.int .i64 2, .int .i64 1, .int .i64 (k), .int .i64 (p), .string s, .slice ya l.length yc, .int .i64 0, .int .i64 0, .bool false] 34) := by rw [← hwy]; exact heap_alloc_new _ _
            have hby : Below w7.heap.size w7 wy := by rw [← hwy]; exact (Below.refl _ _).alloc (Nat.le_refl _) _
            have hsy : wy.heap.size = w7.heap.size + 1 := by rw [← hwy]; simp
            obtain ⟨g6, cap6, w6, hr6, ho6, hb6, hk6, hs6, hg6⟩ := appendF_one kindG layG (hyo.below hby) (by omega) (90, 91) #[.int .i64 90, .int .i64 91] rfl 42 (by omega) (by omega) 32
            have hg7 : g6 ≠ w7.heap.size := by
              rcases hg6 with h | h
              · have := hyo.lt h; omega
              · omega
            have hy6 : w6.heap[w7.heap.size]? = some (.cells #[.int .i64 2, .int .i64 1, .int .i64 (k), .int .i64 (p), .string s, .slice ya l.length yc, .int .i64 0, .int .i64 0, .bool false] 34) := (hk6 _ (by omega) (fun h => by have := hyo.lt h; omega)).trans hy0
            have hbr6 : w6.heap[b7]? = some (.cells #[.int .i64 2, .int .i64 1, .int .i64 k, .int .i64 p, .string s, .slice va l.length vc, .int .i64 0, .int .i64 0, .bool false] 34) := (hk6 _ (by omega) (fun h => by have := hyo.ge h; omega)).trans ((hby.block _ hl7).trans hbr7)
            obtain ⟨wz, hwz⟩ : ∃ wz, w6.setCell ⟨w7.heap.size, 5, none⟩ (.slice (some ⟨g6, 0, none⟩) (l.length + 1) cap6) = wz := ⟨_, rfl⟩
            have hz : wz.heap[w7.heap.size]? = some (.cells #[.int .i64 2, .int .i64 1, .int .i64 (k), .int .i64 (p), .string s, .slice (some ⟨g6, 0, none⟩) (l.length + 1) cap6, .int .i64 0, .int .i64 0, .bool false] 34) := by rw [← hwz]; exact (heap_setCell_same _ w7.heap.size 5 _ _ _ hy6).trans (by simp)
            have hKz : But w7.heap.size w6 wz := by rw [← hwz]; exact But.set _ _ _ _
            have hyz : Rng wz (some ⟨g6, 0, none⟩) (l.length + 1) cap6 (l ++ [(90, 91)]) := hKz.rng (rng_of_rw (ho6.rw_ layG)) (fun g off e _ => by cases e; exact hg7)
            have hbrz := hKz.block hbr6 (by omega)
            have hBz : Below X6.heap.size X6 wz := by
              rw [← hwz]
              refine Below.setCell ?_ (by have := hB7.size; simp only; omega) _
              exact (hB7.trans (hby.mono hB7.size)).trans hb6
            rw [hsy, ← hwy] at hr6
            have y5 : w6.cell? ⟨w7.heap.size, 5, none⟩ = some (.slice ya l.length yc) := by rw [Lib.cell_of_heap hy6]; rfl
            have fy5 : w6.frozen? ⟨w7.heap.size, 5, none⟩ = false := Lib.frozen_of_heap hy6 5
            obtain ⟨o0', o1', o2', o3', o4', o5', o6', o7', o8'⟩ := box9 hbrz
            obtain ⟨y0', y1', y2', y3', y4', y5', y6', y7', y8'⟩ := box9 hz
            clear hy0 hby hsy ho6 hb6 hk6 hs6 hg6 hy6 hbr6 hKz hwy
            go_wp2_with (at_builtin; refine wpList_append_hr rfl _ _ 32 rfl _ _ rfl rfl hr6 ?_)
            try rw [hwz]
            refine (HQ.out ⟨2, 1, k, p, s, (l ++ [(90, 91)]), 0, 0, false⟩ (some ⟨g6, 0, none⟩) (l.length + 1) cap6 _ ?_ ?_).mono ?_
            · exact hB36.out.trans (hBz.mono hB36.out.size)
            · exact hyz
            rintro e w8 ⟨rfl, hb8⟩
            rw [EQ1]
            have hz8 := (hb8.block _ (Array.getElem?_eq_some_iff.1 hz).1).trans hz
            have hbr8 := (hb8.block _ (Array.getElem?_eq_some_iff.1 hbrz).1).trans hbrz
            have hB8 := hBz.trans (hb8.mono hBz.size)
            have hy8 := hyz.below hb8
            clear o0 o1 o2 o3 o4 o5 o6 o7 o8 hwz hz hbrz hBz hyz hb8 hyr hyo hB7 hbr7 o0' o1' o2' o3' o4' o5' o6' o7' o8' y0' y1' y2' y3' y4' y5' y6' y7' y8' y5 fy5 hr6
            obtain ⟨o0, o1, o2, o3, o4, o5, o6, o7, o8⟩ := box9 hbr8
            obtain ⟨y0, y1, y2, y3, y4, y5, y6, y7, y8⟩ := box9 hz8
            go_wp2_with fail
            refine (HR.out ⟨2, 1, k, p, s, (l ++ [(90, 91)]), 0, 0, false⟩ (some ⟨g6, 0, none⟩) (l.length + 1) cap6 _ ?_ ?_).mono ?_
            · exact hB36.out.trans (hB8.mono hB36.out.size)
            · exact hy8
            rintro e w9 ⟨rfl, hb9⟩
            rw [EQ2]
            have hB9 := hB8.trans (hb9.mono hB8.size)
            clear o0 o1 o2 o3 o4 o5 o6 o7 o8 y0 y1 y2 y3 y4 y5 y6 y7 y8 hB8 hb9 hy8 EQ1 EQ2
            go_wp2_with fail
            go_roundw
            case rel => exact ⟨5 + 1, by go_num, by omega, hB9⟩
            case measure => simp [RowKit.intOf]
          · have NEQ : ¬ ((1) = (0 : Int)) := by decide
            have EQ1 := eqP_ne (o := ⟨2, 1, k, p, s, l, 0, 0, false⟩) (x := ⟨2, 1, k, p, s, l, 0, 1, false⟩) (fun h => NEQ (congrArg OpV.tn h).symm)
            have EQ2 := eqP_ne (o := ⟨2, 1, k, p, s, l, 0, 1, false⟩) (x := ⟨2, 1, k, p, s, l, 0, 0, false⟩) (fun h => NEQ (congrArg OpV.tn h))
            clear NEQ
            go_wp2_with fail
            obtain ⟨wz, hwz⟩ : ∃ wz, w7.alloc (.cells #[.int .i64 2, .int .i64 1, .int .i64 (k), .int .i64 (p), .string s, .slice ya l.length yc, .int .i64 0, .int .i64 1, .bool false] 34) = wz := ⟨_, rfl⟩
            have hz : wz.heap[w7.heap.size]? = some (.cells #[.int .i64 2, .int .i64 1, .int .i64 (k), .int .i64 (p), .string s, .slice ya l.length yc, .int .i64 0, .int .i64 1, .bool false] 34) := by rw [← hwz]; exact heap_alloc_new _ _
            have hbz : Below w7.heap.size w7 wz := by rw [← hwz]; exact (Below.refl _ _).alloc (Nat.le_refl _) _
            rw [hwz]
            have hyz := hyr.below hbz
            have hBz : Below X6.heap.size X6 wz := hB7.trans (hbz.mono hB7.size)
            have hbrz := (hbz.block _ hl7).trans hbr7
            refine (HQ.out ⟨2, 1, k, p, s, l, 0, 1, false⟩ ya l.length yc _ ?_ ?_).mono ?_
            · exact hB36.out.trans (hBz.mono hB36.out.size)
            · exact hyz
            rintro e w8 ⟨rfl, hb8⟩
            rw [EQ1]
            have hz8 := (hb8.block _ (Array.getElem?_eq_some_iff.1 hz).1).trans hz
            have hbr8 := (hb8.block _ (Array.getElem?_eq_some_iff.1 hbrz).1).trans hbrz
            have hB8 := hBz.trans (hb8.mono hBz.size)
            have hy8 := hyz.below hb8
            clear o0 o1 o2 o3 o4 o5 o6 o7 o8 hwz hz hbrz hBz hyz hb8 hyr hyo hB7 hbr7
            obtain ⟨o0, o1, o2, o3, o4, o5, o6, o7, o8⟩ := box9 hbr8
            obtain ⟨y0, y1, y2, y3, y4, y5, y6, y7, y8⟩ := box9 hz8
            go_wp2_with fail
            refine (HR.out ⟨2, 1, k, p, s, l, 0, 1, false⟩ ya l.length yc _ ?_ ?_).mono ?_
            · exact hB36.out.trans (hB8.mono hB36.out.size)
            · exact hy8
            rintro e w9 ⟨rfl, hb9⟩
            rw [EQ2]
            have hB9 := hB8.trans (hb9.mono hB8.size)
            clear o0 o1 o2 o3 o4 o5 o6 o7 o8 y0 y1 y2 y3 y4 y5 y6 y7 y8 hB8 hb9 hy8 EQ1 EQ2
            go_wp2_with fail
            go_roundw
            case rel => exact ⟨6 + 1, by go_num, by omega, hB9⟩
            case measure => simp [RowKit.intOf]
          · have NEQ : ¬ ((true) = (false : Bool)) := by decide
            have EQ1 := eqP_ne (o := ⟨2, 1, k, p, s, l, 0, 0, false⟩) (x := ⟨2, 1, k, p, s, l, 0, 0, true⟩) (fun h => NEQ (congrArg OpV.on h).symm)
            have EQ2 := eqP_ne (o := ⟨2, 1, k, p, s, l, 0, 0, true⟩) (x := ⟨2, 1, k, p, s, l, 0, 0, false⟩) (fun h => NEQ (congrArg OpV.on h))
            clear NEQ
            go_wp2_with fail
            obtain ⟨wz, hwz⟩ : ∃ wz, w7.alloc (.cells #[.int .i64 2, .int .i64 1, .int .i64 (k), .int .i64 (p), .string s, .slice ya l.length yc, .int .i64 0, .int .i64 0, .bool true] 34) = wz := ⟨_, rfl⟩
            have hz : wz.heap[w7.heap.size]? = some (.cells #[.int .i64 2, .int .i64 1, .int .i64 (k), .int .i64 (p), .string s, .slice ya l.length yc, .int .i64 0, .int .i64 0, .bool true] 34) := by rw [← hwz]; exact heap_alloc_new _ _
            have hbz : Below w7.heap.size w7 wz := by rw [← hwz]; exact (Below.refl _ _).alloc (Nat.le_refl _) _
            rw [hwz]
            have hyz := hyr.below hbz
            have hBz : Below X6.heap.size X6 wz := hB7.trans (hbz.mono hB7.size)
            have hbrz := (hbz.block _ hl7).trans hbr7
            refine (HQ.out ⟨2, 1, k, p, s, l, 0, 0, true⟩ ya l.length yc _ ?_ ?_).mono ?_
            · exact hB36.out.trans (hBz.mono hB36.out.size)
            · exact hyz
            rintro e w8 ⟨rfl, hb8⟩
            rw [EQ1]
            have hz8 := (hb8.block _ (Array.getElem?_eq_some_iff.1 hz).1).trans hz
            have hbr8 := (hb8.block _ (Array.getElem?_eq_some_iff.1 hbrz).1).trans hbrz
            have hB8 := hBz.trans (hb8.mono hBz.size)
            have hy8 := hyz.below hb8
            clear o0 o1 o2 o3 o4 o5 o6 o7 o8 hwz hz hbrz hBz hyz hb8 hyr hyo hB7 hbr7
            obtain ⟨o0, o1, o2, o3, o4, o5, o6, o7, o8⟩ := box9 hbr8
            obtain ⟨y0, y1, y2, y3, y4, y5, y6, y7, y8⟩ := box9 hz8
            go_wp2_with fail
            refine (HR.out ⟨2, 1, k, p, s, l, 0, 0, true⟩ ya l.length yc _ ?_ ?_).mono ?_
            · exact hB36.out.trans (hB8.mono hB36.out.size)
            · exact hy8
            rintro e w9 ⟨rfl, hb9⟩
            rw [EQ2]
            have hB9 := hB8.trans (hb9.mono hB8.size)
            clear o0 o1 o2 o3 o4 o5 o6 o7 o8 y0 y1 y2 y3 y4 y5 y6 y7 y8 hB8 hb9 hy8 EQ1 EQ2
            go_wp2_with fail
            go_roundw
            case rel => exact ⟨7 + 1, by go_num, by omega, hB9⟩
            case measure => simp [RowKit.intOf]
        · obtain rfl : j = 8 := by omega
          obtain ⟨X7, rfl⟩ : ∃ x, x = wr := ⟨_, rfl⟩
          have HB7 : Hid (Below X3.heap.size X3 X7) := hB3r
          have HBw7 : Hid (Below w.heap.size w X7) := HBw.out.trans (hB.mono HBw.out.size)
          have hl7 := (Array.getElem?_eq_some_iff.1 hbr).1
          clear o0 o1 o2 o3 o4 o5 o6 o7 o8 hB3r hj hj8 hlo6 hbo6 hbo7 hB36 HBw hB HR
          rw [show ((8 : Nat) : Int) = 8 from rfl]
          go_wp2_with fail
          go_loopw [15, 16] (fun v15 v16 wr => ∃ j : Nat, v15 = .int .i64 j ∧ j ≤ l.length ∧ Below X7.heap.size X7 wr) (fun v15 _ _ => l.length - (RowKit.intOf v15).toNat)
          case atStart => exact ⟨0, rfl, by omega, Below.refl _ _⟩
          case round =>
            obtain ⟨j, rfl, hjl, hB⟩ := hrel
            have hbq := (hB.block _ hl7).trans hbr
            obtain ⟨o0, o1, o2, o3, o4, o5, o6, o7, o8⟩ := box9 hbq
            have hB3r : Below X3.heap.size X3 wr := HB7.out.trans (hB.mono HB7.out.size)
            by_cases hj : j < l.length
            · have hji : (j : Int) < (l.length : Int) := by omega
              have hjn : decide ((l.length : Int) ≤ (j : Int)) = false := decide_eq_false (by omega)
              go_wp2_with fail
              refine (HC.out _ hB3r).mono ?_
              rintro e w7 ⟨ya, yc, rfl, hyo, hb7⟩
              have hB7 : Below X7.heap.size X7 w7 := hB.trans (hb7.mono hB.size)
              have hyo := hyo.mono (C := X7.heap.size) (by have := hB.size; omega)
              have hs67 := hB7.size
              have hbr7 := (hb7.block _ (Array.getElem?_eq_some_iff.1 hbq).1).trans hbq
              obtain ⟨r, hr⟩ : ∃ r, l[j]? = some r := ⟨_, List.getElem?_eq_getElem hj⟩
              obtain ⟨ht0, ht1⟩ := HTop.out r (List.mem_of_getElem? hr)
              obtain ⟨g, hg, hgx, hgw, hgc, hgf⟩ := ownR_at hyo hr
              subst hg
              clear o0 o1 o2 o3 o4 o5 o6 o7 o8
              go_upto_region 34 with (fail)
              obtain ⟨wy, hwy⟩ : ∃ wy, w7.alloc (.cells #[.int .i64 2, .int .i64 1, .int .i64 k, .int .i64 p, .string s, .slice (some ⟨g, 0, none⟩) l.length yc, .int .i64 0, .int .i64 0, .bool false] 34) = wy := ⟨_, rfl⟩
              have hy0 : wy.heap[w7.heap.size]? = some (.cells #[.int .i64 2, .int .i64 1, .int .i64 k, .int .i64 p, .string s, .slice (some ⟨g, 0, none⟩) l.length yc, .int .i64 0, .int .i64 0, .bool false] 34) := by rw [← hwy]; exact heap_alloc_new _ _
              have hby : Below w7.heap.size w7 wy := by rw [← hwy]; exact (Below.refl _ _).alloc (Nat.le_refl _) _
              rw [hwy]
              clear hwy
              have hyc : wy.cell? ⟨g, j * 2 + 1, none⟩ = some (.int .i64 r.2) := (hby.cell (p := ⟨g, j * 2 + 1, none⟩) hgw).trans hgc
              have hyf : wy.frozen? ⟨g, j * 2 + 1, none⟩ = false := by
                obtain ⟨g', e, _, _, _, hf⟩ := ownR_at (hyo.below hby) hr
                cases e
                exact hf
              have hy2 := ownR_put (hyo.below hby) hr (r.2 + 1)
              obtain ⟨wz, hwz⟩ : ∃ wz, wy.setCell ⟨g, j * 2 + 1, none⟩ (.int .i64 (r.2 + 1)) = wz := ⟨_, rfl⟩
              rw [hwz] at hy2
              have hKz : But g wy wz := by rw [← hwz]; exact But.set _ _ _ _
              have hz := hKz.block hy0 (by omega)
              have hbrz := hKz.block ((hby.block _ (by omega)).trans hbr7) (by omega)
              have hyz : Rng wz (some ⟨g, 0, none⟩) l.length yc (l.set j (r.1, r.2 + 1)) := rng_of_rw (hy2.rw_ layG)
              have hBz : Below X7.heap.size X7 wz := by
                rw [← hwz]
                exact Below.setCell (hB7.trans (hby.mono hB7.size)) (by simp only; omega) _
              have EQ1 : eqP ⟨2, 1, k, p, s, l, 0, 0, false⟩ ⟨2, 1, k, p, s, l.set j (r.1, r.2 + 1), 0, 0, false⟩ = false := eqP_ne fun h => by
                have h1 := congrArg OpV.l h
                simp only at h1
                have h2 : (l.set j (r.1, r.2 + 1))[j]? = some (r.1, r.2 + 1) := by rw [List.getElem?_set_self hj]
                rw [← h1, hr] at h2
                have := congrArg Prod.snd (Option.some.inj h2)
                simp only at this
                omega
              obtain ⟨r1, r2⟩ := r
              simp only at ht0 ht1 hyc hwz hyz EQ1
              clear hyo hb7 hB hbq hB3r hgx hgc hgf hby hy2 hKz hgw hr
              obtain ⟨y0, y1, y2, y3, y4, y5, y6, y7, y8⟩ := box9 hy0
              obtain ⟨z0, z1, z2, z3, z4, z5, z6, z7, z8⟩ := box9 hz
              obtain ⟨o0, o1, o2, o3, o4, o5, o6, o7, o8⟩ := box9 hbrz
              clear hy0 hz hbr7
              go_wp2_with fail
              try rw [hwz]
              have HH := HQ.out ⟨2, 1, k, p, s, l.set j (r1, r2 + 1), 0, 0, false⟩ (some ⟨g, 0, none⟩) l.length yc wz (HB7.out.trans (hBz.mono HB7.out.size)) hyz
              simp only [EQ1] at HH
              refine HH.mono ?_
              clear HH
              rintro e w9 ⟨rfl, hb9⟩
              have hB9 := hBz.trans (hb9.mono hBz.size)
              clear o0 o1 o2 o3 o4 o5 o6 o7 o8 y0 y1 y2 y3 y4 y5 y6 y7 y8 z0 z1 z2 z3 z4 z5 z6 z7 z8 hB7 hBz hyz hb9 hwz hyc hyf hbrz EQ1
              go_wp2_with fail
              go_roundw
              case rel => exact ⟨j + 1, by go_num, by omega, hB9⟩
              case measure => simp [RowKit.intOf]; omega
            · obtain rfl : j = l.length := by omega
              have HBf : Hid (Below w.heap.size w wr) := HBw7.out.trans (hB.mono HBw7.out.size)
              clear hB3r hB
              go_wp2_with fail
              go_ret
              exact ⟨rfl, HBf.out⟩
end Go.Proofs.YtajnadcinegmjaaDoor
