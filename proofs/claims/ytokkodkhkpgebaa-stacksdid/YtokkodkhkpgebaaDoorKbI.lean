import Derived.Test.YtokkodkhkpgebaaDoorKbH
/-! stacks.move, from the undo stack to the redo stack. -/
namespace Go.Proofs.YtokkodkhkpgebaaDoor
open Go.RowKit Go.Lib
set_option maxRecDepth 100000

/-- The two boxes that flagged's closure holds. -/
structure Fg (W : World) (h : Nat) (fl : Bool) (bh bo : Nat) : Prop where
  hh : W.heap[bh]? = some (.cells #[.pointer (some ⟨h, 0, none⟩)] 28)
  ho : W.heap[bo]? = some (.cells #[.bool fl] 4)
theorem Fg.below {W W' : World} {h : Nat} {fl : Bool} {bh bo : Nat} (H : Fg W h fl bh bo) (hb : Below W.heap.size W W') : Fg W' h fl bh bo := ⟨(hb.block _ (Array.getElem?_eq_some_iff.1 H.hh).1).trans H.hh, (hb.block _ (Array.getElem?_eq_some_iff.1 H.ho).1).trans H.ho⟩
theorem flaggedE_any (h : Nat) (fl : Bool) (W : World) : Calls Tryd.prog 30 #[.pointer (some ⟨h, 0, none⟩), .bool fl] W fun e w' => ∃ bh bo, e = .returned (.func (.func 41) #[] #[.pointer (some ⟨bh, 0, none⟩), .pointer (some ⟨bo, 0, none⟩)]) ∧ Fg w' h fl bh bo ∧ Below W.heap.size W w' := by
  refine (flagged_any h fl W).mono ?_
  rintro e w' ⟨rfl, rfl⟩
  refine ⟨_, _, rfl, ⟨?_, ?_⟩, ((Below.refl _ _).alloc (Nat.le_refl _) _).alloc (by simp) _⟩
  · rw [Below.heap_alloc _ _ _ (by simp)]; exact heap_alloc_new _ _
  · have := heap_alloc_new (W.alloc (.cells #[.pointer (some ⟨h, 0, none⟩)] 28)) (.cells #[.bool fl] 4)
    rw [World.size_alloc] at this
    exact this
/-- What Pick answers of a list and a history. -/
inductive PickR (l : List (Int × Int)) (E : List HE) (fl : Bool) : Int × Int → Int → Int → Prop
  | some (at_ : Nat) (x : Int × Int) (h : l[at_]? = some x) (hy : onB E fl x = true) (hn : ∀ (j : Nat) (y : Int × Int), at_ < j → l[j]? = some y → onB E fl y = false) : PickR l E fl x (at_ : Int) 0
  | none (hn : ∀ (j : Nat) (y : Int × Int), l[j]? = some y → onB E fl y = false) : PickR l E fl (0, 0) 0 70
theorem pickE_any {w : World} {h r : Nat} {oa na : Option Addr} {on oc nn nc : Nat} {tot : Int} {M : List ((Int × Int) × Int)} {E : List HE} (H : HisR w h r oa on oc na nn nc tot M E) (HP : PlsOk w E) {bh bo : Nat} {fl : Bool} (hf : Fg w h fl bh bo) {a : Option Addr} {n cap : Nat} {l : List (Int × Int)} (hl : Rw idV 2 w a n cap l) (hn : n ≤ 1048576) :
    Calls Tryd.prog 29 #[.slice a n cap, .func (.func 41) #[] #[.pointer (some ⟨bh, 0, none⟩), .pointer (some ⟨bo, 0, none⟩)]] w fun e w' => ∃ x at_ c, e = .returned (.tuple #[idA x, .int .i64 at_, .int .i64 c]) ∧ PickR l E fl x at_ c ∧ Below w.heap.size w w' := by
  refine (pickOn_any H HP hf.hh hf.ho hl hn).mono ?_
  rintro e w' ⟨hb, (⟨at_, x, _, h2, h3, h4, rfl⟩ | ⟨h1, rfl⟩)⟩
  · exact ⟨x, _, _, rfl, .some at_ x h2 h3 h4, hb⟩
  · exact ⟨(0, 0), _, _, rfl, .none h1, hb⟩
theorem set2k {W : World} {b : Nat} {T : TypeId} {u0 u1 v0 v1 : Value} (h : W.heap[b]? = some (.cells #[u0, u1] T)) :
    ∃ W9, (W.setCell ⟨b, 0, none⟩ v0).setCell ⟨b, 1, none⟩ v1 = W9 ∧ W9.heap[b]? = some (.cells #[v0, v1] T) ∧ Chg (fun g => g = b) W W9 := by
  have h0 := (heap_setCell_same _ b 0 _ _ v0 h).trans (by simp; rfl)
  have h1 := (heap_setCell_same _ b 1 _ _ v1 h0).trans (by simp; rfl)
  have hs : ∀ (i : Nat) (W : World) (u : Value), Chg (fun g => g = b) W (W.setCell ⟨b, i, none⟩ u) := fun i W u => Chg.set (D := fun g => g = b) (q := b) i W u rfl
  exact ⟨_, rfl, h1, (hs 0 _ _).trans (hs 1 _ _)⟩
def moveUP (w : World) (s : Nat) (D : Nat → Prop) (U R : List (Int × Int)) (E : List HE) (fl : Bool) (e : Ending) (w' : World) : Prop := ∃ (x : Int × Int) (at_ c : Int), PickR U E fl x at_ c ∧ e = .returned (.tuple #[idA x, .int .i64 c]) ∧ (∃ vu' vr', StkAt w' s (fun g => D g ∨ w.heap.size ≤ g) (if c = 0 then U.eraseIdx at_.toNat else U) (if c = 0 then R ++ [x] else R) vu' vr') ∧ Chg D w w'
set_option maxHeartbeats 8000000 in
theorem moveU {w : World} {s : Nat} {D : Nat → Prop} {U R : List (Int × Int)} {vu vr : Value} (hS : StkAt w s D U R vu vr) (hU : U.length ≤ 1048576) (hRl : R.length ≤ 1048576) {h r : Nat} {oa na : Option Addr} {on oc nn nc : Nat} {tot : Int} {M : List ((Int × Int) × Int)} {E : List HE} (H : HisR w h r oa on oc na nn nc tot M E) (HP : PlsOk w E) (fl : Bool) :
    Calls Tryd.prog 20 #[.pointer (some ⟨h, 0, none⟩), .bool fl, .pointer (some ⟨s, 0, none⟩), .pointer (some ⟨s, 1, none⟩)] w fun e w' => moveUP w s D U R E fl e w' := by
  obtain ⟨ua, uc, rfl⟩ := hS.undo.shape
  obtain ⟨ra, rc, rfl⟩ := hS.redo.shape
  obtain ⟨w1, hw1⟩ : ∃ w1, w.alloc (.cells #[.int .i64 0, .int .i64 0] 23) = w1 := ⟨_, rfl⟩
  have k1 : Below w.heap.size w w1 := by rw [← hw1]; exact (Below.refl _ _).alloc (Nat.le_refl _) _
  have hq : w1.heap[w.heap.size]? = some (.cells #[.int .i64 0, .int .i64 0] 23) := by rw [← hw1]; exact heap_alloc_new _ _
  have S1 := hS.chg (E := fun _ => False) (Chg.of_below k1) (fun _ _ h => h)
  obtain ⟨s0, s1⟩ := box2 S1.box
  have hsl := S1.lt
  have H1 := H.below k1
  have HP1 := HP.below k1
  have HF : Hid (∀ W, Below w1.heap.size w1 W → Calls Tryd.prog 30 #[.pointer (some ⟨h, 0, none⟩), .bool fl] W fun e w' => ∃ bh bo, e = .returned (.func (.func 41) #[] #[.pointer (some ⟨bh, 0, none⟩), .pointer (some ⟨bo, 0, none⟩)]) ∧ Fg w' h fl bh bo ∧ Below W.heap.size W w') := fun W hb => flaggedE_any h fl W
  have HPk : Hid (∀ W bh bo, Below w1.heap.size w1 W → Fg W h fl bh bo → Calls Tryd.prog 29 #[.slice ua U.length uc, .func (.func 41) #[] #[.pointer (some ⟨bh, 0, none⟩), .pointer (some ⟨bo, 0, none⟩)]] W fun e w' => ∃ x at_ c, e = .returned (.tuple #[idA x, .int .i64 at_, .int .i64 c]) ∧ PickR U E fl x at_ c ∧ Below W.heap.size W w') := fun W bh bo hb hfg => pickE_any (H1.below hb) (HP1.below hb) hfg ((S1.undo.rw_ layI).below hb) (by omega)
  have hcur : Below w1.heap.size w1 w1 := Below.refl _ _
  go_enter Tryd.func20, Tryd.ntmps20
  go_wp2_with fail
  clear hw1
  go_cut [10, 11, 12] (fun v10 v11 v12 wx => ∃ (g : Nat) (x : Int × Int) (at_ c : Int), v10 = .pointer (some ⟨g, 0, none⟩) ∧ v11 = .int .i64 at_ ∧ v12 = .int .i64 c ∧ PickR U E fl x at_ c ∧ wx.heap[g]? = some (.cells #[.int .i64 x.1, .int .i64 x.2] 23) ∧ w1.heap.size ≤ g ∧ Below w1.heap.size w1 wx)
  case first =>
    refine wp_region_held_drew (S := (fun W => ∀ p : Addr, p.block < w1.heap.size → W.cell? p = w1.cell? p)) (by kernel_rfl) ?hS9 (fun hHeld => ?rest9)
    case hS9 => (intro p hp; refine Below.cell (B := w1.heap.size) ?_ hp; (repeat (first | with_reducible exact hcur | with_reducible exact hB9 | (with_reducible refine Below.drew ?_))))
    refine takeD (i := 0) (d := some 17) (v := ?vT10) rfl rfl (by kernel_rfl) (by kernel_rfl) (by kernel_rfl) (fun _ _ _ h => h) (Or.inl ⟨by rfl, ?hyT10⟩) (by assumption) ?rstT10
    case hyT10 => (intro w hSw; (try dsimp only at hSw); go_simp; (try with_reducible rfl))
    try simp only [Act.put, List.setIfInBounds_toArray, List.set_cons_zero, List.set_cons_succ]
    refine takeD (i := 1) (d := some 18) (v := ?vT11) rfl rfl (by kernel_rfl) (by kernel_rfl) (by kernel_rfl) (fun _ _ _ h => h) (Or.inl ⟨by rfl, ?hyT11⟩) (by assumption) ?rstT11
    case hyT11 => (intro w hSw; (try dsimp only at hSw); go_simp; (try with_reducible rfl))
    try simp only [Act.put, List.setIfInBounds_toArray, List.set_cons_zero, List.set_cons_succ]
    refine takeD (i := 3) (d := some 20) (v := ?vT12) rfl rfl (by kernel_rfl) (by kernel_rfl) (by kernel_rfl) (fun _ _ _ h => h) (Or.inl ⟨by rfl, ?hyT12⟩) (by assumption) ?rstT12
    case hyT12 => (intro w hSw; (try dsimp only at hSw); go_simp; (try with_reducible rfl))
    try simp only [Act.put, List.setIfInBounds_toArray, List.set_cons_zero, List.set_cons_succ]
    refine takeD (i := 4) (d := some 21) (v := ?vT13) rfl rfl (by kernel_rfl) (by kernel_rfl) (by kernel_rfl) (fun _ _ _ h => h) (Or.inl ⟨by rfl, ?hyT13⟩) (by assumption) ?rstT13
    case hyT13 => (intro w hSw; (try dsimp only at hSw); go_simp; (try with_reducible rfl))
    try simp only [Act.put, List.setIfInBounds_toArray, List.set_cons_zero, List.set_cons_succ]
    refine takeD (i := 2) (d := some 19) (v := ?vT14) rfl rfl (by kernel_rfl) (by kernel_rfl) (by kernel_rfl) (fun _ _ _ h => h) (Or.inl ⟨by rfl, ?hyT14⟩) (by assumption) ?rstT14
    case hyT14 => (intro w hSw; (try dsimp only at hSw); go_simp; (try with_reducible rfl))
    try simp only [Act.put, List.setIfInBounds_toArray, List.set_cons_zero, List.set_cons_succ]
    refine wpAnyH_ready (rs := [5, 11]) (by kernel_rfl) (by simp) (AllReadyH.cons rfl (fun K hK => ?b51) (AllReadyH.cons rfl (fun K hK => ?b52) AllReadyH.nil))
    case b51 =>
      go_simp
      refine (HF.out _ ?_).mono ?_
      · first | exact hcur | exact hcur.drew
      rintro e2 w2 ⟨bh, bo, rfl, hfg, hb2⟩
      have hcur2 : Below w1.heap.size w1 w2 := by first | exact hcur.trans (hb2.mono hcur.size) | exact hcur.drew.trans (hb2.mono hcur.drew.size)
      clear hcur hb2
      have hcur := hcur2
      clear hcur2
      clear hHeld
      refine hK.out _ _ ?hS53 (fun hHeld => ?rest53)
      case hS53 => (intro p hp; refine Below.cell (B := w1.heap.size) ?_ hp; (repeat (first | with_reducible exact hcur | with_reducible exact hB9 | (with_reducible refine Below.drew ?_))))
      clear hK K
      try simp only [Act.put, List.setIfInBounds_toArray, List.set_cons_zero, List.set_cons_succ]
      refine wpAnyH_ready (rs := [6, 11]) (by kernel_rfl) (by simp) (AllReadyH.cons rfl (fun K hK => ?b35) (AllReadyH.cons rfl (fun K hK => ?b36) AllReadyH.nil))
      case b35 =>
        go_simp
        refine (HPk.out _ bh bo ?_ ?_).mono ?_
        · exact hcur
        · exact hfg
        rintro e2 w3 ⟨x, at_, c, rfl, hpk, hb2⟩
        have hcur2 : Below w1.heap.size w1 w3 := hcur.trans (hb2.mono hcur.size)
        clear hcur hb2 hfg
        have hcur := hcur2
        clear hcur2
        simp only [idA]
        clear hHeld
        refine hK.out _ _ ?hS37 (fun hHeld => ?rest37)
        case hS37 => (intro p hp; refine Below.cell (B := w1.heap.size) ?_ hp; (repeat (first | with_reducible exact hcur | with_reducible exact hB9 | (with_reducible refine Below.drew ?_))))
        clear hK K
        try simp only [Act.put, List.setIfInBounds_toArray, List.set_cons_zero, List.set_cons_succ]
        refine takeD (i := 7) (d := some 16) (v := ?vT15) rfl rfl (by kernel_rfl) (by kernel_rfl) (by kernel_rfl) (fun _ _ _ h => h) (Or.inl ⟨by rfl, ?hyT15⟩) (by assumption) ?rstT15
        case hyT15 => (intro w hSw; (try dsimp only at hSw); go_simp; (try with_reducible rfl))
        try simp only [Act.put, List.setIfInBounds_toArray, List.set_cons_zero, List.set_cons_succ]
        refine takeD (i := 8) (d := some 24) (v := ?vT16) rfl rfl (by kernel_rfl) (by kernel_rfl) (by kernel_rfl) (fun _ _ _ h => h) (Or.inl ⟨by rfl, ?hyT16⟩) (by assumption) ?rstT16
        case hyT16 => (intro w hSw; (try dsimp only at hSw); go_simp; (try with_reducible rfl))
        try simp only [Act.put, List.setIfInBounds_toArray, List.set_cons_zero, List.set_cons_succ]
        refine takeD (i := 9) (d := some 25) (v := ?vT17) rfl rfl (by kernel_rfl) (by kernel_rfl) (by kernel_rfl) (fun _ _ _ h => h) (Or.inl ⟨by rfl, ?hyT17⟩) (by assumption) ?rstT17
        case hyT17 => (intro w hSw; (try dsimp only at hSw); go_simp; (try with_reducible rfl))
        try simp only [Act.put, List.setIfInBounds_toArray, List.set_cons_zero, List.set_cons_succ]
        refine takeD (i := 10) (d := some 26) (v := ?vT18) rfl rfl (by kernel_rfl) (by kernel_rfl) (by kernel_rfl) (fun _ _ _ h => h) (Or.inl ⟨by rfl, ?hyT18⟩) (by assumption) ?rstT18
        case hyT18 => (intro w hSw; (try dsimp only at hSw); go_simp; (try with_reducible rfl))
        try simp only [Act.put, List.setIfInBounds_toArray, List.set_cons_zero, List.set_cons_succ]
        refine wpAnyH_ready (rs := [11]) (by kernel_rfl) (by simp) (AllReadyH.cons rfl (fun K hK => ?b23) AllReadyH.nil)
        case b23 =>
          go_simp
          obtain ⟨wz, hwz⟩ : ∃ wz, w3.alloc (.cells #[.int .i64 0, .int .i64 0] 23) = wz := ⟨_, rfl⟩
          rw [hwz]
          have hza : Below w3.heap.size w3 wz := by rw [← hwz]; exact ((Below.refl _ _).alloc (Nat.le_refl _) _)
          have hz : wz.heap[w3.heap.size]? = some (.cells #[.int .i64 0, .int .i64 0] 23) := by rw [← hwz]; exact heap_alloc_new w3 _
          have hcur2 : Below w1.heap.size w1 wz := hcur.trans (hza.mono hcur.size)
          have hgz : w1.heap.size ≤ w3.heap.size := hcur.size
          have hzl : w3.heap.size < wz.heap.size := (Array.getElem?_eq_some_iff.1 hz).1
          clear hcur hza hwz
          have hcur := hcur2
          clear hcur2
          clear hHeld
          refine hK.out _ _ ?hS24 (fun hHeld => ?rest24)
          case hS24 => (intro p hp; refine Below.cell (B := w1.heap.size) ?_ hp; (repeat (first | with_reducible exact hcur | with_reducible exact hB9 | (with_reducible refine Below.drew ?_))))
          clear hK K
          try simp only [Act.put, List.setIfInBounds_toArray, List.set_cons_zero, List.set_cons_succ]
          refine wpAnyH_ready (rs := [12]) (by kernel_rfl) (by simp) (AllReadyH.cons rfl (fun K hK => ?b21) AllReadyH.nil)
          case b21 =>
            obtain ⟨cz0, cz1⟩ := box2 hz
            have fz0 := Lib.frozen_of_heap hz 0
            have fz1 := Lib.frozen_of_heap hz 1
            obtain ⟨W9, e9, hx9, hK9⟩ := set2k (v0 := .int .i64 x.1) (v1 := .int .i64 x.2) hz
            go_simp
            try rw [e9]
            have hB9 : Below w1.heap.size w1 W9 := hcur.trans (hK9.below (fun g hg => by omega) hcur.size)
            clear hcur
            have hcur := hB9
            clear hHeld
            refine hK.out _ _ ?hS22 (fun hHeld => ?rest22)
            case hS22 => (intro p hp; refine Below.cell (B := w1.heap.size) ?_ hp; (repeat (first | with_reducible exact hcur | with_reducible exact hB9 | (with_reducible refine Below.drew ?_))))
            clear hK K
            try simp only [Act.put, List.setIfInBounds_toArray, List.set_cons_zero, List.set_cons_succ]
            refine takeD (i := 13) (d := some 11) (v := ?vT19) rfl rfl (by kernel_rfl) (by kernel_rfl) (by kernel_rfl) (fun _ _ _ h => h) (Or.inl ⟨by rfl, ?hyT19⟩) (by assumption) ?rstT19
            case hyT19 => (intro w hSw; (try dsimp only at hSw); go_simp; (try with_reducible rfl))
            try simp only [Act.put, List.setIfInBounds_toArray, List.set_cons_zero, List.set_cons_succ]
            refine takeD (i := 14) (d := some 12) (v := ?vT20) rfl rfl (by kernel_rfl) (by kernel_rfl) (by kernel_rfl) (fun _ _ _ h => h) (Or.inl ⟨by rfl, ?hyT20⟩) (by assumption) ?rstT20
            case hyT20 => (intro w hSw; (try dsimp only at hSw); go_simp; (try with_reducible rfl))
            try simp only [Act.put, List.setIfInBounds_toArray, List.set_cons_zero, List.set_cons_succ]
            refine wpAnyH_done (by kernel_rfl) ?_ _
            go_wp2_with fail
            go_meet
            case rel => exact ⟨w3.heap.size, x, at_, c, rfl, rfl, rfl, hpk, hx9, hgz, hcur⟩
      case b36 =>
        go_simp
        obtain ⟨wz, hwz⟩ : ∃ wz, w2.alloc (.cells #[.int .i64 0, .int .i64 0] 23) = wz := ⟨_, rfl⟩
        rw [hwz]
        have hza : Below w2.heap.size w2 wz := by rw [← hwz]; exact ((Below.refl _ _).alloc (Nat.le_refl _) _)
        have hz : wz.heap[w2.heap.size]? = some (.cells #[.int .i64 0, .int .i64 0] 23) := by rw [← hwz]; exact heap_alloc_new w2 _
        have hcur2 : Below w1.heap.size w1 wz := hcur.trans (hza.mono hcur.size)
        have hfg2 := hfg.below hza
        clear hfg
        have hfg := hfg2
        clear hfg2
        have hgz : w1.heap.size ≤ w2.heap.size := hcur.size
        have hzl : w2.heap.size < wz.heap.size := (Array.getElem?_eq_some_iff.1 hz).1
        clear hcur hza hwz
        have hcur := hcur2
        clear hcur2
        clear hHeld
        refine hK.out _ _ ?hS38 (fun hHeld => ?rest38)
        case hS38 => (intro p hp; refine Below.cell (B := w1.heap.size) ?_ hp; (repeat (first | with_reducible exact hcur | with_reducible exact hB9 | (with_reducible refine Below.drew ?_))))
        clear hK K
        try simp only [Act.put, List.setIfInBounds_toArray, List.set_cons_zero, List.set_cons_succ]
        refine wpAnyH_ready (rs := [6]) (by kernel_rfl) (by simp) (AllReadyH.cons rfl (fun K hK => ?b33) AllReadyH.nil)
        case b33 =>
          go_simp
          refine (HPk.out _ bh bo ?_ ?_).mono ?_
          · exact hcur
          · exact hfg
          rintro e2 w3 ⟨x, at_, c, rfl, hpk, hb2⟩
          have hcur2 : Below w1.heap.size w1 w3 := hcur.trans (hb2.mono hcur.size)
          have hz2 := (hb2.block _ hzl).trans hz
          have hzl2 : w2.heap.size < w3.heap.size := Nat.lt_of_lt_of_le hzl hb2.size
          clear hz hzl
          have hz := hz2
          have hzl := hzl2
          clear hz2 hzl2
          clear hcur hb2 hfg
          have hcur := hcur2
          clear hcur2
          simp only [idA]
          clear hHeld
          refine hK.out _ _ ?hS34 (fun hHeld => ?rest34)
          case hS34 => (intro p hp; refine Below.cell (B := w1.heap.size) ?_ hp; (repeat (first | with_reducible exact hcur | with_reducible exact hB9 | (with_reducible refine Below.drew ?_))))
          clear hK K
          try simp only [Act.put, List.setIfInBounds_toArray, List.set_cons_zero, List.set_cons_succ]
          refine takeD (i := 7) (d := some 16) (v := ?vT25) rfl rfl (by kernel_rfl) (by kernel_rfl) (by kernel_rfl) (fun _ _ _ h => h) (Or.inl ⟨by rfl, ?hyT25⟩) (by assumption) ?rstT25
          case hyT25 => (intro w hSw; (try dsimp only at hSw); go_simp; (try with_reducible rfl))
          try simp only [Act.put, List.setIfInBounds_toArray, List.set_cons_zero, List.set_cons_succ]
          refine takeD (i := 8) (d := some 24) (v := ?vT26) rfl rfl (by kernel_rfl) (by kernel_rfl) (by kernel_rfl) (fun _ _ _ h => h) (Or.inl ⟨by rfl, ?hyT26⟩) (by assumption) ?rstT26
          case hyT26 => (intro w hSw; (try dsimp only at hSw); go_simp; (try with_reducible rfl))
          try simp only [Act.put, List.setIfInBounds_toArray, List.set_cons_zero, List.set_cons_succ]
          refine takeD (i := 9) (d := some 25) (v := ?vT27) rfl rfl (by kernel_rfl) (by kernel_rfl) (by kernel_rfl) (fun _ _ _ h => h) (Or.inl ⟨by rfl, ?hyT27⟩) (by assumption) ?rstT27
          case hyT27 => (intro w hSw; (try dsimp only at hSw); go_simp; (try with_reducible rfl))
          try simp only [Act.put, List.setIfInBounds_toArray, List.set_cons_zero, List.set_cons_succ]
          refine takeD (i := 10) (d := some 26) (v := ?vT28) rfl rfl (by kernel_rfl) (by kernel_rfl) (by kernel_rfl) (fun _ _ _ h => h) (Or.inl ⟨by rfl, ?hyT28⟩) (by assumption) ?rstT28
          case hyT28 => (intro w hSw; (try dsimp only at hSw); go_simp; (try with_reducible rfl))
          try simp only [Act.put, List.setIfInBounds_toArray, List.set_cons_zero, List.set_cons_succ]
          refine wpAnyH_ready (rs := [12]) (by kernel_rfl) (by simp) (AllReadyH.cons rfl (fun K hK => ?b31) AllReadyH.nil)
          case b31 =>
            obtain ⟨cz0, cz1⟩ := box2 hz
            have fz0 := Lib.frozen_of_heap hz 0
            have fz1 := Lib.frozen_of_heap hz 1
            obtain ⟨W9, e9, hx9, hK9⟩ := set2k (v0 := .int .i64 x.1) (v1 := .int .i64 x.2) hz
            go_simp
            try rw [e9]
            have hB9 : Below w1.heap.size w1 W9 := hcur.trans (hK9.below (fun g hg => by omega) hcur.size)
            clear hcur
            have hcur := hB9
            clear hHeld
            refine hK.out _ _ ?hS32 (fun hHeld => ?rest32)
            case hS32 => (intro p hp; refine Below.cell (B := w1.heap.size) ?_ hp; (repeat (first | with_reducible exact hcur | with_reducible exact hB9 | (with_reducible refine Below.drew ?_))))
            clear hK K
            try simp only [Act.put, List.setIfInBounds_toArray, List.set_cons_zero, List.set_cons_succ]
            refine takeD (i := 13) (d := some 11) (v := ?vT29) rfl rfl (by kernel_rfl) (by kernel_rfl) (by kernel_rfl) (fun _ _ _ h => h) (Or.inl ⟨by rfl, ?hyT29⟩) (by assumption) ?rstT29
            case hyT29 => (intro w hSw; (try dsimp only at hSw); go_simp; (try with_reducible rfl))
            try simp only [Act.put, List.setIfInBounds_toArray, List.set_cons_zero, List.set_cons_succ]
            refine takeD (i := 14) (d := some 12) (v := ?vT30) rfl rfl (by kernel_rfl) (by kernel_rfl) (by kernel_rfl) (fun _ _ _ h => h) (Or.inl ⟨by rfl, ?hyT30⟩) (by assumption) ?rstT30
            case hyT30 => (intro w hSw; (try dsimp only at hSw); go_simp; (try with_reducible rfl))
            try simp only [Act.put, List.setIfInBounds_toArray, List.set_cons_zero, List.set_cons_succ]
            refine wpAnyH_done (by kernel_rfl) ?_ _
            go_wp2_with fail
            go_meet
            case rel => exact ⟨w2.heap.size, x, at_, c, rfl, rfl, rfl, hpk, hx9, hgz, hcur⟩
    case b52 =>
      go_simp
      obtain ⟨wz, hwz⟩ : ∃ wz, (w1.alloc (.cells #[.int .i64 0, .int .i64 0] 23)).drew = wz := ⟨_, rfl⟩
      rw [hwz]
      have hza : Below w1.heap.size w1 wz := by rw [← hwz]; exact ((Below.refl _ _).alloc (Nat.le_refl _) _).drew
      have hz : wz.heap[w1.heap.size]? = some (.cells #[.int .i64 0, .int .i64 0] 23) := by rw [← hwz]; exact heap_alloc_new w1 _
      have hcur2 : Below w1.heap.size w1 wz := hcur.trans (hza.mono hcur.size)
      have hgz : w1.heap.size ≤ w1.heap.size := hcur.size
      have hzl : w1.heap.size < wz.heap.size := (Array.getElem?_eq_some_iff.1 hz).1
      clear hcur hza hwz
      have hcur := hcur2
      clear hcur2
      clear hHeld
      refine hK.out _ _ ?hS54 (fun hHeld => ?rest54)
      case hS54 => (intro p hp; refine Below.cell (B := w1.heap.size) ?_ hp; (repeat (first | with_reducible exact hcur | with_reducible exact hB9 | (with_reducible refine Below.drew ?_))))
      clear hK K
      try simp only [Act.put, List.setIfInBounds_toArray, List.set_cons_zero, List.set_cons_succ]
      refine wpAnyH_ready (rs := [5]) (by kernel_rfl) (by simp) (AllReadyH.cons rfl (fun K hK => ?b49) AllReadyH.nil)
      case b49 =>
        go_simp
        refine (HF.out _ ?_).mono ?_
        · first | exact hcur | exact hcur.drew
        rintro e2 w2 ⟨bh, bo, rfl, hfg, hb2⟩
        have hcur2 : Below w1.heap.size w1 w2 := by first | exact hcur.trans (hb2.mono hcur.size) | exact hcur.drew.trans (hb2.mono hcur.drew.size)
        have hz2 := (hb2.block _ hzl).trans hz
        have hzl2 : w1.heap.size < w2.heap.size := Nat.lt_of_lt_of_le hzl hb2.size
        clear hz hzl
        have hz := hz2
        have hzl := hzl2
        clear hz2 hzl2
        clear hcur hb2
        have hcur := hcur2
        clear hcur2
        clear hHeld
        refine hK.out _ _ ?hS50 (fun hHeld => ?rest50)
        case hS50 => (intro p hp; refine Below.cell (B := w1.heap.size) ?_ hp; (repeat (first | with_reducible exact hcur | with_reducible exact hB9 | (with_reducible refine Below.drew ?_))))
        clear hK K
        try simp only [Act.put, List.setIfInBounds_toArray, List.set_cons_zero, List.set_cons_succ]
        refine wpAnyH_ready (rs := [6]) (by kernel_rfl) (by simp) (AllReadyH.cons rfl (fun K hK => ?b47) AllReadyH.nil)
        case b47 =>
          go_simp
          refine (HPk.out _ bh bo ?_ ?_).mono ?_
          · exact hcur
          · exact hfg
          rintro e2 w3 ⟨x, at_, c, rfl, hpk, hb2⟩
          have hcur2 : Below w1.heap.size w1 w3 := hcur.trans (hb2.mono hcur.size)
          have hz2 := (hb2.block _ hzl).trans hz
          have hzl2 : w1.heap.size < w3.heap.size := Nat.lt_of_lt_of_le hzl hb2.size
          clear hz hzl
          have hz := hz2
          have hzl := hzl2
          clear hz2 hzl2
          clear hcur hb2 hfg
          have hcur := hcur2
          clear hcur2
          simp only [idA]
          clear hHeld
          refine hK.out _ _ ?hS48 (fun hHeld => ?rest48)
          case hS48 => (intro p hp; refine Below.cell (B := w1.heap.size) ?_ hp; (repeat (first | with_reducible exact hcur | with_reducible exact hB9 | (with_reducible refine Below.drew ?_))))
          clear hK K
          try simp only [Act.put, List.setIfInBounds_toArray, List.set_cons_zero, List.set_cons_succ]
          refine takeD (i := 7) (d := some 16) (v := ?vT39) rfl rfl (by kernel_rfl) (by kernel_rfl) (by kernel_rfl) (fun _ _ _ h => h) (Or.inl ⟨by rfl, ?hyT39⟩) (by assumption) ?rstT39
          case hyT39 => (intro w hSw; (try dsimp only at hSw); go_simp; (try with_reducible rfl))
          try simp only [Act.put, List.setIfInBounds_toArray, List.set_cons_zero, List.set_cons_succ]
          refine takeD (i := 8) (d := some 24) (v := ?vT40) rfl rfl (by kernel_rfl) (by kernel_rfl) (by kernel_rfl) (fun _ _ _ h => h) (Or.inl ⟨by rfl, ?hyT40⟩) (by assumption) ?rstT40
          case hyT40 => (intro w hSw; (try dsimp only at hSw); go_simp; (try with_reducible rfl))
          try simp only [Act.put, List.setIfInBounds_toArray, List.set_cons_zero, List.set_cons_succ]
          refine takeD (i := 9) (d := some 25) (v := ?vT41) rfl rfl (by kernel_rfl) (by kernel_rfl) (by kernel_rfl) (fun _ _ _ h => h) (Or.inl ⟨by rfl, ?hyT41⟩) (by assumption) ?rstT41
          case hyT41 => (intro w hSw; (try dsimp only at hSw); go_simp; (try with_reducible rfl))
          try simp only [Act.put, List.setIfInBounds_toArray, List.set_cons_zero, List.set_cons_succ]
          refine takeD (i := 10) (d := some 26) (v := ?vT42) rfl rfl (by kernel_rfl) (by kernel_rfl) (by kernel_rfl) (fun _ _ _ h => h) (Or.inl ⟨by rfl, ?hyT42⟩) (by assumption) ?rstT42
          case hyT42 => (intro w hSw; (try dsimp only at hSw); go_simp; (try with_reducible rfl))
          try simp only [Act.put, List.setIfInBounds_toArray, List.set_cons_zero, List.set_cons_succ]
          refine wpAnyH_ready (rs := [12]) (by kernel_rfl) (by simp) (AllReadyH.cons rfl (fun K hK => ?b45) AllReadyH.nil)
          case b45 =>
            obtain ⟨cz0, cz1⟩ := box2 hz
            have fz0 := Lib.frozen_of_heap hz 0
            have fz1 := Lib.frozen_of_heap hz 1
            obtain ⟨W9, e9, hx9, hK9⟩ := set2k (v0 := .int .i64 x.1) (v1 := .int .i64 x.2) hz
            go_simp
            try rw [e9]
            have hB9 : Below w1.heap.size w1 W9 := hcur.trans (hK9.below (fun g hg => by omega) hcur.size)
            clear hcur
            have hcur := hB9
            clear hHeld
            refine hK.out _ _ ?hS46 (fun hHeld => ?rest46)
            case hS46 => (intro p hp; refine Below.cell (B := w1.heap.size) ?_ hp; (repeat (first | with_reducible exact hcur | with_reducible exact hB9 | (with_reducible refine Below.drew ?_))))
            clear hK K
            try simp only [Act.put, List.setIfInBounds_toArray, List.set_cons_zero, List.set_cons_succ]
            refine takeD (i := 13) (d := some 11) (v := ?vT43) rfl rfl (by kernel_rfl) (by kernel_rfl) (by kernel_rfl) (fun _ _ _ h => h) (Or.inl ⟨by rfl, ?hyT43⟩) (by assumption) ?rstT43
            case hyT43 => (intro w hSw; (try dsimp only at hSw); go_simp; (try with_reducible rfl))
            try simp only [Act.put, List.setIfInBounds_toArray, List.set_cons_zero, List.set_cons_succ]
            refine takeD (i := 14) (d := some 12) (v := ?vT44) rfl rfl (by kernel_rfl) (by kernel_rfl) (by kernel_rfl) (fun _ _ _ h => h) (Or.inl ⟨by rfl, ?hyT44⟩) (by assumption) ?rstT44
            case hyT44 => (intro w hSw; (try dsimp only at hSw); go_simp; (try with_reducible rfl))
            try simp only [Act.put, List.setIfInBounds_toArray, List.set_cons_zero, List.set_cons_succ]
            refine wpAnyH_done (by kernel_rfl) ?_ _
            go_wp2_with fail
            go_meet
            case rel => exact ⟨w1.heap.size, x, at_, c, rfl, rfl, rfl, hpk, hx9, hgz, hcur⟩
  case rest =>
    obtain ⟨W3, rfl⟩ : ∃ x, x = wc := ⟨_, rfl⟩
    obtain ⟨g, x, at_, c, rfl, rfl, rfl, hpk, hx, hgl, k3⟩ := hcut
    have hsz1 := k1.size
    have hsz3 := k3.size
    have hB3 : Below w.heap.size w W3 := k1.trans (k3.mono hsz1)
    have hql := (Array.getElem?_eq_some_iff.1 hq).1
    have hq3 := (k3.block _ hql).trans hq
    obtain ⟨q0, q1⟩ := box2 hq3
    have fq0 := Lib.frozen_of_heap hq3 0
    have fq1 := Lib.frozen_of_heap hq3 1
    have S3 := hS.chg (E := fun _ => False) (Chg.of_below hB3) (fun _ _ h => h)
    cases hpk with
    | none hn =>
      clear s0 s1
      go_wp2_with fail
      have sq0 : W3.setCell ⟨w.heap.size, 0, none⟩ (.int .i64 0) = W3 := setCell_self q0
      have sq1 : W3.setCell ⟨w.heap.size, 1, none⟩ (.int .i64 0) = W3 := setCell_self q1
      rw [sq0, sq1]
      refine bodyPost_ret (v := .tuple #[idA (0, 0), .int .i64 70]) (by simp [results, Tryd.results20, go_sem, idA, q0, q1]) rfl ?_
      unfold moveUP
      refine ⟨(0, 0), 0, 70, .none hn, rfl, ⟨.slice ua U.length uc, .slice ra R.length rc, ?_⟩, Chg.of_below hB3⟩
      rw [if_neg (by decide), if_neg (by decide)]
      exact S3.mono (fun g _ hd => .inl hd)
    | some at2 _ hxl hy hno =>
      have hatl : at2 < U.length := (List.getElem?_eq_some_iff.1 hxl).1
      obtain ⟨m, hm⟩ : ∃ m, U.length = m + 1 := ⟨U.length - 1, by omega⟩
      have hof := S3.undo
      obtain ⟨g0, hg0⟩ : ∃ g0, ua = some ⟨g0, 0, none⟩ := by
        rcases hof.2 with ⟨e, h0⟩ | ⟨g', cap', cur, e, _⟩
        · omega
        · simp only [Value.slice.injEq] at e
          exact ⟨g', e.1⟩
      subst hg0
      rw [hm] at hof
      have HD := delete_any hof at2 (by omega) (by omega)
      obtain ⟨s0', s1'⟩ := box2 S3.box
      rw [hm] at s0'
      have i1 : IntKind.i64.wrap ((at2 : Int) + 1) = (at2 : Int) + 1 := IntWalk.i64_in _ (by omega)
      clear s0 s1 HF HPk
      go_wp2_with fail
      refine HD.mono ?_
      rintro e4 w4 ⟨rfl, ho4, hg4⟩
      clear HD
      obtain ⟨x1, x2⟩ := x
      have hs3 := S3.lt
      have hne0 : ∀ gg, gg < W3.heap.size → gg ≠ g0 → w4.heap[gg]? = W3.heap[gg]? := fun gg h1 h2 => hg4.block gg h1 (fun e => h2 (by simpa using e))
      have hd0 := S3.du g0 rfl
      have hs0 : s ≠ g0 := fun e => hd0.2.1 e.symm
      have hb4 := (hne0 s hs3 hs0).trans S3.box
      rw [hm] at hb4
      obtain ⟨t0, t1⟩ := box2 hb4
      have ft0 := Lib.frozen_of_heap hb4 0
      obtain ⟨W5, hW5⟩ : ∃ W5, w4.setCell ⟨s, 0, none⟩ (.slice (some ⟨g0, 0, none⟩) m uc) = W5 := ⟨_, rfl⟩
      have hb5 : W5.heap[s]? = some (.cells #[.slice (some ⟨g0, 0, none⟩) m uc, .slice ra R.length rc] 58) := by rw [← hW5]; exact (heap_setCell_same _ s 0 _ _ _ hb4).trans (by simp)
      have hC5 : Chg (fun gg => gg = s) w4 W5 := by rw [← hW5]; exact Chg.set (D := fun gg => gg = s) (q := s) 0 _ _ rfl
      have hC4 : Chg (fun gg => gg = g0) W3 w4 := ⟨⟨hg4.os, hg4.tape, hg4.output, hg4.size, fun k hk => absurd hk (Nat.not_lt_zero _)⟩, fun gg h1 h2 => hne0 gg h1 h2⟩
      have hgt : ∀ gg, (Value.slice ra R.length rc).ownBlock = some gg → gg ≠ g0 ∧ gg ≠ s := fun gg hgg => ⟨fun e => hd0.2.2 (e ▸ hgg), (S3.dr gg hgg).2⟩
      have hot5 : OwnF idV 2 23 W5.drew 0 (.slice ra R.length rc) R := (hC5.own (hC4.own S3.redo (fun gg hgg => (hgt gg hgg).1)) (fun gg hgg => (hgt gg hgg).2)).below (Below.refl _ _).drew
      have hnf : ∀ gg, (Value.slice (some ⟨g0, 0, none⟩) m uc).ownBlock = some gg → ¬ gg = s := fun gg hgg e => hs0 (by simp [Value.ownBlock] at hgg; omega)
      have hof5 : OwnF idV 2 23 W5.drew 0 (.slice (some ⟨g0, 0, none⟩) m uc) (U.eraseIdx at2) := (hC5.own ho4 hnf).below (Below.refl _ _).drew
      obtain ⟨g7, cap7, w7, hr, ho7, hbl7, hk7, hsz7, hat7⟩ := appendF_one kindI layI hot5 (Nat.zero_le _) (x1, x2) #[.int .i64 x1, .int .i64 x2] rfl 23 (by omega) (by omega) 36
      have lsw := hS.lt
      have lg0 : g0 < w.heap.size := hS.undo.lt rfl
      have lgt : ∀ gg, (Value.slice ra R.length rc).ownBlock = some gg → gg < w.heap.size := fun gg hgg => hS.redo.lt hgg
      have hid5 : W5.heap[g]? = some (.cells #[.int .i64 x1, .int .i64 x2] 23) := hC5.block (hC4.block hx (by omega)) (by omega)
      have hq5 := hC5.block (hC4.block hq3 (by omega)) (show ¬ w.heap.size = s by omega)
      have l5 := (Array.getElem?_eq_some_iff.1 hid5).1
      have l5q := (Array.getElem?_eq_some_iff.1 hq5).1
      have l5s := (Array.getElem?_eq_some_iff.1 hb5).1
      have hid7 : w7.heap[g]? = _ := (hk7 g l5 (fun e => by have := lgt g e; omega)).trans hid5
      have hq7 : w7.heap[w.heap.size]? = _ := (hk7 _ l5q (fun e => by have := lgt _ e; omega)).trans hq5
      have hb7 : w7.heap[s]? = _ := (hk7 s l5s (fun e => (hgt s e).2 rfl)).trans hb5
      obtain ⟨W8, hW8⟩ : ∃ W8, w7.setCell ⟨s, 1, none⟩ (.slice (some ⟨g7, 0, none⟩) (R.length + 1) cap7) = W8 := ⟨_, rfl⟩
      have hb8 : W8.heap[s]? = some (.cells #[.slice (some ⟨g0, 0, none⟩) m uc, .slice (some ⟨g7, 0, none⟩) (R.length + 1) cap7] 58) := by rw [← hW8]; exact (heap_setCell_same _ s 1 _ _ _ hb7).trans (by simp)
      have hC8 : Chg (fun gg => gg = s) w7 W8 := by rw [← hW8]; exact Chg.set (D := fun gg => gg = s) (q := s) 1 _ _ rfl
      have hid8 := hC8.block hid7 (show ¬ g = s by omega)
      have hq8 := hC8.block hq7 (show ¬ w.heap.size = s by omega)
      obtain ⟨W9, e9, hx9, hK9⟩ := set2k (v0 := .int .i64 x1) (v1 := .int .i64 x2) hq8
      obtain ⟨y0, y1⟩ := box2 hid5
      obtain ⟨z0, z1⟩ := box2 hb5
      obtain ⟨o0, o1⟩ := box2 hb7
      have fo1 := Lib.frozen_of_heap hb7 1
      obtain ⟨p0, p1⟩ := box2 hid8
      obtain ⟨v0, v1⟩ := box2 hq8
      have fv0 := Lib.frozen_of_heap hq8 0
      have fv1 := Lib.frozen_of_heap hq8 1
      obtain ⟨r0, r1⟩ := box2 hx9
      have hr' : (Builtin.append_ #[36, 36] 36 #[.slice ra R.length rc, .slice (some ⟨W5.heap.size, 0, none⟩) 1 1]).run Tryd.prog (W5.alloc (.cells #[.int .i64 x1, .int .i64 x2] 23)).drew = .ok (.slice (some ⟨g7, 0, none⟩) (R.length + 1) cap7) w7 := hr
      have hg7s : g7 ≠ s := by
        rcases hat7 with e | e
        · exact (hgt g7 e).2
        · have : W5.drew.heap.size = W5.heap.size := rfl
          omega
      have hg70 : g7 ≠ g0 := by
        rcases hat7 with e | e
        · exact (hgt g7 e).1
        · have := hC5.size; have := hC4.size; have : W5.drew.heap.size = W5.heap.size := rfl
          omega
      have hCA : Chg D w W8 := (Chg.of_below hB3).trans (((hC4.mono (fun gg _ e => e ▸ hd0.1)).trans (hC5.mono (fun gg _ e => e ▸ hS.inD))).trans ((Chg.of_below (Below.refl _ W5).drew).trans ((keeps_chg hk7 hbl7 (fun gg hgg => (S3.dr gg hgg).1)).trans (hC8.mono (fun gg _ e => e ▸ hS.inD)))))
      have hCD : Chg D w W9 := ⟨hCA.1.trans hK9.1, fun gg hgg hnd => (hK9.2 gg (by have := hCA.size; omega) (by omega)).trans (hCA.2 gg hgg hnd)⟩
      have hlo7 : ∀ gg, (Value.slice (some ⟨g7, 0, none⟩) (R.length + 1) cap7).ownBlock = some gg → gg = g7 := fun gg hgg => by simp [Value.ownBlock] at hgg; omega
      have hnq : g7 ≠ w.heap.size := by
        rcases hat7 with e | e
        · have := lgt g7 e; omega
        · have : W5.drew.heap.size = W5.heap.size := rfl
          omega
      have hof9 : OwnF idV 2 23 W9 0 (.slice (some ⟨g0, 0, none⟩) m uc) (U.eraseIdx at2) :=
        hK9.own (hC8.own ((keeps_chg (D := fun gg => (Value.slice ra R.length rc).ownBlock = some gg) hk7 hbl7 (fun _ h => h)).own hof5 (fun gg hgg e => (hgt gg e).1 (by simp [Value.ownBlock] at hgg; omega))) hnf) (fun gg hgg e => by simp [Value.ownBlock] at hgg; omega)
      have hot9 : OwnF idV 2 23 W9 0 (.slice (some ⟨g7, 0, none⟩) (R.length + 1) cap7) (R ++ [(x1, x2)]) := hK9.own (hC8.own ho7 (fun gg hgg e => hg7s ((hlo7 gg hgg) ▸ e))) (fun gg hgg e => hnq ((hlo7 gg hgg) ▸ e))
      have hdn : D g7 ∨ w.heap.size ≤ g7 := by
        rcases hat7 with e | e
        · exact .inl (S3.dr g7 e).1
        · have := hC5.size; have := hC4.size; have : W5.drew.heap.size = W5.heap.size := rfl
          right; omega
      have hb9 := hK9.block hb8 (show ¬ s = w.heap.size by omega)
      have hfin : StkAt W9 s (fun gg => D gg ∨ w.heap.size ≤ gg) (U.eraseIdx at2) (R ++ [(x1, x2)]) (.slice (some ⟨g0, 0, none⟩) m uc) (.slice (some ⟨g7, 0, none⟩) (R.length + 1) cap7) := by
        refine ⟨hb9, .inl hS.inD, hof9, hot9, fun gg hgg => ?_, fun gg hgg => ?_⟩
        · obtain rfl : g0 = gg := by simpa [Value.ownBlock] using hgg
          exact ⟨.inl hd0.1, fun e => hs0 e.symm, by simp [Value.ownBlock]; omega⟩
        · obtain rfl : g7 = gg := by simpa [Value.ownBlock] using hgg
          exact ⟨hdn, hg7s⟩
      have hlenT : (R.length : Int) + 1 ≤ 9223372036854775807 := by omega
      clear hr hof9 hot9 hb9 hb8 hid8 hq8 hb7 hid7 hq7 hb5 hid5 hq5 ho7 hof5 hot5 hk7 hbl7 hat7
      go_wp2_with fail
      refine wp_region_any (by kernel_rfl) ?_
      show wpAny _ _ _ _ _ _ _ W5.drew
      refine takeA (i := 0) (d := some 40) (v := ?vT1) rfl rfl (by kernel_rfl) (by kernel_rfl) (by kernel_rfl) (fun _ _ _ h => h) (Or.inl ⟨by rfl, ?hyT1⟩) ?rstT1
      case hyT1 => (intro w; go_simp; (try with_reducible rfl))
      try simp only [Act.put, List.setIfInBounds_toArray, List.set_cons_zero, List.set_cons_succ]
      refine takeA (i := 1) (d := some 41) (v := ?vT2) rfl rfl (by kernel_rfl) (by kernel_rfl) (by kernel_rfl) (fun _ _ _ h => h) (Or.inl ⟨by rfl, ?hyT2⟩) ?rstT2
      case hyT2 => (intro w; go_simp; (try with_reducible rfl))
      try simp only [Act.put, List.setIfInBounds_toArray, List.set_cons_zero, List.set_cons_succ]
      refine takeA (i := 2) (d := some 42) (v := ?vT3) rfl rfl (by kernel_rfl) (by kernel_rfl) (by kernel_rfl) (fun _ _ _ h => h) (Or.inl ⟨by rfl, ?hyT3⟩) ?rstT3
      case hyT3 => (intro w; go_simp; (try with_reducible rfl))
      try simp only [Act.put, List.setIfInBounds_toArray, List.set_cons_zero, List.set_cons_succ]
      refine wpAny_ready (rs := [3, 4]) (by kernel_rfl) (by simp) (consS rfl (fun K hK => ?bA8) (consS rfl (fun K hK => ?bB8) AllReady.nil))
      case bA8 =>
        go_simp
        refine hK.out _ _ ?_
        clear hK K
        try simp only [Act.put, List.setIfInBounds_toArray, List.set_cons_zero, List.set_cons_succ]
        refine wpAny_ready (rs := [4]) (by kernel_rfl) (by simp) (consS rfl (fun K hK => ?_) AllReady.nil)
        go_simp
        refine hK.out _ _ ?_
        clear hK K
        try simp only [Act.put, List.setIfInBounds_toArray, List.set_cons_zero, List.set_cons_succ]
        refine wpAny_ready (rs := [5]) (by kernel_rfl) (by simp) (consS rfl (fun K hK => ?_) AllReady.nil)
        go_simp
        refine hK.out _ _ ?_
        clear hK K
        try simp only [Act.put, List.setIfInBounds_toArray, List.set_cons_zero, List.set_cons_succ]
        refine wpAny_ready (rs := [6]) (by kernel_rfl) (by simp) (consS rfl (fun K hK => ?_) AllReady.nil)
        rw [if_pos (by rfl)]
        refine wp_append_hr (.tmp 43) (.tmp 45) 36 (some 46) rfl rfl _ _ rfl rfl hr' ?_
        refine hK.out _ _ ?_
        clear hK K
        try simp only [Act.put, List.setIfInBounds_toArray, List.set_cons_zero, List.set_cons_succ]
        refine takeA (i := 7) (d := some 47) (v := ?vT4) rfl rfl (by kernel_rfl) (by kernel_rfl) (by kernel_rfl) (fun _ _ _ h => h) (Or.inl ⟨by rfl, ?hyT4⟩) ?rstT4
        case hyT4 => (intro w; go_simp; (try with_reducible rfl))
        try simp only [Act.put, List.setIfInBounds_toArray, List.set_cons_zero, List.set_cons_succ]
        refine wpAny_ready (rs := [8]) (by kernel_rfl) (by simp) (consS rfl (fun K hK => ?_) AllReady.nil)
        go_simp
        refine hK.out _ _ ?_
        clear hK K
        try simp only [Act.put, List.setIfInBounds_toArray, List.set_cons_zero, List.set_cons_succ]
        refine wpAny_done (by kernel_rfl) ?_ _
        go_wp2_with fail
        try rw [e9]
        refine bodyPost_ret (v := .tuple #[idA (x1, x2), .int .i64 0]) (by simp [results, Tryd.results20, go_sem, idA, r0, r1]) rfl ?_
        unfold moveUP
        refine ⟨(x1, x2), at2, 0, .some at2 (x1, x2) hxl hy hno, rfl, ⟨(.slice (some ⟨g0, 0, none⟩) m uc), (.slice (some ⟨g7, 0, none⟩) (R.length + 1) cap7), ?_⟩, hCD⟩
        rw [if_pos rfl, if_pos rfl, Int.toNat_natCast]
        exact hfin
      case bB8 =>
        go_simp
        refine hK.out _ _ ?_
        clear hK K
        try simp only [Act.put, List.setIfInBounds_toArray, List.set_cons_zero, List.set_cons_succ]
        refine wpAny_ready (rs := [3, 5]) (by kernel_rfl) (by simp) (consS rfl (fun K hK => ?bA7) (consS rfl (fun K hK => ?bB7) AllReady.nil))
        case bA7 =>
          go_simp
          refine hK.out _ _ ?_
          clear hK K
          try simp only [Act.put, List.setIfInBounds_toArray, List.set_cons_zero, List.set_cons_succ]
          refine wpAny_ready (rs := [5]) (by kernel_rfl) (by simp) (consS rfl (fun K hK => ?_) AllReady.nil)
          go_simp
          refine hK.out _ _ ?_
          clear hK K
          try simp only [Act.put, List.setIfInBounds_toArray, List.set_cons_zero, List.set_cons_succ]
          refine wpAny_ready (rs := [6]) (by kernel_rfl) (by simp) (consS rfl (fun K hK => ?_) AllReady.nil)
          rw [if_pos (by rfl)]
          refine wp_append_hr (.tmp 43) (.tmp 45) 36 (some 46) rfl rfl _ _ rfl rfl hr' ?_
          refine hK.out _ _ ?_
          clear hK K
          try simp only [Act.put, List.setIfInBounds_toArray, List.set_cons_zero, List.set_cons_succ]
          refine takeA (i := 7) (d := some 47) (v := ?vT5) rfl rfl (by kernel_rfl) (by kernel_rfl) (by kernel_rfl) (fun _ _ _ h => h) (Or.inl ⟨by rfl, ?hyT5⟩) ?rstT5
          case hyT5 => (intro w; go_simp; (try with_reducible rfl))
          try simp only [Act.put, List.setIfInBounds_toArray, List.set_cons_zero, List.set_cons_succ]
          refine wpAny_ready (rs := [8]) (by kernel_rfl) (by simp) (consS rfl (fun K hK => ?_) AllReady.nil)
          go_simp
          refine hK.out _ _ ?_
          clear hK K
          try simp only [Act.put, List.setIfInBounds_toArray, List.set_cons_zero, List.set_cons_succ]
          refine wpAny_done (by kernel_rfl) ?_ _
          go_wp2_with fail
          try rw [e9]
          refine bodyPost_ret (v := .tuple #[idA (x1, x2), .int .i64 0]) (by simp [results, Tryd.results20, go_sem, idA, r0, r1]) rfl ?_
          unfold moveUP
          refine ⟨(x1, x2), at2, 0, .some at2 (x1, x2) hxl hy hno, rfl, ⟨(.slice (some ⟨g0, 0, none⟩) m uc), (.slice (some ⟨g7, 0, none⟩) (R.length + 1) cap7), ?_⟩, hCD⟩
          rw [if_pos rfl, if_pos rfl, Int.toNat_natCast]
          exact hfin
        case bB7 =>
          go_simp
          refine hK.out _ _ ?_
          clear hK K
          try simp only [Act.put, List.setIfInBounds_toArray, List.set_cons_zero, List.set_cons_succ]
          refine wpAny_ready (rs := [3]) (by kernel_rfl) (by simp) (consS rfl (fun K hK => ?_) AllReady.nil)
          go_simp
          refine hK.out _ _ ?_
          clear hK K
          try simp only [Act.put, List.setIfInBounds_toArray, List.set_cons_zero, List.set_cons_succ]
          refine wpAny_ready (rs := [6]) (by kernel_rfl) (by simp) (consS rfl (fun K hK => ?_) AllReady.nil)
          rw [if_pos (by rfl)]
          refine wp_append_hr (.tmp 43) (.tmp 45) 36 (some 46) rfl rfl _ _ rfl rfl hr' ?_
          refine hK.out _ _ ?_
          clear hK K
          try simp only [Act.put, List.setIfInBounds_toArray, List.set_cons_zero, List.set_cons_succ]
          refine takeA (i := 7) (d := some 47) (v := ?vT6) rfl rfl (by kernel_rfl) (by kernel_rfl) (by kernel_rfl) (fun _ _ _ h => h) (Or.inl ⟨by rfl, ?hyT6⟩) ?rstT6
          case hyT6 => (intro w; go_simp; (try with_reducible rfl))
          try simp only [Act.put, List.setIfInBounds_toArray, List.set_cons_zero, List.set_cons_succ]
          refine wpAny_ready (rs := [8]) (by kernel_rfl) (by simp) (consS rfl (fun K hK => ?_) AllReady.nil)
          go_simp
          refine hK.out _ _ ?_
          clear hK K
          try simp only [Act.put, List.setIfInBounds_toArray, List.set_cons_zero, List.set_cons_succ]
          refine wpAny_done (by kernel_rfl) ?_ _
          go_wp2_with fail
          try rw [e9]
          refine bodyPost_ret (v := .tuple #[idA (x1, x2), .int .i64 0]) (by simp [results, Tryd.results20, go_sem, idA, r0, r1]) rfl ?_
          unfold moveUP
          refine ⟨(x1, x2), at2, 0, .some at2 (x1, x2) hxl hy hno, rfl, ⟨(.slice (some ⟨g0, 0, none⟩) m uc), (.slice (some ⟨g7, 0, none⟩) (R.length + 1) cap7), ?_⟩, hCD⟩
          rw [if_pos rfl, if_pos rfl, Int.toNat_natCast]
          exact hfin
end Go.Proofs.YtokkodkhkpgebaaDoor
