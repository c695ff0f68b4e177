import Derived.Test.YtdmhajlhpieedaaLdQ
/-! The book in memory. -/
namespace Go.Proofs.Ytdmhajlhpieedaa
open Go.RowKit Go.Lib Go.Shelf
set_option maxRecDepth 100000

/-- Bytes that were handed out. -/
structure Br where
  a : Option Addr
  cap : Nat
  bs : List UInt8
def brv (b : Br) : List Value := [.slice b.a b.bs.length b.cap]
theorem layBr : Lay brv 1 := ⟨fun _ => rfl, by decide, fun x u hu => by simp [brv] at hu; subst hu; rfl⟩
theorem kindBr : Kind Try.prog 57 34 1 24 := kind_of Try.underlying57 (z := .slice none 0 0) (by kernel_rfl) rfl
def wtv (b : Br) : List Value := [.string ⟨b.bs.toArray⟩]
theorem laySt : Lay wtv 1 := ⟨fun _ => rfl, by decide, fun x u hu => by simp [wtv] at hu; subst hu; rfl⟩
theorem kindSt : Kind Try.prog 58 9 1 16 := kind_of Try.underlying58 (z := .string ⟨#[]⟩) (by kernel_rfl) rfl
/-- A list of flights that was handed out. -/
structure Fs where
  a : Option Addr
  cap : Nat
  n : Nat
def fsv (b : Fs) : List Value := [.slice b.a b.n b.cap]
theorem layFs : Lay fsv 1 := ⟨fun _ => rfl, by decide, fun x u hu => by simp [fsv] at hu; subst hu; rfl⟩
theorem kindFs : Kind Try.prog 59 52 1 24 := kind_of Try.underlying59 (z := .slice none 0 0) (by kernel_rfl) rfl
/-- The mark of a list, five cells. -/
def mkv (k : Nat) : List Value := [.int .i64 (-1 - (k : Int)), .int .i64 0, .int .i64 0, .slice none 0 0, .bool false]
theorem layM : Lay mkv 5 := ⟨fun _ => rfl, by decide, fun x u hu => by
  simp only [mkv, List.mem_cons, List.not_mem_nil, or_false] at hu
  rcases hu with rfl | rfl | rfl | rfl | rfl <;> rfl⟩
/-- The book in memory. -/
structure BkAt (W : World) (h : Nat) (gv wv lv : Value) (gs : List Br) (ls : List Fs) : Prop where
  box : W.heap[h]? = some (.cells #[gv, wv, lv] 61)
  got : OffF brv 1 34 W gv gs
  want : OffF wtv 1 9 W wv gs
  lists : OffF fsv 1 52 W lv ls
  by_ : ∀ b ∈ gs, Rw byU 1 W b.a b.bs.length b.cap b.bs
  fl : ∀ (i : Nat) (l : Fs), ls[i]? = some l → Rw mkv 5 W l.a l.n l.cap (List.replicate l.n (i / 2))
theorem BkAt.below {W W' : World} {h : Nat} {gv wv lv : Value} {gs : List Br} {ls : List Fs} (hb : BkAt W h gv wv lv gs ls) (hB : Below W.heap.size W W') : BkAt W' h gv wv lv gs ls :=
  ⟨(hB.block h (Array.getElem?_eq_some_iff.1 hb.box).1).trans hb.box, hb.got.chg (D := fun g => W.heap.size ≤ g) (Chg.of_below hB) (fun g hg e => by have := hb.got.lt hg; omega), hb.want.chg (D := fun g => W.heap.size ≤ g) (Chg.of_below hB) (fun g hg e => by have := hb.want.lt hg; omega), hb.lists.chg (D := fun g => W.heap.size ≤ g) (Chg.of_below hB) (fun g hg e => by have := hb.lists.lt hg; omega), fun b hbb => (hb.by_ b hbb).below hB, fun i l hl => (hb.fl i l hl).below hB⟩
set_option maxHeartbeats 8000000 in
theorem hold_true {W : World} {h : Nat} {gv wv lv : Value} {gs : List Br} {ls : List Fs} (hb : BkAt W h gv wv lv gs ls) (hg : gs.length ≤ 1099511627776) (hl : ls.length ≤ 1099511627776) : Calls Try.prog 22 #[.pointer (some ⟨h, 0, none⟩)] W fun e w' => e = .returned (.bool true) ∧ Below W.heap.size W w' := by
  obtain ⟨a1, c1, e1, _, _⟩ := hb.got.shape
  obtain ⟨a2, c2, e2, _, _⟩ := hb.want.shape
  obtain ⟨a3, c3, e3, _, _⟩ := hb.lists.shape
  obtain ⟨n, hn⟩ : ∃ n, gs.length = n := ⟨_, rfl⟩
  obtain ⟨m, hm⟩ : ∃ m, ls.length = m := ⟨_, rfl⟩
  rw [hn] at e1 e2 hg
  rw [hm] at e3 hl
  subst e1 e2 e3
  have HB : Hid (BkAt W h (.slice a1 n c1) (.slice a2 n c2) (.slice a3 m c3) gs ls) := hb
  clear hb hn hm
  go_enter Try.func22, Try.ntmps22
  go_wp2_with fail
  go_loopw [3] (fun vi wr => ∃ i : Nat, i ≤ n ∧ vi = .int .i64 (i : Int) ∧ Hid (Below W.heap.size W wr)) (fun vi _ => n - (RowKit.intOf vi).toNat)
  case atStart => exact ⟨0, Nat.zero_le _, rfl, Below.refl _ _⟩
  case round =>
    obtain ⟨i, hi, rfl, hI⟩ := hrel
    have hK := HB.out.below hI.out
    have q0 := (box3 hK.box).1
    by_cases hin : i < n
    · have hin2 : (i : Int) < (n : Int) := by omega
      have ei : IntKind.i64.wrap ((i : Int) + 1) = (i : Int) + 1 := IntWalk.i64_in _ (by omega)
      have hBd : Below W.heap.size W wr.drew := hI.out.drew
      have hKd := HB.out.below hBd
      obtain ⟨p0, p1, p2⟩ := box3 hKd.box
      obtain ⟨g1, o1, z, ea, _, hz, hc⟩ := (hKd.got.rw_ layBr).at i hin
      obtain ⟨g2, o2, z', eb, _, hz', hd⟩ := (hKd.want.rw_ laySt).at i hin
      obtain rfl : z = z' := by rw [hz] at hz'; cases hz'; rfl
      subst ea
      subst eb
      have x0 := hc 0 _ rfl
      have y0 := hd 0 _ rfl
      simp only [Nat.mul_one, Nat.add_zero] at x0 y0
      have k1 := conv_bytes (hKd.by_ z (List.mem_of_getElem? hz))
      obtain ⟨bl, hbl⟩ : ∃ bl, z.bs.length = bl := ⟨_, rfl⟩
      obtain ⟨st, hst⟩ : ∃ st : ByteArray, ⟨z.bs.toArray⟩ = st := ⟨_, rfl⟩
      rw [hbl] at x0
      rw [hbl, hst] at k1
      rw [hst] at y0
      have HSS : Hid ((fun w => w.cell? ⟨h, 0, none⟩ = some (.slice (some ⟨g1, o1, none⟩) n c1) ∧ w.cell? ⟨h, 1, none⟩ = some (.slice (some ⟨g2, o2, none⟩) n c2) ∧ w.cell? ⟨g1, o1 + i, none⟩ = some (.slice z.a bl z.cap) ∧ w.cell? ⟨g2, o2 + i, none⟩ = some (.string st) ∧ (convert 34 9 (.slice z.a bl z.cap)).run Try.prog w = .ok (.string st) w) wr.drew) := ⟨p0, p1, x0, y0, k1⟩
      have HB2 : Hid (Below W.heap.size W wr.drew) := hBd
      clear hK hBd hKd hc hd hz hz' k1 x0 y0 hbl hst hI p0 p1 p2
      go_wp2_with fail
      refine wp_region_held_drew (S := (fun w => w.cell? ⟨h, 0, none⟩ = some (.slice (some ⟨g1, o1, none⟩) n c1) ∧ w.cell? ⟨h, 1, none⟩ = some (.slice (some ⟨g2, o2, none⟩) n c2) ∧ w.cell? ⟨g1, o1 + i, none⟩ = some (.slice z.a bl z.cap) ∧ w.cell? ⟨g2, o2 + i, none⟩ = some (.string st) ∧ (convert 34 9 (.slice z.a bl z.cap)).run Try.prog w = .ok (.string st) w)) (by kernel_rfl) ?hSx (fun hHeld => ?restx)
      case hSx => exact HSS.out
      refine takeD (i := 0) (d := some 16) (v := ?vT1) rfl rfl (by kernel_rfl) (by kernel_rfl) (by kernel_rfl) (fun _ _ _ h => h) (Or.inl ⟨by rfl, ?hyT1⟩) (by assumption) ?rstT1
      case hyT1 => (intro w hSw; (try dsimp only at hSw); obtain ⟨s0, s1, s2, s3, s4⟩ := hSw; go_simp; (try with_reducible rfl))
      try simp only [Act.put, List.setIfInBounds_toArray, List.set_cons_zero, List.set_cons_succ]
      refine takeD (i := 1) (d := some 17) (v := ?vT2) rfl rfl (by kernel_rfl) (by kernel_rfl) (by kernel_rfl) (fun _ _ _ h => h) (Or.inl ⟨by rfl, ?hyT2⟩) (by assumption) ?rstT2
      case hyT2 => (intro w hSw; (try dsimp only at hSw); obtain ⟨s0, s1, s2, s3, s4⟩ := hSw; go_simp; (try with_reducible rfl))
      try simp only [Act.put, List.setIfInBounds_toArray, List.set_cons_zero, List.set_cons_succ]
      refine takeD (i := 2) (d := some 18) (v := ?vT3) rfl rfl (by kernel_rfl) (by kernel_rfl) (by kernel_rfl) (fun _ _ _ h => h) (Or.inl ⟨by rfl, ?hyT3⟩) (by assumption) ?rstT3
      case hyT3 => (intro w hSw; (try dsimp only at hSw); obtain ⟨s0, s1, s2, s3, s4⟩ := hSw; go_simp; (try with_reducible rfl))
      try simp only [Act.put, List.setIfInBounds_toArray, List.set_cons_zero, List.set_cons_succ]
      refine takeD (i := 3) (d := some 19) (v := ?vT4) rfl rfl (by kernel_rfl) (by kernel_rfl) (by kernel_rfl) (fun _ _ _ h => h) (Or.inl ⟨by rfl, ?hyT4⟩) (by assumption) ?rstT4
      case hyT4 => (intro w hSw; (try dsimp only at hSw); obtain ⟨s0, s1, s2, s3, s4⟩ := hSw; go_simp; (try with_reducible rfl))
      try simp only [Act.put, List.setIfInBounds_toArray, List.set_cons_zero, List.set_cons_succ]
      refine takeD (i := 4) (d := some 20) (v := ?vT5) rfl rfl (by kernel_rfl) (by kernel_rfl) (by kernel_rfl) (fun _ _ _ h => h) (Or.inl ⟨by rfl, ?hyT5⟩) (by assumption) ?rstT5
      case hyT5 => (intro w hSw; (try dsimp only at hSw); obtain ⟨s0, s1, s2, s3, s4⟩ := hSw; go_simp; (try with_reducible rfl))
      try simp only [Act.put, List.setIfInBounds_toArray, List.set_cons_zero, List.set_cons_succ]
      refine takeD (i := 5) (d := some 21) (v := ?vT6) rfl rfl (by kernel_rfl) (by kernel_rfl) (by kernel_rfl) (fun _ _ _ h => h) (Or.inl ⟨by rfl, ?hyT6⟩) (by assumption) ?rstT6
      case hyT6 => (intro w hSw; (try dsimp only at hSw); obtain ⟨s0, s1, s2, s3, s4⟩ := hSw; go_simp; (try with_reducible rfl))
      try simp only [Act.put, List.setIfInBounds_toArray, List.set_cons_zero, List.set_cons_succ]
      refine takeD (i := 6) (d := some 22) (v := ?vT7) rfl rfl (by kernel_rfl) (by kernel_rfl) (by kernel_rfl) (fun _ _ _ h => h) (Or.inl ⟨by rfl, ?hyT7⟩) (by assumption) ?rstT7
      case hyT7 => (intro w hSw; (try dsimp only at hSw); obtain ⟨s0, s1, s2, s3, s4⟩ := hSw; go_simp; (try with_reducible rfl))
      try simp only [Act.put, List.setIfInBounds_toArray, List.set_cons_zero, List.set_cons_succ]
      refine takeD (i := 7) (d := some 23) (v := ?vT8) rfl rfl (by kernel_rfl) (by kernel_rfl) (by kernel_rfl) (fun _ _ _ h => h) (Or.inl ⟨by rfl, ?hyT8⟩) (by assumption) ?rstT8
      case hyT8 => (intro w hSw; (try dsimp only at hSw); obtain ⟨s0, s1, s2, s3, s4⟩ := hSw; go_simp; (try with_reducible rfl))
      try simp only [Act.put, List.setIfInBounds_toArray, List.set_cons_zero, List.set_cons_succ]
      refine takeD (i := 8) (d := some 24) (v := ?vT9) rfl rfl (by kernel_rfl) (by kernel_rfl) (by kernel_rfl) (fun _ _ _ h => h) (Or.inl ⟨by rfl, ?hyT9⟩) (by assumption) ?rstT9
      case hyT9 => (intro w hSw; (try dsimp only at hSw); obtain ⟨s0, s1, s2, s3, s4⟩ := hSw; go_simp; (try with_reducible rfl))
      try simp only [Act.put, List.setIfInBounds_toArray, List.set_cons_zero, List.set_cons_succ]
      refine takeD (i := 9) (d := some 25) (v := ?vT10) rfl rfl (by kernel_rfl) (by kernel_rfl) (by kernel_rfl) (fun _ _ _ h => h) (Or.inl ⟨by rfl, ?hyT10⟩) (by assumption) ?rstT10
      case hyT10 => (intro w hSw; (try dsimp only at hSw); obtain ⟨s0, s1, s2, s3, s4⟩ := hSw; go_simp; (try with_reducible rfl))
      try simp only [Act.put, List.setIfInBounds_toArray, List.set_cons_zero, List.set_cons_succ]
      refine takeD (i := 10) (d := some 26) (v := ?vT11) rfl rfl (by kernel_rfl) (by kernel_rfl) (by kernel_rfl) (fun _ _ _ h => h) (Or.inl ⟨by rfl, ?hyT11⟩) (by assumption) ?rstT11
      case hyT11 => (intro w hSw; (try dsimp only at hSw); obtain ⟨s0, s1, s2, s3, s4⟩ := hSw; go_simp; (try with_reducible rfl))
      try simp only [Act.put, List.setIfInBounds_toArray, List.set_cons_zero, List.set_cons_succ]
      refine takeD (i := 11) (d := some 27) (v := ?vT12) rfl rfl (by kernel_rfl) (by kernel_rfl) (by kernel_rfl) (fun _ _ _ h => h) (Or.inl ⟨by rfl, ?hyT12⟩) (by assumption) ?rstT12
      case hyT12 => (intro w hSw; (try dsimp only at hSw); obtain ⟨s0, s1, s2, s3, s4⟩ := hSw; go_simp; (try with_reducible rfl))
      try simp only [Act.put, List.setIfInBounds_toArray, List.set_cons_zero, List.set_cons_succ]
      refine takeD (i := 12) (d := some 28) (v := ?vT13) rfl rfl (by kernel_rfl) (by kernel_rfl) (by kernel_rfl) (fun _ _ _ h => h) (Or.inl ⟨by rfl, ?hyT13⟩) (by assumption) ?rstT13
      case hyT13 => (intro w hSw; (try dsimp only at hSw); obtain ⟨s0, s1, s2, s3, s4⟩ := hSw; go_simp; (try with_reducible rfl))
      try simp only [Act.put, List.setIfInBounds_toArray, List.set_cons_zero, List.set_cons_succ]
      refine takeD (i := 13) (d := some 29) (v := ?vT14) rfl rfl (by kernel_rfl) (by kernel_rfl) (by kernel_rfl) (fun _ _ _ h => h) (Or.inl ⟨by rfl, ?hyT14⟩) (by assumption) ?rstT14
      case hyT14 => (intro w hSw; (try dsimp only at hSw); obtain ⟨s0, s1, s2, s3, s4⟩ := hSw; go_simp; (try with_reducible rfl))
      try simp only [Act.put, List.setIfInBounds_toArray, List.set_cons_zero, List.set_cons_succ]
      refine takeD (i := 14) (d := some 30) (v := ?vT15) rfl rfl (by kernel_rfl) (by kernel_rfl) (by kernel_rfl) (fun _ _ _ h => h) (Or.inl ⟨by rfl, ?hyT15⟩) (by assumption) ?rstT15
      case hyT15 => (intro w hSw; (try dsimp only at hSw); obtain ⟨s0, s1, s2, s3, s4⟩ := hSw; go_simp; (try with_reducible rfl))
      try simp only [Act.put, List.setIfInBounds_toArray, List.set_cons_zero, List.set_cons_succ]
      refine takeD (i := 15) (d := some 31) (v := ?vT16) rfl rfl (by kernel_rfl) (by kernel_rfl) (by kernel_rfl) (fun _ _ _ h => h) (Or.inl ⟨by rfl, ?hyT16⟩) (by assumption) ?rstT16
      case hyT16 => (intro w hSw; (try dsimp only at hSw); obtain ⟨s0, s1, s2, s3, s4⟩ := hSw; go_simp; (try with_reducible rfl))
      try simp only [Act.put, List.setIfInBounds_toArray, List.set_cons_zero, List.set_cons_succ]
      refine wpAnyH_done (by kernel_rfl) ?_ _
      clear hHeld
      go_wp2_with fail
      exact ⟨⟨i + 1, by omega, by simp, HB2.out⟩, by simp [RowKit.intOf]; omega⟩
    · have hin2 : ¬ (i : Int) < (n : Int) := by omega
      clear hK
      go_wp2_with fail
      obtain ⟨wo, hwo⟩ : ∃ wo, wo = wr := ⟨_, rfl⟩
      subst hwo
      go_loopw [4, 5, 6] (fun vi _ _ wr => ∃ i : Nat, i ≤ m ∧ vi = .int .i64 (i : Int) ∧ Hid (Below W.heap.size W wr)) (fun vi _ _ _ => m - (RowKit.intOf vi).toNat)
      case atStart => exact ⟨0, Nat.zero_le _, rfl, hI.out⟩
      case round =>
        obtain ⟨i2, hi2, rfl, hJ⟩ := hrel
        obtain ⟨wp, hwp⟩ : ∃ wp, wp = wr := ⟨_, rfl⟩
        subst hwp
        have hK := HB.out.below hJ.out
        have q2 := (box3 hK.box).2.2
        by_cases hlt : i2 < m
        · have hlt2 : (i2 : Int) < (m : Int) := by omega
          have ei : IntKind.i64.wrap ((i2 : Int) + 1) = (i2 : Int) + 1 := IntWalk.i64_in _ (by omega)
          obtain ⟨g3, o3, l, ec, _, hl3, hc⟩ := (hK.lists.rw_ layFs).at i2 hlt
          subst ec
          have HL3 : Hid (ls[i2]? = some l) := hl3
          have hroom := (hK.fl i2 l hl3).room
          have hln : l.n ≤ 9223372036854775807 := by have h1 := hroom.1; have h2 := hroom.2; simp only [maxLen] at h2; omega
          obtain ⟨ln, hln'⟩ : ∃ ln, l.n = ln := ⟨_, rfl⟩
          have HLN : Hid (l.n = ln) := hln'
          rw [hln'] at hln
          clear hK hl3 hc hroom hln' q0 hI
          go_wp2_with fail
          go_loopw [5, 6] (fun vk _ wr => ∃ k : Nat, k ≤ ln ∧ vk = .int .i64 (k : Int) ∧ Hid (Below W.heap.size W wr)) (fun vk _ _ => ln - (RowKit.intOf vk).toNat)
          case atStart => exact ⟨0, Nat.zero_le _, rfl, hJ.out⟩
          case round =>
            obtain ⟨k, hk, rfl, hQ⟩ := hrel
            have hK := HB.out.below hQ.out
            have p2 := (box3 hK.box).2.2
            obtain ⟨g3', o3', l', ec', _, hl3', hc'⟩ := (hK.lists.rw_ layFs).at i2 hlt
            simp only [Option.some.injEq, Addr.mk.injEq, and_true] at ec'
            obtain ⟨rfl, rfl⟩ := ec'
            obtain rfl : l = l' := by rw [HL3.out] at hl3'; cases hl3'; rfl
            have x0 := hc' 0 _ rfl
            simp only [Nat.mul_one, Nat.add_zero] at x0
            rw [HLN.out] at x0
            by_cases hkl : k < ln
            · have hkl2 : (k : Int) < (ln : Int) := by omega
              have ek : IntKind.i64.wrap ((k : Int) + 1) = (k : Int) + 1 := IntWalk.i64_in _ (by omega)
              obtain ⟨gf, of_, y, ef, _, hy, hd⟩ := (hK.fl i2 l HL3.out).at k (by have := HLN.out; omega)
              obtain rfl : y = i2 / 2 := by
                rw [List.getElem?_replicate] at hy
                split at hy
                · cases hy; rfl
                · cases hy
              have y0 := hd 0 _ rfl
              have y1 := hd 1 _ rfl
              have y2 := hd 2 _ rfl
              have y3 := hd 3 _ rfl
              have y4 := hd 4 _ rfl
              simp only [Nat.add_zero] at y0
              rw [ef] at x0
              obtain ⟨mk, hmk⟩ : ∃ mk : Int, -1 - ((i2 / 2 : Nat) : Int) = mk := ⟨_, rfl⟩
              rw [hmk] at y0
              have d1 : (i2 : Int).tdiv 2 = ((i2 / 2 : Nat) : Int) := by simp [Int.tdiv_eq_ediv]
              have d2 : IntKind.i64.wrap ((i2 / 2 : Nat) : Int) = ((i2 / 2 : Nat) : Int) := IntWalk.i64_in _ (by omega)
              have d3 : IntKind.i64.wrap (-1 - ((i2 / 2 : Nat) : Int)) = mk := by rw [← hmk]; exact IntWalk.i64_in _ (by omega)
              obtain ⟨dv, hdv⟩ : ∃ dv : Int, ((i2 / 2 : Nat) : Int) = dv := ⟨_, rfl⟩
              rw [hdv] at d1 d2 d3
              obtain ⟨W0, hW0⟩ : ∃ W0, wr.alloc (.cells #[.int .i64 0, .int .i64 0, .int .i64 0, .slice none 0 0, .bool false] 73) = W0 := ⟨_, rfl⟩
              have hB0 : Below wr.heap.size wr W0 := by rw [← hW0]; exact (Below.refl _ _).alloc (Nat.le_refl _) _
              have hx0 : W0.heap[wr.heap.size]? = some (.cells #[.int .i64 0, .int .i64 0, .int .i64 0, .slice none 0 0, .bool false] 73) := by rw [← hW0]; exact heap_alloc_new wr _
              obtain ⟨⟨r0, r1, r2, r3, r4⟩, z0, z1, z2, z3, z4⟩ := five_cells hx0
              have hx1 := heap_setCell_cells hx0 0 (.int .i64 mk)
              obtain ⟨W1, hW1⟩ : ∃ W1, W0.setCell ⟨wr.heap.size, 0, none⟩ (.int .i64 mk) = W1 := ⟨_, rfl⟩
              rw [hW1] at hx1
              have hx1' : W1.heap[wr.heap.size]? = some (.cells #[.int .i64 mk, .int .i64 0, .int .i64 0, .slice none 0 0, .bool false] 73) := hx1
              have hC1 : Chg (fun g => g = wr.heap.size) W0 W1 := by rw [← hW1]; exact Chg.set (D := fun g => g = wr.heap.size) (q := wr.heap.size) 0 _ _ rfl
              obtain ⟨⟨s0, s1, s2, s3, s4⟩, v0, v1, v2, v3, v4⟩ := five_cells hx1'
              have e5 := setCell_self s1
              have e6 := setCell_self s2
              have e7 := setCell_self s3
              have e8 := setCell_self s4
              have HN : Hid (Below W.heap.size W W1) := hQ.out.trans ((hB0.trans (hC1.below (fun g e => by omega) hB0.size)).mono hQ.out.size)
              clear hK hl3' hc' ef hy hd hB0 hx0 hx1 hx1' hC1 hQ hmk hdv q2
              go_wp2_with fail
              exact ⟨⟨k + 1, by omega, by simp, HN.out⟩, by simp [RowKit.intOf]; omega⟩
            · have hkl2 : ¬ (k : Int) < (ln : Int) := by omega
              clear hK hl3' hc' q2
              go_wp2_with fail
              exact ⟨⟨i2 + 1, by omega, by simp, hQ.out⟩, by simp [RowKit.intOf]; omega⟩
        · have hlt2 : ¬ (i2 : Int) < (m : Int) := by omega
          clear hK q0 hI
          go_wp2_with fail
          go_ret
          exact ⟨rfl, hJ.out⟩
end Go.Proofs.Ytdmhajlhpieedaa
