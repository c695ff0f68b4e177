import Derived.Test.YtdmhajlhpieedaaLdXZ
/-! flights: the walk. -/
namespace Go.Proofs.Ytdmhajlhpieedaa
open Go.RowKit Go.Lib Go.Shelf
set_option maxRecDepth 100000

theorem Rw.cell5 {W : World} {a : Option Addr} {n c i : Nat} {xs : List X} {x : X} (h : Rw fv 5 W a n c xs) (hx : xs[i]? = some x) : ∃ g o, a = some ⟨g, o, none⟩ ∧ g < W.heap.size ∧ W.cell? ⟨g, o + i * 5, none⟩ = some (.int .i64 (x.num : Int)) ∧ W.cell? ⟨g, o + i * 5 + 1, none⟩ = some (.int .i64 x.fr) ∧ W.cell? ⟨g, o + i * 5 + 2, none⟩ = some (.int .i64 x.tt) ∧ W.cell? ⟨g, o + i * 5 + 3, none⟩ = some (.slice x.a x.bs.length x.cap) ∧ W.cell? ⟨g, o + i * 5 + 4, none⟩ = some (.bool x.sp) := by
  have hi : i < n := by have := (List.getElem?_eq_some_iff.1 hx).1; rw [h.len] at this; exact this
  obtain ⟨g, o, y, ea, hg, hy, hc⟩ := h.at i hi
  rw [hx] at hy
  cases hy
  exact ⟨g, o, ea, hg, by simpa using hc 0 _ rfl, hc 1 _ rfl, hc 2 _ rfl, hc 3 _ rfl, hc 4 _ rfl⟩
set_option maxHeartbeats 8000000 in
theorem flights_true {K J C : Nat → Prop} {W : World} {q r h : Nat} {S : Lk} {gv wv lv : Value} {gs : List Br} {ls : List Fs} (T : Trio K J C W q r h S gv wv lv gs ls) (hev : ls.length % 2 = 0) (hs : sumF S ≤ 281474976710656) (hb : ∀ f ∈ S.fl, f.bs.length ≤ 140737488355326) (hg : gs.length + 2 * S.fl.length ≤ 1099511627776) (hl : ls.length ≤ 1099511627776) : Calls Try.prog 23 #[.pointer (some ⟨q, 0, none⟩), .pointer (some ⟨r, 0, none⟩), .pointer (some ⟨h, 0, none⟩)] W fun e w' => e = .returned (.bool true) ∧ TriP K J C W q r h S (gs.length + 2 * S.fl.length) (ls.length + 2) w' := by
  obtain ⟨hO, rv, xs, hL, hK⟩ := T.duo.l
  have hsx : sumX xs ≤ 281474976710656 := by rw [sumF_eq hL.fl]; exact hs
  have hlen := hL.len
  have hn6 : S.fl.length ≤ 1048576 := Nat.le_trans hO.len hO.most
  have HP := flights_any hL hO hsx
  have HR : Hid (∀ w1, Below W.heap.size W w1 → Calls Try.prog 43 #[.pointer (some ⟨r, 0, none⟩)] w1 fun e w' => ∃ v, e = .returned v ∧ RFlt w1 S v w') := fun w1 hB => rflightsK (T.duo.f.below hB) (fun f hf => Nat.le_trans (hb f hf) (by decide))
  have hxb : ∀ x ∈ xs, x.bs.length ≤ 140737488355326 := fun x hx => hb x.fg (by rw [hL.fl]; exact List.mem_map.2 ⟨x, hx, rfl⟩)
  obtain ⟨n, hn⟩ : ∃ n, S.fl.length = n := ⟨_, rfl⟩
  rw [hn] at HP hn6 hg ⊢
  have HX : Hid (Trio K J C W q r h S gv wv lv gs ls ∧ ls.length % 2 = 0 ∧ sumX xs ≤ 281474976710656 ∧ (∀ x ∈ xs, x.bs.length ≤ 140737488355326) ∧ gs.length + 2 * n ≤ 1099511627776 ∧ ls.length ≤ 1099511627776 ∧ S.fl = xs.map X.fg ∧ xs.length = n) := ⟨T, hev, hsx, hxb, hg, hl, hL.fl, by rw [← hn]; exact hlen⟩
  clear T hev hs hb hg hl hO hL hK hsx hlen hxb hn
  go_enter Try.func23, Try.ntmps23
  go_wp2_with fail
  refine HP.mono ?_
  rintro e w1 ⟨go, gb, rfl, hF⟩
  have HR2 := HR.out w1 hF.2.2.2.2.1
  have HF : Hid (FlP W xs n go gb w1) := hF
  clear hF HP HR
  go_wp2_with fail
  refine HR2.mono ?_
  rintro e w2 ⟨v, rfl, zs, hz1, hz2, hz3, hz4, hzB⟩
  obtain ⟨hX0, hX1, hX2, hX3, hX4, hX5, hX6, hX7⟩ := HX.out
  obtain ⟨am, cm, em, _, _⟩ := hz2.shape
  have hzl : zs.length = n := by
    have := congrArg List.length hz1
    rw [List.length_map, hX6, List.length_map, hX7] at this
    exact this
  rw [hzl] at em
  subst em
  obtain ⟨f1, f2, f3, f4, f5, f6⟩ := HF.out
  have g1 := (hzB.block go (Array.getElem?_eq_some_iff.1 f1).1).trans f1
  have g2 := (hzB.block gb (Array.getElem?_eq_some_iff.1 f2).1).trans f2
  have hB2 : Below W.heap.size W w2 := f5.trans (hzB.mono f5.size)
  have hgoR : Rw fv 5 w2 (some ⟨go, 0, none⟩) n n (layX gb 0 xs) := by
    have hoff : OffF fv 5 73 w2 (.slice (some ⟨go, 0, none⟩) n n) (layX gb 0 xs) := .inr ⟨go, [], [], n, by rw [layX_length, hX7]; rfl, by simpa using g1, by rw [layX_length, hX7]; simp, by rw [layX_length, hX7]; exact Nat.le_refl _, by simp only [maxLen]; omega⟩
    exact hoff.rw_ layV
  have HM : Hid (Rw fv 5 w2 (some ⟨go, 0, none⟩) n n (layX gb 0 xs) ∧ OffF fv 5 73 w2 (.slice am n cm) zs ∧ zs.map X.fg = xs.map X.fg ∧ (∀ z ∈ zs, OwnF byU 1 5 w2 w1.heap.size z.v z.bs) ∧ w2.heap[go]? = some (.cells (flatF fv (layX gb 0 xs)).toArray 73) ∧ w2.heap[gb]? = some (.cells (flatF byU (catX xs)).toArray 5) ∧ Below W.heap.size W w2 ∧ W.heap.size ≤ go ∧ W.heap.size ≤ gb) := ⟨hgoR, hz2, by rw [hz1, hX6], hz4, g1, g2, hB2, f3, f4⟩
  clear hz1 hz2 hz3 hz4 hzB hX0 hX1 hX2 hX3 hX4 hX5 hX6 hX7 hzl f1 f2 f3 f4 f5 f6 g1 g2 hB2 hgoR HR2 HF
  go_wp2_with fail
  go_loopw [9] (fun vi wr => ∃ i : Nat, i ≤ n ∧ vi = .int .i64 (i : Int) ∧ Hid (Below w2.heap.size w2 wr)) (fun vi _ => n - (RowKit.intOf vi).toNat)
  case atStart => exact ⟨0, Nat.zero_le _, rfl, Below.refl _ _⟩
  case round =>
    obtain ⟨i, hi, rfl, hI⟩ := hrel
    by_cases hin : i < n
    · have hin2 : (i : Int) < (n : Int) := by omega
      have ei : IntKind.i64.wrap ((i : Int) + 1) = (i : Int) + 1 := IntWalk.i64_in _ (by omega)
      obtain ⟨x, hx⟩ : ∃ x, xs[i]? = some x := ⟨xs[i]'(by rw [HX.out.2.2.2.2.2.2.2]; exact hin), List.getElem?_eq_getElem _⟩
      have hIB := hI.out
      have hBd : Below w2.heap.size w2 wr.drew := hIB.drew
      obtain ⟨m1, m2, m3, m4, m5, m6, m7, m8, m9⟩ := HM.out
      obtain ⟨g', o', eg, _, c0, c1, c2, c3, c4⟩ := (m1.below hBd).cell5 (layX_at gb hx)
      simp only [Option.some.injEq, Addr.mk.injEq, and_true] at eg
      obtain ⟨rfl, rfl⟩ := eg
      simp only [Nat.zero_add, pX] at c0 c1 c2 c3 c4
      obtain ⟨z, hz⟩ : ∃ z, zs[i]? = some z := by
        have hl : zs.length = n := by have := congrArg List.length m3; simpa [HX.out.2.2.2.2.2.2.2] using this
        exact ⟨zs[i]'(by omega), List.getElem?_eq_getElem _⟩
      have hfg : z.fg = x.fg := by
        have h1 := congrArg (fun l => l[i]?) m3
        simp only [List.getElem?_map, hz, hx, Option.map_some, Option.some.injEq] at h1
        exact h1
      obtain ⟨gm, om, em, hgm, d0, d1, d2, d3, d4⟩ := ((m2.rw_ layV).below hBd).cell5 hz
      subst em
      have hzo := m4 z (List.mem_of_getElem? hz)
      obtain ⟨zn, zf, zt, za, zc, zb, zsp⟩ := z
      simp only [X.fg, Fg.mk.injEq] at hfg
      obtain ⟨rfl, rfl, rfl, rfl, rfl⟩ := hfg
      obtain ⟨pre, post, hpl, hsg⟩ := piece_sg (wr := w2) hx m6 (by rw [List.size_toArray, flatF_length layU, catX_length, Nat.mul_one]) (fun j _ => by rw [List.getElem?_toArray]) HX.out.2.2.1
      have hR1 := (hsg.rw_ layU).below hBd
      rw [hpl] at hR1
      have hR2 := ((show OwnF byU 1 5 w2 w1.heap.size (.slice za x.bs.length zc) x.bs from hzo).rw_ layU).below hBd
      obtain ⟨pa, hpa⟩ : ∃ pa, some (⟨gb, if x.bs.length = 0 then 0 else sumX (xs.take i), none⟩ : Addr) = pa := ⟨_, rfl⟩
      rw [hpa] at hR1 c3
      have hS := same_true (x.num : Int) x.fr x.tt x.sp hR1 hR2
      dsimp only at d0 d1 d2 d3 d4
      obtain ⟨nu, hnu⟩ : ∃ nu : Int, (x.num : Int) = nu := ⟨_, rfl⟩
      obtain ⟨fr, hfr⟩ : ∃ a, x.fr = a := ⟨_, rfl⟩
      obtain ⟨tt, htt⟩ : ∃ a, x.tt = a := ⟨_, rfl⟩
      obtain ⟨ss, hss⟩ : ∃ a, x.sp = a := ⟨_, rfl⟩
      obtain ⟨bl, hbl⟩ : ∃ a, x.bs.length = a := ⟨_, rfl⟩
      rw [hnu] at c0 d0 hS
      rw [hfr] at c1 d1 hS
      rw [htt] at c2 d2 hS
      rw [hbl] at c3 d3 hS
      rw [hss] at c4 d4 hS
      have k0 : (fun w => (w.cell? ⟨go, i * 5, none⟩ = some (.int .i64 nu) ∧ w.cell? ⟨go, i * 5 + 1, none⟩ = some (.int .i64 fr) ∧ w.cell? ⟨go, i * 5 + 2, none⟩ = some (.int .i64 tt) ∧ w.cell? ⟨go, i * 5 + 3, none⟩ = some (.slice pa bl bl) ∧ w.cell? ⟨go, i * 5 + 4, none⟩ = some (.bool ss)) ∧ w.cell? ⟨gm, om + i * 5, none⟩ = some (.int .i64 nu) ∧ w.cell? ⟨gm, om + i * 5 + 1, none⟩ = some (.int .i64 fr) ∧ w.cell? ⟨gm, om + i * 5 + 2, none⟩ = some (.int .i64 tt) ∧ w.cell? ⟨gm, om + i * 5 + 3, none⟩ = some (.slice za bl zc) ∧ w.cell? ⟨gm, om + i * 5 + 4, none⟩ = some (.bool ss)) wr.drew := ⟨⟨c0, c1, c2, c3, c4⟩, d0, d1, d2, d3, d4⟩
      have hgol : go < wr.drew.heap.size := Nat.lt_of_lt_of_le (Array.getElem?_eq_some_iff.1 m5).1 hBd.size
      have HK1 : Hid (∀ w4, Below wr.heap.size wr.drew w4 → (fun w => (w.cell? ⟨go, i * 5, none⟩ = some (.int .i64 nu) ∧ w.cell? ⟨go, i * 5 + 1, none⟩ = some (.int .i64 fr) ∧ w.cell? ⟨go, i * 5 + 2, none⟩ = some (.int .i64 tt) ∧ w.cell? ⟨go, i * 5 + 3, none⟩ = some (.slice pa bl bl) ∧ w.cell? ⟨go, i * 5 + 4, none⟩ = some (.bool ss)) ∧ w.cell? ⟨gm, om + i * 5, none⟩ = some (.int .i64 nu) ∧ w.cell? ⟨gm, om + i * 5 + 1, none⟩ = some (.int .i64 fr) ∧ w.cell? ⟨gm, om + i * 5 + 2, none⟩ = some (.int .i64 tt) ∧ w.cell? ⟨gm, om + i * 5 + 3, none⟩ = some (.slice za bl zc) ∧ w.cell? ⟨gm, om + i * 5 + 4, none⟩ = some (.bool ss)) w4) := fun w4 hB => ⟨⟨(hB.cell (p := ⟨go, i * 5, none⟩) hgol).trans c0, (hB.cell (p := ⟨go, i * 5 + 1, none⟩) hgol).trans c1, (hB.cell (p := ⟨go, i * 5 + 2, none⟩) hgol).trans c2, (hB.cell (p := ⟨go, i * 5 + 3, none⟩) hgol).trans c3, (hB.cell (p := ⟨go, i * 5 + 4, none⟩) hgol).trans c4⟩, (hB.cell (p := ⟨gm, om + i * 5, none⟩) hgm).trans d0, (hB.cell (p := ⟨gm, om + i * 5 + 1, none⟩) hgm).trans d1, (hB.cell (p := ⟨gm, om + i * 5 + 2, none⟩) hgm).trans d2, (hB.cell (p := ⟨gm, om + i * 5 + 3, none⟩) hgm).trans d3, (hB.cell (p := ⟨gm, om + i * 5 + 4, none⟩) hgm).trans d4⟩
      have HBx : Hid (∀ w4, Below wr.heap.size wr.drew w4 → Below w2.heap.size w2 w4) := fun w4 hB => hBd.trans (hB.mono hBd.size)
      have HS : Hid (Calls Try.prog 36 #[.agg #[.int .i64 nu, .int .i64 fr, .int .i64 tt, .slice pa bl bl, .bool ss], .agg #[.int .i64 nu, .int .i64 fr, .int .i64 tt, .slice za bl zc, .bool ss]] wr.drew fun e w' => e = .returned (.bool true) ∧ Below wr.heap.size wr.drew w') := hS
      clear hS hR1 hR2 hsg hpl hzo hx hz hIB hBd m1 m2 m3 m4 m5 m6 m7 m8 m9 c0 c1 c2 c3 c4 d0 d1 d2 d3 d4 hgol hgm hpa hnu hfr htt hss hbl hI
      go_wp2_with fail
      refine wp_region_E (S := (fun w => (w.cell? ⟨go, i * 5, none⟩ = some (.int .i64 nu) ∧ w.cell? ⟨go, i * 5 + 1, none⟩ = some (.int .i64 fr) ∧ w.cell? ⟨go, i * 5 + 2, none⟩ = some (.int .i64 tt) ∧ w.cell? ⟨go, i * 5 + 3, none⟩ = some (.slice pa bl bl) ∧ w.cell? ⟨go, i * 5 + 4, none⟩ = some (.bool ss)) ∧ w.cell? ⟨gm, om + i * 5, none⟩ = some (.int .i64 nu) ∧ w.cell? ⟨gm, om + i * 5 + 1, none⟩ = some (.int .i64 fr) ∧ w.cell? ⟨gm, om + i * 5 + 2, none⟩ = some (.int .i64 tt) ∧ w.cell? ⟨gm, om + i * 5 + 3, none⟩ = some (.slice za bl zc) ∧ w.cell? ⟨gm, om + i * 5 + 4, none⟩ = some (.bool ss))) (E := []) (by kernel_rfl) ?_
      refine takeE (i := 0) (d := some 26) (v := ?vT36) rfl rfl (by kernel_rfl) (by kernel_rfl) (by kernel_rfl) (by kernel_rfl) (fun _ _ _ h => h) (Or.inl ⟨by rfl, ?hyT36⟩) k0 ?rstT36
      case hyT36 => (intro w hSw; (try dsimp only at hSw); obtain ⟨⟨y0, y1, y2, y3, y4⟩, x0, x1, x2, x3, x4⟩ := hSw; go_simp; (try with_reducible rfl))
      try simp only [Act.put, List.setIfInBounds_toArray, List.set_cons_zero, List.set_cons_succ]
      refine takeE (i := 1) (d := some 27) (v := ?vT37) rfl rfl (by kernel_rfl) (by kernel_rfl) (by kernel_rfl) (by kernel_rfl) (fun _ _ _ h => h) (Or.inl ⟨by rfl, ?hyT37⟩) k0 ?rstT37
      case hyT37 => (intro w hSw; (try dsimp only at hSw); obtain ⟨⟨y0, y1, y2, y3, y4⟩, x0, x1, x2, x3, x4⟩ := hSw; go_simp; (try with_reducible rfl))
      try simp only [Act.put, List.setIfInBounds_toArray, List.set_cons_zero, List.set_cons_succ]
      refine takeE (i := 2) (d := some 28) (v := ?vT38) rfl rfl (by kernel_rfl) (by kernel_rfl) (by kernel_rfl) (by kernel_rfl) (fun _ _ _ h => h) (Or.inl ⟨by rfl, ?hyT38⟩) k0 ?rstT38
      case hyT38 => (intro w hSw; (try dsimp only at hSw); obtain ⟨⟨y0, y1, y2, y3, y4⟩, x0, x1, x2, x3, x4⟩ := hSw; go_simp; (try with_reducible rfl))
      try simp only [Act.put, List.setIfInBounds_toArray, List.set_cons_zero, List.set_cons_succ]
      refine takeE (i := 3) (d := some 29) (v := ?vT39) rfl rfl (by kernel_rfl) (by kernel_rfl) (by kernel_rfl) (by kernel_rfl) (fun _ _ _ h => h) (Or.inl ⟨by rfl, ?hyT39⟩) k0 ?rstT39
      case hyT39 => (intro w hSw; (try dsimp only at hSw); obtain ⟨⟨y0, y1, y2, y3, y4⟩, x0, x1, x2, x3, x4⟩ := hSw; go_simp; (try with_reducible rfl))
      try simp only [Act.put, List.setIfInBounds_toArray, List.set_cons_zero, List.set_cons_succ]
      refine takeE (i := 4) (d := some 30) (v := ?vT40) rfl rfl (by kernel_rfl) (by kernel_rfl) (by kernel_rfl) (by kernel_rfl) (fun _ _ _ h => h) (Or.inl ⟨by rfl, ?hyT40⟩) k0 ?rstT40
      case hyT40 => (intro w hSw; (try dsimp only at hSw); obtain ⟨⟨y0, y1, y2, y3, y4⟩, x0, x1, x2, x3, x4⟩ := hSw; go_simp; (try with_reducible rfl))
      try simp only [Act.put, List.setIfInBounds_toArray, List.set_cons_zero, List.set_cons_succ]
      refine takeE (i := 5) (d := some 31) (v := ?vT41) rfl rfl (by kernel_rfl) (by kernel_rfl) (by kernel_rfl) (by kernel_rfl) (fun _ _ _ h => h) (Or.inl ⟨by rfl, ?hyT41⟩) k0 ?rstT41
      case hyT41 => (intro w hSw; (try dsimp only at hSw); obtain ⟨⟨y0, y1, y2, y3, y4⟩, x0, x1, x2, x3, x4⟩ := hSw; go_simp; (try with_reducible rfl))
      try simp only [Act.put, List.setIfInBounds_toArray, List.set_cons_zero, List.set_cons_succ]
      refine takeE (i := 6) (d := some 32) (v := ?vT42) rfl rfl (by kernel_rfl) (by kernel_rfl) (by kernel_rfl) (by kernel_rfl) (fun _ _ _ h => h) (Or.inl ⟨by rfl, ?hyT42⟩) k0 ?rstT42
      case hyT42 => (intro w hSw; (try dsimp only at hSw); obtain ⟨⟨y0, y1, y2, y3, y4⟩, x0, x1, x2, x3, x4⟩ := hSw; go_simp; (try with_reducible rfl))
      try simp only [Act.put, List.setIfInBounds_toArray, List.set_cons_zero, List.set_cons_succ]
      refine takeE (i := 7) (d := some 33) (v := ?vT43) rfl rfl (by kernel_rfl) (by kernel_rfl) (by kernel_rfl) (by kernel_rfl) (fun _ _ _ h => h) (Or.inl ⟨by rfl, ?hyT43⟩) k0 ?rstT43
      case hyT43 => (intro w hSw; (try dsimp only at hSw); obtain ⟨⟨y0, y1, y2, y3, y4⟩, x0, x1, x2, x3, x4⟩ := hSw; go_simp; (try with_reducible rfl))
      try simp only [Act.put, List.setIfInBounds_toArray, List.set_cons_zero, List.set_cons_succ]
      refine oneE (i := 8) (by kernel_rfl) rfl (fun K hK => ?_)
      go_simp
      refine HS.out.mono ?_
      rintro e w4 ⟨rfl, hB4⟩
      dsimp only
      have k1 := HK1.out w4 hB4
      have HB5 : Hid (Below w2.heap.size w2 w4) := HBx.out w4 hB4
      clear hB4
      refine hK.out _ _ ?hS44 ?rest44
      case hS44 => exact fun _ => k1
      clear hK K
      try simp only [Act.put, List.setIfInBounds_toArray, List.set_cons_zero, List.set_cons_succ]
      refine takeE (i := 9) (d := some 35) (v := ?vT45) rfl rfl (by kernel_rfl) (by kernel_rfl) (by kernel_rfl) (by kernel_rfl) (fun _ _ _ h => h) (Or.inl ⟨by rfl, ?hyT45⟩) k1 ?rstT45
      case hyT45 => (intro w hSw; (try dsimp only at hSw); skip; go_simp; (try with_reducible rfl))
      try simp only [Act.put, List.setIfInBounds_toArray, List.set_cons_zero, List.set_cons_succ]
      refine doneE (by kernel_rfl) ?_ _
      go_wp2_with fail
      exact ⟨⟨i + 1, by omega, by simp, HB5.out⟩, by simp [RowKit.intOf]; omega⟩
    · have hin2 : ¬ (i : Int) < (n : Int) := by omega
      obtain rfl : i = n := by omega
      obtain ⟨w5, hw5⟩ : ∃ w5, w5 = wr := ⟨_, rfl⟩
      subst hw5
      have hB5 := hI.out
      obtain ⟨m1, m2, m3, m4, m5, m6, m7, m8, m9⟩ := HM.out
      have g1 := (hB5.block go (Array.getElem?_eq_some_iff.1 m5).1).trans m5
      have g2 := (hB5.block gb (Array.getElem?_eq_some_iff.1 m6).1).trans m6
      have hBW : Below W.heap.size W w5 := m7.trans (hB5.mono m7.size)
      have hnC : ¬ C gb := fun e => by have := HX.out.1.bk.lt gb e; omega
      have HT0 : Hid (TkI C w5 h lv gs.length ls xs gb 0 w5) := TkI.start (HX.out.1.bk.below hBW) g2 hnC
      have HG : Hid (w5.heap[go]? = some (.cells (flatF fv (layX gb 0 xs)).toArray 73) ∧ w5.heap[gb]? = some (.cells (flatF byU (catX xs)).toArray 5) ∧ Below W.heap.size W w5 ∧ W.heap.size ≤ go ∧ W.heap.size ≤ gb ∧ Rw fv 5 w5 (some ⟨go, 0, none⟩) i i (layX gb 0 xs)) := ⟨g1, g2, hBW, m8, m9, m1.below hB5⟩
      clear hB5 m1 m2 m3 m4 m5 m6 m7 m8 m9 g1 g2 hBW hnC hI HM
      go_wp2_with fail
      go_loopw [10] (fun vi w6 => ∃ k : Nat, k ≤ i ∧ vi = .int .i64 (k : Int) ∧ Hid (TkI C w5 h lv gs.length ls xs gb k w6)) (fun vi _ => i - (RowKit.intOf vi).toNat)
      case atStart => exact ⟨0, Nat.zero_le _, rfl, HT0.out⟩
      case round =>
        obtain ⟨k, hk, rfl, hI⟩ := hrel
        by_cases hkn : k < i
        · have hkn2 : (k : Int) < (i : Int) := by omega
          have ek : IntKind.i64.wrap ((k : Int) + 1) = (k : Int) + 1 := IntWalk.i64_in _ (by omega)
          obtain ⟨x, hx⟩ : ∃ x, xs[k]? = some x := ⟨xs[k]'(by rw [HX.out.2.2.2.2.2.2.2]; exact hkn), List.getElem?_eq_getElem _⟩
          have HK := hI.out.step hx HX.out.2.2.1 (HX.out.2.2.2.1 x (List.mem_of_getElem? hx)) (by have := HX.out.2.2.2.2.1; omega)
          obtain ⟨C', gv', wv', gs', _, _, hC, _⟩ := hI.out
          have hne : ¬ (C go ∨ go = gb) := fun e => by
            rcases e with e | e
            · have := HX.out.1.bk.lt go e; have := HG.out.2.2.2.1; omega
            · exact type_ne HG.out.1 HG.out.2.1 (by decide) e
          obtain ⟨g', o', eg, _, c0, c1, c2, c3, c4⟩ := (HG.out.2.2.2.2.2.chgB hC (fun p hp => by cases hp; exact hne)).cell5 (layX_at gb hx)
          simp only [Option.some.injEq, Addr.mk.injEq, and_true] at eg
          obtain ⟨rfl, rfl⟩ := eg
          simp only [Nat.zero_add, pX] at c3
          obtain ⟨pa, hpa⟩ : ∃ pa, some (⟨gb, if x.bs.length = 0 then 0 else sumX (xs.take k), none⟩ : Addr) = pa := ⟨_, rfl⟩
          rw [hpa] at c3 HK
          obtain ⟨bl, hbl⟩ : ∃ a, x.bs.length = a := ⟨_, rfl⟩
          rw [hbl] at c3 HK
          clear hC hne c0 c1 c2 c4 hpa hbl hx hI HT0
          go_wp2_with fail
          refine HK.mono ?_
          rintro e w7 ⟨rfl, hN⟩
          have HN : Hid (TkI C w5 h lv gs.length ls xs gb (k + 1) w7) := hN
          clear hN HK c3
          go_wp2_with fail
          exact ⟨⟨k + 1, by omega, by simp, HN.out⟩, by simp [RowKit.intOf]; omega⟩
        · have hkn2 : ¬ (k : Int) < (i : Int) := by omega
          obtain rfl : k = i := by omega
          have HK := fl_end HX.out.1 HX.out.2.1 HG.out.2.2.1 HG.out.1 HG.out.2.1 HG.out.2.2.2.1 HG.out.2.2.2.2.1 hn6 (by rw [List.size_toArray, flatF_length layV, layX_length, HX.out.2.2.2.2.2.2.2]) HX.out.2.2.2.2.2.1 hI.out
          clear HT0 HG hI
          go_wp2_with fail
          refine HK.mono ?_
          rintro e w7 ⟨rfl, hP⟩
          have HP : Hid (TriP K J C W q r h S (gs.length + 2 * k) (ls.length + 2) w7) := hP
          clear hP HK
          go_wp2_with fail
          go_ret
          exact ⟨rfl, HP.out⟩
end Go.Proofs.Ytdmhajlhpieedaa
