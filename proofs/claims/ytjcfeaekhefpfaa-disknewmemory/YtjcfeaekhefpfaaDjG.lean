import Derived.Test.YtjcfeaekhefpfaaDjF
/-! DiskNewMemory. -/
namespace Go.Proofs.Ytjcfeaekhefpfaa.Nm
open Go.RowKit Go.Lib Go.Sort Go.Shelf
set_option maxRecDepth 100000
set_option maxHeartbeats 8000000 in
theorem diskNewMemory_any {w : World} {xa ya za : Option Addr} {xc yc zc : Nat} {X Y Z : List UInt8} (K : Int) (ar : Bool) (hX : Rw byU 1 w xa X.length xc X) (hY : Rw byU 1 w ya Y.length yc Y) (hZ : Rw byU 1 w za Z.length zc Z) (hb : X.length + Y.length + Z.length ≤ 1048576) :
    Calls Try.prog 3 #[.agg #[.slice xa X.length xc, .slice ya Y.length yc, .slice za Z.length zc, .int .i64 K, .bool ar]] w fun e w' => e = .returned (.bool true) ∧ Below w.heap.size w w' := by
  obtain ⟨nx, hnx⟩ : ∃ nx, X.length = nx := ⟨_, rfl⟩
  obtain ⟨ny, hny⟩ : ∃ ny, Y.length = ny := ⟨_, rfl⟩
  obtain ⟨nz, hnz⟩ : ∃ nz, Z.length = nz := ⟨_, rfl⟩
  rw [hnx, hny, hnz] at hb ⊢
  rw [hnx] at hX
  rw [hny] at hY
  rw [hnz] at hZ
  have HR : Hid (Rw byU 1 w xa nx xc X ∧ Rw byU 1 w ya ny yc Y ∧ Rw byU 1 w za nz zc Z ∧ nx + ny + nz ≤ 1048576 ∧ X.length = nx ∧ Y.length = ny ∧ Z.length = nz) := ⟨hX, hY, hZ, hb, hnx, hny, hnz⟩
  have hxb : (nx : Int) ≤ 1048576 := by omega
  have hyb : (ny : Int) ≤ 1048576 := by omega
  obtain ⟨L, hL⟩ : ∃ L, 2 * nx + ny + 9 = L := ⟨_, rfl⟩
  have g1 : IntKind.i64.wrap (2 * (nx : Int)) = 2 * (nx : Int) := IntWalk.i64_in _ (by omega)
  have g2 : IntKind.i64.wrap (2 * (nx : Int) + (ny : Int)) = 2 * (nx : Int) + (ny : Int) := IntWalk.i64_in _ (by omega)
  have g3 : IntKind.i64.wrap (2 * (nx : Int) + (ny : Int) + 9) = (L : Int) := by rw [IntWalk.i64_in _ (by omega)]; omega
  obtain ⟨E, hE⟩ : ∃ E, w.heap.size = E := ⟨_, rfl⟩
  obtain ⟨w0, hw0⟩ : ∃ w0, w.alloc (.cells #[.slice xa nx xc, .slice ya ny yc, .slice za nz zc, .int .i64 K, .bool ar] 24) = w0 := ⟨_, rfl⟩
  have H0 : Hid (2 * nx + ny + 9 = L ∧ w.heap.size = E ∧ w0.heap.size = E + 1 ∧ Below E w w0 ∧ w0.heap[E]? = some (.cells #[.slice xa nx xc, .slice ya ny yc, .slice za nz zc, .int .i64 K, .bool ar] 24)) := by
    rw [← hE]
    refine ⟨hL, rfl, by rw [← hw0]; simp, by rw [← hw0]; exact (Below.refl _ _).alloc (Nat.le_refl _) _, by rw [← hw0]; exact heap_alloc_new _ _⟩
  have HCB : Hid (∀ W, Below w0.heap.size w0 W → W.cell? ⟨E, 0, none⟩ = some (.slice xa nx xc) ∧ W.cell? ⟨E, 1, none⟩ = some (.slice ya ny yc) ∧ W.cell? ⟨E, 2, none⟩ = some (.slice za nz zc) ∧ W.cell? ⟨E, 3, none⟩ = some (.int .i64 K) ∧ W.cell? ⟨E, 4, none⟩ = some (.bool ar)) := fun W hb => box5 ((hb.block E (by have := H0.out; omega)).trans H0.out.2.2.2.2)
  have HWB : Hid (∀ W, Below w0.heap.size w0 W → Below w.heap.size w W) := fun W hb => by
    have h := H0.out
    rw [h.2.1]
    exact h.2.2.2.1.trans (hb.mono (by omega))
  obtain ⟨b0, b1, b2, b3, b4⟩ := HCB.out w0 (Below.refl _ _)
  clear hX hY hZ hb hnx hny hnz hL
  go_enter Try.func3, Try.ntmps3
  go_wp2_with fail
  refine Calls.mono (diskNew_any L (by have h1 := H0.out.1; have h2 := HR.out.2.2.2.1; omega) w0) ?_
  rintro e w1 ⟨rfl, k1, k2⟩
  obtain ⟨p, hp⟩ : ∃ p, w0.heap.size + 1 = p := ⟨_, rfl⟩
  rw [hp] at k1 ⊢
  have HS1 : Hid (NS w0 w1 (fun g => g < w0.heap.size) p (nS0 L)) := ⟨⟨_, _, _, k1, fun g hg hl => by
    rcases hg with rfl | rfl | ⟨x, hx, _⟩
    · omega
    · omega
    · cases hx⟩, k2, fun g hg => Nat.lt_of_lt_of_le hg k2.size, fun g hg => hg⟩
  obtain ⟨_, _, c2, _, _⟩ := HCB.out w1 k2
  clear k1 k2 b0 b1 b2 b3 b4 hp
  go_wp2_with fail
  refine Calls.mono (num_any 0 w1) ?_
  rintro e wz ⟨rfl, hz⟩
  rw [hz]
  clear hz wz
  go_wp2_with fail
  refine Calls.mono (loadedOwn_any (HR.out.2.2.1.below (HWB.out w1 HS1.out.below)) (by have := HR.out.2.2.2.1; omega)) ?_
  rintro e w2 ⟨rfl, k1⟩
  have HS2 : Hid (NS w0 w2 (fun g => g < w0.heap.size) p (nS0 L)) := HS1.out.grow k1
  obtain ⟨d0, _, _, _, _⟩ := HCB.out w2 HS2.out.below
  clear k1 c2
  go_wp2_with fail
  refine Calls.mono (copied_any (HR.out.1.below (HWB.out w2 HS2.out.below)) (by have := HR.out.2.2.2.1; omega)) ?_
  rintro e w3 ⟨ca, cc, rfl, k1, k2⟩
  have hs3 := HS2.out.grow k2
  obtain ⟨gx, cx, wX, hrX, hoX, hbX, hX1, hcx⟩ := put2 k1 k2.size HR.out.2.2.2.2.1 (by have := HR.out.2.2.2.1; omega) 112 113 112 113 rfl rfl
  obtain ⟨n1, hn1⟩ : ∃ n1, nx + 1 = n1 := ⟨_, rfl⟩
  obtain ⟨n2, hn2⟩ : ∃ n2, nx + 2 = n2 := ⟨_, rfl⟩
  rw [hn2] at hrX hoX hcx
  rw [hn1] at hX1
  have h1 : IntKind.i64.wrap ((n2 : Int) - 1) = (n1 : Int) := by rw [IntWalk.i64_in _ (by omega)]; omega
  have HCU : ∀ W : World, (Instr.slice 22 (.slice (some ⟨gx, 0, none⟩) n2 cx) none (some (.int .i64 (n1 : Int))) none).run Try.prog W = .ok (.slice (some ⟨gx, 0, none⟩) n1 cx) W := fun W => cutU W _ _ cx n1 (by omega)
  have f1 := conv_bytes hX1
  obtain ⟨sW, hsW⟩ : ∃ sW : ByteArray, ⟨(X ++ [112]).toArray⟩ = sW := ⟨_, rfl⟩
  rw [hsW] at f1
  obtain ⟨A, hA⟩ : ∃ A, X ++ [112] = A := ⟨_, rfl⟩
  -- the rows of x lie clear of the disk from here on
  obtain ⟨F, hF⟩ : ∃ F : Nat → Prop, F = fun g => g < w0.heap.size ∨ g = gx := ⟨_, rfl⟩
  have hgx := hoX.lt (g := gx) rfl
  have hgx2 : w2.heap.size ≤ gx := hoX.ge rfl
  have hSX : NS w0 wX F p (nS0 L) := HS2.out.more (k2.trans hbX) (fun g hg => by
    rw [hF] at hg
    rcases hg with h | h
    · exact .inl h
    · exact .inr (by omega)) (fun g hg => by rw [hF]; exact .inl hg)
  have HX : Hid (OwnF byU 1 5 wX w2.heap.size (.slice (some ⟨gx, 0, none⟩) n2 cx) (X ++ [112, 113]) ∧ Rw byU 1 wX (some ⟨gx, 0, none⟩) n1 cx A ∧ nx + 1 = n1 ∧ nx + 2 = n2 ∧ X ++ [112] = A ∧ ⟨A.toArray⟩ = sW ∧ F gx ∧ w0.heap.size ≤ gx ∧ (∀ g, F g → g < w0.heap.size ∨ g = gx) ∧ A.length = n1 ∧ w0.heap.size ≤ w2.heap.size) := by
    rw [hA] at hX1
    refine ⟨hoX, hX1, hn1, hn2, hA, by rw [← hA]; exact hsW, by rw [hF]; exact .inr rfl, Nat.le_trans HS2.out.size hgx2, fun g hg => by rw [hF] at hg; exact hg, hX1.len, HS2.out.size⟩
  have HSX : Hid (NS w0 wX F p (nS0 L)) := hSX
  clear k1 k2 hs3 hoX hbX hX1 hcx hn1 hn2 hsW hA hF hgx hgx2 hSX d0
  go_wp2_with (at_builtin; refine wpList_append_hr rfl _ _ 22 rfl _ _ rfl rfl hrX ?_)
  have hLb : L ≤ 1099511627776 := by have h1 := H0.out.1; have h2 := HR.out.2.2.2.1; omega
  have HLN : Hid (L ≤ 1099511627776 ∧ A.length + Y.length + 1 ≤ L ∧ A.length ≤ 1048577) := by
    have h1 := H0.out.1
    have h2 := HR.out
    have h3 := HX.out.2.2.2.2.2.2.2.2.2.1
    have h4 := HX.out.2.2.1
    exact ⟨hLb, by omega, by omega⟩
  clear hLb hrX f1 HCU h1
  refine Calls.mono (HSX.out.append (nok0 L HLN.out.1) na (readyA _ rfl) (by decide) HX.out.2.1 (nstep01 L A (by have := HLN.out; omega))) ?_
  rintro e w4 ⟨⟨y1, y2, rfl⟩, k1, k2⟩
  have HS4 : Hid (NS w0 w4 F p (nS1 L 0 A) ∧ OwnF byU 1 5 w4 w2.heap.size (.slice (some ⟨gx, 0, none⟩) n2 cx) (X ++ [112, 113])) := ⟨k1, HX.out.1.chg k2 (fun g hg hn => by
    have hg0 : gx = g := by simpa [Value.ownBlock] using hg
    exact hn (hg0 ▸ HX.out.2.2.2.2.2.2.1))⟩
  obtain ⟨_, c1, _, _, _⟩ := HCB.out w4 k1.below
  clear k1 k2
  go_wp2_with fail
  refine Calls.mono (copied_any (HR.out.2.1.below (HWB.out w4 HS4.out.1.below)) (by have := HR.out.2.2.2.1; omega)) ?_
  rintro e w5 ⟨cya, cyc, rfl, k1, k2⟩
  have HS5 : Hid (NS w0 w5 F p (nS1 L 0 A) ∧ OwnF byU 1 5 w5 w2.heap.size (.slice (some ⟨gx, 0, none⟩) n2 cx) (X ++ [112, 113]) ∧ Rw byU 1 w5 cya ny cyc Y) := ⟨HS4.out.1.grow k2, HS4.out.2.below k2, k1.rw_ layU⟩
  clear k1 k2 c1
  go_wp2_with fail
  refine Calls.mono (HS5.out.1.append (nok1 L 0 A HLN.out.1 (by have := HLN.out; omega)) nb (readyB _ rfl) (by decide) HS5.out.2.2 (nstep12 L A Y (by have := HLN.out; omega))) ?_
  rintro e w6 ⟨⟨y3, y4, rfl⟩, k1, k2⟩
  have HS6 : Hid (NS w0 w6 F p (nS2 L A Y) ∧ OwnF byU 1 5 w6 w2.heap.size (.slice (some ⟨gx, 0, none⟩) n2 cx) (X ++ [112, 113])) := ⟨k1, HS5.out.2.1.chg k2 (fun g hg hn => by
    have hg0 : gx = g := by simpa [Value.ownBlock] using hg
    exact hn (hg0 ▸ HX.out.2.2.2.2.2.2.1))⟩
  clear k1 k2
  obtain ⟨V6, hcv, hl1, hl2⟩ := lit1 w6 101 101 rfl
  have HV : Hid (Rw byU 1 V6 (some ⟨w6.heap.size, 0, none⟩) 1 1 [101] ∧ Below w6.heap.size w6 V6) := ⟨hl1, hl2⟩
  clear hl1 hl2
  go_wp2_with fail
  refine Calls.mono ((HS6.out.1.grow HV.out.2).append (nok2 L A Y HLN.out.1 (by have := HLN.out; omega)) nb (readyB _ rfl) (by decide) HV.out.1 (nstep22 L A Y [101] (by have := HLN.out; simp; omega))) ?_
  rintro e w7 ⟨⟨y5, y6, rfl⟩, k1, k2⟩
  have hx7 : OwnF byU 1 5 w7 w2.heap.size (.slice (some ⟨gx, 0, none⟩) n2 cx) (X ++ [112, 113]) := (HS6.out.2.below HV.out.2).chg k2 (fun g hg hn => by
    have hg0 : gx = g := by simpa [Value.ownBlock] using hg
    exact hn (hg0 ▸ HX.out.2.2.2.2.2.2.1))
  have HS7 : Hid (NS w0 w7 F p (nS2 L A (Y ++ [101])) ∧ OwnF byU 1 5 w7 w2.heap.size (.slice (some ⟨gx, 0, none⟩) n2 cx) (X ++ [112, 113])) := ⟨k1, hx7⟩
  have f5 := conv_bytes (hx7.rw_ layU)
  obtain ⟨sX, hsX⟩ : ∃ sX : ByteArray, ⟨(X ++ [112, 113]).toArray⟩ = sX := ⟨_, rfl⟩
  rw [hsX] at f5
  have q1 : sW ++ (⟨#[113]⟩ : ByteArray) = sX := by
    rw [← HX.out.2.2.2.2.2.1, ← HX.out.2.2.2.2.1, ← hsX]
    have := str_cat (X ++ [112]) [113]
    rw [List.append_assoc] at this
    exact this
  have q2 : ¬ 9223372036854775807 < sW.size + 1 := by rw [← HX.out.2.2.2.2.2.1, str_size]; have := HLN.out; omega
  have q3 := str_bne sX
  clear k1 k2 hx7 hsX hcv HV V6
  go_wp2_with fail
  have hn2b : (n2 : Int) ≤ 1048578 := by have h1 := HX.out.2.2.2.1; have h2 := HR.out.2.2.2.1; omega
  clear f5 q1 q2 q3
  go_loopw [8] (fun vi wr => ∃ i : Nat, i ≤ n2 ∧ vi = .int .i64 (i : Int) ∧ Hid ((∃ l, OwnF byU 1 5 wr w2.heap.size (.slice (some ⟨gx, 0, none⟩) n2 cx) l) ∧ Chg (fun g => g = gx) w7 wr)) (fun vi _ => n2 - (RowKit.intOf vi).toNat)
  case atStart => exact ⟨0, Nat.zero_le _, rfl, ⟨_, HS7.out.2⟩, Chg.refl _ _⟩
  case round =>
    obtain ⟨i, hi, rfl, hI⟩ := hrel
    by_cases hil : i < n2
    · have hil2 : (i : Int) < (n2 : Int) := by omega
      have gi : IntKind.i64.wrap ((i : Int) + 1) = ((i + 1 : Nat) : Int) := by rw [IntWalk.i64_in _ (by omega)]; omega
      obtain ⟨l, hl⟩ := hI.out.1
      obtain ⟨hset, fz⟩ := own_setU hl i hil 77
      have hcl : ∃ u, wr.cell? ⟨gx, i, none⟩ = some u := by
        obtain ⟨g', off', o, e, _, _, hc⟩ := (hl.rw_ layU).at i hil
        simp only [Option.some.injEq, Addr.mk.injEq, and_true] at e
        obtain ⟨rfl, rfl⟩ := e
        exact ⟨_, by have := hc 0 _ rfl; simpa using this⟩
      obtain ⟨ou, hcl⟩ := hcl
      have HS2' : Hid ((∃ l, OwnF byU 1 5 (wr.setCell ⟨gx, i, none⟩ (.int .u8 77)) w2.heap.size (.slice (some ⟨gx, 0, none⟩) n2 cx) l) ∧ Chg (fun g => g = gx) w7 (wr.setCell ⟨gx, i, none⟩ (.int .u8 77))) := ⟨⟨_, hset⟩, hI.out.2.trans (Chg.set (D := fun g => g = gx) (q := gx) i _ _ rfl)⟩
      clear hset hl
      go_wp2_with fail
      go_roundw
      case rel => exact ⟨i + 1, by omega, by first | rfl | go_num, HS2'.out⟩
      case measure => simp [RowKit.intOf]; omega
    · have hin : i = n2 := by omega
      have hil2 : ¬ ((i : Int) < (n2 : Int)) := by omega
      have hwn : sW.size = n1 := by rw [← HX.out.2.2.2.2.2.1, str_size]; exact HX.out.2.2.2.2.2.2.2.2.2.1
      obtain ⟨Y', hY'⟩ : ∃ Y', Y ++ [101] = Y' := ⟨_, rfl⟩
      have hs8 : NS w0 wr F p (nS2 L A Y') := by rw [← hY']; exact HS7.out.1.chg hI.out.2 (fun g hg => hg ▸ HX.out.2.2.2.2.2.2.1) (fun g hg => hg ▸ HX.out.2.2.2.2.2.2.2.1)
      have HS8 : Hid (NS w0 wr F p (nS2 L A Y') ∧ Y ++ [101] = Y' ∧ Y'.length = ny + 1 ∧ (nS2 L A Y').Ok) := ⟨hs8, hY', by rw [← hY']; simp; exact HR.out.2.2.2.2.2.1, nok2 L A Y' HLN.out.1 (by have := HLN.out; rw [← hY']; simp; omega)⟩
      clear hs8 hY' hin hil hi hI
      obtain ⟨W8, hW8⟩ : ∃ W8, wr = W8 := ⟨_, rfl⟩
      rw [hW8] at HS8 ⊢
      clear hW8
      have HRD : Hid (∀ W F, DF F W p (nS2 L A Y') → Calls Try.prog 10 #[.pointer (some ⟨p, 0, none⟩), .string ⟨#[97]⟩, .int .i64 0, .int .i64 (n1 : Int)] W fun e w' => ∃ a cap, e = .returned (.tuple #[.slice a n1 cap, .int .i64 0]) ∧ OwnF byU 1 5 w' W.heap.size (.slice a n1 cap) A ∧ Below W.heap.size W w') := fun W F h => by
        have h1 := df_read h HS8.out.2.2.2 na (by decide) 0 (A.length : Int) (by decide) (by have := HLN.out; omega)
        rw [nread L A Y'] at h1
        simp only [HX.out.2.2.2.2.2.2.2.2.2.1] at h1
        exact h1
      have HFI : Hid (∀ W F, DF F W p (nS2 L A Y') → Calls Try.prog 11 #[.pointer (some ⟨p, 0, none⟩)] W fun e w' => ∃ g cap v u, e = .returned (.slice (some ⟨g, 0, none⟩) 2 cap) ∧ Fil2 W w' g cap v u ⟨na, A, 0⟩ ⟨nb, Y', 0⟩) := fun W F h => df_files2 h HS8.out.2.2.2 rfl (by show Lib.compareBytes na nb < 0; decide) (fun f hf => by
        simp only [nS2, List.mem_cons, List.not_mem_nil, or_false] at hf
        rcases hf with rfl | rfl
        · show na.length ≤ _; decide
        · show nb.length ≤ _; decide)
      go_wp2_with fail
      refine Calls.mono (HRD.out W8 F HS8.out.1.df) ?_
      rintro e W9 ⟨ra, rc, rfl, k1, k2⟩
      have HR1 : Hid (OwnF byU 1 5 W9 W8.heap.size (.slice ra n1 rc) A ∧ Below W8.heap.size W8 W9) := ⟨k1, k2⟩
      clear k1 k2
      go_wp2_with fail
      refine Calls.mono (HRD.out W9 F (HS8.out.1.df.below HR1.out.2)) ?_
      rintro e W10 ⟨sa, sc, rfl, k1, k2⟩
      have HR2 : Hid (OwnF byU 1 5 W10 W9.heap.size (.slice sa n1 sc) A ∧ Below W9.heap.size W9 W10) := ⟨k1, k2⟩
      clear k1 k2
      go_wp2_with fail
      refine Calls.mono (HFI.out W10 F ((HS8.out.1.df.below HR1.out.2).below HR2.out.2)) ?_
      rintro e W11 ⟨g1', c1', v1, u1, rfl, k1⟩
      have HL1 : Hid (Fil2 W10 W11 g1' c1' v1 u1 ⟨na, A, 0⟩ ⟨nb, Y', 0⟩) := k1
      clear k1
      go_wp2_with fail
      refine Calls.mono (HFI.out W11 F (((HS8.out.1.df.below HR1.out.2).below HR2.out.2).below HL1.out.below)) ?_
      rintro e W12 ⟨g2', c2', v2, u2, rfl, k1⟩
      have HL2 : Hid (Fil2 W11 W12 g2' c2' v2 u2 ⟨na, A, 0⟩ ⟨nb, Y', 0⟩) := k1
      clear k1
      go_wp2_with fail
      have hb912 : Below W9.heap.size W9 W12 := (HR2.out.2.trans (HL1.out.below.mono HR2.out.2.size)).trans (HL2.out.below.mono (Nat.le_trans HR2.out.2.size HL1.out.below.size))
      have hb1012 : Below W10.heap.size W10 W12 := HL1.out.below.trans (HL2.out.below.mono HL1.out.below.size)
      have HB : Hid (Below W9.heap.size W9 W12 ∧ Below W10.heap.size W10 W12) := ⟨hb912, hb1012⟩
      have f1 := conv_bytes ((HR1.out.1.below hb912).rw_ layU)
      have f2 := conv_bytes ((HR2.out.1.below hb1012).rw_ layU)
      rw [HX.out.2.2.2.2.2.1] at f1 f2
      have q3 := str_bne sW
      clear hb912 hb1012
      refine Calls.mono (num_any 0 W12) ?_
      rintro e wz ⟨rfl, hz⟩
      rw [hz]
      clear hz wz
      go_wp2_with fail
      refine Calls.mono (num_any 0 W12) ?_
      rintro e wz ⟨rfl, hz⟩
      rw [hz]
      clear hz wz
      go_wp2_with fail
      have hm1 := fil2_cells HL1.out
      have hm2 := fil2_cells HL2.out
      obtain ⟨_, m1, _, m4, rc1⟩ := hm1
      obtain ⟨_, n1', _, n4, rc2⟩ := hm2
      have x1 : W12.drew.cell? ⟨g1', 1, none⟩ = some (.slice v1.a v1.n v1.cap) := (HL2.out.below.cell (p := ⟨g1', 1, none⟩) (World.block_lt_of_cell? _ _ m1)).trans m1
      have x4 : W12.drew.cell? ⟨g1', 4, none⟩ = some (.slice u1.a u1.n u1.cap) := (HL2.out.below.cell (p := ⟨g1', 4, none⟩) (World.block_lt_of_cell? _ _ m4)).trans m4
      have z1 : W12.drew.cell? ⟨g2', 1, none⟩ = some (.slice v2.a v2.n v2.cap) := n1'
      have z4 : W12.drew.cell? ⟨g2', 4, none⟩ = some (.slice u2.a u2.n u2.cap) := n4
      obtain ⟨D12, hD12⟩ : ∃ D12, W12.drew = D12 := ⟨_, rfl⟩
      rw [hD12] at x1 x4 z1 z4
      obtain ⟨W13, hW13⟩ : ∃ W13, D12.alloc (.cells #[.slice ra n1 rc, .slice sa n1 sc, .slice v1.a v1.n v1.cap, .slice u1.a u1.n u1.cap, .slice v2.a v2.n v2.cap, .slice u2.a u2.n u2.cap] 22) = W13 := ⟨_, rfl⟩
      have hb13 : Below D12.heap.size D12 W13 := by rw [← hW13]; exact (Below.refl _ _).alloc (Nat.le_refl _) _
      have y1 : W13.cell? ⟨g1', 1, none⟩ = some (.slice v1.a v1.n v1.cap) := (hb13.cell (p := ⟨g1', 1, none⟩) (World.block_lt_of_cell? _ _ x1)).trans x1
      have y4 : W13.cell? ⟨g1', 4, none⟩ = some (.slice u1.a u1.n u1.cap) := (hb13.cell (p := ⟨g1', 4, none⟩) (World.block_lt_of_cell? _ _ x4)).trans x4
      have t1 : W13.cell? ⟨g2', 1, none⟩ = some (.slice v2.a v2.n v2.cap) := (hb13.cell (p := ⟨g2', 1, none⟩) (World.block_lt_of_cell? _ _ z1)).trans z1
      have t4 : W13.cell? ⟨g2', 4, none⟩ = some (.slice u2.a u2.n u2.cap) := (hb13.cell (p := ⟨g2', 4, none⟩) (World.block_lt_of_cell? _ _ z4)).trans z4
      clear m1 m4 n1' n4
      refine wp_region_held_drew (S := (fun W => W.cell? ⟨g1', 1, none⟩ = some (.slice v1.a v1.n v1.cap) ∧ W.cell? ⟨g1', 4, none⟩ = some (.slice u1.a u1.n u1.cap) ∧ W.cell? ⟨g2', 1, none⟩ = some (.slice v2.a v2.n v2.cap) ∧ W.cell? ⟨g2', 4, none⟩ = some (.slice u2.a u2.n u2.cap))) (by kernel_rfl) ?hS1 (fun hHeld => ?rest1)
      case hS1 => (first | exact ⟨x1, x4, z1, z4⟩ | (rw [hD12]; exact ⟨x1, x4, z1, z4⟩))
      change wpAnyH _ _ _ _ _ _ _ _ W12.drew
      rw [hD12]
      replace hHeld : ((fun W => W.cell? ⟨g1', 1, none⟩ = some (.slice v1.a v1.n v1.cap) ∧ W.cell? ⟨g1', 4, none⟩ = some (.slice u1.a u1.n u1.cap) ∧ W.cell? ⟨g2', 1, none⟩ = some (.slice v2.a v2.n v2.cap) ∧ W.cell? ⟨g2', 4, none⟩ = some (.slice u2.a u2.n u2.cap))) D12 := ⟨x1, x4, z1, z4⟩
      refine takeD (i := 0) (d := some 132) (v := ?vT2) rfl rfl (by kernel_rfl) (by kernel_rfl) (by kernel_rfl) (fun _ _ _ h => h) (Or.inl ⟨by rfl, ?hyT2⟩) (by assumption) ?rstT2
      case hyT2 => (intro w hSw; (try dsimp only at hSw); go_simp; (try with_reducible rfl))
      try simp only [Act.put, List.setIfInBounds_toArray, List.set_cons_zero, List.set_cons_succ]
      refine takeD (i := 1) (d := some 133) (v := ?vT3) rfl rfl (by kernel_rfl) (by kernel_rfl) (by kernel_rfl) (fun _ _ _ h => h) (Or.inl ⟨by rfl, ?hyT3⟩) (by assumption) ?rstT3
      case hyT3 => (intro w hSw; (try dsimp only at hSw); go_simp; (try with_reducible rfl))
      try simp only [Act.put, List.setIfInBounds_toArray, List.set_cons_zero, List.set_cons_succ]
      refine takeD (i := 2) (d := some 134) (v := ?vT4) rfl rfl (by kernel_rfl) (by kernel_rfl) (by kernel_rfl) (fun _ _ _ h => h) (Or.inl ⟨by rfl, ?hyT4⟩) (by assumption) ?rstT4
      case hyT4 => (intro w hSw; (try dsimp only at hSw); go_simp; (try with_reducible rfl))
      try simp only [Act.put, List.setIfInBounds_toArray, List.set_cons_zero, List.set_cons_succ]
      refine takeD (i := 3) (d := some 135) (v := ?vT5) rfl rfl (by kernel_rfl) (by kernel_rfl) (by kernel_rfl) (fun _ _ _ h => h) (Or.inl ⟨by rfl, ?hyT5⟩) (by assumption) ?rstT5
      case hyT5 => (intro w hSw; (try dsimp only at hSw); go_simp; (try with_reducible rfl))
      try simp only [Act.put, List.setIfInBounds_toArray, List.set_cons_zero, List.set_cons_succ]
      refine takeD (i := 4) (d := some 136) (v := ?vT6) rfl rfl (by kernel_rfl) (by kernel_rfl) (by kernel_rfl) (fun _ _ _ h => h) (Or.inl ⟨by rfl, ?hyT6⟩) (by assumption) ?rstT6
      case hyT6 => (intro w hSw; (try dsimp only at hSw); go_simp; (try with_reducible rfl))
      try simp only [Act.put, List.setIfInBounds_toArray, List.set_cons_zero, List.set_cons_succ]
      refine takeD (i := 5) (d := some 137) (v := ?vT7) rfl rfl (by kernel_rfl) (by kernel_rfl) (by kernel_rfl) (fun _ _ _ h => h) (Or.inl ⟨by rfl, ?hyT7⟩) (by assumption) ?rstT7
      case hyT7 => (intro w hSw; (try dsimp only at hSw); go_simp; (try with_reducible rfl))
      try simp only [Act.put, List.setIfInBounds_toArray, List.set_cons_zero, List.set_cons_succ]
      refine takeD (i := 6) (d := some 138) (v := ?vT8) rfl rfl (by kernel_rfl) (by kernel_rfl) (by kernel_rfl) (fun _ _ _ h => h) (Or.inl ⟨by rfl, ?hyT8⟩) (by assumption) ?rstT8
      case hyT8 => (intro w hSw; (try dsimp only at hSw); go_simp; (try with_reducible rfl))
      try simp only [Act.put, List.setIfInBounds_toArray, List.set_cons_zero, List.set_cons_succ]
      refine takeD (i := 7) (d := some 139) (v := ?vT9) rfl rfl (by kernel_rfl) (by kernel_rfl) (by kernel_rfl) (fun _ _ _ h => h) (Or.inl ⟨by rfl, ?hyT9⟩) (by assumption) ?rstT9
      case hyT9 => (intro w hSw; (try dsimp only at hSw); go_simp; (try with_reducible rfl))
      try simp only [Act.put, List.setIfInBounds_toArray, List.set_cons_zero, List.set_cons_succ]
      refine takeD (i := 8) (d := some 140) (v := ?vT10) rfl rfl (by kernel_rfl) (by kernel_rfl) (by kernel_rfl) (fun _ _ _ h => h) (Or.inl ⟨by rfl, ?hyT10⟩) (by assumption) ?rstT10
      case hyT10 => (intro w hSw; (try dsimp only at hSw); go_simp; (try with_reducible rfl))
      try simp only [Act.put, List.setIfInBounds_toArray, List.set_cons_zero, List.set_cons_succ]
      refine takeD (i := 9) (d := some 141) (v := ?vT11) rfl rfl (by kernel_rfl) (by kernel_rfl) (by kernel_rfl) (fun _ _ _ h => h) (Or.inl ⟨by rfl, ?hyT11⟩) (by assumption) ?rstT11
      case hyT11 => (intro w hSw; (try dsimp only at hSw); go_simp; (try with_reducible rfl))
      try simp only [Act.put, List.setIfInBounds_toArray, List.set_cons_zero, List.set_cons_succ]
      refine takeD (i := 10) (d := some 142) (v := ?vT12) rfl rfl (by kernel_rfl) (by kernel_rfl) (by kernel_rfl) (fun _ _ _ h => h) (Or.inl ⟨by rfl, ?hyT12⟩) (by assumption) ?rstT12
      case hyT12 => (intro w hSw; (try dsimp only at hSw); go_simp; (try with_reducible rfl))
      try simp only [Act.put, List.setIfInBounds_toArray, List.set_cons_zero, List.set_cons_succ]
      refine takeD (i := 11) (d := some 143) (v := ?vT13) rfl rfl (by kernel_rfl) (by kernel_rfl) (by kernel_rfl) (fun _ _ _ h => h) (Or.inl ⟨by rfl, ?hyT13⟩) (by assumption) ?rstT13
      case hyT13 => (intro w hSw; (try dsimp only at hSw); go_simp; (try with_reducible rfl))
      try simp only [Act.put, List.setIfInBounds_toArray, List.set_cons_zero, List.set_cons_succ]
      refine takeD (i := 12) (d := some 144) (v := ?vT14) rfl rfl (by kernel_rfl) (by kernel_rfl) (by kernel_rfl) (fun _ _ _ h => h) (Or.inl ⟨by rfl, ?hyT14⟩) (by assumption) ?rstT14
      case hyT14 => (intro w hSw; (try dsimp only at hSw); go_simp; (try with_reducible rfl))
      try simp only [Act.put, List.setIfInBounds_toArray, List.set_cons_zero, List.set_cons_succ]
      refine takeD (i := 13) (d := some 145) (v := ?vT15) rfl rfl (by kernel_rfl) (by kernel_rfl) (by kernel_rfl) (fun _ _ _ h => h) (Or.inl ⟨by rfl, ?hyT15⟩) (by assumption) ?rstT15
      case hyT15 => (intro w hSw; (try dsimp only at hSw); go_simp; (try with_reducible rfl))
      try simp only [Act.put, List.setIfInBounds_toArray, List.set_cons_zero, List.set_cons_succ]
      refine takeD (i := 14) (d := some 146) (v := ?vT16) rfl rfl (by kernel_rfl) (by kernel_rfl) (by kernel_rfl) (fun _ _ _ h => h) (Or.inl ⟨by rfl, ?hyT16⟩) (by assumption) ?rstT16
      case hyT16 => (intro w hSw; (try dsimp only at hSw); go_simp; (try with_reducible rfl))
      try simp only [Act.put, List.setIfInBounds_toArray, List.set_cons_zero, List.set_cons_succ]
      refine takeD (i := 15) (d := some 147) (v := ?vT17) rfl rfl (by kernel_rfl) (by kernel_rfl) (by kernel_rfl) (fun _ _ _ h => h) (Or.inl ⟨by rfl, ?hyT17⟩) (by assumption) ?rstT17
      case hyT17 => (intro w hSw; (try dsimp only at hSw); go_simp; (try with_reducible rfl))
      try simp only [Act.put, List.setIfInBounds_toArray, List.set_cons_zero, List.set_cons_succ]
      refine takeD (i := 16) (d := some 148) (v := ?vT18) rfl rfl (by kernel_rfl) (by kernel_rfl) (by kernel_rfl) (fun _ _ _ h => h) (Or.inl ⟨by rfl, ?hyT18⟩) (by assumption) ?rstT18
      case hyT18 => (intro w hSw; (try dsimp only at hSw); go_simp; (try with_reducible rfl))
      try simp only [Act.put, List.setIfInBounds_toArray, List.set_cons_zero, List.set_cons_succ]
      refine takeD (i := 17) (d := some 149) (v := ?vT19) rfl rfl (by kernel_rfl) (by kernel_rfl) (by kernel_rfl) (fun _ _ _ h => h) (Or.inl ⟨by rfl, ?hyT19⟩) (by assumption) ?rstT19
      case hyT19 => (intro w hSw; (try dsimp only at hSw); go_simp; (try with_reducible rfl))
      try simp only [Act.put, List.setIfInBounds_toArray, List.set_cons_zero, List.set_cons_succ]
      refine wpAnyH_ready (rs := [18]) (by kernel_rfl) (by simp) ?_
      refine AllReadyH.cons rfl (fun K hK => ?_) AllReadyH.nil
      go_simp
      clear hHeld
      refine hK.out _ _ ?hS20 (fun hHeld => ?rest20)
      case hS20 => exact ⟨y1, y4, t1, t4⟩
      clear hK K
      try simp only [Act.put, List.setIfInBounds_toArray, List.set_cons_zero, List.set_cons_succ]
      refine takeD (i := 19) (d := some 15) (v := ?vT21) rfl rfl (by kernel_rfl) (by kernel_rfl) (by kernel_rfl) (fun _ _ _ h => h) (Or.inl ⟨by rfl, ?hyT21⟩) (by assumption) ?rstT21
      case hyT21 => (intro w hSw; (try dsimp only at hSw); go_simp; (try with_reducible rfl))
      try simp only [Act.put, List.setIfInBounds_toArray, List.set_cons_zero, List.set_cons_succ]
      refine wpAnyH_done (by kernel_rfl) ?_ _
      go_wp2_with fail
      have hbD : Below W12.heap.size W12 D12 := by rw [← hD12]; exact (Below.refl _ _).drew
      have hAl : A.length ≤ 1048577 := HLN.out.2.2
      have hYl : Y'.length ≤ 1048577 := by have h1 := HS8.out.2.2.1; have h2 := HR.out.2.2.2.1; omega
      obtain ⟨r1, r2⟩ := rows6 HR1.out.1 HR1.out.2 HR2.out.1 HR2.out.2 HL1.out HL2.out hbD hb13 hAl hAl hYl
      have hRw : Rw slV 1 W13 (some ⟨D12.heap.size, 0, none⟩) 6 6 [(ra, n1, rc), (sa, n1, sc), (v1.a, v1.n, v1.cap), (u1.a, u1.n, u1.cap), (v2.a, v2.n, v2.cap), (u2.a, u2.n, u2.cap)] := by rw [← hW13]; exact rw_lits laySl D12 [(ra, n1, rc), (sa, n1, sc), (v1.a, v1.n, v1.cap), (u1.a, u1.n, u1.cap), (v2.a, v2.n, v2.cap), (u2.a, u2.n, u2.cap)] _ rfl _ 6 rfl (by decide)
      have hb8D : Below W8.heap.size W8 D12 := (((HR1.out.2.trans (HR2.out.2.mono HR1.out.2.size)).trans (HL1.out.below.mono (Nat.le_trans HR1.out.2.size HR2.out.2.size))).trans (HL2.out.below.mono (Nat.le_trans HR1.out.2.size (Nat.le_trans HR2.out.2.size HL1.out.below.size)))).trans (hbD.mono (Nat.le_trans HR1.out.2.size (Nat.le_trans HR2.out.2.size (Nat.le_trans HL1.out.below.size HL2.out.below.size))))
      have hs13D : D12.heap.size ≤ W13.heap.size := hb13.size
      have hs8D := hb8D.size
      have hNS13 : NS w0 W13 (fun g => F g ∨ (W8.heap.size ≤ g ∧ g < D12.heap.size)) p (nS2 L A Y') := HS8.out.1.more (hb8D.trans (hb13.mono hs8D)) (fun g hg => hg.imp id (fun h => ⟨h.1, by omega⟩)) (fun g hg => .inl hg)
      obtain ⟨R, hRe⟩ : ∃ R : List Sl, R = [(ra, n1, rc), (sa, n1, sc), (v1.a, v1.n, v1.cap), (u1.a, u1.n, u1.cap), (v2.a, v2.n, v2.cap), (u2.a, u2.n, u2.cap)] := ⟨_, rfl⟩
      rw [← hRe] at r1 r2 hRw
      have hg1 : W8.heap.size ≤ g1' ∧ g1' < D12.heap.size := by
        obtain ⟨cs, hcs⟩ := HL1.out.blk
        have h1 := (Array.getElem?_eq_some_iff.1 hcs).1
        have h2 := HL1.out.ge
        have h3 := HR1.out.2.size
        have h4 := HR2.out.2.size
        have h5 := HL2.out.below.size
        have h6 := hbD.size
        omega
      have hblk : ∃ cs, W13.heap[g1']? = some (.cells cs 39) := by
        obtain ⟨cs, hcs⟩ := HL1.out.blk
        have h1 := (Array.getElem?_eq_some_iff.1 hcs).1
        have h2 := HL2.out.below
        have h5 := h2.size
        have h6 := hbD.size
        exact ⟨cs, (hb13.block _ (by omega)).trans ((hbD.block _ (by omega)).trans ((h2.block _ h1).trans hcs))⟩
      have HG : Hid (NS w0 W13 (fun g => F g ∨ (W8.heap.size ≤ g ∧ g < D12.heap.size)) p (nS2 L A Y') ∧ (∀ x ∈ R, (∃ l, OwnF byU 1 5 W13 W8.heap.size x.v l) ∧ x.2.1 ≤ 1073741824 ∧ ∀ g, x.v.ownBlock = some g → W8.heap.size ≤ g ∧ g < D12.heap.size) ∧ Rw slV 1 W13 (some ⟨D12.heap.size, 0, none⟩) 6 6 R ∧ (W8.heap.size ≤ g1' ∧ g1' < D12.heap.size) ∧ (∃ cs, W13.heap[g1']? = some (.cells cs 39)) ∧ w0.heap.size ≤ W8.heap.size ∧ D12.heap.size ≤ W13.heap.size ∧ W13.cell? ⟨g1', 0, none⟩ = some (.string ⟨#[97]⟩)) := by
        refine ⟨hNS13, r1, hRw, hg1, hblk, HS8.out.1.size, hs13D, ?_⟩
        have h1 := (fil2_cells HL1.out).1
        have h0 := World.block_lt_of_cell? _ _ h1
        have h2 := HL2.out.below
        have h5 := h2.size
        have h6 := hbD.size
        exact (hb13.cell (p := ⟨g1', 0, none⟩) (by simp only at h0 ⊢; omega)).trans ((hbD.cell (p := ⟨g1', 0, none⟩) (by simp only at h0 ⊢; omega)).trans ((h2.cell (p := ⟨g1', 0, none⟩) h0).trans h1))
      refine Calls.mono (filled_any (B := W8.heap.size) hRw (fun x hx ga hga e => by have h1 := (r1 x hx).2.2 _ e; simp only [Option.some.injEq] at hga; rw [← hga] at h1; simp only at h1; omega) (fun x hx => (r1 x hx).1) r2 (by decide) (fun x hx => (r1 x hx).2.1) (by omega)) ?_
      rintro e w14 ⟨la, lc, Lg, rfl, hfd⟩
      have HF14 : Hid (Fd W13 w14 W8.heap.size R 6 (.slice la 6 lc) Lg ∧ R.length = 6) := ⟨hfd, by rw [hRe]; rfl⟩
      clear hfd hbD hAl hYl r1 r2 hRw hb8D hs13D hs8D hNS13 hRe hg1 hblk hb13 hW13 hD12 x1 x4 z1 z4 y1 y4 t1 t4 rc1 rc2 hHeld HR1 HR2 HB f1 f2
      go_wp2_with fail
      obtain ⟨GB, hGB⟩ : ∃ GB, D12.heap.size = GB := ⟨_, rfl⟩
      have HGR : Hid (Rw slV 1 w14 (some ⟨GB, 0, none⟩) 6 6 R) := by
        rw [← hGB]
        exact HG.out.2.2.1.chg HF14.out.1.chg (fun ga hga ⟨x, hx, e⟩ => by
          simp only [Option.some.injEq] at hga
          have h1 := (HG.out.2.1 x hx).2.2 _ e
          rw [← hga] at h1
          simp only at h1
          omega)
      rw [hGB]
      clear hGB
      go_loopw [17] (fun vk wr => ∃ k : Nat, k ≤ 6 ∧ vk = .int .i64 (k : Int) ∧ wr = w14) (fun vk _ => 6 - (RowKit.intOf vk).toNat)
      case atStart => exact ⟨0, Nat.zero_le _, rfl, rfl⟩
      case round =>
        obtain ⟨k, hk, rfl, hwr⟩ := hrel
        subst hwr
        by_cases hlt : k < 6
        · have hlt2 : (k : Int) < 6 := by omega
          have gk : IntKind.i64.wrap ((k : Int) + 1) = ((k + 1 : Nat) : Int) := by rw [IntWalk.i64_in _ (by omega)]; omega
          obtain ⟨mk, hmk⟩ : ∃ mk : Int, 200 + (k : Int) = mk := ⟨_, rfl⟩
          have hmkb : ((mkB k).toNat : Int) = mk := by rw [← hmk]; exact mkB_nat k (by omega)
          have gm : IntKind.i64.wrap (200 + (k : Int)) = mk := by rw [hmk]; exact IntWalk.i64_in _ (by omega)
          have gm2 : IntKind.u8.wrap mk = mk := by rw [← hmk]; exact IntWalk.u8_in (200 + (k : Int)) (by omega)
          obtain ⟨gq, oq, x, hoa, _, hxi, hcell⟩ := HGR.out.at k hlt
          simp only [Option.some.injEq, Addr.mk.injEq, and_true] at hoa
          obtain ⟨rfl, rfl⟩ := hoa
          have o0 := hcell 0 _ rfl
          rw [Nat.add_zero, Nat.mul_one, Nat.zero_add] at o0
          obtain ⟨gl, ol, y, hla, _, hyi, hcell2⟩ := (HF14.out.1.row.rw_ laySl).at k hlt
          subst hla
          have l0 := hcell2 0 _ rfl
          rw [Nat.add_zero, Nat.mul_one] at l0
          obtain ⟨xa', xn, xc'⟩ := x
          obtain ⟨ya', yn, yc'⟩ := y
          obtain ⟨hy1, hy2, _⟩ := HF14.out.1.long k _ _ hxi hyi
          have hx1 := HF14.out.1.done k _ hxi hlt
          simp only at hy2
          have hxb' : xn ≤ 1073741824 := (HG.out.2.1 _ (List.mem_of_getElem? hxi)).2.1
          have hRX : Rw byU 1 wr xa' xn xc' (List.replicate xn (mkB k)) := hx1.rw_ layU
          have hRY : Rw byU 1 wr ya' yn yc' (List.replicate (xn + 1) (mkB k)) := hy1.rw_ layU
          have HXY : Hid (Rw byU 1 wr xa' xn xc' (List.replicate xn (mkB k)) ∧ Rw byU 1 wr ya' yn yc' (List.replicate (xn + 1) (mkB k)) ∧ ((mkB k).toNat : Int) = mk) := ⟨hRX, hRY, hmkb⟩
          have hyb' : (yn : Int) ≤ 1073741825 := by omega
          have hxy : yn = xn + 1 := hy2
          clear hcell hcell2 hy1 hy2 hx1 hRX hRY hmk hmkb hxi hyi
          go_wp2_with fail
          go_loopw [18] (fun vi wq => ∃ i : Nat, i ≤ yn ∧ vi = .int .i64 (i : Int) ∧ wq = wr) (fun vi _ => yn - (RowKit.intOf vi).toNat)
          case atStart => exact ⟨0, Nat.zero_le _, rfl, rfl⟩
          case round =>
            obtain ⟨i, hi, rfl, hwq⟩ := hrel
            subst hwq
            by_cases hil : i < yn
            · have hil2 : (i : Int) < (yn : Int) := by omega
              have gi : IntKind.i64.wrap ((i : Int) + 1) = ((i + 1 : Nat) : Int) := by rw [IntWalk.i64_in _ (by omega)]; omega
              obtain ⟨gy, oy, cy, hay, _, hcy, hcc⟩ := HXY.out.2.1.at i hil
              subst hay
              have p0 := hcc 0 _ rfl
              rw [Nat.add_zero, Nat.mul_one] at p0
              have hcy2 : cy = mkB k := (List.mem_replicate.1 (List.mem_of_getElem? hcy)).2
              rw [hcy2, HXY.out.2.2] at p0
              clear hcc hcy hcy2
              by_cases hix : i < xn
              · have hix2 : (i : Int) < (xn : Int) := by omega
                obtain ⟨gz, oz, cz, haz, _, hcz, hcc⟩ := HXY.out.1.at i hix
                subst haz
                have z0 := hcc 0 _ rfl
                rw [Nat.add_zero, Nat.mul_one] at z0
                have hcz2 : cz = mkB k := (List.mem_replicate.1 (List.mem_of_getElem? hcz)).2
                rw [hcz2, HXY.out.2.2] at z0
                clear hcc hcz hcz2
                go_wp2_with fail
                go_roundw
                case rel => exact ⟨i + 1, by omega, by first | rfl | go_num, trivial⟩
                case measure => simp [RowKit.intOf]; omega
              · have hix2 : ¬ ((i : Int) < (xn : Int)) := by omega
                go_wp2_with fail
                go_roundw
                case rel => exact ⟨i + 1, by omega, by first | rfl | go_num, trivial⟩
                case measure => simp [RowKit.intOf]; omega
            · have hil2 : ¬ ((i : Int) < (yn : Int)) := by omega
              go_wp2_with fail
              go_roundw
              case rel => exact ⟨k + 1, by omega, by first | rfl | go_num, trivial⟩
              case measure => simp [RowKit.intOf]; omega
        · have hlt2 : ¬ ((k : Int) < 6) := by omega
          have hne : ∀ x ∈ R, x.v.ownBlock ≠ some g1' := fun x hx => by
            obtain ⟨cs, hcs⟩ := HG.out.2.2.2.2.1
            obtain ⟨l, hl⟩ := (HG.out.2.1 x hx).1
            exact own_ne_box hl hcs (by decide)
          have hblk : ∃ cs, wr.heap[g1']? = some (.cells cs 39) := by
            obtain ⟨cs, hcs⟩ := HG.out.2.2.2.2.1
            exact ⟨cs, HF14.out.1.chg.block hcs (fun ⟨x, hx, e⟩ => hne x hx e)⟩
          obtain ⟨cs, hcs⟩ := hblk
          have hc0 : wr.cell? ⟨g1', 0, none⟩ = some (.string ⟨#[97]⟩) := (HF14.out.1.chg.cell (p := ⟨g1', 0, none⟩) (Array.getElem?_eq_some_iff.1 HG.out.2.2.2.2.1.choose_spec).1 (fun ⟨x, hx, e⟩ => hne x hx e)).trans HG.out.2.2.2.2.2.2.2
          have fz := Lib.frozen_of_heap hcs 0
          have hns : NS w0 wr (fun g => F g ∨ (W8.heap.size ≤ g ∧ g < D12.heap.size)) p (nS2 L A Y') := HG.out.1.chg HF14.out.1.chg (fun g ⟨x, hx, e⟩ => .inr ((HG.out.2.1 x hx).2.2 g e)) (fun g ⟨x, hx, e⟩ => by have h1 := (HG.out.2.1 x hx).2.2 g e; have h2 := HG.out.2.2.2.2.2.1; omega)
          obtain ⟨W15, hW15⟩ : ∃ W15, wr.setCell ⟨g1', 0, none⟩ (.string ⟨#[122]⟩) = W15 := ⟨_, rfl⟩
          have hC15 : Chg (fun g => g = g1') wr W15 := by rw [← hW15]; exact Chg.set (D := fun g => g = g1') (q := g1') 0 _ _ rfl
          have HS15 : Hid (NS w0 W15 (fun g => F g ∨ (W8.heap.size ≤ g ∧ g < D12.heap.size)) p (nS2 L A Y')) := hns.chg hC15 (fun g hg => .inr (hg ▸ HG.out.2.2.2.1)) (fun g hg => by have h1 := HG.out.2.2.2.1; have h2 := HG.out.2.2.2.2.2.1; omega)
          have hcap := (fil2_cells HL1.out).2.2.2.2
          clear hne hcs hns hC15
          go_wp2_with fail
          refine Calls.mono (HFI.out W15 _ HS15.out.df) ?_
          rintro e W16 ⟨g3', c3', v3, u3, rfl, k1⟩
          have HS16 := HS15.out.grow k1.below
          obtain ⟨a0, a1, a3, a4, hcap3⟩ := fil2_cells k1
          obtain ⟨_, e1, _, _, _⟩ := HCB.out W16 HS16.below
          obtain ⟨D16, hD16⟩ : ∃ D16, W16.drew = D16 := ⟨_, rfl⟩
          have hbD : Below W16.heap.size W16 D16 := by rw [← hD16]; exact (Below.refl _ _).drew
          have a0' : D16.cell? ⟨g3', 0, none⟩ = some (.string ⟨#[97]⟩) := by rw [← hD16]; exact a0
          have a1' : D16.cell? ⟨g3', 1, none⟩ = some (.slice v3.a v3.n v3.cap) := by rw [← hD16]; exact a1
          have a3' : D16.cell? ⟨g3', 3, none⟩ = some (.string ⟨#[98]⟩) := by rw [← hD16]; exact a3
          have a4' : D16.cell? ⟨g3', 4, none⟩ = some (.slice u3.a u3.n u3.cap) := by rw [← hD16]; exact a4
          have e1' : D16.cell? ⟨E, 1, none⟩ = some (.slice ya ny yc) := by rw [← hD16]; exact e1
          have f1 := conv_bytes ((k1.ov.below hbD).rw_ layU)
          have f2 := conv_bytes ((k1.ou.below hbD).rw_ layU)
          have f3 := conv_bytes (HR.out.2.1.below (HWB.out D16 (HS16.grow hbD).below))
          simp only at f1 f2
          rw [HX.out.2.2.2.2.2.1] at f1
          obtain ⟨sV, hsV⟩ : ∃ sV : ByteArray, ⟨Y'.toArray⟩ = sV := ⟨_, rfl⟩
          obtain ⟨sY, hsY⟩ : ∃ sY : ByteArray, ⟨Y.toArray⟩ = sY := ⟨_, rfl⟩
          rw [hsV] at f2
          rw [hsY] at f3
          have q1 : sY ++ (⟨#[101]⟩ : ByteArray) = sV := by
            rw [← hsV, ← hsY, ← HS8.out.2.1]
            exact str_cat Y [101]
          have q2 : ¬ 9223372036854775807 < sY.size + 1 := by rw [← hsY, str_size]; have := HR.out; omega
          have q3 := str_beq sV
          have q4 := str_beq sW
          have q5 : ((⟨#[97]⟩ : ByteArray) == ⟨#[97]⟩) = true := by decide
          have q6 : ((⟨#[98]⟩ : ByteArray) == ⟨#[98]⟩) = true := by decide
          have HE : Hid (Below E w D16) := by have h := HWB.out D16 (HS16.grow hbD).below; rw [H0.out.2.1] at h; exact h
          clear k1 HS16 a0 a1 a3 a4 e1 hsV hsY hbD
          go_wp2_with fail
          refine wp_region_held_drew (S := (fun W => W = D16)) (by kernel_rfl) ?hS501 (fun hHeld => ?rest501)
          case hS501 => exact hD16
          change wpAnyH _ _ _ _ _ _ _ _ W16.drew
          rw [hD16]
          replace hHeld : (fun W => W = D16) D16 := rfl
          refine takeD (i := 0) (d := some 206) (v := ?vT502) rfl rfl (by kernel_rfl) (by kernel_rfl) (by kernel_rfl) (fun _ _ _ h => h) (Or.inl ⟨by rfl, ?hyT502⟩) (by assumption) ?rstT502
          case hyT502 => (intro w hSw; (try dsimp only at hSw); go_simp; (try with_reducible rfl))
          try simp only [Act.put, List.setIfInBounds_toArray, List.set_cons_zero, List.set_cons_succ]
          refine takeD (i := 1) (d := some 207) (v := ?vT503) rfl rfl (by kernel_rfl) (by kernel_rfl) (by kernel_rfl) (fun _ _ _ h => h) (Or.inl ⟨by rfl, ?hyT503⟩) (by assumption) ?rstT503
          case hyT503 => (intro w hSw; (try dsimp only at hSw); go_simp; (try with_reducible rfl))
          try simp only [Act.put, List.setIfInBounds_toArray, List.set_cons_zero, List.set_cons_succ]
          refine takeD (i := 2) (d := some 208) (v := ?vT504) rfl rfl (by kernel_rfl) (by kernel_rfl) (by kernel_rfl) (fun _ _ _ h => h) (Or.inl ⟨by rfl, ?hyT504⟩) (by assumption) ?rstT504
          case hyT504 => (intro w hSw; (try dsimp only at hSw); go_simp; (try with_reducible rfl))
          try simp only [Act.put, List.setIfInBounds_toArray, List.set_cons_zero, List.set_cons_succ]
          refine takeD (i := 3) (d := some 209) (v := ?vT505) rfl rfl (by kernel_rfl) (by kernel_rfl) (by kernel_rfl) (fun _ _ _ h => h) (Or.inl ⟨by rfl, ?hyT505⟩) (by assumption) ?rstT505
          case hyT505 => (intro w hSw; (try dsimp only at hSw); go_simp; (try with_reducible rfl))
          try simp only [Act.put, List.setIfInBounds_toArray, List.set_cons_zero, List.set_cons_succ]
          refine takeD (i := 4) (d := some 210) (v := ?vT506) rfl rfl (by kernel_rfl) (by kernel_rfl) (by kernel_rfl) (fun _ _ _ h => h) (Or.inl ⟨by rfl, ?hyT506⟩) (by assumption) ?rstT506
          case hyT506 => (intro w hSw; (try dsimp only at hSw); go_simp; (try with_reducible rfl))
          try simp only [Act.put, List.setIfInBounds_toArray, List.set_cons_zero, List.set_cons_succ]
          refine takeD (i := 5) (d := some 211) (v := ?vT507) rfl rfl (by kernel_rfl) (by kernel_rfl) (by kernel_rfl) (fun _ _ _ h => h) (Or.inl ⟨by rfl, ?hyT507⟩) (by assumption) ?rstT507
          case hyT507 => (intro w hSw; (try dsimp only at hSw); go_simp; (try with_reducible rfl))
          try simp only [Act.put, List.setIfInBounds_toArray, List.set_cons_zero, List.set_cons_succ]
          refine takeD (i := 6) (d := some 212) (v := ?vT508) rfl rfl (by kernel_rfl) (by kernel_rfl) (by kernel_rfl) (fun _ _ _ h => h) (Or.inl ⟨by rfl, ?hyT508⟩) (by assumption) ?rstT508
          case hyT508 => (intro w hSw; (try dsimp only at hSw); go_simp; (try with_reducible rfl))
          try simp only [Act.put, List.setIfInBounds_toArray, List.set_cons_zero, List.set_cons_succ]
          refine takeD (i := 7) (d := some 213) (v := ?vT509) rfl rfl (by kernel_rfl) (by kernel_rfl) (by kernel_rfl) (fun _ _ _ h => h) (Or.inl ⟨by rfl, ?hyT509⟩) (by assumption) ?rstT509
          case hyT509 => (intro w hSw; (try dsimp only at hSw); go_simp; (try with_reducible rfl))
          try simp only [Act.put, List.setIfInBounds_toArray, List.set_cons_zero, List.set_cons_succ]
          refine takeD (i := 8) (d := some 214) (v := ?vT510) rfl rfl (by kernel_rfl) (by kernel_rfl) (by kernel_rfl) (fun _ _ _ h => h) (Or.inl ⟨by rfl, ?hyT510⟩) (by assumption) ?rstT510
          case hyT510 => (intro w hSw; (try dsimp only at hSw); go_simp; (try with_reducible rfl))
          try simp only [Act.put, List.setIfInBounds_toArray, List.set_cons_zero, List.set_cons_succ]
          refine takeD (i := 9) (d := some 215) (v := ?vT511) rfl rfl (by kernel_rfl) (by kernel_rfl) (by kernel_rfl) (fun _ _ _ h => h) (Or.inl ⟨by rfl, ?hyT511⟩) (by assumption) ?rstT511
          case hyT511 => (intro w hSw; (try dsimp only at hSw); go_simp; (try with_reducible rfl))
          try simp only [Act.put, List.setIfInBounds_toArray, List.set_cons_zero, List.set_cons_succ]
          refine takeD (i := 10) (d := some 216) (v := ?vT512) rfl rfl (by kernel_rfl) (by kernel_rfl) (by kernel_rfl) (fun _ _ _ h => h) (Or.inl ⟨by rfl, ?hyT512⟩) (by assumption) ?rstT512
          case hyT512 => (intro w hSw; (try dsimp only at hSw); go_simp; (try with_reducible rfl))
          try simp only [Act.put, List.setIfInBounds_toArray, List.set_cons_zero, List.set_cons_succ]
          refine takeD (i := 11) (d := some 217) (v := ?vT513) rfl rfl (by kernel_rfl) (by kernel_rfl) (by kernel_rfl) (fun _ _ _ h => h) (Or.inl ⟨by rfl, ?hyT513⟩) (by assumption) ?rstT513
          case hyT513 => (intro w hSw; (try dsimp only at hSw); go_simp; (try with_reducible rfl))
          try simp only [Act.put, List.setIfInBounds_toArray, List.set_cons_zero, List.set_cons_succ]
          refine takeD (i := 12) (d := some 218) (v := ?vT514) rfl rfl (by kernel_rfl) (by kernel_rfl) (by kernel_rfl) (fun _ _ _ h => h) (Or.inl ⟨by rfl, ?hyT514⟩) (by assumption) ?rstT514
          case hyT514 => (intro w hSw; (try dsimp only at hSw); go_simp; (try with_reducible rfl))
          try simp only [Act.put, List.setIfInBounds_toArray, List.set_cons_zero, List.set_cons_succ]
          refine takeD (i := 13) (d := some 219) (v := ?vT515) rfl rfl (by kernel_rfl) (by kernel_rfl) (by kernel_rfl) (fun _ _ _ h => h) (Or.inl ⟨by rfl, ?hyT515⟩) (by assumption) ?rstT515
          case hyT515 => (intro w hSw; (try dsimp only at hSw); go_simp; (try with_reducible rfl))
          try simp only [Act.put, List.setIfInBounds_toArray, List.set_cons_zero, List.set_cons_succ]
          refine takeD (i := 14) (d := some 220) (v := ?vT516) rfl rfl (by kernel_rfl) (by kernel_rfl) (by kernel_rfl) (fun _ _ _ h => h) (Or.inl ⟨by rfl, ?hyT516⟩) (by assumption) ?rstT516
          case hyT516 => (intro w hSw; (try dsimp only at hSw); go_simp; (try with_reducible rfl))
          try simp only [Act.put, List.setIfInBounds_toArray, List.set_cons_zero, List.set_cons_succ]
          refine takeD (i := 15) (d := some 221) (v := ?vT517) rfl rfl (by kernel_rfl) (by kernel_rfl) (by kernel_rfl) (fun _ _ _ h => h) (Or.inl ⟨by rfl, ?hyT517⟩) (by assumption) ?rstT517
          case hyT517 => (intro w hSw; (try dsimp only at hSw); go_simp; (try with_reducible rfl))
          try simp only [Act.put, List.setIfInBounds_toArray, List.set_cons_zero, List.set_cons_succ]
          refine takeD (i := 16) (d := some 222) (v := ?vT518) rfl rfl (by kernel_rfl) (by kernel_rfl) (by kernel_rfl) (fun _ _ _ h => h) (Or.inl ⟨by rfl, ?hyT518⟩) (by assumption) ?rstT518
          case hyT518 => (intro w hSw; (try dsimp only at hSw); go_simp; (try with_reducible rfl))
          try simp only [Act.put, List.setIfInBounds_toArray, List.set_cons_zero, List.set_cons_succ]
          refine takeD (i := 17) (d := some 223) (v := ?vT519) rfl rfl (by kernel_rfl) (by kernel_rfl) (by kernel_rfl) (fun _ _ _ h => h) (Or.inl ⟨by rfl, ?hyT519⟩) (by assumption) ?rstT519
          case hyT519 => (intro w hSw; (try dsimp only at hSw); go_simp; (try with_reducible rfl))
          try simp only [Act.put, List.setIfInBounds_toArray, List.set_cons_zero, List.set_cons_succ]
          refine takeD (i := 18) (d := some 224) (v := ?vT520) rfl rfl (by kernel_rfl) (by kernel_rfl) (by kernel_rfl) (fun _ _ _ h => h) (Or.inl ⟨by rfl, ?hyT520⟩) (by assumption) ?rstT520
          case hyT520 => (intro w hSw; (try dsimp only at hSw); go_simp; (try with_reducible rfl))
          try simp only [Act.put, List.setIfInBounds_toArray, List.set_cons_zero, List.set_cons_succ]
          refine takeD (i := 19) (d := some 225) (v := ?vT521) rfl rfl (by kernel_rfl) (by kernel_rfl) (by kernel_rfl) (fun _ _ _ h => h) (Or.inl ⟨by rfl, ?hyT521⟩) (by assumption) ?rstT521
          case hyT521 => (intro w hSw; (try dsimp only at hSw); go_simp; (try with_reducible rfl))
          try simp only [Act.put, List.setIfInBounds_toArray, List.set_cons_zero, List.set_cons_succ]
          refine takeD (i := 20) (d := some 226) (v := ?vT522) rfl rfl (by kernel_rfl) (by kernel_rfl) (by kernel_rfl) (fun _ _ _ h => h) (Or.inl ⟨by rfl, ?hyT522⟩) (by assumption) ?rstT522
          case hyT522 => (intro w hSw; (try dsimp only at hSw); go_simp; (try with_reducible rfl))
          try simp only [Act.put, List.setIfInBounds_toArray, List.set_cons_zero, List.set_cons_succ]
          refine takeD (i := 21) (d := some 227) (v := ?vT523) rfl rfl (by kernel_rfl) (by kernel_rfl) (by kernel_rfl) (fun _ _ _ h => h) (Or.inl ⟨by rfl, ?hyT523⟩) (by assumption) ?rstT523
          case hyT523 => (intro w hSw; (try dsimp only at hSw); go_simp; (try with_reducible rfl))
          try simp only [Act.put, List.setIfInBounds_toArray, List.set_cons_zero, List.set_cons_succ]
          refine takeD (i := 22) (d := some 228) (v := ?vT524) rfl rfl (by kernel_rfl) (by kernel_rfl) (by kernel_rfl) (fun _ _ _ h => h) (Or.inl ⟨by rfl, ?hyT524⟩) (by assumption) ?rstT524
          case hyT524 => (intro w hSw; (try dsimp only at hSw); go_simp; (try with_reducible rfl))
          try simp only [Act.put, List.setIfInBounds_toArray, List.set_cons_zero, List.set_cons_succ]
          refine takeD (i := 23) (d := some 229) (v := ?vT525) rfl rfl (by kernel_rfl) (by kernel_rfl) (by kernel_rfl) (fun _ _ _ h => h) (Or.inl ⟨by rfl, ?hyT525⟩) (by assumption) ?rstT525
          case hyT525 => (intro w hSw; (try dsimp only at hSw); go_simp; (try with_reducible rfl))
          try simp only [Act.put, List.setIfInBounds_toArray, List.set_cons_zero, List.set_cons_succ]
          refine takeD (i := 24) (d := some 230) (v := ?vT526) rfl rfl (by kernel_rfl) (by kernel_rfl) (by kernel_rfl) (fun _ _ _ h => h) (Or.inl ⟨by rfl, ?hyT526⟩) (by assumption) ?rstT526
          case hyT526 => (intro w hSw; (try dsimp only at hSw); go_simp; (try with_reducible rfl))
          try simp only [Act.put, List.setIfInBounds_toArray, List.set_cons_zero, List.set_cons_succ]
          refine takeD (i := 25) (d := some 231) (v := ?vT527) rfl rfl (by kernel_rfl) (by kernel_rfl) (by kernel_rfl) (fun _ _ _ h => h) (Or.inl ⟨by rfl, ?hyT527⟩) (by assumption) ?rstT527
          case hyT527 => (intro w hSw; (try dsimp only at hSw); go_simp; (try with_reducible rfl))
          try simp only [Act.put, List.setIfInBounds_toArray, List.set_cons_zero, List.set_cons_succ]
          refine takeD (i := 26) (d := some 232) (v := ?vT528) rfl rfl (by kernel_rfl) (by kernel_rfl) (by kernel_rfl) (fun _ _ _ h => h) (Or.inl ⟨by rfl, ?hyT528⟩) (by assumption) ?rstT528
          case hyT528 => (intro w hSw; (try dsimp only at hSw); go_simp; (try with_reducible rfl))
          try simp only [Act.put, List.setIfInBounds_toArray, List.set_cons_zero, List.set_cons_succ]
          refine takeD (i := 27) (d := some 233) (v := ?vT529) rfl rfl (by kernel_rfl) (by kernel_rfl) (by kernel_rfl) (fun _ _ _ h => h) (Or.inl ⟨by rfl, ?hyT529⟩) (by assumption) ?rstT529
          case hyT529 => (intro w hSw; (try dsimp only at hSw); go_simp; (try with_reducible rfl))
          try simp only [Act.put, List.setIfInBounds_toArray, List.set_cons_zero, List.set_cons_succ]
          refine takeD (i := 28) (d := some 234) (v := ?vT530) rfl rfl (by kernel_rfl) (by kernel_rfl) (by kernel_rfl) (fun _ _ _ h => h) (Or.inl ⟨by rfl, ?hyT530⟩) (by assumption) ?rstT530
          case hyT530 => (intro w hSw; (try dsimp only at hSw); go_simp; (try with_reducible rfl))
          try simp only [Act.put, List.setIfInBounds_toArray, List.set_cons_zero, List.set_cons_succ]
          refine takeD (i := 29) (d := some 235) (v := ?vT531) rfl rfl (by kernel_rfl) (by kernel_rfl) (by kernel_rfl) (fun _ _ _ h => h) (Or.inl ⟨by rfl, ?hyT531⟩) (by assumption) ?rstT531
          case hyT531 => (intro w hSw; (try dsimp only at hSw); go_simp; (try with_reducible rfl))
          try simp only [Act.put, List.setIfInBounds_toArray, List.set_cons_zero, List.set_cons_succ]
          refine takeD (i := 30) (d := some 236) (v := ?vT532) rfl rfl (by kernel_rfl) (by kernel_rfl) (by kernel_rfl) (fun _ _ _ h => h) (Or.inl ⟨by rfl, ?hyT532⟩) (by assumption) ?rstT532
          case hyT532 => (intro w hSw; (try dsimp only at hSw); go_simp; (try with_reducible rfl))
          try simp only [Act.put, List.setIfInBounds_toArray, List.set_cons_zero, List.set_cons_succ]
          refine takeD (i := 31) (d := some 237) (v := ?vT533) rfl rfl (by kernel_rfl) (by kernel_rfl) (by kernel_rfl) (fun _ _ _ h => h) (Or.inl ⟨by rfl, ?hyT533⟩) (by assumption) ?rstT533
          case hyT533 => (intro w hSw; (try dsimp only at hSw); go_simp; (try with_reducible rfl))
          try simp only [Act.put, List.setIfInBounds_toArray, List.set_cons_zero, List.set_cons_succ]
          refine takeD (i := 32) (d := some 238) (v := ?vT534) rfl rfl (by kernel_rfl) (by kernel_rfl) (by kernel_rfl) (fun _ _ _ h => h) (Or.inl ⟨by rfl, ?hyT534⟩) (by assumption) ?rstT534
          case hyT534 => (intro w hSw; (try dsimp only at hSw); go_simp; (try with_reducible rfl))
          try simp only [Act.put, List.setIfInBounds_toArray, List.set_cons_zero, List.set_cons_succ]
          refine takeD (i := 33) (d := some 239) (v := ?vT535) rfl rfl (by kernel_rfl) (by kernel_rfl) (by kernel_rfl) (fun _ _ _ h => h) (Or.inl ⟨by rfl, ?hyT535⟩) (by assumption) ?rstT535
          case hyT535 => (intro w hSw; (try dsimp only at hSw); go_simp; (try with_reducible rfl))
          try simp only [Act.put, List.setIfInBounds_toArray, List.set_cons_zero, List.set_cons_succ]
          refine takeD (i := 34) (d := some 240) (v := ?vT536) rfl rfl (by kernel_rfl) (by kernel_rfl) (by kernel_rfl) (fun _ _ _ h => h) (Or.inl ⟨by rfl, ?hyT536⟩) (by assumption) ?rstT536
          case hyT536 => (intro w hSw; (try dsimp only at hSw); go_simp; (try with_reducible rfl))
          try simp only [Act.put, List.setIfInBounds_toArray, List.set_cons_zero, List.set_cons_succ]
          refine takeD (i := 35) (d := some 241) (v := ?vT537) rfl rfl (by kernel_rfl) (by kernel_rfl) (by kernel_rfl) (fun _ _ _ h => h) (Or.inl ⟨by rfl, ?hyT537⟩) (by assumption) ?rstT537
          case hyT537 => (intro w hSw; (try dsimp only at hSw); go_simp; (try with_reducible rfl))
          try simp only [Act.put, List.setIfInBounds_toArray, List.set_cons_zero, List.set_cons_succ]
          refine takeD (i := 36) (d := some 242) (v := ?vT538) rfl rfl (by kernel_rfl) (by kernel_rfl) (by kernel_rfl) (fun _ _ _ h => h) (Or.inl ⟨by rfl, ?hyT538⟩) (by assumption) ?rstT538
          case hyT538 => (intro w hSw; (try dsimp only at hSw); go_simp; (try with_reducible rfl))
          try simp only [Act.put, List.setIfInBounds_toArray, List.set_cons_zero, List.set_cons_succ]
          refine takeD (i := 37) (d := some 243) (v := ?vT539) rfl rfl (by kernel_rfl) (by kernel_rfl) (by kernel_rfl) (fun _ _ _ h => h) (Or.inl ⟨by rfl, ?hyT539⟩) (by assumption) ?rstT539
          case hyT539 => (intro w hSw; (try dsimp only at hSw); go_simp; (try with_reducible rfl))
          try simp only [Act.put, List.setIfInBounds_toArray, List.set_cons_zero, List.set_cons_succ]
          refine takeD (i := 38) (d := some 2) (v := ?vT540) rfl rfl (by kernel_rfl) (by kernel_rfl) (by kernel_rfl) (fun _ _ _ h => h) (Or.inl ⟨by rfl, ?hyT540⟩) (by assumption) ?rstT540
          case hyT540 => (intro w hSw; (try dsimp only at hSw); go_simp; (try with_reducible rfl))
          try simp only [Act.put, List.setIfInBounds_toArray, List.set_cons_zero, List.set_cons_succ]
          refine wpAnyH_done (by kernel_rfl) ?_ _
          go_wp2_with fail
          go_ret
          exact ⟨rfl, HE.out⟩
end Go.Proofs.Ytjcfeaekhefpfaa.Nm
