import Derived.Test.YtdmhajlhpieedaaLcH
/-! bag: a Send. -/
namespace Go.Proofs.Ytdmhajlhpieedaa
open Go.RowKit Go.Lib Go.Shelf
set_option maxRecDepth 100000

theorem send_good {L : List Sn} {pl : List Pk} (h : ∀ p ∈ pl, (0 ≤ p.fr ∧ p.fr < 3) ∧ (0 ≤ p.tt ∧ p.tt < 3)) (hl : L.length + pl.length ≤ 4096) : sendE (bagS L) pl = 0 ∧ sendR (bagS L) pl = bagS (L ++ pl.map Pk.sn) ∧ sendV (bagS L) pl = .tuple #[.int .i64 (L.length : Int), .int .i64 0] := by
  have e1 : sendE (bagS L) pl = 0 := by
    unfold sendE
    rw [if_pos, if_pos]
    · show (fgs 0 L).length + pl.length ≤ 4096
      rw [fgs_len]; have := hereN_le L; omega
    · rw [List.all_eq_true]
      intro p hp
      have := h p hp
      simp only [goodP, nodeB, bagS, Bool.and_eq_true, decide_eq_true_eq]
      refine ⟨⟨this.1.1, ?_⟩, this.2.1, ?_⟩ <;> exact decide_eq_true (by omega)
  refine ⟨e1, by rw [sendR, if_pos e1, bag_send], ?_⟩
  rw [sendV, e1, if_pos rfl]
  rfl
/-- What a Send of the statement's packets leaves. -/
theorem SI.send {W0 : World} {K : Nat → Prop} {b5 q : Nat} {L : List Sn} {sp : Sp} {wr : World} {v1 : Value} {pl : List Pk} {a : Option Addr} {i c : Nat} (h : SI W0 K b5 q L sp wr v1 (.slice a i c) pl) (hi : pl.length = i) (hi2 : i ≤ 20) (hL : L.length ≤ 3000) (hb : ∀ s ∈ L, s.bs.length ≤ 1048576) :
    Calls Try.prog 13 #[.pointer (some ⟨q, 0, none⟩), .slice a i c] wr fun e w' => e = .returned (.tuple #[.int .i64 (L.length : Int), .int .i64 0]) ∧ BagP W0 q L v1 w' := by
  obtain ⟨e1, e2, e3⟩ := send_good (L := L) (pl := pl) (fun p hp => (h.by_ p hp).nd) (by omega)
  refine (sendK h.st.lnk (ps := pl) ⟨h.p.rw_ layP, fun p hp => ⟨(h.by_ p hp).rw_, by have := (h.by_ p hp).le; omega⟩⟩ (fun g hg => ⟨h.p.lt (by rw [hg]; rfl), h.pk _ (by rw [hg]; rfl)⟩) (fun p hp g hg => ⟨((h.by_ p hp).aw g hg).1, ((h.by_ p hp).aw g hg).2.1⟩) (by omega) (by show L.length + i ≤ _; omega)).mono ?_
  rintro e w' ⟨e4, e5⟩
  rw [e2] at e5
  refine ⟨by rw [e4, e3], _, bg_lft h.st h.vk h.l e5, by simp; omega, fun s hs => ?_⟩
  rcases List.mem_append.1 hs with hs | hs
  · exact hb s hs
  · obtain ⟨p, hp, rfl⟩ := List.mem_map.1 hs
    exact (h.by_ p hp).le
set_option maxHeartbeats 4000000 in
theorem step_send {W0 W W1 : World} {q : Nat} {L : List Sn} {a : Option Addr} {n c kk : Nat} {sp : Sp} (z : Bz W0 W W1 q L a n c kk sp) (hL : L.length ≤ 3000) (hb : ∀ s ∈ L, s.bs.length ≤ 1048576) (hk2 : sp.kind ≠ 2) (hk3 : sp.kind ≠ 3) (hk4 : sp.kind ≠ 4) (hk5 : sp.kind ≠ 5) {ps : List Pk} (hP : PsAt W0 sp.pa sp.pn sp.pc ps) (hPb : ∀ p ∈ ps, p.bs.length ≤ 1048576) : Calls Try.prog 18 #[.pointer (some ⟨q, 0, none⟩), .slice a n c, sp.val] W fun e w' => ∃ v', e = .returned (.tuple #[v', .bool true]) ∧ BagP W0 q L v' w' := by
  obtain ⟨r0, r1, r2, r3, r4, r5⟩ := box6 z.bx
  have hal := z.al
  have HPK : Hid (∀ w, Calls Try.prog 15 #[.int .i64 sp.k, .int .i64 ((n : Int) + 1)] w fun e w' => e = .returned (.int .i64 (kk : Int)) ∧ w' = w) := z.pk
  have en : IntKind.i64.wrap ((n : Int) + 1) = (n : Int) + 1 := IntWalk.i64_in _ (by have := z.len; omega)
  have HZ : Hid (Bz W0 W W1 q L a n c kk sp ∧ L.length ≤ 3000 ∧ ∀ s ∈ L, s.bs.length ≤ 1048576) := ⟨z, hL, hb⟩
  unfold Sp.val
  have q2 : (sp.kind == 2) = false := beq_eq_false_iff_ne.2 hk2
  have q3 : (sp.kind == 3) = false := beq_eq_false_iff_ne.2 hk3
  have q4 : (sp.kind == 4) = false := beq_eq_false_iff_ne.2 hk4
  have q5 : (sp.kind == 5) = false := beq_eq_false_iff_ne.2 hk5
  obtain ⟨K, k1, k2, k3⟩ := z.nk
  obtain ⟨b5, hb5⟩ : ∃ b5, W.heap.size = b5 := ⟨_, rfl⟩
  have hbx := z.bx
  rw [hb5] at hbx k3 r0 r2
  have HI0 : Hid (∃ pl : List Pk, pl.length = 0 ∧ SI W0 K b5 q L sp W1 (.slice a n c) (.slice none 0 0) pl) := ⟨[], rfl, k1, by simpa using z.bg.own, ownF_nil _ _, k2, fun g hg => by simp [Value.ownBlock] at hg, fun p hp => by simp at hp, hbx, k3⟩
  have HIN : Hid (PsAt W0 sp.pa sp.pn sp.pc ps ∧ ∀ p ∈ ps, p.bs.length ≤ 1048576) := ⟨hP, hPb⟩
  have hLn := z.len
  by_cases hkl : kk < n
  · have hkL : kk < L.length := by have := z.len; omega
    have hs : L[kk]? = some L[kk] := List.getElem?_eq_getElem hkL
    obtain ⟨g, c', ev, _, ⟨c0, c1, c2, c3, c4, c5⟩, cf, cg, cur, hcur⟩ := z.bg.at hs
    simp only [Value.slice.injEq] at ev
    obtain ⟨rfl, -, rfl⟩ := ev
    have g1 : (kk : Int) < (n : Int) := by omega
    generalize L[kk].here = hb0 at c5
    clear hs c0 c1 c2 c3 c4 cf cg hcur
    clear z hL hb r1 r3 r4 r5 k1 k2 k3 hbx hP hPb
    go_enter Try.func18, Try.ntmps18
    go_wp2_with fail
    refine (HPK.out _).mono ?_
    rintro e w' ⟨rfl, hw⟩
    obtain rfl := hw.symm
    clear hw
    go_wp2_with fail
    go_loopw [1, 16, 17] (fun v1 v16 v17 wr => ∃ i : Nat, v17 = .int .i64 (i : Int) ∧ i ≤ 20 ∧ Hid (∃ pl : List Pk, pl.length = i ∧ SI W0 K b5 q L sp wr v1 v16 pl)) (fun _ _ v17 _ => 20 - (RowKit.intOf v17).toNat)
    case atStart => exact ⟨0, rfl, by omega, HI0.out⟩
    case round =>
      obtain ⟨i, rfl, hi, hI⟩ := hrel
      have r5 : wr.cell? ⟨b5, 5, none⟩ = some (.slice sp.pa sp.pn sp.pc) := by
        obtain ⟨pl, _, hS⟩ := hI.out
        exact (box6 hS.bx).2.2.2.2.2
      by_cases hlt : i < sp.pn ∧ i < 20
      · obtain ⟨h1, h2⟩ := hlt
        have j1 : (i : Int) < (sp.pn : Int) := by omega
        have j2 : (i : Int) < 20 := by omega
        have hIo := hI.out
        obtain ⟨pl, hpl, hS⟩ := hIo
        obtain ⟨gp, off, p, epa, _, hpi, hc⟩ := (HIN.out.1.row.below hS.st.bel).at i h1
        have c0 := hc 0 _ rfl
        have c1 := hc 1 _ rfl
        have c2 := hc 2 _ rfl
        simp only [Nat.add_zero] at c0
        have hpm := List.mem_of_getElem? hpi
        have hRp := ((HIN.out.1.bytes p hpm).1.below hS.st.bel)
        have hple := HIN.out.2 p hpm
        have HO : Hid (Calls Try.prog 31 #[.agg #[.int .i64 p.fr, .int .i64 p.tt, .slice p.a p.bs.length p.cap]] wr fun e w' => ∃ g cap, e = .returned (.agg #[.int .i64 ((pickZ p.fr 3 : Nat) : Int), .int .i64 ((pickZ p.tt 3 : Nat) : Int), .slice (some ⟨g, 0, none⟩) p.bs.length cap]) ∧ OneQ wr p.bs.length p.bs g cap w') := one_any p.fr p.tt hRp (by omega)
        have HPF : Hid ((0 ≤ ((pickZ p.fr 3 : Nat) : Int) ∧ ((pickZ p.fr 3 : Nat) : Int) < 3) ∧ (0 ≤ ((pickZ p.tt 3 : Nat) : Int) ∧ ((pickZ p.tt 3 : Nat) : Int) < 3)) := by have a1 := pickZ_lt p.fr 3 (by decide); have a2 := pickZ_lt p.tt 3 (by decide); exact ⟨by omega, by omega⟩
        obtain ⟨pf, hpf⟩ : ∃ pf : Int, ((pickZ p.fr 3 : Nat) : Int) = pf := ⟨_, rfl⟩
        obtain ⟨pt, hpt⟩ : ∃ pt : Int, ((pickZ p.tt 3 : Nat) : Int) = pt := ⟨_, rfl⟩
        rw [hpf, hpt] at HO HPF
        clear hpf hpt
        obtain ⟨bl, hbl⟩ : ∃ bl, p.bs.length = bl := ⟨_, rfl⟩
        have HBL : Hid (p.bs.length = bl ∧ p.bs.length ≤ 1048576) := ⟨hbl, hple⟩
        rw [hbl] at c2 HO
        rw [epa] at r5
        have HS : Hid (pl.length = i ∧ SI W0 K b5 q L sp wr u1 u16 pl) := ⟨hpl, hS⟩
        have ei : IntKind.i64.wrap ((i : Int) + 1) = (i : Int) + 1 := IntWalk.i64_in _ (by omega)
        clear hc hpi hpm hRp hple hS hpl hbl hI epa
        go_wp2_with fail
        refine HO.out.mono ?_
        rintro e w2 ⟨g, cap, rfl, hQ⟩
        have hQ' := hQ
        obtain ⟨hQ1, hQ2, hQ3, hQ4⟩ := hQ'
        obtain ⟨V, hV⟩ : ∃ V, w2.alloc (.cells #[.int .i64 pf, .int .i64 pt, .slice (some ⟨g, 0, none⟩) bl cap] 36) = V := ⟨_, rfl⟩
        have hVB : Below w2.heap.size w2 V := by rw [← hV]; exact (Below.refl _ _).alloc (Nat.le_refl _) _
        have hVs : V.heap.size = w2.heap.size + 1 := by rw [← hV]; exact World.size_alloc ..
        have hVx : V.heap[w2.heap.size]? = some (.cells #[.int .i64 pf, .int .i64 pt, .slice (some ⟨g, 0, none⟩) bl cap] 36) := by rw [← hV]; exact heap_alloc_new w2 _
        have hS2 := (HS.out.2.below hQ4)
        have hSV := hS2.below hVB
        have hMade : MadeP K V u1 u16 ⟨pf, pt, some ⟨g, 0, none⟩, cap, p.bs⟩ := by
          refine ⟨?_, HBL.out.2, fun ad e => ?_, HPF.out⟩
          · have := hQ1.below hVB
            rw [← HBL.out.1] at this
            exact this
          · cases e
            refine ⟨by show g < V.heap.size; omega, fun e => ?_, fun e => ?_, fun e => ?_⟩
            · have := (HS.out.2.st.new _ e).2; simp at this; omega
            · have := HS.out.2.l.lt e; simp at this; omega
            · have := HS.out.2.p.lt e; simp at this; omega
        obtain ⟨g5, c5, W5, hr5, hM5, hC5⟩ := hSV.appP _ hMade (by have := HS.out.1; omega)
        have hx5 : W5.heap[w2.heap.size]? = some (.cells #[.int .i64 pf, .int .i64 pt, .slice (some ⟨g, 0, none⟩) bl cap] 36) := hC5.block hVx (fun e => by have := hS2.p.lt e; omega)
        obtain ⟨y0, y1, y2⟩ := box3 hx5
        obtain ⟨x0, x1, x2⟩ := box3 hVx
        have hR5 := (hM5.2.2.2.2.2.1 _ (List.mem_append.2 (.inr (List.mem_singleton.2 rfl)))).rw_
        have hcv := conv_bytes hR5
        have hlp := HS.out.1
        obtain ⟨g7, c7, W7, hr7, hS7⟩ := SI.appL (by omega) HZ.out.2.1 hM5 HS.out.2.vk HS.out.2.nb
        simp only [HBL.out.1, hlp] at hr5 hr7 hcv hS7
        have HS7 : Hid (∃ pl : List Pk, pl.length = i + 1 ∧ SI W0 K b5 q L sp W7 (.slice (some ⟨g7, 0, none⟩) (L.length + i + 1) c7) (.slice (some ⟨g5, 0, none⟩) (i + 1) c5) pl) := ⟨_, by simp [hlp], hS7⟩
        obtain ⟨Y, hY⟩ : ∃ Y : ByteArray, ⟨p.bs.toArray⟩ = Y := ⟨_, rfl⟩
        rw [hY] at hcv hr7
        obtain ⟨n7, hn7⟩ : ∃ n7, L.length + i + 1 = n7 := ⟨_, rfl⟩
        rw [hn7] at hr7 HS7
        clear hQ hQ1 hQ2 hQ3 hQ4 hVB hVs hVx hS2 hSV hMade hM5 hC5 hx5 hR5 hS7 hY hlp hn7
        go_wp2_with (first | (refine wpList_append_hr rfl _ _ 41 rfl _ _ rfl rfl hr5 ?_) | (refine wpList_append_hr rfl _ _ 47 rfl _ _ rfl rfl hr7 ?_) | fail)
        exact ⟨⟨i + 1, by simp, by omega, HS7.out⟩, by simp [RowKit.intOf]; omega⟩
      · by_cases hlt2 : i < sp.pn
        · have j1 : (i : Int) < (sp.pn : Int) := by omega
          have j2 : ¬ (i : Int) < 20 := by omega
          have hIo := hI.out
          obtain ⟨pl, hpl, hS⟩ := hIo
          obtain ⟨a1, c1, e1⟩ := hS.l.shape
          obtain ⟨a6, c6, e6⟩ := hS.p.shape
          have hl1 : (L ++ pl.map Pk.sn).length = n + i := by simp [hLn, hpl]
          rw [hl1] at e1
          rw [hpl] at e6
          subst e1
          subst e6
          have HC : Hid (Calls Try.prog 13 #[.pointer (some ⟨q, 0, none⟩), .slice a6 i c6] wr fun e w' => e = .returned (.tuple #[.int .i64 (n : Int), .int .i64 0]) ∧ BagP W0 q L (.slice a1 (n + i) c1) w') := by
            have := hS.send hpl (by omega) HZ.out.2.1 HZ.out.2.2
            rw [hLn] at this
            exact this
          obtain ⟨n9, hn9⟩ : ∃ n9, n + i = n9 := ⟨_, rfl⟩
          rw [hn9] at HC
          have e9 : IntKind.i64.wrap ((n9 : Int) - (i : Int)) = (n : Int) := by rw [show (n9 : Int) - (i : Int) = (n : Int) by omega]; exact IntWalk.i64_in _ (by have := HZ.out.2.1; omega)
          have b9 : ((n : Int) == (n : Int)) = true := by simp
          rw [hn9]
          clear hS hpl hl1 hI hn9
          go_wp2_with fail
          refine HC.out.mono ?_
          rintro e w2 ⟨rfl, hp⟩
          have hp' : Hid (BagP W0 q L (.slice a1 n9 c1) w2) := hp
          clear hp
          go_wp2_with fail
          go_ret2
          exact ⟨_, rfl, hp'.out⟩
        · have j1 : ¬ (i : Int) < (sp.pn : Int) := by omega
          have hIo := hI.out
          obtain ⟨pl, hpl, hS⟩ := hIo
          obtain ⟨a1, c1, e1⟩ := hS.l.shape
          obtain ⟨a6, c6, e6⟩ := hS.p.shape
          have hl1 : (L ++ pl.map Pk.sn).length = n + i := by simp [hLn, hpl]
          rw [hl1] at e1
          rw [hpl] at e6
          subst e1
          subst e6
          have HC : Hid (Calls Try.prog 13 #[.pointer (some ⟨q, 0, none⟩), .slice a6 i c6] wr fun e w' => e = .returned (.tuple #[.int .i64 (n : Int), .int .i64 0]) ∧ BagP W0 q L (.slice a1 (n + i) c1) w') := by
            have := hS.send hpl (by omega) HZ.out.2.1 HZ.out.2.2
            rw [hLn] at this
            exact this
          obtain ⟨n9, hn9⟩ : ∃ n9, n + i = n9 := ⟨_, rfl⟩
          rw [hn9] at HC
          have e9 : IntKind.i64.wrap ((n9 : Int) - (i : Int)) = (n : Int) := by rw [show (n9 : Int) - (i : Int) = (n : Int) by omega]; exact IntWalk.i64_in _ (by have := HZ.out.2.1; omega)
          have b9 : ((n : Int) == (n : Int)) = true := by simp
          rw [hn9]
          clear hS hpl hl1 hI hn9
          go_wp2_with fail
          refine HC.out.mono ?_
          rintro e w2 ⟨rfl, hp⟩
          have hp' : Hid (BagP W0 q L (.slice a1 n9 c1) w2) := hp
          clear hp
          go_wp2_with fail
          go_ret2
          exact ⟨_, rfl, hp'.out⟩
  · have g1 : ¬ (kk : Int) < (n : Int) := by omega
    clear z hL hb r1 r3 r4 r5 k1 k2 k3 hbx hP hPb
    go_enter Try.func18, Try.ntmps18
    go_wp2_with fail
    refine (HPK.out _).mono ?_
    rintro e w' ⟨rfl, hw⟩
    obtain rfl := hw.symm
    clear hw
    go_wp2_with fail
    go_loopw [1, 16, 17] (fun v1 v16 v17 wr => ∃ i : Nat, v17 = .int .i64 (i : Int) ∧ i ≤ 20 ∧ Hid (∃ pl : List Pk, pl.length = i ∧ SI W0 K b5 q L sp wr v1 v16 pl)) (fun _ _ v17 _ => 20 - (RowKit.intOf v17).toNat)
    case atStart => exact ⟨0, rfl, by omega, HI0.out⟩
    case round =>
      obtain ⟨i, rfl, hi, hI⟩ := hrel
      have r5 : wr.cell? ⟨b5, 5, none⟩ = some (.slice sp.pa sp.pn sp.pc) := by
        obtain ⟨pl, _, hS⟩ := hI.out
        exact (box6 hS.bx).2.2.2.2.2
      by_cases hlt : i < sp.pn ∧ i < 20
      · obtain ⟨h1, h2⟩ := hlt
        have j1 : (i : Int) < (sp.pn : Int) := by omega
        have j2 : (i : Int) < 20 := by omega
        have hIo := hI.out
        obtain ⟨pl, hpl, hS⟩ := hIo
        obtain ⟨gp, off, p, epa, _, hpi, hc⟩ := (HIN.out.1.row.below hS.st.bel).at i h1
        have c0 := hc 0 _ rfl
        have c1 := hc 1 _ rfl
        have c2 := hc 2 _ rfl
        simp only [Nat.add_zero] at c0
        have hpm := List.mem_of_getElem? hpi
        have hRp := ((HIN.out.1.bytes p hpm).1.below hS.st.bel)
        have hple := HIN.out.2 p hpm
        have HO : Hid (Calls Try.prog 31 #[.agg #[.int .i64 p.fr, .int .i64 p.tt, .slice p.a p.bs.length p.cap]] wr fun e w' => ∃ g cap, e = .returned (.agg #[.int .i64 ((pickZ p.fr 3 : Nat) : Int), .int .i64 ((pickZ p.tt 3 : Nat) : Int), .slice (some ⟨g, 0, none⟩) p.bs.length cap]) ∧ OneQ wr p.bs.length p.bs g cap w') := one_any p.fr p.tt hRp (by omega)
        have HPF : Hid ((0 ≤ ((pickZ p.fr 3 : Nat) : Int) ∧ ((pickZ p.fr 3 : Nat) : Int) < 3) ∧ (0 ≤ ((pickZ p.tt 3 : Nat) : Int) ∧ ((pickZ p.tt 3 : Nat) : Int) < 3)) := by have a1 := pickZ_lt p.fr 3 (by decide); have a2 := pickZ_lt p.tt 3 (by decide); exact ⟨by omega, by omega⟩
        obtain ⟨pf, hpf⟩ : ∃ pf : Int, ((pickZ p.fr 3 : Nat) : Int) = pf := ⟨_, rfl⟩
        obtain ⟨pt, hpt⟩ : ∃ pt : Int, ((pickZ p.tt 3 : Nat) : Int) = pt := ⟨_, rfl⟩
        rw [hpf, hpt] at HO HPF
        clear hpf hpt
        obtain ⟨bl, hbl⟩ : ∃ bl, p.bs.length = bl := ⟨_, rfl⟩
        have HBL : Hid (p.bs.length = bl ∧ p.bs.length ≤ 1048576) := ⟨hbl, hple⟩
        rw [hbl] at c2 HO
        rw [epa] at r5
        have HS : Hid (pl.length = i ∧ SI W0 K b5 q L sp wr u1 u16 pl) := ⟨hpl, hS⟩
        have ei : IntKind.i64.wrap ((i : Int) + 1) = (i : Int) + 1 := IntWalk.i64_in _ (by omega)
        clear hc hpi hpm hRp hple hS hpl hbl hI epa
        go_wp2_with fail
        refine HO.out.mono ?_
        rintro e w2 ⟨g, cap, rfl, hQ⟩
        have hQ' := hQ
        obtain ⟨hQ1, hQ2, hQ3, hQ4⟩ := hQ'
        obtain ⟨V, hV⟩ : ∃ V, w2.alloc (.cells #[.int .i64 pf, .int .i64 pt, .slice (some ⟨g, 0, none⟩) bl cap] 36) = V := ⟨_, rfl⟩
        have hVB : Below w2.heap.size w2 V := by rw [← hV]; exact (Below.refl _ _).alloc (Nat.le_refl _) _
        have hVs : V.heap.size = w2.heap.size + 1 := by rw [← hV]; exact World.size_alloc ..
        have hVx : V.heap[w2.heap.size]? = some (.cells #[.int .i64 pf, .int .i64 pt, .slice (some ⟨g, 0, none⟩) bl cap] 36) := by rw [← hV]; exact heap_alloc_new w2 _
        have hS2 := (HS.out.2.below hQ4)
        have hSV := hS2.below hVB
        have hMade : MadeP K V u1 u16 ⟨pf, pt, some ⟨g, 0, none⟩, cap, p.bs⟩ := by
          refine ⟨?_, HBL.out.2, fun ad e => ?_, HPF.out⟩
          · have := hQ1.below hVB
            rw [← HBL.out.1] at this
            exact this
          · cases e
            refine ⟨by show g < V.heap.size; omega, fun e => ?_, fun e => ?_, fun e => ?_⟩
            · have := (HS.out.2.st.new _ e).2; simp at this; omega
            · have := HS.out.2.l.lt e; simp at this; omega
            · have := HS.out.2.p.lt e; simp at this; omega
        obtain ⟨g5, c5, W5, hr5, hM5, hC5⟩ := hSV.appP _ hMade (by have := HS.out.1; omega)
        have hx5 : W5.heap[w2.heap.size]? = some (.cells #[.int .i64 pf, .int .i64 pt, .slice (some ⟨g, 0, none⟩) bl cap] 36) := hC5.block hVx (fun e => by have := hS2.p.lt e; omega)
        obtain ⟨y0, y1, y2⟩ := box3 hx5
        obtain ⟨x0, x1, x2⟩ := box3 hVx
        have hR5 := (hM5.2.2.2.2.2.1 _ (List.mem_append.2 (.inr (List.mem_singleton.2 rfl)))).rw_
        have hcv := conv_bytes hR5
        have hlp := HS.out.1
        obtain ⟨g7, c7, W7, hr7, hS7⟩ := SI.appL (by omega) HZ.out.2.1 hM5 HS.out.2.vk HS.out.2.nb
        simp only [HBL.out.1, hlp] at hr5 hr7 hcv hS7
        have HS7 : Hid (∃ pl : List Pk, pl.length = i + 1 ∧ SI W0 K b5 q L sp W7 (.slice (some ⟨g7, 0, none⟩) (L.length + i + 1) c7) (.slice (some ⟨g5, 0, none⟩) (i + 1) c5) pl) := ⟨_, by simp [hlp], hS7⟩
        obtain ⟨Y, hY⟩ : ∃ Y : ByteArray, ⟨p.bs.toArray⟩ = Y := ⟨_, rfl⟩
        rw [hY] at hcv hr7
        obtain ⟨n7, hn7⟩ : ∃ n7, L.length + i + 1 = n7 := ⟨_, rfl⟩
        rw [hn7] at hr7 HS7
        clear hQ hQ1 hQ2 hQ3 hQ4 hVB hVs hVx hS2 hSV hMade hM5 hC5 hx5 hR5 hS7 hY hlp hn7
        go_wp2_with (first | (refine wpList_append_hr rfl _ _ 41 rfl _ _ rfl rfl hr5 ?_) | (refine wpList_append_hr rfl _ _ 47 rfl _ _ rfl rfl hr7 ?_) | fail)
        exact ⟨⟨i + 1, by simp, by omega, HS7.out⟩, by simp [RowKit.intOf]; omega⟩
      · by_cases hlt2 : i < sp.pn
        · have j1 : (i : Int) < (sp.pn : Int) := by omega
          have j2 : ¬ (i : Int) < 20 := by omega
          have hIo := hI.out
          obtain ⟨pl, hpl, hS⟩ := hIo
          obtain ⟨a1, c1, e1⟩ := hS.l.shape
          obtain ⟨a6, c6, e6⟩ := hS.p.shape
          have hl1 : (L ++ pl.map Pk.sn).length = n + i := by simp [hLn, hpl]
          rw [hl1] at e1
          rw [hpl] at e6
          subst e1
          subst e6
          have HC : Hid (Calls Try.prog 13 #[.pointer (some ⟨q, 0, none⟩), .slice a6 i c6] wr fun e w' => e = .returned (.tuple #[.int .i64 (n : Int), .int .i64 0]) ∧ BagP W0 q L (.slice a1 (n + i) c1) w') := by
            have := hS.send hpl (by omega) HZ.out.2.1 HZ.out.2.2
            rw [hLn] at this
            exact this
          obtain ⟨n9, hn9⟩ : ∃ n9, n + i = n9 := ⟨_, rfl⟩
          rw [hn9] at HC
          have e9 : IntKind.i64.wrap ((n9 : Int) - (i : Int)) = (n : Int) := by rw [show (n9 : Int) - (i : Int) = (n : Int) by omega]; exact IntWalk.i64_in _ (by have := HZ.out.2.1; omega)
          have b9 : ((n : Int) == (n : Int)) = true := by simp
          rw [hn9]
          clear hS hpl hl1 hI hn9
          go_wp2_with fail
          refine HC.out.mono ?_
          rintro e w2 ⟨rfl, hp⟩
          have hp' : Hid (BagP W0 q L (.slice a1 n9 c1) w2) := hp
          clear hp
          go_wp2_with fail
          go_ret2
          exact ⟨_, rfl, hp'.out⟩
        · have j1 : ¬ (i : Int) < (sp.pn : Int) := by omega
          have hIo := hI.out
          obtain ⟨pl, hpl, hS⟩ := hIo
          obtain ⟨a1, c1, e1⟩ := hS.l.shape
          obtain ⟨a6, c6, e6⟩ := hS.p.shape
          have hl1 : (L ++ pl.map Pk.sn).length = n + i := by simp [hLn, hpl]
          rw [hl1] at e1
          rw [hpl] at e6
          subst e1
          subst e6
          have HC : Hid (Calls Try.prog 13 #[.pointer (some ⟨q, 0, none⟩), .slice a6 i c6] wr fun e w' => e = .returned (.tuple #[.int .i64 (n : Int), .int .i64 0]) ∧ BagP W0 q L (.slice a1 (n + i) c1) w') := by
            have := hS.send hpl (by omega) HZ.out.2.1 HZ.out.2.2
            rw [hLn] at this
            exact this
          obtain ⟨n9, hn9⟩ : ∃ n9, n + i = n9 := ⟨_, rfl⟩
          rw [hn9] at HC
          have e9 : IntKind.i64.wrap ((n9 : Int) - (i : Int)) = (n : Int) := by rw [show (n9 : Int) - (i : Int) = (n : Int) by omega]; exact IntWalk.i64_in _ (by have := HZ.out.2.1; omega)
          have b9 : ((n : Int) == (n : Int)) = true := by simp
          rw [hn9]
          clear hS hpl hl1 hI hn9
          go_wp2_with fail
          refine HC.out.mono ?_
          rintro e w2 ⟨rfl, hp⟩
          have hp' : Hid (BagP W0 q L (.slice a1 n9 c1) w2) := hp
          clear hp
          go_wp2_with fail
          go_ret2
          exact ⟨_, rfl, hp'.out⟩
end Go.Proofs.Ytdmhajlhpieedaa
