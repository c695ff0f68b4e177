import Derived.Test.YtaclgiakinoocaaDiI
import Derived.Test.YtaclgiakinoocaaDcG
/-! left. -/
namespace Go.Proofs.Ytaclgiakinoocaa
open Go.RowKit Go.Lib
set_option maxRecDepth 100000

/-- Where the first loop of left stands. -/
structure LfI (w wr : World) (i : Nat) (v : Value) (fs : List Fl) (zs : List Pg) : Prop where
  own : OwnF pgV 3 95 wr w.heap.size v zs
  each : ∀ z ∈ zs, OwnF byU 1 5 wr w.heap.size z.sl z.bs
  below : Below w.heap.size w wr
  st : zs.map Pg.fl = fs.take i
def LeftP (w w' : World) (k B : Nat) (v : Value) (ps : List Pg) (fs : List Fl) : Prop := ∃ ps', ps'.map Pg.fl = fs ∧ BNx w w' k B v ps ps'
theorem pbox (W : World) (x : Pg) : ∃ V5 V6, W.alloc (.cells #[.string ⟨#[]⟩, .slice none 0 0, .int .i64 0] 95) = V5 ∧ ((V5.setCell ⟨W.heap.size, 0, none⟩ (.string ⟨x.nm.toArray⟩)).setCell ⟨W.heap.size, 1, none⟩ (.slice x.a x.bs.length x.cap)).setCell ⟨W.heap.size, 2, none⟩ (.int .i64 (x.syn : Int)) = V6 ∧ Below W.heap.size W V6 ∧ V6.heap[W.heap.size]? = some (.cells #[.string ⟨x.nm.toArray⟩, .slice x.a x.bs.length x.cap, .int .i64 (x.syn : Int)] 95) ∧ V5.heap[W.heap.size]? = some (.cells #[.string ⟨#[]⟩, .slice none 0 0, .int .i64 0] 95) := by
  have hh := (MapKept.heap_alloc W (.cells #[.string ⟨#[]⟩, .slice none 0 0, .int .i64 0] 95)).1
  have hb : Below W.heap.size W (W.alloc (.cells #[.string ⟨#[]⟩, .slice none 0 0, .int .i64 0] 95)) := (Below.refl _ _).alloc (Nat.le_refl _) _
  refine ⟨_, _, rfl, rfl, ((hb.setCell (Nat.le_refl _) _).setCell (Nat.le_refl _) _).setCell (Nat.le_refl _) _, ?_, hh⟩
  rw [heap_setCell_cells (heap_setCell_cells (heap_setCell_cells hh 0 _) 1 _) 2 _]
  rfl
set_option pp.deepTerms true
set_option pp.maxSteps 1000000
variable {w : World} {k B : Nat} {v : Value} {ps : List Pg}
set_option maxHeartbeats 4000000 in
theorem left_any (h : BkAt w k B v ps) (hB : B ≤ w.heap.size) {fa : Option Addr} {n fc : Nat} {fs : List Fl} (hF : FilesR w fa n fc fs) {kp : Nat} (hkp : kp ≤ 9223372036854775807) (hp : fs.Perm (leftF kp (ps.map Pg.fl))) (hnd : (ps.map (·.nm)).Nodup) (hr : RiseF fs) (hn : ps.length ≤ 4398046511104) (hsy : ∀ x ∈ ps, x.syn ≤ x.bs.length ∧ x.bs.length ≤ 1099511627776) :
    Calls Try.prog 26 #[.pointer (some ⟨k, 0, none⟩), .slice fa n fc, .int .i64 (kp : Int)] w fun e w' => e = .returned (.bool true) ∧ LeftP w w' k B v ps fs := by
  obtain ⟨vs, r1, l1, f1⟩ := hF.row
  have e1 := r1.len
  have hpl := hp.length_eq
  have hll := left_length (ps := ps) (kp := kp)
  obtain ⟨aa, cc, hv, hrow⟩ := own_shapeP h.own
  have hfn : (fs.map (·.nm)).Nodup := (hp.map (·.nm)).nodup_iff.2 (left_nodup hnd)
  have HH : Hid (Rw fvV 3 w fa n fc vs ∧ vs.length = fs.length ∧ (∀ (i : Nat) v f, vs[i]? = some v → fs[i]? = some f → FlOk w v f) ∧ ps.length ≤ 4398046511104 ∧ fs.length = n) := ⟨r1, l1, f1, hn, by omega⟩
  have HR : Hid (RiseF fs ∧ fs.Perm (leftF kp (ps.map Pg.fl)) ∧ (fs.map (·.nm)).Nodup ∧ (ps.map (·.nm)).Nodup ∧ ∀ x ∈ ps, x.syn ≤ x.bs.length ∧ x.bs.length ≤ 1099511627776) := ⟨hr, hp, hfn, hnd, hsy⟩
  have HX : Hid (BkAt w k B v ps ∧ v = .slice aa ps.length cc ∧ Rw pgV 3 w aa ps.length cc ps ∧ B ≤ w.heap.size ∧ kp ≤ 9223372036854775807) := ⟨h, hv, hrow, hB, hkp⟩
  obtain ⟨pn, hpn⟩ : ∃ pn, ps.length = pn := ⟨_, rfl⟩
  have HN : Hid (ps.length = pn) := hpn
  have hnc : (n : Int) ≤ 4398046511104 := by omega
  have hpc : (pn : Int) ≤ 4398046511104 := by omega
  clear h hF hp hnd hr hn r1 l1 f1 e1 hpl hll hv hrow hfn hpn hB hsy hkp
  go_enter Try.func26, Try.ntmps26
  go_wp2_with fail
  go_loopw [7, 8] (fun vo vi wr => ∃ i : Nat, i ≤ n ∧ vi = .int .i64 (i : Int) ∧ ∃ zs : List Pg, Hid (LfI w wr i vo fs zs)) (fun _ vi _ => n - (RowKit.intOf vi).toNat)
  case atStart => exact ⟨0, Nat.zero_le _, rfl, [], ownF_nil _ _, fun z hz => (by simp at hz), Below.refl _ _, by simp⟩
  case round =>
    obtain ⟨i, hi, rfl, zs, hS⟩ := hrel
    obtain ⟨wo, hwo⟩ : ∃ wo, wo = wr := ⟨_, rfl⟩
    subst hwo
    obtain ⟨vo, hvo⟩ : ∃ vo, vo = u7 := ⟨_, rfl⟩
    subst hvo
    by_cases hlt : i < n
    · have hlt2 : (i : Int) < (n : Int) := by omega
      have gi : IntKind.i64.wrap ((i : Int) + 1) = ((i + 1 : Nat) : Int) := by rw [IntWalk.i64_in _ (by omega)]; omega
      have hb2 := hS.out.below
      have hr2 := HH.out.1.below hb2
      obtain ⟨g1, o1, v1, ha1, hg1, hv1, hc1⟩ := hr2.at i hlt
      have hg0 : g1 < w.heap.size := by
        obtain ⟨g1', o1', v1', ha1', hg1', _⟩ := HH.out.1.at i hlt
        rw [ha1] at ha1'
        simp only [Option.some.injEq, Addr.mk.injEq, and_true] at ha1'
        omega
      subst ha1
      obtain ⟨f, hf⟩ : ∃ f, fs[i]? = some f := ⟨_, List.getElem?_eq_getElem (by have := HH.out.2.1; have := HH.out.2.2.2.2; omega)⟩
      have k1 := HH.out.2.2.1 i v1 f hv1 hf
      have p0 := hc1 0 _ rfl
      have p1 := hc1 1 _ rfl
      have p2 := hc1 2 _ rfl
      obtain ⟨l, x, t, hps, hfx, hxn, hfne, hl⟩ := left_mid (HR.out.2.1.mem_iff.1 (List.mem_of_getElem? hf)) HR.out.2.2.2.1
      have hxm : x ∈ ps := by rw [hps]; simp
      obtain ⟨hxs, hxb⟩ := HR.out.2.2.2.2 x hxm
      have hlo := lose_len (kp := kp) hxs
      rw [← hfx] at hlo
      obtain ⟨hl1, hl2, hl3⟩ := hlo
      rw [Nat.add_zero, k1.nm] at p0
      have hkn : f.bs.length = v1.n := k1.n.symm
      rw [k1.syn, hl2, ← hl1, hkn] at p2
      have hpos : 0 < v1.n := by rw [← hkn]; exact List.length_pos_iff.2 hfne
      have hlost : v1.n = x.syn + min (x.bs.length - x.syn) kp := by rw [← hkn, hl1]; rfl
      have hB2 := HX.out.1.below hb2
      have hBm := hB2
      rw [hps] at hBm
      obtain ⟨g, c', cur, hv', hcur, _⟩ := hBm.at_
      have q0 := hBm.cell hv' 0 rfl
      have q1 := hBm.cell hv' 1 rfl
      have q2 := hBm.cell hv' 2 rfl
      rw [Nat.add_zero] at q0
      rw [hxn] at q0
      have d2 := box1 hBm.box
      rw [hv', ← hps, HN.out] at d2
      obtain ⟨m, hm⟩ : ∃ m, l.length = m := ⟨_, rfl⟩
      rw [hm] at q0 q1 q2
      have gm : (m : Int) < (pn : Int) := by rw [← HN.out, hps, ← hm]; simp; omega
      have gm2 : ¬ ((m : Int) < 0) := by omega
      have HPG : Hid (Calls Try.prog 50 #[.pointer (some ⟨k, 0, none⟩), .string ⟨f.nm.toArray⟩] wo fun e w' => e = .returned (.int .i64 (m : Int)) ∧ w' = wo) := by
        have := page_any hB2 HH.out.2.2.2.1 f.nm
        rw [hps, pgI_hit hxn hl, hm] at this
        exact this
      have hxrw := (hBm.each x (by simp)).rw_ layU
      have HSM : Hid (∀ V, Below wo.heap.size wo V → Calls Try.prog 49 #[.slice v1.a v1.n v1.cap, .slice x.a v1.n x.cap] V fun e w' => e = .returned (.bool true) ∧ w' = V) := fun V hV => same_eq ((k1.row.below hb2).below hV) (by
        have h9 := (hxrw.take v1.n (by omega)).below hV
        have h8 : f.bs = x.bs.take v1.n := by rw [← hkn, hl1, hfx]; rfl
        rw [h8]
        exact h9)
      have HRF : Hid (∀ V, Below wo.heap.size wo V → Rw byU 1 V v1.a v1.n v1.cap f.bs) := fun V hV => (k1.row.below hb2).below hV
      have hroom := hxrw.room
      have hcut : ∀ W, (Instr.slice 22 (.slice x.a x.bs.length x.cap) none (some (.int .i64 (v1.n : Int))) none).run Try.prog W = .ok (.slice x.a v1.n x.cap) W := fun W => cutU W x.a _ x.cap v1.n (by omega)
      have HFI : Hid (fs[i]? = some f ∧ f = ⟨f.nm, f.bs, v1.n⟩) := ⟨hf, by rw [← hkn, hl1, ← hl2]⟩
      have t1 : ((v1.n : Int) == 0) = false := by simp; omega
      have t2 : ¬ ((v1.n : Int) < (x.syn : Int)) := by omega
      have t3 : ¬ ((x.bs.length : Int) < (v1.n : Int)) := by omega
      have t2n : decide (v1.n < x.syn) = false := by simp; omega
      have t3n : decide (x.bs.length < v1.n) = false := by simp; omega
      have t4 : ((v1.n : Int) != (v1.n : Int)) = false := bne_self_eq_false _
      have t5 : IntKind.i64.wrap ((v1.n : Int) - (x.syn : Int)) = ((v1.n - x.syn : Nat) : Int) := by rw [IntWalk.i64_in _ (by omega)]; omega
      have t6 : IntKind.i64.wrap ((x.bs.length : Int) - (x.syn : Int)) = ((x.bs.length - x.syn : Nat) : Int) := by rw [IntWalk.i64_in _ (by omega)]; omega
      have t7 : (((v1.n - x.syn : Nat) : Int) != ((v1.n - x.syn : Nat) : Int)) = false := bne_self_eq_false _
      have HMN : ∀ ats ty W, (Builtin.min_ ats ty #[.int .i64 (kp : Int), .int .i64 ((x.bs.length - x.syn : Nat) : Int)]).run Try.prog W = .ok (.int .i64 ((v1.n - x.syn : Nat) : Int)) W := fun ats ty W => by
        rw [min_run]; congr 2; omega
      have HM1 : Hid (f.bs.length = v1.n ∧ g1 < wo.heap.size ∧ g1 < w.heap.size ∧ v1.n ≤ 140737488351232) := ⟨hkn, hg1, hg0, by omega⟩
      have HZL : Hid (zs.length + 1 ≤ 4398046511104) := by
        have h1 := congrArg List.length hS.out.st
        rw [List.length_map, List.length_take] at h1
        have h2 := HR.out.2.1.length_eq
        have h3 := left_length (ps := ps) (kp := kp)
        have h4 := HH.out.2.2.2
        show _ ≤ _
        omega
      obtain ⟨V0, hV0⟩ : ∃ V0, wo.drew = V0 := ⟨_, rfl⟩
      have hs0 : V0.heap.size = wo.heap.size := by rw [← hV0]; rfl
      have hbV : Below wo.heap.size wo V0 := by rw [← hV0]; exact (Below.refl _ _).drew
      have hgw := (Array.getElem?_eq_some_iff.1 hcur).1
      have d3 := (hbV.cell (p := ⟨k, 0, none⟩) (hB2.lt (.inl rfl)).1).trans d2
      have r0 := (hbV.cell (p := ⟨g, m * 3, none⟩) hgw).trans q0
      have r1 := (hbV.cell (p := ⟨g, m * 3 + 1, none⟩) hgw).trans q1
      have r2 := (hbV.cell (p := ⟨g, m * 3 + 2, none⟩) hgw).trans q2
      obtain ⟨V5, V6, hV5, hV6, hb6, hh6, hh5⟩ := pbox V0 x
      rw [hs0] at hV6 hb6 hh6 hh5
      replace hb6 := hbV.trans hb6
      have hlt6 := (Array.getElem?_eq_some_iff.1 hh6).1
      obtain ⟨y0, y1, y2⟩ := box3 hh5
      have e0 := Lib.frozen_of_heap hh5 0
      have e1 := Lib.frozen_of_heap hh5 1
      have e2 := Lib.frozen_of_heap hh5 2
      rw [hxn] at hh6 hV6
      obtain ⟨z0, z1, z2⟩ := box3 hh6
      clear hb2 k1 hps hfx hxn hfne hl hxm hxb hl1 hl2 hl3 hkn hlost hB2 hBm hcur hv' hm hxrw hroom hbV hgw hh5 hh6 hpos hxs
      generalize v1.a = b1 at *
      generalize v1.n = m1 at *
      generalize v1.cap = d1 at *
      generalize x.a = xa at *
      generalize x.bs.length = xl at *
      generalize x.cap = xc at *
      generalize x.syn = xs at *
      by_cases hz : i = 0
      · skip
        have gzd : decide (0 < i) = false := by simp; omega
        have gz : ¬ ((0 : Int) < (i : Int)) := by omega
        clear hz
        clear hv1 hc1 hr2
        generalize hsg : (⟨f.nm.toArray⟩ : ByteArray) = s at *
        have HSG : Hid ((⟨f.nm.toArray⟩ : ByteArray) = s) := hsg
        clear hsg
        have HS7 : Hid (((fun W => W.cell? ⟨g1, o1 + i * 3, none⟩ = some (.string s))) wo) := p0
        have HS10 : Hid (((fun W => W.cell? ⟨g1, o1 + i * 3 + 1, none⟩ = some (.slice b1 m1 d1) ∧ W.cell? ⟨g1, o1 + i * 3 + 2, none⟩ = some (.int .i64 (m1 : Int)) ∧ W.cell? ⟨wo.heap.size, 1, none⟩ = some (.slice xa xl xc) ∧ W.cell? ⟨wo.heap.size, 2, none⟩ = some (.int .i64 (xs : Int)))) V6) := ⟨(hb6.cell (p := ⟨g1, o1 + i * 3 + 1, none⟩) hg1).trans p1, (hb6.cell (p := ⟨g1, o1 + i * 3 + 2, none⟩) hg1).trans p2, z1, z2⟩
        have HS14 : Hid (((fun W => W.cell? ⟨g1, o1 + i * 3 + 1, none⟩ = some (.slice b1 m1 d1) ∧ W.cell? ⟨wo.heap.size, 0, none⟩ = some (.string s))) V6) := ⟨(hb6.cell (p := ⟨g1, o1 + i * 3 + 1, none⟩) hg1).trans p1, z0⟩
        have p61 := HS10.out.1
        have H6 : Hid (Below wo.heap.size wo V6 ∧ wo.heap.size < V6.heap.size) := ⟨hb6, hlt6⟩
        clear hb6 hlt6 hg1
        go_wp2_with fail
        refine HPG.out.mono ?_
        rintro e wz ⟨rfl, hz⟩
        rw [hz]
        clear hz wz
        go_wp2_with fail
        refine wp_region_held_drew (S := (fun W => W.cell? ⟨g1, o1 + i * 3, none⟩ = some (.string s))) (by kernel_rfl) ?hS125 (fun hHeld => ?rest125)
        case hS125 => exact HS7.out
        refine takeD (i := 0) (d := some 30) (v := ?vT126) rfl rfl (by kernel_rfl) (by kernel_rfl) (by kernel_rfl) (fun _ _ _ h => h) (Or.inl ⟨by rfl, ?hyT126⟩) (by assumption) ?rstT126
        case hyT126 => (intro w hSw; (try dsimp only at hSw); go_simp; (try with_reducible rfl))
        try simp only [Act.put, List.setIfInBounds_toArray, List.set_cons_zero, List.set_cons_succ]
        refine takeD (i := 1) (d := some 31) (v := ?vT127) rfl rfl (by kernel_rfl) (by kernel_rfl) (by kernel_rfl) (fun _ _ _ h => h) (Or.inl ⟨by rfl, ?hyT127⟩) (by assumption) ?rstT127
        case hyT127 => (intro w hSw; (try dsimp only at hSw); go_simp; (try with_reducible rfl))
        try simp only [Act.put, List.setIfInBounds_toArray, List.set_cons_zero, List.set_cons_succ]
        refine takeD (i := 2) (d := some 32) (v := ?vT128) rfl rfl (by kernel_rfl) (by kernel_rfl) (by kernel_rfl) (fun _ _ _ h => h) (Or.inl ⟨by rfl, ?hyT128⟩) (by assumption) ?rstT128
        case hyT128 => (intro w hSw; (try dsimp only at hSw); go_simp; (try with_reducible rfl))
        try simp only [Act.put, List.setIfInBounds_toArray, List.set_cons_zero, List.set_cons_succ]
        refine takeD (i := 3) (d := some 33) (v := ?vT129) rfl rfl (by kernel_rfl) (by kernel_rfl) (by kernel_rfl) (fun _ _ _ h => h) (Or.inl ⟨by rfl, ?hyT129⟩) (by assumption) ?rstT129
        case hyT129 => (intro w hSw; (try dsimp only at hSw); go_simp; (try with_reducible rfl))
        try simp only [Act.put, List.setIfInBounds_toArray, List.set_cons_zero, List.set_cons_succ]
        refine takeD (i := 4) (d := some 34) (v := ?vT130) rfl rfl (by kernel_rfl) (by kernel_rfl) (by kernel_rfl) (fun _ _ _ h => h) (Or.inl ⟨by rfl, ?hyT130⟩) (by assumption) ?rstT130
        case hyT130 => (intro w hSw; (try dsimp only at hSw); go_simp; (try with_reducible rfl))
        try simp only [Act.put, List.setIfInBounds_toArray, List.set_cons_zero, List.set_cons_succ]
        refine takeD (i := 5) (d := some 35) (v := ?vT131) rfl rfl (by kernel_rfl) (by kernel_rfl) (by kernel_rfl) (fun _ _ _ h => h) (Or.inl ⟨by rfl, ?hyT131⟩) (by assumption) ?rstT131
        case hyT131 => (intro w hSw; (try dsimp only at hSw); go_simp; (try with_reducible rfl))
        try simp only [Act.put, List.setIfInBounds_toArray, List.set_cons_zero, List.set_cons_succ]
        refine takeD (i := 6) (d := some 36) (v := undef) rfl rfl (by kernel_rfl) (by kernel_rfl) (by kernel_rfl) (fun _ _ _ h => h) (Or.inr ⟨by rfl, rfl⟩) (by assumption) ?_
        try simp only [Act.put, List.setIfInBounds_toArray, List.set_cons_zero, List.set_cons_succ]
        refine takeD (i := 7) (d := some 37) (v := undef) rfl rfl (by kernel_rfl) (by kernel_rfl) (by kernel_rfl) (fun _ _ _ h => h) (Or.inr ⟨by rfl, rfl⟩) (by assumption) ?_
        try simp only [Act.put, List.setIfInBounds_toArray, List.set_cons_zero, List.set_cons_succ]
        refine takeD (i := 8) (d := some 38) (v := undef) rfl rfl (by kernel_rfl) (by kernel_rfl) (by kernel_rfl) (fun _ _ _ h => h) (Or.inr ⟨by rfl, rfl⟩) (by assumption) ?_
        try simp only [Act.put, List.setIfInBounds_toArray, List.set_cons_zero, List.set_cons_succ]
        refine takeD (i := 9) (d := some 39) (v := undef) rfl rfl (by kernel_rfl) (by kernel_rfl) (by kernel_rfl) (fun _ _ _ h => h) (Or.inr ⟨by rfl, rfl⟩) (by assumption) ?_
        try simp only [Act.put, List.setIfInBounds_toArray, List.set_cons_zero, List.set_cons_succ]
        refine takeD (i := 10) (d := some 40) (v := undef) rfl rfl (by kernel_rfl) (by kernel_rfl) (by kernel_rfl) (fun _ _ _ h => h) (Or.inr ⟨by rfl, rfl⟩) (by assumption) ?_
        try simp only [Act.put, List.setIfInBounds_toArray, List.set_cons_zero, List.set_cons_succ]
        refine takeD (i := 11) (d := some 41) (v := undef) rfl rfl (by kernel_rfl) (by kernel_rfl) (by kernel_rfl) (fun _ _ _ h => h) (Or.inr ⟨by rfl, rfl⟩) (by assumption) ?_
        try simp only [Act.put, List.setIfInBounds_toArray, List.set_cons_zero, List.set_cons_succ]
        refine takeD (i := 12) (d := some 42) (v := undef) rfl rfl (by kernel_rfl) (by kernel_rfl) (by kernel_rfl) (fun _ _ _ h => h) (Or.inr ⟨by rfl, rfl⟩) (by assumption) ?_
        try simp only [Act.put, List.setIfInBounds_toArray, List.set_cons_zero, List.set_cons_succ]
        refine takeD (i := 13) (d := some 43) (v := undef) rfl rfl (by kernel_rfl) (by kernel_rfl) (by kernel_rfl) (fun _ _ _ h => h) (Or.inr ⟨by rfl, rfl⟩) (by assumption) ?_
        try simp only [Act.put, List.setIfInBounds_toArray, List.set_cons_zero, List.set_cons_succ]
        refine takeD (i := 14) (d := some 44) (v := undef) rfl rfl (by kernel_rfl) (by kernel_rfl) (by kernel_rfl) (fun _ _ _ h => h) (Or.inr ⟨by rfl, rfl⟩) (by assumption) ?_
        try simp only [Act.put, List.setIfInBounds_toArray, List.set_cons_zero, List.set_cons_succ]
        refine takeD (i := 15) (d := some 45) (v := undef) rfl rfl (by kernel_rfl) (by kernel_rfl) (by kernel_rfl) (fun _ _ _ h => h) (Or.inr ⟨by rfl, rfl⟩) (by assumption) ?_
        try simp only [Act.put, List.setIfInBounds_toArray, List.set_cons_zero, List.set_cons_succ]
        refine takeD (i := 16) (d := some 46) (v := undef) rfl rfl (by kernel_rfl) (by kernel_rfl) (by kernel_rfl) (fun _ _ _ h => h) (Or.inr ⟨by rfl, rfl⟩) (by assumption) ?_
        try simp only [Act.put, List.setIfInBounds_toArray, List.set_cons_zero, List.set_cons_succ]
        refine takeD (i := 17) (d := some 47) (v := undef) rfl rfl (by kernel_rfl) (by kernel_rfl) (by kernel_rfl) (fun _ _ _ h => h) (Or.inr ⟨by rfl, rfl⟩) (by assumption) ?_
        try simp only [Act.put, List.setIfInBounds_toArray, List.set_cons_zero, List.set_cons_succ]
        refine takeD (i := 18) (d := some 48) (v := ?vT132) rfl rfl (by kernel_rfl) (by kernel_rfl) (by kernel_rfl) (fun _ _ _ h => h) (Or.inl ⟨by rfl, ?hyT132⟩) (by assumption) ?rstT132
        case hyT132 => (intro w hSw; (try dsimp only at hSw); go_simp; (try with_reducible rfl))
        try simp only [Act.put, List.setIfInBounds_toArray, List.set_cons_zero, List.set_cons_succ]
        refine takeD (i := 19) (d := some 49) (v := ?vT133) rfl rfl (by kernel_rfl) (by kernel_rfl) (by kernel_rfl) (fun _ _ _ h => h) (Or.inl ⟨by rfl, ?hyT133⟩) (by assumption) ?rstT133
        case hyT133 => (intro w hSw; (try dsimp only at hSw); go_simp; (try with_reducible rfl))
        try simp only [Act.put, List.setIfInBounds_toArray, List.set_cons_zero, List.set_cons_succ]
        refine wpAnyH_done (by kernel_rfl) ?_ _
        rw [hV0]
        go_wp2_with fail
        refine wp_region_held_drew (S := (fun W => W.cell? ⟨g1, o1 + i * 3 + 1, none⟩ = some (.slice b1 m1 d1) ∧ W.cell? ⟨g1, o1 + i * 3 + 2, none⟩ = some (.int .i64 (m1 : Int)) ∧ W.cell? ⟨wo.heap.size, 1, none⟩ = some (.slice xa xl xc) ∧ W.cell? ⟨wo.heap.size, 2, none⟩ = some (.int .i64 (xs : Int)))) (by kernel_rfl) ?hS134 (fun hHeld => ?rest134)
        case hS134 => exact HS10.out
        refine takeD (i := 0) (d := some 63) (v := ?vT135) rfl rfl (by kernel_rfl) (by kernel_rfl) (by kernel_rfl) (fun _ _ _ h => h) (Or.inl ⟨by rfl, ?hyT135⟩) (by assumption) ?rstT135
        case hyT135 => (intro w hSw; (try dsimp only at hSw); go_simp; (try with_reducible rfl))
        try simp only [Act.put, List.setIfInBounds_toArray, List.set_cons_zero, List.set_cons_succ]
        refine takeD (i := 1) (d := some 64) (v := ?vT136) rfl rfl (by kernel_rfl) (by kernel_rfl) (by kernel_rfl) (fun _ _ _ h => h) (Or.inl ⟨by rfl, ?hyT136⟩) (by assumption) ?rstT136
        case hyT136 => (intro w hSw; (try dsimp only at hSw); go_simp; (try with_reducible rfl))
        try simp only [Act.put, List.setIfInBounds_toArray, List.set_cons_zero, List.set_cons_succ]
        refine takeD (i := 2) (d := some 65) (v := ?vT137) rfl rfl (by kernel_rfl) (by kernel_rfl) (by kernel_rfl) (fun _ _ _ h => h) (Or.inl ⟨by rfl, ?hyT137⟩) (by assumption) ?rstT137
        case hyT137 => (intro w hSw; (try dsimp only at hSw); go_simp; (try with_reducible rfl))
        try simp only [Act.put, List.setIfInBounds_toArray, List.set_cons_zero, List.set_cons_succ]
        refine takeD (i := 3) (d := some 66) (v := ?vT138) rfl rfl (by kernel_rfl) (by kernel_rfl) (by kernel_rfl) (fun _ _ _ h => h) (Or.inl ⟨by rfl, ?hyT138⟩) (by assumption) ?rstT138
        case hyT138 => (intro w hSw; (try dsimp only at hSw); go_simp; (try with_reducible rfl))
        try simp only [Act.put, List.setIfInBounds_toArray, List.set_cons_zero, List.set_cons_succ]
        refine takeD (i := 4) (d := some 67) (v := ?vT139) rfl rfl (by kernel_rfl) (by kernel_rfl) (by kernel_rfl) (fun _ _ _ h => h) (Or.inl ⟨by rfl, ?hyT139⟩) (by assumption) ?rstT139
        case hyT139 => (intro w hSw; (try dsimp only at hSw); go_simp; (try with_reducible rfl))
        try simp only [Act.put, List.setIfInBounds_toArray, List.set_cons_zero, List.set_cons_succ]
        refine takeD (i := 5) (d := some 68) (v := ?vT140) rfl rfl (by kernel_rfl) (by kernel_rfl) (by kernel_rfl) (fun _ _ _ h => h) (Or.inl ⟨by rfl, ?hyT140⟩) (by assumption) ?rstT140
        case hyT140 => (intro w hSw; (try dsimp only at hSw); go_simp; (try with_reducible rfl))
        try simp only [Act.put, List.setIfInBounds_toArray, List.set_cons_zero, List.set_cons_succ]
        refine takeD (i := 6) (d := some 69) (v := ?vT141) rfl rfl (by kernel_rfl) (by kernel_rfl) (by kernel_rfl) (fun _ _ _ h => h) (Or.inl ⟨by rfl, ?hyT141⟩) (by assumption) ?rstT141
        case hyT141 => (intro w hSw; (try dsimp only at hSw); go_simp; (try with_reducible rfl))
        try simp only [Act.put, List.setIfInBounds_toArray, List.set_cons_zero, List.set_cons_succ]
        refine takeD (i := 7) (d := some 70) (v := ?vT142) rfl rfl (by kernel_rfl) (by kernel_rfl) (by kernel_rfl) (fun _ _ _ h => h) (Or.inl ⟨by rfl, ?hyT142⟩) (by assumption) ?rstT142
        case hyT142 => (intro w hSw; (try dsimp only at hSw); go_simp; (try with_reducible rfl))
        try simp only [Act.put, List.setIfInBounds_toArray, List.set_cons_zero, List.set_cons_succ]
        refine takeD (i := 8) (d := some 71) (v := ?vT143) rfl rfl (by kernel_rfl) (by kernel_rfl) (by kernel_rfl) (fun _ _ _ h => h) (Or.inl ⟨by rfl, ?hyT143⟩) (by assumption) ?rstT143
        case hyT143 => (intro w hSw; (try dsimp only at hSw); go_simp; (try with_reducible rfl))
        try simp only [Act.put, List.setIfInBounds_toArray, List.set_cons_zero, List.set_cons_succ]
        refine takeD (i := 9) (d := some 72) (v := ?vT144) rfl rfl (by kernel_rfl) (by kernel_rfl) (by kernel_rfl) (fun _ _ _ h => h) (Or.inl ⟨by rfl, ?hyT144⟩) (by assumption) ?rstT144
        case hyT144 => (intro w hSw; (try dsimp only at hSw); go_simp; (try with_reducible rfl))
        try simp only [Act.put, List.setIfInBounds_toArray, List.set_cons_zero, List.set_cons_succ]
        refine takeD (i := 10) (d := some 73) (v := ?vT145) rfl rfl (by kernel_rfl) (by kernel_rfl) (by kernel_rfl) (fun _ _ _ h => h) (Or.inl ⟨by rfl, ?hyT145⟩) (by assumption) ?rstT145
        case hyT145 => (intro w hSw; (try dsimp only at hSw); go_simp; (try with_reducible rfl))
        try simp only [Act.put, List.setIfInBounds_toArray, List.set_cons_zero, List.set_cons_succ]
        refine takeD (i := 11) (d := some 74) (v := ?vT146) rfl rfl (by kernel_rfl) (by kernel_rfl) (by kernel_rfl) (fun _ _ _ h => h) (Or.inl ⟨by rfl, ?hyT146⟩) (by assumption) ?rstT146
        case hyT146 => (intro w hSw; (try dsimp only at hSw); go_simp; (try with_reducible rfl))
        try simp only [Act.put, List.setIfInBounds_toArray, List.set_cons_zero, List.set_cons_succ]
        refine takeD (i := 12) (d := some 75) (v := ?vT147) rfl rfl (by kernel_rfl) (by kernel_rfl) (by kernel_rfl) (fun _ _ _ h => h) (Or.inl ⟨by rfl, ?hyT147⟩) (by assumption) ?rstT147
        case hyT147 => (intro w hSw; (try dsimp only at hSw); go_simp; (try with_reducible rfl))
        try simp only [Act.put, List.setIfInBounds_toArray, List.set_cons_zero, List.set_cons_succ]
        refine takeD (i := 13) (d := some 76) (v := ?vT148) rfl rfl (by kernel_rfl) (by kernel_rfl) (by kernel_rfl) (fun _ _ _ h => h) (Or.inl ⟨by rfl, ?hyT148⟩) (by assumption) ?rstT148
        case hyT148 => (intro w hSw; (try dsimp only at hSw); go_simp; (try with_reducible rfl))
        try simp only [Act.put, List.setIfInBounds_toArray, List.set_cons_zero, List.set_cons_succ]
        refine takeD (i := 14) (d := some 77) (v := ?vT149) rfl rfl (by kernel_rfl) (by kernel_rfl) (by kernel_rfl) (fun _ _ _ h => h) (Or.inl ⟨by rfl, ?hyT149⟩) (by assumption) ?rstT149
        case hyT149 => (intro w hSw; (try dsimp only at hSw); go_simp; (try with_reducible rfl))
        try simp only [Act.put, List.setIfInBounds_toArray, List.set_cons_zero, List.set_cons_succ]
        refine takeD (i := 15) (d := some 78) (v := ?vT150) rfl rfl (by kernel_rfl) (by kernel_rfl) (by kernel_rfl) (fun _ _ _ h => h) (Or.inl ⟨by rfl, ?hyT150⟩) (by assumption) ?rstT150
        case hyT150 => (intro w hSw; (try dsimp only at hSw); go_simp; (try with_reducible rfl))
        try simp only [Act.put, List.setIfInBounds_toArray, List.set_cons_zero, List.set_cons_succ]
        refine takeD (i := 16) (d := some 79) (v := ?vT151) rfl rfl (by kernel_rfl) (by kernel_rfl) (by kernel_rfl) (fun _ _ _ h => h) (Or.inl ⟨by rfl, ?hyT151⟩) (by assumption) ?rstT151
        case hyT151 => (intro w hSw; (try dsimp only at hSw); go_simp; (try with_reducible rfl))
        try simp only [Act.put, List.setIfInBounds_toArray, List.set_cons_zero, List.set_cons_succ]
        refine takeD (i := 17) (d := some 80) (v := ?vT152) rfl rfl (by kernel_rfl) (by kernel_rfl) (by kernel_rfl) (fun _ _ _ h => h) (Or.inl ⟨by rfl, ?hyT152⟩) (by assumption) ?rstT152
        case hyT152 => (intro w hSw; (try dsimp only at hSw); go_simp; (try with_reducible rfl))
        try simp only [Act.put, List.setIfInBounds_toArray, List.set_cons_zero, List.set_cons_succ]
        refine takeD (i := 18) (d := some 81) (v := ?vT153) rfl rfl (by kernel_rfl) (by kernel_rfl) (by kernel_rfl) (fun _ _ _ h => h) (Or.inl ⟨by rfl, ?hyT153⟩) (by assumption) ?rstT153
        case hyT153 => (intro w hSw; (try dsimp only at hSw); go_simp; (try with_reducible rfl))
        try simp only [Act.put, List.setIfInBounds_toArray, List.set_cons_zero, List.set_cons_succ]
        refine takeD (i := 19) (d := some 82) (v := ?vT154) rfl rfl (by kernel_rfl) (by kernel_rfl) (by kernel_rfl) (fun _ _ _ h => h) (Or.inl ⟨by rfl, ?hyT154⟩) (by assumption) ?rstT154
        case hyT154 => (intro w hSw; (try dsimp only at hSw); go_simp; (try with_reducible rfl))
        try simp only [Act.put, List.setIfInBounds_toArray, List.set_cons_zero, List.set_cons_succ]
        refine takeD (i := 20) (d := some 83) (v := ?vT155) rfl rfl (by kernel_rfl) (by kernel_rfl) (by kernel_rfl) (fun _ _ _ h => h) (Or.inl ⟨by rfl, ?hyT155⟩) (by assumption) ?rstT155
        case hyT155 => (intro w hSw; (try dsimp only at hSw); go_simp; (try with_reducible rfl))
        try simp only [Act.put, List.setIfInBounds_toArray, List.set_cons_zero, List.set_cons_succ]
        refine takeD (i := 21) (d := some 84) (v := ?vT156) rfl rfl (by kernel_rfl) (by kernel_rfl) (by kernel_rfl) (fun _ _ _ h => h) (Or.inl ⟨by rfl, ?hyT156⟩) (by assumption) ?rstT156
        case hyT156 => (intro w hSw; (try dsimp only at hSw); go_simp; (try with_reducible rfl))
        try simp only [Act.put, List.setIfInBounds_toArray, List.set_cons_zero, List.set_cons_succ]
        refine takeD (i := 22) (d := some 85) (v := ?vT157) rfl rfl (by kernel_rfl) (by kernel_rfl) (by kernel_rfl) (fun _ _ _ h => h) (Or.inl ⟨by rfl, ?hyT157⟩) (by assumption) ?rstT157
        case hyT157 => (intro w hSw; (try dsimp only at hSw); go_simp; (try with_reducible rfl))
        try simp only [Act.put, List.setIfInBounds_toArray, List.set_cons_zero, List.set_cons_succ]
        refine takeD (i := 23) (d := some 86) (v := ?vT158) rfl rfl (by kernel_rfl) (by kernel_rfl) (by kernel_rfl) (fun _ _ _ h => h) (Or.inl ⟨by rfl, ?hyT158⟩) (by assumption) ?rstT158
        case hyT158 => (intro w hSw; (try dsimp only at hSw); go_simp; (try with_reducible rfl))
        try simp only [Act.put, List.setIfInBounds_toArray, List.set_cons_zero, List.set_cons_succ]
        refine takeD (i := 24) (d := some 87) (v := ?vT159) rfl rfl (by kernel_rfl) (by kernel_rfl) (by kernel_rfl) (fun _ _ _ h => h) (Or.inl ⟨by rfl, ?hyT159⟩) (by assumption) ?rstT159
        case hyT159 => (intro w hSw; (try dsimp only at hSw); go_simp; (try with_reducible rfl))
        try simp only [Act.put, List.setIfInBounds_toArray, List.set_cons_zero, List.set_cons_succ]
        refine wpAnyH_ready (rs := [25]) (by kernel_rfl) (by simp) ?_
        refine AllReadyH.cons rfl (fun K hK => ?_) AllReadyH.nil
        go_simp
        refine (HSM.out _ (by first | exact H6.out.1 | exact H6.out.1.drew | exact H6.out.1.drew.drew | exact H6.out.1.drew.drew.drew)).mono ?_
        rintro e w7 ⟨rfl, hw7⟩
        rw [hw7]
        clear hw7 w7
        clear hHeld
        refine hK.out _ _ ?hS160 (fun hHeld => ?rest160)
        case hS160 => exact HS10.out
        clear hK K
        try simp only [Act.put, List.setIfInBounds_toArray, List.set_cons_zero, List.set_cons_succ]
        refine takeD (i := 26) (d := some 89) (v := ?vT161) rfl rfl (by kernel_rfl) (by kernel_rfl) (by kernel_rfl) (fun _ _ _ h => h) (Or.inl ⟨by rfl, ?hyT161⟩) (by assumption) ?rstT161
        case hyT161 => (intro w hSw; (try dsimp only at hSw); go_simp; (try with_reducible rfl))
        try simp only [Act.put, List.setIfInBounds_toArray, List.set_cons_zero, List.set_cons_succ]
        refine takeD (i := 27) (d := some 90) (v := ?vT162) rfl rfl (by kernel_rfl) (by kernel_rfl) (by kernel_rfl) (fun _ _ _ h => h) (Or.inl ⟨by rfl, ?hyT162⟩) (by assumption) ?rstT162
        case hyT162 => (intro w hSw; (try dsimp only at hSw); go_simp; (try with_reducible rfl))
        try simp only [Act.put, List.setIfInBounds_toArray, List.set_cons_zero, List.set_cons_succ]
        refine takeD (i := 28) (d := some 91) (v := ?vT163) rfl rfl (by kernel_rfl) (by kernel_rfl) (by kernel_rfl) (fun _ _ _ h => h) (Or.inl ⟨by rfl, ?hyT163⟩) (by assumption) ?rstT163
        case hyT163 => (intro w hSw; (try dsimp only at hSw); go_simp; (try with_reducible rfl))
        try simp only [Act.put, List.setIfInBounds_toArray, List.set_cons_zero, List.set_cons_succ]
        refine takeD (i := 29) (d := some 92) (v := ?vT164) rfl rfl (by kernel_rfl) (by kernel_rfl) (by kernel_rfl) (fun _ _ _ h => h) (Or.inl ⟨by rfl, ?hyT164⟩) (by assumption) ?rstT164
        case hyT164 => (intro w hSw; (try dsimp only at hSw); go_simp; (try with_reducible rfl))
        try simp only [Act.put, List.setIfInBounds_toArray, List.set_cons_zero, List.set_cons_succ]
        refine takeD (i := 30) (d := some 93) (v := ?vT165) rfl rfl (by kernel_rfl) (by kernel_rfl) (by kernel_rfl) (fun _ _ _ h => h) (Or.inl ⟨by rfl, ?hyT165⟩) (by assumption) ?rstT165
        case hyT165 => (intro w hSw; (try dsimp only at hSw); go_simp; (try with_reducible rfl))
        try simp only [Act.put, List.setIfInBounds_toArray, List.set_cons_zero, List.set_cons_succ]
        refine takeD (i := 31) (d := some 94) (v := ?vT166) rfl rfl (by kernel_rfl) (by kernel_rfl) (by kernel_rfl) (fun _ _ _ h => h) (Or.inl ⟨by rfl, ?hyT166⟩) (by assumption) ?rstT166
        case hyT166 => (intro w hSw; (try dsimp only at hSw); go_simp; (try with_reducible rfl))
        try simp only [Act.put, List.setIfInBounds_toArray, List.set_cons_zero, List.set_cons_succ]
        refine takeD (i := 32) (d := some 95) (v := ?vT167) rfl rfl (by kernel_rfl) (by kernel_rfl) (by kernel_rfl) (fun _ _ _ h => h) (Or.inl ⟨by rfl, ?hyT167⟩) (by assumption) ?rstT167
        case hyT167 => (intro w hSw; (try dsimp only at hSw); go_simp; (try with_reducible rfl))
        try simp only [Act.put, List.setIfInBounds_toArray, List.set_cons_zero, List.set_cons_succ]
        refine takeD (i := 33) (d := some 96) (v := ?vT168) rfl rfl (by kernel_rfl) (by kernel_rfl) (by kernel_rfl) (fun _ _ _ h => h) (Or.inl ⟨by rfl, ?hyT168⟩) (by assumption) ?rstT168
        case hyT168 => (intro w hSw; (try dsimp only at hSw); go_simp; (try with_reducible rfl))
        try simp only [Act.put, List.setIfInBounds_toArray, List.set_cons_zero, List.set_cons_succ]
        refine takeD (i := 34) (d := some 97) (v := ?vT169) rfl rfl (by kernel_rfl) (by kernel_rfl) (by kernel_rfl) (fun _ _ _ h => h) (Or.inl ⟨by rfl, ?hyT169⟩) (by assumption) ?rstT169
        case hyT169 => (intro w hSw; (try dsimp only at hSw); go_simp; (try with_reducible rfl))
        try simp only [Act.put, List.setIfInBounds_toArray, List.set_cons_zero, List.set_cons_succ]
        refine takeD (i := 35) (d := some 98) (v := ?vT170) rfl rfl (by kernel_rfl) (by kernel_rfl) (by kernel_rfl) (fun _ _ _ h => h) (Or.inl ⟨by rfl, ?hyT170⟩) (by assumption) ?rstT170
        case hyT170 => (intro w hSw; (try dsimp only at hSw); go_simp; (try with_reducible rfl))
        try simp only [Act.put, List.setIfInBounds_toArray, List.set_cons_zero, List.set_cons_succ]
        refine takeD (i := 36) (d := some 99) (v := ?vT171) rfl rfl (by kernel_rfl) (by kernel_rfl) (by kernel_rfl) (fun _ _ _ h => h) (Or.inl ⟨by rfl, ?hyT171⟩) (by assumption) ?rstT171
        case hyT171 => (intro w hSw; (try dsimp only at hSw); go_simp; (try with_reducible rfl))
        try simp only [Act.put, List.setIfInBounds_toArray, List.set_cons_zero, List.set_cons_succ]
        refine wpAnyH_done (by kernel_rfl) ?_ _
        go_wp2_with fail
        refine wp_region_held_drew (S := (fun W => W.cell? ⟨g1, o1 + i * 3 + 1, none⟩ = some (.slice b1 m1 d1) ∧ W.cell? ⟨wo.heap.size, 0, none⟩ = some (.string s))) (by kernel_rfl) ?hS172 (fun hHeld => ?rest172)
        case hS172 => exact HS14.out
        refine takeD (i := 0) (d := some 113) (v := ?vT173) rfl rfl (by kernel_rfl) (by kernel_rfl) (by kernel_rfl) (fun _ _ _ h => h) (Or.inl ⟨by rfl, ?hyT173⟩) (by assumption) ?rstT173
        case hyT173 => (intro w hSw; (try dsimp only at hSw); go_simp; (try with_reducible rfl))
        try simp only [Act.put, List.setIfInBounds_toArray, List.set_cons_zero, List.set_cons_succ]
        refine takeD (i := 1) (d := some 114) (v := ?vT174) rfl rfl (by kernel_rfl) (by kernel_rfl) (by kernel_rfl) (fun _ _ _ h => h) (Or.inl ⟨by rfl, ?hyT174⟩) (by assumption) ?rstT174
        case hyT174 => (intro w hSw; (try dsimp only at hSw); go_simp; (try with_reducible rfl))
        try simp only [Act.put, List.setIfInBounds_toArray, List.set_cons_zero, List.set_cons_succ]
        refine takeD (i := 2) (d := some 115) (v := ?vT175) rfl rfl (by kernel_rfl) (by kernel_rfl) (by kernel_rfl) (fun _ _ _ h => h) (Or.inl ⟨by rfl, ?hyT175⟩) (by assumption) ?rstT175
        case hyT175 => (intro w hSw; (try dsimp only at hSw); go_simp; (try with_reducible rfl))
        try simp only [Act.put, List.setIfInBounds_toArray, List.set_cons_zero, List.set_cons_succ]
        refine takeD (i := 3) (d := some 116) (v := ?vT176) rfl rfl (by kernel_rfl) (by kernel_rfl) (by kernel_rfl) (fun _ _ _ h => h) (Or.inl ⟨by rfl, ?hyT176⟩) (by assumption) ?rstT176
        case hyT176 => (intro w hSw; (try dsimp only at hSw); go_simp; (try with_reducible rfl))
        try simp only [Act.put, List.setIfInBounds_toArray, List.set_cons_zero, List.set_cons_succ]
        refine takeD (i := 4) (d := some 117) (v := ?vT177) rfl rfl (by kernel_rfl) (by kernel_rfl) (by kernel_rfl) (fun _ _ _ h => h) (Or.inl ⟨by rfl, ?hyT177⟩) (by assumption) ?rstT177
        case hyT177 => (intro w hSw; (try dsimp only at hSw); go_simp; (try with_reducible rfl))
        try simp only [Act.put, List.setIfInBounds_toArray, List.set_cons_zero, List.set_cons_succ]
        refine takeD (i := 5) (d := some 118) (v := ?vT178) rfl rfl (by kernel_rfl) (by kernel_rfl) (by kernel_rfl) (fun _ _ _ h => h) (Or.inl ⟨by rfl, ?hyT178⟩) (by assumption) ?rstT178
        case hyT178 => (intro w hSw; (try dsimp only at hSw); go_simp; (try with_reducible rfl))
        try simp only [Act.put, List.setIfInBounds_toArray, List.set_cons_zero, List.set_cons_succ]
        refine takeD (i := 6) (d := some 119) (v := ?vT179) rfl rfl (by kernel_rfl) (by kernel_rfl) (by kernel_rfl) (fun _ _ _ h => h) (Or.inl ⟨by rfl, ?hyT179⟩) (by assumption) ?rstT179
        case hyT179 => (intro w hSw; (try dsimp only at hSw); go_simp; (try with_reducible rfl))
        try simp only [Act.put, List.setIfInBounds_toArray, List.set_cons_zero, List.set_cons_succ]
        refine takeD (i := 7) (d := some 120) (v := ?vT180) rfl rfl (by kernel_rfl) (by kernel_rfl) (by kernel_rfl) (fun _ _ _ h => h) (Or.inl ⟨by rfl, ?hyT180⟩) (by assumption) ?rstT180
        case hyT180 => (intro w hSw; (try dsimp only at hSw); go_simp; (try with_reducible rfl))
        try simp only [Act.put, List.setIfInBounds_toArray, List.set_cons_zero, List.set_cons_succ]
        refine takeD (i := 9) (d := some 122) (v := ?vT181) rfl rfl (by kernel_rfl) (by kernel_rfl) (by kernel_rfl) (fun _ _ _ h => h) (Or.inl ⟨by rfl, ?hyT181⟩) (by assumption) ?rstT181
        case hyT181 => (intro w hSw; (try dsimp only at hSw); go_simp; (try with_reducible rfl))
        try simp only [Act.put, List.setIfInBounds_toArray, List.set_cons_zero, List.set_cons_succ]
        refine wpAnyH_ready (rs := [8]) (by kernel_rfl) (by simp) ?_
        refine AllReadyH.cons rfl (fun K hK => ?_) AllReadyH.nil
        go_simp
        refine (copied_any (HRF.out _ (by first | exact H6.out.1 | exact H6.out.1.drew | exact H6.out.1.drew.drew | exact H6.out.1.drew.drew.drew)) HM1.out.2.2.2).mono ?_
        rintro e w3 ⟨a9, e9, rfl, ho9, hb9⟩
        have hb3 : Below V6.heap.size V6 w3 := by
          refine Below.trans ?_ hb9
          first | exact (Below.refl _ _) | exact (Below.refl _ _).drew | exact (Below.refl _ _).drew.drew | exact (Below.refl _ _).drew.drew.drew
        have H3 : Hid (OwnF byU 1 5 w3 V6.heap.size (.slice a9 m1 e9) f.bs ∧ Below V6.heap.size V6 w3 ∧ Below wo.heap.size wo w3 ∧ w3.cell? ⟨wo.heap.size, 0, none⟩ = some (.string s)) := ⟨ho9, hb3, H6.out.1.trans (hb3.mono (Nat.le_of_lt H6.out.2)), (hb3.cell (p := ⟨wo.heap.size, 0, none⟩) H6.out.2).trans HS14.out.2⟩
        clear ho9 hb9 hb3
        clear hHeld
        refine hK.out _ _ ?hS182 (fun hHeld => ?rest182)
        case hS182 => exact ⟨(H3.out.2.1.cell (p := ⟨g1, o1 + i * 3 + 1, none⟩) (Nat.lt_trans HM1.out.2.1 H6.out.2)).trans HS14.out.1, H3.out.2.2.2⟩
        clear hK K
        try simp only [Act.put, List.setIfInBounds_toArray, List.set_cons_zero, List.set_cons_succ]
        refine takeD (i := 10) (d := some 123) (v := ?vT183) rfl rfl (by kernel_rfl) (by kernel_rfl) (by kernel_rfl) (fun _ _ _ h => h) (Or.inl ⟨by rfl, ?hyT183⟩) (by assumption) ?rstT183
        case hyT183 => (intro w hSw; (try dsimp only at hSw); go_simp; (try with_reducible rfl))
        try simp only [Act.put, List.setIfInBounds_toArray, List.set_cons_zero, List.set_cons_succ]
        obtain ⟨g8, cap8, w8, hr8, ho8, hb8, hk8, hs8, hat8⟩ := appendF_wide kindPg layPg (hS.out.own.below H3.out.2.2.1) (Nat.le_trans hS.out.below.size H3.out.2.2.1.size) (⟨f.nm, a9, e9, f.bs, m1⟩ : Pg) #[.string s, .slice a9 m1 e9, .int .i64 (m1 : Int)] (by show [Value.string ⟨f.nm.toArray⟩, .slice a9 f.bs.length e9, .int .i64 (m1 : Int)] = _; rw [HSG.out, HM1.out.1]) 95 (by have := HZL.out; omega) (by have := HZL.out; omega) 60
        have hC8 := chg_keeps hb8 hk8
        have hne8 : ∀ (y : Pg) (b : Nat), OwnF byU 1 5 w3 b y.sl y.bs → ∀ q, y.sl.ownBlock = some q → ¬ vo.ownBlock = some q := fun y b hy q hq e => by
          obtain ⟨c3, h3⟩ := own_block (hy.mono (Nat.zero_le _)) hq
          obtain ⟨c4, h4⟩ := own_blockP (hS.out.own.below H3.out.2.2.1) e
          rw [h3] at h4
          simp at h4
        have hvw : ∀ q, vo.ownBlock = some q → q < wo.heap.size := fun q e => hS.out.own.lt e
        have hnew : OwnF byU 1 5 w3 w.heap.size (Pg.sl ⟨f.nm, a9, e9, f.bs, m1⟩) f.bs := by
          have := H3.out.1.mono (Nat.le_trans hS.out.below.size (Nat.le_of_lt H6.out.2))
          show OwnF byU 1 5 w3 w.heap.size (.slice a9 f.bs.length e9) f.bs
          rw [HM1.out.1]
          exact this
        have HS : Hid (LfI w w8 (i + 1) (.slice (some ⟨g8, 0, none⟩) (zs.length + 1) cap8) fs (zs ++ [⟨f.nm, a9, e9, f.bs, m1⟩])) := by
          refine ⟨ho8, fun z hz => ?_, (hS.out.below.trans (H3.out.2.2.1.mono hS.out.below.size)).trans hb8, by rw [List.map_append, hS.out.st, List.take_add_one, HFI.out.1]; exact congrArg (fun z => fs.take i ++ [z]) HFI.out.2.symm⟩
          rcases List.mem_append.1 hz with hz | hz
          · have h1 := (hS.out.each z hz).below H3.out.2.2.1
            exact h1.chg hC8 (hne8 z _ h1)
          · simp at hz
            subst hz
            exact hnew.chg hC8 (hne8 _ _ hnew)
        have HK8 : Hid (w8.cell? ⟨g1, o1 + i * 3 + 1, none⟩ = some (.slice b1 m1 d1) ∧ w8.cell? ⟨wo.heap.size, 0, none⟩ = some (.string s)) := ⟨(hC8.cell (p := ⟨g1, o1 + i * 3 + 1, none⟩) (Nat.lt_of_lt_of_le HM1.out.2.1 H3.out.2.2.1.size) (fun e => ?hk1)).trans ((H3.out.2.1.cell (p := ⟨g1, o1 + i * 3 + 1, none⟩) (Nat.lt_trans HM1.out.2.1 H6.out.2)).trans HS14.out.1), (hC8.cell (p := ⟨wo.heap.size, 0, none⟩) (Nat.lt_of_lt_of_le H6.out.2 H3.out.2.1.size) (fun e => by have := hvw _ e; simp only at this; omega)).trans H3.out.2.2.2⟩
        case hk1 => exact absurd (hS.out.own.ge e) (by have := HM1.out.2.2.1; simp only; omega)
        clear hC8 hne8 hvw hnew ho8 hb8 hk8 hs8 hat8
        refine wpAnyH_ready (rs := [11]) (by kernel_rfl) (by simp) ?_
        refine AllReadyH.cons rfl (fun K hK => ?_) AllReadyH.nil
        go_simp
        clear hHeld
        refine hK.out _ _ ?hS184 (fun hHeld => ?rest184)
        case hS184 => exact ⟨(H3.out.2.1.cell (p := ⟨g1, o1 + i * 3 + 1, none⟩) (Nat.lt_trans HM1.out.2.1 H6.out.2)).trans HS14.out.1 |> fun h9 => ((((Below.refl w3.heap.size w3).alloc (Nat.le_refl _) _).cell (p := ⟨g1, o1 + i * 3 + 1, none⟩) (Nat.lt_of_lt_of_le HM1.out.2.1 H3.out.2.2.1.size)).trans h9), (((Below.refl w3.heap.size w3).alloc (Nat.le_refl _) _).cell (p := ⟨wo.heap.size, 0, none⟩) (Nat.lt_of_lt_of_le H6.out.2 H3.out.2.1.size)).trans H3.out.2.2.2⟩
        clear hK K
        try simp only [Act.put, List.setIfInBounds_toArray, List.set_cons_zero, List.set_cons_succ]
        refine wpAnyH_ready (rs := [12]) (by kernel_rfl) (by simp) ?_
        refine AllReadyH.cons rfl (fun K hK => ?_) AllReadyH.nil
        rw [if_pos (by rfl)]
        refine wp_append_hr (.tmp 113) (.tmp 124) 60 (some 125) rfl rfl _ _ rfl rfl hr8 ?_
        clear hHeld
        refine hK.out _ _ ?hS185 (fun hHeld => ?rest185)
        case hS185 => exact HK8.out
        clear hK K
        try simp only [Act.put, List.setIfInBounds_toArray, List.set_cons_zero, List.set_cons_succ]
        refine takeD (i := 13) (d := some 7) (v := ?vT186) rfl rfl (by kernel_rfl) (by kernel_rfl) (by kernel_rfl) (fun _ _ _ h => h) (Or.inl ⟨by rfl, ?hyT186⟩) (by assumption) ?rstT186
        case hyT186 => (intro w hSw; (try dsimp only at hSw); go_simp; (try with_reducible rfl))
        try simp only [Act.put, List.setIfInBounds_toArray, List.set_cons_zero, List.set_cons_succ]
        refine wpAnyH_done (by kernel_rfl) ?_ _
        go_wp2_with fail
        go_roundw
        case rel => exact ⟨i + 1, by omega, by first | rfl | go_num, _, HS.out⟩
        case measure => simp [RowKit.intOf]; omega
      · skip
        obtain ⟨j, hj⟩ : ∃ j, i = j + 1 := ⟨i - 1, by omega⟩
        have gz : (0 : Int) < (i : Int) := by omega
        have gzd : decide (0 < i) = true := by simp; omega
        have gj : IntKind.i64.wrap ((i : Int) - 1) = (j : Int) := by rw [IntWalk.i64_in _ (by omega)]; omega
        have gj2 : (j : Int) < (n : Int) := by omega
        have gj3 : ¬ ((j : Int) < 0) := by omega
        obtain ⟨g3, o3, v3, ha3, _, hv3, hc3⟩ := hr2.at j (by omega)
        simp only [Option.some.injEq, Addr.mk.injEq, and_true] at ha3
        obtain ⟨rfl, rfl⟩ := ha3
        obtain ⟨f3, hf3⟩ : ∃ f3, fs[j]? = some f3 := ⟨_, List.getElem?_eq_getElem (by have := HH.out.2.1; have := HH.out.2.2.2.2; omega)⟩
        have k3 := HH.out.2.2.1 j v3 f3 hv3 hf3
        have s0 := hc3 0 _ rfl
        rw [Nat.add_zero, k3.nm] at s0
        have hls := rise_lt HR.out.1 HR.out.2.2.1 hf3 (hj ▸ hf)
        have hls2 := less_of f3.nm f.nm
        rw [hls] at hls2
        clear hv3 hc3 hf3 k3 hls hj hz
        generalize (⟨f3.nm.toArray⟩ : ByteArray) = s3 at *
        clear hv1 hc1 hr2
        generalize hsg : (⟨f.nm.toArray⟩ : ByteArray) = s at *
        have HSG : Hid ((⟨f.nm.toArray⟩ : ByteArray) = s) := hsg
        clear hsg
        have HS7 : Hid (((fun W => W.cell? ⟨g1, o1 + i * 3, none⟩ = some (.string s) ∧ W.cell? ⟨g1, o1 + j * 3, none⟩ = some (.string s3))) wo) := ⟨p0, s0⟩
        have HS10 : Hid (((fun W => W.cell? ⟨g1, o1 + i * 3 + 1, none⟩ = some (.slice b1 m1 d1) ∧ W.cell? ⟨g1, o1 + i * 3 + 2, none⟩ = some (.int .i64 (m1 : Int)) ∧ W.cell? ⟨wo.heap.size, 1, none⟩ = some (.slice xa xl xc) ∧ W.cell? ⟨wo.heap.size, 2, none⟩ = some (.int .i64 (xs : Int)))) V6) := ⟨(hb6.cell (p := ⟨g1, o1 + i * 3 + 1, none⟩) hg1).trans p1, (hb6.cell (p := ⟨g1, o1 + i * 3 + 2, none⟩) hg1).trans p2, z1, z2⟩
        have HS14 : Hid (((fun W => W.cell? ⟨g1, o1 + i * 3 + 1, none⟩ = some (.slice b1 m1 d1) ∧ W.cell? ⟨wo.heap.size, 0, none⟩ = some (.string s))) V6) := ⟨(hb6.cell (p := ⟨g1, o1 + i * 3 + 1, none⟩) hg1).trans p1, z0⟩
        have p61 := HS10.out.1
        have H6 : Hid (Below wo.heap.size wo V6 ∧ wo.heap.size < V6.heap.size) := ⟨hb6, hlt6⟩
        clear hb6 hlt6 hg1
        go_wp2_with fail
        refine HPG.out.mono ?_
        rintro e wz ⟨rfl, hz⟩
        rw [hz]
        clear hz wz
        go_wp2_with fail
        refine wp_region_held_drew (S := (fun W => W.cell? ⟨g1, o1 + i * 3, none⟩ = some (.string s) ∧ W.cell? ⟨g1, o1 + j * 3, none⟩ = some (.string s3))) (by kernel_rfl) ?hS187 (fun hHeld => ?rest187)
        case hS187 => exact HS7.out
        refine takeD (i := 0) (d := some 30) (v := ?vT188) rfl rfl (by kernel_rfl) (by kernel_rfl) (by kernel_rfl) (fun _ _ _ h => h) (Or.inl ⟨by rfl, ?hyT188⟩) (by assumption) ?rstT188
        case hyT188 => (intro w hSw; (try dsimp only at hSw); go_simp; (try with_reducible rfl))
        try simp only [Act.put, List.setIfInBounds_toArray, List.set_cons_zero, List.set_cons_succ]
        refine takeD (i := 1) (d := some 31) (v := ?vT189) rfl rfl (by kernel_rfl) (by kernel_rfl) (by kernel_rfl) (fun _ _ _ h => h) (Or.inl ⟨by rfl, ?hyT189⟩) (by assumption) ?rstT189
        case hyT189 => (intro w hSw; (try dsimp only at hSw); go_simp; (try with_reducible rfl))
        try simp only [Act.put, List.setIfInBounds_toArray, List.set_cons_zero, List.set_cons_succ]
        refine takeD (i := 2) (d := some 32) (v := ?vT190) rfl rfl (by kernel_rfl) (by kernel_rfl) (by kernel_rfl) (fun _ _ _ h => h) (Or.inl ⟨by rfl, ?hyT190⟩) (by assumption) ?rstT190
        case hyT190 => (intro w hSw; (try dsimp only at hSw); go_simp; (try with_reducible rfl))
        try simp only [Act.put, List.setIfInBounds_toArray, List.set_cons_zero, List.set_cons_succ]
        refine takeD (i := 3) (d := some 33) (v := ?vT191) rfl rfl (by kernel_rfl) (by kernel_rfl) (by kernel_rfl) (fun _ _ _ h => h) (Or.inl ⟨by rfl, ?hyT191⟩) (by assumption) ?rstT191
        case hyT191 => (intro w hSw; (try dsimp only at hSw); go_simp; (try with_reducible rfl))
        try simp only [Act.put, List.setIfInBounds_toArray, List.set_cons_zero, List.set_cons_succ]
        refine takeD (i := 4) (d := some 34) (v := ?vT192) rfl rfl (by kernel_rfl) (by kernel_rfl) (by kernel_rfl) (fun _ _ _ h => h) (Or.inl ⟨by rfl, ?hyT192⟩) (by assumption) ?rstT192
        case hyT192 => (intro w hSw; (try dsimp only at hSw); go_simp; (try with_reducible rfl))
        try simp only [Act.put, List.setIfInBounds_toArray, List.set_cons_zero, List.set_cons_succ]
        refine takeD (i := 5) (d := some 35) (v := ?vT193) rfl rfl (by kernel_rfl) (by kernel_rfl) (by kernel_rfl) (fun _ _ _ h => h) (Or.inl ⟨by rfl, ?hyT193⟩) (by assumption) ?rstT193
        case hyT193 => (intro w hSw; (try dsimp only at hSw); go_simp; (try with_reducible rfl))
        try simp only [Act.put, List.setIfInBounds_toArray, List.set_cons_zero, List.set_cons_succ]
        refine takeD (i := 6) (d := some 36) (v := ?vT194) rfl rfl (by kernel_rfl) (by kernel_rfl) (by kernel_rfl) (fun _ _ _ h => h) (Or.inl ⟨by rfl, ?hyT194⟩) (by assumption) ?rstT194
        case hyT194 => (intro w hSw; (try dsimp only at hSw); go_simp; (try with_reducible rfl))
        try simp only [Act.put, List.setIfInBounds_toArray, List.set_cons_zero, List.set_cons_succ]
        refine takeD (i := 7) (d := some 37) (v := ?vT195) rfl rfl (by kernel_rfl) (by kernel_rfl) (by kernel_rfl) (fun _ _ _ h => h) (Or.inl ⟨by rfl, ?hyT195⟩) (by assumption) ?rstT195
        case hyT195 => (intro w hSw; (try dsimp only at hSw); go_simp; (try with_reducible rfl))
        try simp only [Act.put, List.setIfInBounds_toArray, List.set_cons_zero, List.set_cons_succ]
        refine takeD (i := 8) (d := some 38) (v := ?vT196) rfl rfl (by kernel_rfl) (by kernel_rfl) (by kernel_rfl) (fun _ _ _ h => h) (Or.inl ⟨by rfl, ?hyT196⟩) (by assumption) ?rstT196
        case hyT196 => (intro w hSw; (try dsimp only at hSw); go_simp; (try with_reducible rfl))
        try simp only [Act.put, List.setIfInBounds_toArray, List.set_cons_zero, List.set_cons_succ]
        refine takeD (i := 9) (d := some 39) (v := ?vT197) rfl rfl (by kernel_rfl) (by kernel_rfl) (by kernel_rfl) (fun _ _ _ h => h) (Or.inl ⟨by rfl, ?hyT197⟩) (by assumption) ?rstT197
        case hyT197 => (intro w hSw; (try dsimp only at hSw); go_simp; (try with_reducible rfl))
        try simp only [Act.put, List.setIfInBounds_toArray, List.set_cons_zero, List.set_cons_succ]
        refine takeD (i := 10) (d := some 40) (v := ?vT198) rfl rfl (by kernel_rfl) (by kernel_rfl) (by kernel_rfl) (fun _ _ _ h => h) (Or.inl ⟨by rfl, ?hyT198⟩) (by assumption) ?rstT198
        case hyT198 => (intro w hSw; (try dsimp only at hSw); go_simp; (try with_reducible rfl))
        try simp only [Act.put, List.setIfInBounds_toArray, List.set_cons_zero, List.set_cons_succ]
        refine takeD (i := 11) (d := some 41) (v := ?vT199) rfl rfl (by kernel_rfl) (by kernel_rfl) (by kernel_rfl) (fun _ _ _ h => h) (Or.inl ⟨by rfl, ?hyT199⟩) (by assumption) ?rstT199
        case hyT199 => (intro w hSw; (try dsimp only at hSw); go_simp; (try with_reducible rfl))
        try simp only [Act.put, List.setIfInBounds_toArray, List.set_cons_zero, List.set_cons_succ]
        refine takeD (i := 12) (d := some 42) (v := ?vT200) rfl rfl (by kernel_rfl) (by kernel_rfl) (by kernel_rfl) (fun _ _ _ h => h) (Or.inl ⟨by rfl, ?hyT200⟩) (by assumption) ?rstT200
        case hyT200 => (intro w hSw; (try dsimp only at hSw); go_simp; (try with_reducible rfl))
        try simp only [Act.put, List.setIfInBounds_toArray, List.set_cons_zero, List.set_cons_succ]
        refine takeD (i := 13) (d := some 43) (v := ?vT201) rfl rfl (by kernel_rfl) (by kernel_rfl) (by kernel_rfl) (fun _ _ _ h => h) (Or.inl ⟨by rfl, ?hyT201⟩) (by assumption) ?rstT201
        case hyT201 => (intro w hSw; (try dsimp only at hSw); go_simp; (try with_reducible rfl))
        try simp only [Act.put, List.setIfInBounds_toArray, List.set_cons_zero, List.set_cons_succ]
        refine takeD (i := 14) (d := some 44) (v := ?vT202) rfl rfl (by kernel_rfl) (by kernel_rfl) (by kernel_rfl) (fun _ _ _ h => h) (Or.inl ⟨by rfl, ?hyT202⟩) (by assumption) ?rstT202
        case hyT202 => (intro w hSw; (try dsimp only at hSw); go_simp; (try with_reducible rfl))
        try simp only [Act.put, List.setIfInBounds_toArray, List.set_cons_zero, List.set_cons_succ]
        refine takeD (i := 15) (d := some 45) (v := ?vT203) rfl rfl (by kernel_rfl) (by kernel_rfl) (by kernel_rfl) (fun _ _ _ h => h) (Or.inl ⟨by rfl, ?hyT203⟩) (by assumption) ?rstT203
        case hyT203 => (intro w hSw; (try dsimp only at hSw); go_simp; (try with_reducible rfl))
        try simp only [Act.put, List.setIfInBounds_toArray, List.set_cons_zero, List.set_cons_succ]
        refine takeD (i := 16) (d := some 46) (v := ?vT204) rfl rfl (by kernel_rfl) (by kernel_rfl) (by kernel_rfl) (fun _ _ _ h => h) (Or.inl ⟨by rfl, ?hyT204⟩) (by assumption) ?rstT204
        case hyT204 => (intro w hSw; (try dsimp only at hSw); go_simp; (try with_reducible rfl))
        try simp only [Act.put, List.setIfInBounds_toArray, List.set_cons_zero, List.set_cons_succ]
        refine takeD (i := 17) (d := some 47) (v := ?vT205) rfl rfl (by kernel_rfl) (by kernel_rfl) (by kernel_rfl) (fun _ _ _ h => h) (Or.inl ⟨by rfl, ?hyT205⟩) (by assumption) ?rstT205
        case hyT205 => (intro w hSw; (try dsimp only at hSw); go_simp; (try with_reducible rfl))
        try simp only [Act.put, List.setIfInBounds_toArray, List.set_cons_zero, List.set_cons_succ]
        refine takeD (i := 18) (d := some 48) (v := ?vT206) rfl rfl (by kernel_rfl) (by kernel_rfl) (by kernel_rfl) (fun _ _ _ h => h) (Or.inl ⟨by rfl, ?hyT206⟩) (by assumption) ?rstT206
        case hyT206 => (intro w hSw; (try dsimp only at hSw); go_simp; (try with_reducible rfl))
        try simp only [Act.put, List.setIfInBounds_toArray, List.set_cons_zero, List.set_cons_succ]
        refine takeD (i := 19) (d := some 49) (v := ?vT207) rfl rfl (by kernel_rfl) (by kernel_rfl) (by kernel_rfl) (fun _ _ _ h => h) (Or.inl ⟨by rfl, ?hyT207⟩) (by assumption) ?rstT207
        case hyT207 => (intro w hSw; (try dsimp only at hSw); go_simp; (try with_reducible rfl))
        try simp only [Act.put, List.setIfInBounds_toArray, List.set_cons_zero, List.set_cons_succ]
        refine wpAnyH_done (by kernel_rfl) ?_ _
        rw [hV0]
        go_wp2_with fail
        refine wp_region_held_drew (S := (fun W => W.cell? ⟨g1, o1 + i * 3 + 1, none⟩ = some (.slice b1 m1 d1) ∧ W.cell? ⟨g1, o1 + i * 3 + 2, none⟩ = some (.int .i64 (m1 : Int)) ∧ W.cell? ⟨wo.heap.size, 1, none⟩ = some (.slice xa xl xc) ∧ W.cell? ⟨wo.heap.size, 2, none⟩ = some (.int .i64 (xs : Int)))) (by kernel_rfl) ?hS208 (fun hHeld => ?rest208)
        case hS208 => exact HS10.out
        refine takeD (i := 0) (d := some 63) (v := ?vT209) rfl rfl (by kernel_rfl) (by kernel_rfl) (by kernel_rfl) (fun _ _ _ h => h) (Or.inl ⟨by rfl, ?hyT209⟩) (by assumption) ?rstT209
        case hyT209 => (intro w hSw; (try dsimp only at hSw); go_simp; (try with_reducible rfl))
        try simp only [Act.put, List.setIfInBounds_toArray, List.set_cons_zero, List.set_cons_succ]
        refine takeD (i := 1) (d := some 64) (v := ?vT210) rfl rfl (by kernel_rfl) (by kernel_rfl) (by kernel_rfl) (fun _ _ _ h => h) (Or.inl ⟨by rfl, ?hyT210⟩) (by assumption) ?rstT210
        case hyT210 => (intro w hSw; (try dsimp only at hSw); go_simp; (try with_reducible rfl))
        try simp only [Act.put, List.setIfInBounds_toArray, List.set_cons_zero, List.set_cons_succ]
        refine takeD (i := 2) (d := some 65) (v := ?vT211) rfl rfl (by kernel_rfl) (by kernel_rfl) (by kernel_rfl) (fun _ _ _ h => h) (Or.inl ⟨by rfl, ?hyT211⟩) (by assumption) ?rstT211
        case hyT211 => (intro w hSw; (try dsimp only at hSw); go_simp; (try with_reducible rfl))
        try simp only [Act.put, List.setIfInBounds_toArray, List.set_cons_zero, List.set_cons_succ]
        refine takeD (i := 3) (d := some 66) (v := ?vT212) rfl rfl (by kernel_rfl) (by kernel_rfl) (by kernel_rfl) (fun _ _ _ h => h) (Or.inl ⟨by rfl, ?hyT212⟩) (by assumption) ?rstT212
        case hyT212 => (intro w hSw; (try dsimp only at hSw); go_simp; (try with_reducible rfl))
        try simp only [Act.put, List.setIfInBounds_toArray, List.set_cons_zero, List.set_cons_succ]
        refine takeD (i := 4) (d := some 67) (v := ?vT213) rfl rfl (by kernel_rfl) (by kernel_rfl) (by kernel_rfl) (fun _ _ _ h => h) (Or.inl ⟨by rfl, ?hyT213⟩) (by assumption) ?rstT213
        case hyT213 => (intro w hSw; (try dsimp only at hSw); go_simp; (try with_reducible rfl))
        try simp only [Act.put, List.setIfInBounds_toArray, List.set_cons_zero, List.set_cons_succ]
        refine takeD (i := 5) (d := some 68) (v := ?vT214) rfl rfl (by kernel_rfl) (by kernel_rfl) (by kernel_rfl) (fun _ _ _ h => h) (Or.inl ⟨by rfl, ?hyT214⟩) (by assumption) ?rstT214
        case hyT214 => (intro w hSw; (try dsimp only at hSw); go_simp; (try with_reducible rfl))
        try simp only [Act.put, List.setIfInBounds_toArray, List.set_cons_zero, List.set_cons_succ]
        refine takeD (i := 6) (d := some 69) (v := ?vT215) rfl rfl (by kernel_rfl) (by kernel_rfl) (by kernel_rfl) (fun _ _ _ h => h) (Or.inl ⟨by rfl, ?hyT215⟩) (by assumption) ?rstT215
        case hyT215 => (intro w hSw; (try dsimp only at hSw); go_simp; (try with_reducible rfl))
        try simp only [Act.put, List.setIfInBounds_toArray, List.set_cons_zero, List.set_cons_succ]
        refine takeD (i := 7) (d := some 70) (v := ?vT216) rfl rfl (by kernel_rfl) (by kernel_rfl) (by kernel_rfl) (fun _ _ _ h => h) (Or.inl ⟨by rfl, ?hyT216⟩) (by assumption) ?rstT216
        case hyT216 => (intro w hSw; (try dsimp only at hSw); go_simp; (try with_reducible rfl))
        try simp only [Act.put, List.setIfInBounds_toArray, List.set_cons_zero, List.set_cons_succ]
        refine takeD (i := 8) (d := some 71) (v := ?vT217) rfl rfl (by kernel_rfl) (by kernel_rfl) (by kernel_rfl) (fun _ _ _ h => h) (Or.inl ⟨by rfl, ?hyT217⟩) (by assumption) ?rstT217
        case hyT217 => (intro w hSw; (try dsimp only at hSw); go_simp; (try with_reducible rfl))
        try simp only [Act.put, List.setIfInBounds_toArray, List.set_cons_zero, List.set_cons_succ]
        refine takeD (i := 9) (d := some 72) (v := ?vT218) rfl rfl (by kernel_rfl) (by kernel_rfl) (by kernel_rfl) (fun _ _ _ h => h) (Or.inl ⟨by rfl, ?hyT218⟩) (by assumption) ?rstT218
        case hyT218 => (intro w hSw; (try dsimp only at hSw); go_simp; (try with_reducible rfl))
        try simp only [Act.put, List.setIfInBounds_toArray, List.set_cons_zero, List.set_cons_succ]
        refine takeD (i := 10) (d := some 73) (v := ?vT219) rfl rfl (by kernel_rfl) (by kernel_rfl) (by kernel_rfl) (fun _ _ _ h => h) (Or.inl ⟨by rfl, ?hyT219⟩) (by assumption) ?rstT219
        case hyT219 => (intro w hSw; (try dsimp only at hSw); go_simp; (try with_reducible rfl))
        try simp only [Act.put, List.setIfInBounds_toArray, List.set_cons_zero, List.set_cons_succ]
        refine takeD (i := 11) (d := some 74) (v := ?vT220) rfl rfl (by kernel_rfl) (by kernel_rfl) (by kernel_rfl) (fun _ _ _ h => h) (Or.inl ⟨by rfl, ?hyT220⟩) (by assumption) ?rstT220
        case hyT220 => (intro w hSw; (try dsimp only at hSw); go_simp; (try with_reducible rfl))
        try simp only [Act.put, List.setIfInBounds_toArray, List.set_cons_zero, List.set_cons_succ]
        refine takeD (i := 12) (d := some 75) (v := ?vT221) rfl rfl (by kernel_rfl) (by kernel_rfl) (by kernel_rfl) (fun _ _ _ h => h) (Or.inl ⟨by rfl, ?hyT221⟩) (by assumption) ?rstT221
        case hyT221 => (intro w hSw; (try dsimp only at hSw); go_simp; (try with_reducible rfl))
        try simp only [Act.put, List.setIfInBounds_toArray, List.set_cons_zero, List.set_cons_succ]
        refine takeD (i := 13) (d := some 76) (v := ?vT222) rfl rfl (by kernel_rfl) (by kernel_rfl) (by kernel_rfl) (fun _ _ _ h => h) (Or.inl ⟨by rfl, ?hyT222⟩) (by assumption) ?rstT222
        case hyT222 => (intro w hSw; (try dsimp only at hSw); go_simp; (try with_reducible rfl))
        try simp only [Act.put, List.setIfInBounds_toArray, List.set_cons_zero, List.set_cons_succ]
        refine takeD (i := 14) (d := some 77) (v := ?vT223) rfl rfl (by kernel_rfl) (by kernel_rfl) (by kernel_rfl) (fun _ _ _ h => h) (Or.inl ⟨by rfl, ?hyT223⟩) (by assumption) ?rstT223
        case hyT223 => (intro w hSw; (try dsimp only at hSw); go_simp; (try with_reducible rfl))
        try simp only [Act.put, List.setIfInBounds_toArray, List.set_cons_zero, List.set_cons_succ]
        refine takeD (i := 15) (d := some 78) (v := ?vT224) rfl rfl (by kernel_rfl) (by kernel_rfl) (by kernel_rfl) (fun _ _ _ h => h) (Or.inl ⟨by rfl, ?hyT224⟩) (by assumption) ?rstT224
        case hyT224 => (intro w hSw; (try dsimp only at hSw); go_simp; (try with_reducible rfl))
        try simp only [Act.put, List.setIfInBounds_toArray, List.set_cons_zero, List.set_cons_succ]
        refine takeD (i := 16) (d := some 79) (v := ?vT225) rfl rfl (by kernel_rfl) (by kernel_rfl) (by kernel_rfl) (fun _ _ _ h => h) (Or.inl ⟨by rfl, ?hyT225⟩) (by assumption) ?rstT225
        case hyT225 => (intro w hSw; (try dsimp only at hSw); go_simp; (try with_reducible rfl))
        try simp only [Act.put, List.setIfInBounds_toArray, List.set_cons_zero, List.set_cons_succ]
        refine takeD (i := 17) (d := some 80) (v := ?vT226) rfl rfl (by kernel_rfl) (by kernel_rfl) (by kernel_rfl) (fun _ _ _ h => h) (Or.inl ⟨by rfl, ?hyT226⟩) (by assumption) ?rstT226
        case hyT226 => (intro w hSw; (try dsimp only at hSw); go_simp; (try with_reducible rfl))
        try simp only [Act.put, List.setIfInBounds_toArray, List.set_cons_zero, List.set_cons_succ]
        refine takeD (i := 18) (d := some 81) (v := ?vT227) rfl rfl (by kernel_rfl) (by kernel_rfl) (by kernel_rfl) (fun _ _ _ h => h) (Or.inl ⟨by rfl, ?hyT227⟩) (by assumption) ?rstT227
        case hyT227 => (intro w hSw; (try dsimp only at hSw); go_simp; (try with_reducible rfl))
        try simp only [Act.put, List.setIfInBounds_toArray, List.set_cons_zero, List.set_cons_succ]
        refine takeD (i := 19) (d := some 82) (v := ?vT228) rfl rfl (by kernel_rfl) (by kernel_rfl) (by kernel_rfl) (fun _ _ _ h => h) (Or.inl ⟨by rfl, ?hyT228⟩) (by assumption) ?rstT228
        case hyT228 => (intro w hSw; (try dsimp only at hSw); go_simp; (try with_reducible rfl))
        try simp only [Act.put, List.setIfInBounds_toArray, List.set_cons_zero, List.set_cons_succ]
        refine takeD (i := 20) (d := some 83) (v := ?vT229) rfl rfl (by kernel_rfl) (by kernel_rfl) (by kernel_rfl) (fun _ _ _ h => h) (Or.inl ⟨by rfl, ?hyT229⟩) (by assumption) ?rstT229
        case hyT229 => (intro w hSw; (try dsimp only at hSw); go_simp; (try with_reducible rfl))
        try simp only [Act.put, List.setIfInBounds_toArray, List.set_cons_zero, List.set_cons_succ]
        refine takeD (i := 21) (d := some 84) (v := ?vT230) rfl rfl (by kernel_rfl) (by kernel_rfl) (by kernel_rfl) (fun _ _ _ h => h) (Or.inl ⟨by rfl, ?hyT230⟩) (by assumption) ?rstT230
        case hyT230 => (intro w hSw; (try dsimp only at hSw); go_simp; (try with_reducible rfl))
        try simp only [Act.put, List.setIfInBounds_toArray, List.set_cons_zero, List.set_cons_succ]
        refine takeD (i := 22) (d := some 85) (v := ?vT231) rfl rfl (by kernel_rfl) (by kernel_rfl) (by kernel_rfl) (fun _ _ _ h => h) (Or.inl ⟨by rfl, ?hyT231⟩) (by assumption) ?rstT231
        case hyT231 => (intro w hSw; (try dsimp only at hSw); go_simp; (try with_reducible rfl))
        try simp only [Act.put, List.setIfInBounds_toArray, List.set_cons_zero, List.set_cons_succ]
        refine takeD (i := 23) (d := some 86) (v := ?vT232) rfl rfl (by kernel_rfl) (by kernel_rfl) (by kernel_rfl) (fun _ _ _ h => h) (Or.inl ⟨by rfl, ?hyT232⟩) (by assumption) ?rstT232
        case hyT232 => (intro w hSw; (try dsimp only at hSw); go_simp; (try with_reducible rfl))
        try simp only [Act.put, List.setIfInBounds_toArray, List.set_cons_zero, List.set_cons_succ]
        refine takeD (i := 24) (d := some 87) (v := ?vT233) rfl rfl (by kernel_rfl) (by kernel_rfl) (by kernel_rfl) (fun _ _ _ h => h) (Or.inl ⟨by rfl, ?hyT233⟩) (by assumption) ?rstT233
        case hyT233 => (intro w hSw; (try dsimp only at hSw); go_simp; (try with_reducible rfl))
        try simp only [Act.put, List.setIfInBounds_toArray, List.set_cons_zero, List.set_cons_succ]
        refine wpAnyH_ready (rs := [25]) (by kernel_rfl) (by simp) ?_
        refine AllReadyH.cons rfl (fun K hK => ?_) AllReadyH.nil
        go_simp
        refine (HSM.out _ (by first | exact H6.out.1 | exact H6.out.1.drew | exact H6.out.1.drew.drew | exact H6.out.1.drew.drew.drew)).mono ?_
        rintro e w7 ⟨rfl, hw7⟩
        rw [hw7]
        clear hw7 w7
        clear hHeld
        refine hK.out _ _ ?hS234 (fun hHeld => ?rest234)
        case hS234 => exact HS10.out
        clear hK K
        try simp only [Act.put, List.setIfInBounds_toArray, List.set_cons_zero, List.set_cons_succ]
        refine takeD (i := 26) (d := some 89) (v := ?vT235) rfl rfl (by kernel_rfl) (by kernel_rfl) (by kernel_rfl) (fun _ _ _ h => h) (Or.inl ⟨by rfl, ?hyT235⟩) (by assumption) ?rstT235
        case hyT235 => (intro w hSw; (try dsimp only at hSw); go_simp; (try with_reducible rfl))
        try simp only [Act.put, List.setIfInBounds_toArray, List.set_cons_zero, List.set_cons_succ]
        refine takeD (i := 27) (d := some 90) (v := ?vT236) rfl rfl (by kernel_rfl) (by kernel_rfl) (by kernel_rfl) (fun _ _ _ h => h) (Or.inl ⟨by rfl, ?hyT236⟩) (by assumption) ?rstT236
        case hyT236 => (intro w hSw; (try dsimp only at hSw); go_simp; (try with_reducible rfl))
        try simp only [Act.put, List.setIfInBounds_toArray, List.set_cons_zero, List.set_cons_succ]
        refine takeD (i := 28) (d := some 91) (v := ?vT237) rfl rfl (by kernel_rfl) (by kernel_rfl) (by kernel_rfl) (fun _ _ _ h => h) (Or.inl ⟨by rfl, ?hyT237⟩) (by assumption) ?rstT237
        case hyT237 => (intro w hSw; (try dsimp only at hSw); go_simp; (try with_reducible rfl))
        try simp only [Act.put, List.setIfInBounds_toArray, List.set_cons_zero, List.set_cons_succ]
        refine takeD (i := 29) (d := some 92) (v := ?vT238) rfl rfl (by kernel_rfl) (by kernel_rfl) (by kernel_rfl) (fun _ _ _ h => h) (Or.inl ⟨by rfl, ?hyT238⟩) (by assumption) ?rstT238
        case hyT238 => (intro w hSw; (try dsimp only at hSw); go_simp; (try with_reducible rfl))
        try simp only [Act.put, List.setIfInBounds_toArray, List.set_cons_zero, List.set_cons_succ]
        refine takeD (i := 30) (d := some 93) (v := ?vT239) rfl rfl (by kernel_rfl) (by kernel_rfl) (by kernel_rfl) (fun _ _ _ h => h) (Or.inl ⟨by rfl, ?hyT239⟩) (by assumption) ?rstT239
        case hyT239 => (intro w hSw; (try dsimp only at hSw); go_simp; (try with_reducible rfl))
        try simp only [Act.put, List.setIfInBounds_toArray, List.set_cons_zero, List.set_cons_succ]
        refine takeD (i := 31) (d := some 94) (v := ?vT240) rfl rfl (by kernel_rfl) (by kernel_rfl) (by kernel_rfl) (fun _ _ _ h => h) (Or.inl ⟨by rfl, ?hyT240⟩) (by assumption) ?rstT240
        case hyT240 => (intro w hSw; (try dsimp only at hSw); go_simp; (try with_reducible rfl))
        try simp only [Act.put, List.setIfInBounds_toArray, List.set_cons_zero, List.set_cons_succ]
        refine takeD (i := 32) (d := some 95) (v := ?vT241) rfl rfl (by kernel_rfl) (by kernel_rfl) (by kernel_rfl) (fun _ _ _ h => h) (Or.inl ⟨by rfl, ?hyT241⟩) (by assumption) ?rstT241
        case hyT241 => (intro w hSw; (try dsimp only at hSw); go_simp; (try with_reducible rfl))
        try simp only [Act.put, List.setIfInBounds_toArray, List.set_cons_zero, List.set_cons_succ]
        refine takeD (i := 33) (d := some 96) (v := ?vT242) rfl rfl (by kernel_rfl) (by kernel_rfl) (by kernel_rfl) (fun _ _ _ h => h) (Or.inl ⟨by rfl, ?hyT242⟩) (by assumption) ?rstT242
        case hyT242 => (intro w hSw; (try dsimp only at hSw); go_simp; (try with_reducible rfl))
        try simp only [Act.put, List.setIfInBounds_toArray, List.set_cons_zero, List.set_cons_succ]
        refine takeD (i := 34) (d := some 97) (v := ?vT243) rfl rfl (by kernel_rfl) (by kernel_rfl) (by kernel_rfl) (fun _ _ _ h => h) (Or.inl ⟨by rfl, ?hyT243⟩) (by assumption) ?rstT243
        case hyT243 => (intro w hSw; (try dsimp only at hSw); go_simp; (try with_reducible rfl))
        try simp only [Act.put, List.setIfInBounds_toArray, List.set_cons_zero, List.set_cons_succ]
        refine takeD (i := 35) (d := some 98) (v := ?vT244) rfl rfl (by kernel_rfl) (by kernel_rfl) (by kernel_rfl) (fun _ _ _ h => h) (Or.inl ⟨by rfl, ?hyT244⟩) (by assumption) ?rstT244
        case hyT244 => (intro w hSw; (try dsimp only at hSw); go_simp; (try with_reducible rfl))
        try simp only [Act.put, List.setIfInBounds_toArray, List.set_cons_zero, List.set_cons_succ]
        refine takeD (i := 36) (d := some 99) (v := ?vT245) rfl rfl (by kernel_rfl) (by kernel_rfl) (by kernel_rfl) (fun _ _ _ h => h) (Or.inl ⟨by rfl, ?hyT245⟩) (by assumption) ?rstT245
        case hyT245 => (intro w hSw; (try dsimp only at hSw); go_simp; (try with_reducible rfl))
        try simp only [Act.put, List.setIfInBounds_toArray, List.set_cons_zero, List.set_cons_succ]
        refine wpAnyH_done (by kernel_rfl) ?_ _
        go_wp2_with fail
        refine wp_region_held_drew (S := (fun W => W.cell? ⟨g1, o1 + i * 3 + 1, none⟩ = some (.slice b1 m1 d1) ∧ W.cell? ⟨wo.heap.size, 0, none⟩ = some (.string s))) (by kernel_rfl) ?hS246 (fun hHeld => ?rest246)
        case hS246 => exact HS14.out
        refine takeD (i := 0) (d := some 113) (v := ?vT247) rfl rfl (by kernel_rfl) (by kernel_rfl) (by kernel_rfl) (fun _ _ _ h => h) (Or.inl ⟨by rfl, ?hyT247⟩) (by assumption) ?rstT247
        case hyT247 => (intro w hSw; (try dsimp only at hSw); go_simp; (try with_reducible rfl))
        try simp only [Act.put, List.setIfInBounds_toArray, List.set_cons_zero, List.set_cons_succ]
        refine takeD (i := 1) (d := some 114) (v := ?vT248) rfl rfl (by kernel_rfl) (by kernel_rfl) (by kernel_rfl) (fun _ _ _ h => h) (Or.inl ⟨by rfl, ?hyT248⟩) (by assumption) ?rstT248
        case hyT248 => (intro w hSw; (try dsimp only at hSw); go_simp; (try with_reducible rfl))
        try simp only [Act.put, List.setIfInBounds_toArray, List.set_cons_zero, List.set_cons_succ]
        refine takeD (i := 2) (d := some 115) (v := ?vT249) rfl rfl (by kernel_rfl) (by kernel_rfl) (by kernel_rfl) (fun _ _ _ h => h) (Or.inl ⟨by rfl, ?hyT249⟩) (by assumption) ?rstT249
        case hyT249 => (intro w hSw; (try dsimp only at hSw); go_simp; (try with_reducible rfl))
        try simp only [Act.put, List.setIfInBounds_toArray, List.set_cons_zero, List.set_cons_succ]
        refine takeD (i := 3) (d := some 116) (v := ?vT250) rfl rfl (by kernel_rfl) (by kernel_rfl) (by kernel_rfl) (fun _ _ _ h => h) (Or.inl ⟨by rfl, ?hyT250⟩) (by assumption) ?rstT250
        case hyT250 => (intro w hSw; (try dsimp only at hSw); go_simp; (try with_reducible rfl))
        try simp only [Act.put, List.setIfInBounds_toArray, List.set_cons_zero, List.set_cons_succ]
        refine takeD (i := 4) (d := some 117) (v := ?vT251) rfl rfl (by kernel_rfl) (by kernel_rfl) (by kernel_rfl) (fun _ _ _ h => h) (Or.inl ⟨by rfl, ?hyT251⟩) (by assumption) ?rstT251
        case hyT251 => (intro w hSw; (try dsimp only at hSw); go_simp; (try with_reducible rfl))
        try simp only [Act.put, List.setIfInBounds_toArray, List.set_cons_zero, List.set_cons_succ]
        refine takeD (i := 5) (d := some 118) (v := ?vT252) rfl rfl (by kernel_rfl) (by kernel_rfl) (by kernel_rfl) (fun _ _ _ h => h) (Or.inl ⟨by rfl, ?hyT252⟩) (by assumption) ?rstT252
        case hyT252 => (intro w hSw; (try dsimp only at hSw); go_simp; (try with_reducible rfl))
        try simp only [Act.put, List.setIfInBounds_toArray, List.set_cons_zero, List.set_cons_succ]
        refine takeD (i := 6) (d := some 119) (v := ?vT253) rfl rfl (by kernel_rfl) (by kernel_rfl) (by kernel_rfl) (fun _ _ _ h => h) (Or.inl ⟨by rfl, ?hyT253⟩) (by assumption) ?rstT253
        case hyT253 => (intro w hSw; (try dsimp only at hSw); go_simp; (try with_reducible rfl))
        try simp only [Act.put, List.setIfInBounds_toArray, List.set_cons_zero, List.set_cons_succ]
        refine takeD (i := 7) (d := some 120) (v := ?vT254) rfl rfl (by kernel_rfl) (by kernel_rfl) (by kernel_rfl) (fun _ _ _ h => h) (Or.inl ⟨by rfl, ?hyT254⟩) (by assumption) ?rstT254
        case hyT254 => (intro w hSw; (try dsimp only at hSw); go_simp; (try with_reducible rfl))
        try simp only [Act.put, List.setIfInBounds_toArray, List.set_cons_zero, List.set_cons_succ]
        refine takeD (i := 9) (d := some 122) (v := ?vT255) rfl rfl (by kernel_rfl) (by kernel_rfl) (by kernel_rfl) (fun _ _ _ h => h) (Or.inl ⟨by rfl, ?hyT255⟩) (by assumption) ?rstT255
        case hyT255 => (intro w hSw; (try dsimp only at hSw); go_simp; (try with_reducible rfl))
        try simp only [Act.put, List.setIfInBounds_toArray, List.set_cons_zero, List.set_cons_succ]
        refine wpAnyH_ready (rs := [8]) (by kernel_rfl) (by simp) ?_
        refine AllReadyH.cons rfl (fun K hK => ?_) AllReadyH.nil
        go_simp
        refine (copied_any (HRF.out _ (by first | exact H6.out.1 | exact H6.out.1.drew | exact H6.out.1.drew.drew | exact H6.out.1.drew.drew.drew)) HM1.out.2.2.2).mono ?_
        rintro e w3 ⟨a9, e9, rfl, ho9, hb9⟩
        have hb3 : Below V6.heap.size V6 w3 := by
          refine Below.trans ?_ hb9
          first | exact (Below.refl _ _) | exact (Below.refl _ _).drew | exact (Below.refl _ _).drew.drew | exact (Below.refl _ _).drew.drew.drew
        have H3 : Hid (OwnF byU 1 5 w3 V6.heap.size (.slice a9 m1 e9) f.bs ∧ Below V6.heap.size V6 w3 ∧ Below wo.heap.size wo w3 ∧ w3.cell? ⟨wo.heap.size, 0, none⟩ = some (.string s)) := ⟨ho9, hb3, H6.out.1.trans (hb3.mono (Nat.le_of_lt H6.out.2)), (hb3.cell (p := ⟨wo.heap.size, 0, none⟩) H6.out.2).trans HS14.out.2⟩
        clear ho9 hb9 hb3
        clear hHeld
        refine hK.out _ _ ?hS256 (fun hHeld => ?rest256)
        case hS256 => exact ⟨(H3.out.2.1.cell (p := ⟨g1, o1 + i * 3 + 1, none⟩) (Nat.lt_trans HM1.out.2.1 H6.out.2)).trans HS14.out.1, H3.out.2.2.2⟩
        clear hK K
        try simp only [Act.put, List.setIfInBounds_toArray, List.set_cons_zero, List.set_cons_succ]
        refine takeD (i := 10) (d := some 123) (v := ?vT257) rfl rfl (by kernel_rfl) (by kernel_rfl) (by kernel_rfl) (fun _ _ _ h => h) (Or.inl ⟨by rfl, ?hyT257⟩) (by assumption) ?rstT257
        case hyT257 => (intro w hSw; (try dsimp only at hSw); go_simp; (try with_reducible rfl))
        try simp only [Act.put, List.setIfInBounds_toArray, List.set_cons_zero, List.set_cons_succ]
        obtain ⟨g8, cap8, w8, hr8, ho8, hb8, hk8, hs8, hat8⟩ := appendF_wide kindPg layPg (hS.out.own.below H3.out.2.2.1) (Nat.le_trans hS.out.below.size H3.out.2.2.1.size) (⟨f.nm, a9, e9, f.bs, m1⟩ : Pg) #[.string s, .slice a9 m1 e9, .int .i64 (m1 : Int)] (by show [Value.string ⟨f.nm.toArray⟩, .slice a9 f.bs.length e9, .int .i64 (m1 : Int)] = _; rw [HSG.out, HM1.out.1]) 95 (by have := HZL.out; omega) (by have := HZL.out; omega) 60
        have hC8 := chg_keeps hb8 hk8
        have hne8 : ∀ (y : Pg) (b : Nat), OwnF byU 1 5 w3 b y.sl y.bs → ∀ q, y.sl.ownBlock = some q → ¬ vo.ownBlock = some q := fun y b hy q hq e => by
          obtain ⟨c3, h3⟩ := own_block (hy.mono (Nat.zero_le _)) hq
          obtain ⟨c4, h4⟩ := own_blockP (hS.out.own.below H3.out.2.2.1) e
          rw [h3] at h4
          simp at h4
        have hvw : ∀ q, vo.ownBlock = some q → q < wo.heap.size := fun q e => hS.out.own.lt e
        have hnew : OwnF byU 1 5 w3 w.heap.size (Pg.sl ⟨f.nm, a9, e9, f.bs, m1⟩) f.bs := by
          have := H3.out.1.mono (Nat.le_trans hS.out.below.size (Nat.le_of_lt H6.out.2))
          show OwnF byU 1 5 w3 w.heap.size (.slice a9 f.bs.length e9) f.bs
          rw [HM1.out.1]
          exact this
        have HS : Hid (LfI w w8 (i + 1) (.slice (some ⟨g8, 0, none⟩) (zs.length + 1) cap8) fs (zs ++ [⟨f.nm, a9, e9, f.bs, m1⟩])) := by
          refine ⟨ho8, fun z hz => ?_, (hS.out.below.trans (H3.out.2.2.1.mono hS.out.below.size)).trans hb8, by rw [List.map_append, hS.out.st, List.take_add_one, HFI.out.1]; exact congrArg (fun z => fs.take i ++ [z]) HFI.out.2.symm⟩
          rcases List.mem_append.1 hz with hz | hz
          · have h1 := (hS.out.each z hz).below H3.out.2.2.1
            exact h1.chg hC8 (hne8 z _ h1)
          · simp at hz
            subst hz
            exact hnew.chg hC8 (hne8 _ _ hnew)
        have HK8 : Hid (w8.cell? ⟨g1, o1 + i * 3 + 1, none⟩ = some (.slice b1 m1 d1) ∧ w8.cell? ⟨wo.heap.size, 0, none⟩ = some (.string s)) := ⟨(hC8.cell (p := ⟨g1, o1 + i * 3 + 1, none⟩) (Nat.lt_of_lt_of_le HM1.out.2.1 H3.out.2.2.1.size) (fun e => ?hk1)).trans ((H3.out.2.1.cell (p := ⟨g1, o1 + i * 3 + 1, none⟩) (Nat.lt_trans HM1.out.2.1 H6.out.2)).trans HS14.out.1), (hC8.cell (p := ⟨wo.heap.size, 0, none⟩) (Nat.lt_of_lt_of_le H6.out.2 H3.out.2.1.size) (fun e => by have := hvw _ e; simp only at this; omega)).trans H3.out.2.2.2⟩
        case hk1 => exact absurd (hS.out.own.ge e) (by have := HM1.out.2.2.1; simp only; omega)
        clear hC8 hne8 hvw hnew ho8 hb8 hk8 hs8 hat8
        refine wpAnyH_ready (rs := [11]) (by kernel_rfl) (by simp) ?_
        refine AllReadyH.cons rfl (fun K hK => ?_) AllReadyH.nil
        go_simp
        clear hHeld
        refine hK.out _ _ ?hS258 (fun hHeld => ?rest258)
        case hS258 => exact ⟨(H3.out.2.1.cell (p := ⟨g1, o1 + i * 3 + 1, none⟩) (Nat.lt_trans HM1.out.2.1 H6.out.2)).trans HS14.out.1 |> fun h9 => ((((Below.refl w3.heap.size w3).alloc (Nat.le_refl _) _).cell (p := ⟨g1, o1 + i * 3 + 1, none⟩) (Nat.lt_of_lt_of_le HM1.out.2.1 H3.out.2.2.1.size)).trans h9), (((Below.refl w3.heap.size w3).alloc (Nat.le_refl _) _).cell (p := ⟨wo.heap.size, 0, none⟩) (Nat.lt_of_lt_of_le H6.out.2 H3.out.2.1.size)).trans H3.out.2.2.2⟩
        clear hK K
        try simp only [Act.put, List.setIfInBounds_toArray, List.set_cons_zero, List.set_cons_succ]
        refine wpAnyH_ready (rs := [12]) (by kernel_rfl) (by simp) ?_
        refine AllReadyH.cons rfl (fun K hK => ?_) AllReadyH.nil
        rw [if_pos (by rfl)]
        refine wp_append_hr (.tmp 113) (.tmp 124) 60 (some 125) rfl rfl _ _ rfl rfl hr8 ?_
        clear hHeld
        refine hK.out _ _ ?hS259 (fun hHeld => ?rest259)
        case hS259 => exact HK8.out
        clear hK K
        try simp only [Act.put, List.setIfInBounds_toArray, List.set_cons_zero, List.set_cons_succ]
        refine takeD (i := 13) (d := some 7) (v := ?vT260) rfl rfl (by kernel_rfl) (by kernel_rfl) (by kernel_rfl) (fun _ _ _ h => h) (Or.inl ⟨by rfl, ?hyT260⟩) (by assumption) ?rstT260
        case hyT260 => (intro w hSw; (try dsimp only at hSw); go_simp; (try with_reducible rfl))
        try simp only [Act.put, List.setIfInBounds_toArray, List.set_cons_zero, List.set_cons_succ]
        refine wpAnyH_done (by kernel_rfl) ?_ _
        go_wp2_with fail
        go_roundw
        case rel => exact ⟨i + 1, by omega, by first | rfl | go_num, _, HS.out⟩
        case measure => simp [RowKit.intOf]; omega
    · obtain rfl : n = i := by omega
      have hlt2 : ¬ ((n : Int) < (n : Int)) := by omega
      obtain ⟨w1, hw1⟩ : ∃ w1, w1 = wo := ⟨_, rfl⟩
      subst hw1
      go_wp2_with fail
      go_loopw [12] (fun vi wr => ∃ i2 : Nat, i2 ≤ pn ∧ vi = .int .i64 (i2 : Int) ∧ Hid (Below w1.heap.size w1 wr)) (fun vi _ => pn - (RowKit.intOf vi).toNat)
      case atStart => exact ⟨0, Nat.zero_le _, rfl, Below.refl _ _⟩
      case round =>
        obtain ⟨i2, hi2, rfl, hb⟩ := hrel
        obtain ⟨wo2, hwo2⟩ : ∃ wo2, wo2 = wr := ⟨_, rfl⟩
        subst hwo2
        have hbw0 := hS.out.below.trans (hb.out.mono hS.out.below.size)
        have hBk := HX.out.1.below hbw0
        have d2 := box1 hBk.box
        rw [HX.out.2.1, HN.out] at d2
        by_cases hlt : i2 < pn
        · have hlt3 : (i2 : Int) < (pn : Int) := by omega
          have gi : IntKind.i64.wrap ((i2 : Int) + 1) = ((i2 + 1 : Nat) : Int) := by rw [IntWalk.i64_in _ (by omega)]; omega
          have hrow := HX.out.2.2.1.below hbw0
          rw [HN.out] at hrow
          obtain ⟨g, off, x, hoa, hgl, hxi, hcell⟩ := hrow.at i2 hlt
          subst hoa
          have q0 := hcell 0 _ rfl
          have q1 := hcell 1 _ rfl
          have q2 := hcell 2 _ rfl
          rw [Nat.add_zero] at q0
          have hxm := List.mem_of_getElem? hxi
          have hth := left_there HR.out.2.1 HR.out.2.2.2.1 hxm (HR.out.2.2.2.2 x hxm).1
          obtain ⟨V5, V6, hV5, hV6, hb6, hh6, hh5⟩ := pbox wo2 x
          obtain ⟨y0, y1, y2⟩ := box3 hh5
          have e0 := Lib.frozen_of_heap hh5 0
          have e1 := Lib.frozen_of_heap hh5 1
          have e2 := Lib.frozen_of_heap hh5 2
          obtain ⟨z0, z1, z2⟩ := box3 hh6
          have HZ0 : Hid (V6.cell? ⟨wo2.heap.size, 0, none⟩ = some (.string ⟨x.nm.toArray⟩)) := z0
          have H6 : Hid (wo2.heap.size < V6.heap.size ∧ Below wo2.heap.size wo2 V6 ∧ Below w.heap.size w V6) := ⟨(Array.getElem?_eq_some_iff.1 hh6).1, hb6, hbw0.trans (hb6.mono hbw0.size)⟩
          have HW1 : Hid (Below w1.heap.size w1 wo2) := hb.out
          clear hcell hgl hrow hxi hxm hbw0 hBk hb6 hh6 hh5
          by_cases c1 : 0 < x.syn
          · have t1 : (0 : Int) < (x.syn : Int) := by omega
            have t1d : decide (0 < x.syn) = true := by simp; omega
            have HTH : Hid (fs.any (fun f => decide (f.nm = x.nm)) = true) := by show _ = _; rw [hth]; simp; omega
            clear hth
            go_wp2_with fail
            go_loopw [15, 16] (fun vt vj wi => ∃ j : Nat, j ≤ n ∧ vj = .int .i64 (j : Int) ∧ ∃ tb : Bool, vt = .bool tb ∧ Hid ((fs.take j).any (fun f => decide (f.nm = x.nm)) = tb) ∧ Hid (Below V6.heap.size V6 wi)) (fun _ vj _ => n - (RowKit.intOf vj).toNat)
            case atStart => exact ⟨0, Nat.zero_le _, rfl, false, rfl, by show _ = _; simp, by first | exact Below.refl _ _ | exact (Below.refl _ _).drew⟩
            case round =>
              obtain ⟨j, hj, rfl, tb, rfl, hA, hB⟩ := hrel
              obtain ⟨wi, hwi⟩ : ∃ wi, wi = wr := ⟨_, rfl⟩
              subst hwi
              by_cases hlt : j < n
              · have hlt2 : (j : Int) < (n : Int) := by omega
                have gi : IntKind.i64.wrap ((j : Int) + 1) = ((j + 1 : Nat) : Int) := by rw [IntWalk.i64_in _ (by omega)]; omega
                have hbw := H6.out.2.2.trans (hB.out.mono H6.out.2.2.size)
                obtain ⟨g1, o1, v1, ha1, _, hv1, hc1⟩ := (HH.out.1.below hbw).at j hlt
                subst ha1
                obtain ⟨f, hf⟩ : ∃ f, fs[j]? = some f := ⟨_, List.getElem?_eq_getElem (by have := HH.out.2.1; have := HH.out.2.2.2.2; omega)⟩
                have k1 := HH.out.2.2.1 j v1 f hv1 hf
                have p0 := hc1 0 _ rfl
                rw [Nat.add_zero, k1.nm] at p0
                have b0 := (hB.out.cell (p := ⟨wo2.heap.size, 0, none⟩) H6.out.1).trans HZ0.out
                have HBI : Hid (Below V6.heap.size V6 wi) := hB.out
                cases tb with
                | true =>
                  have HAN : Hid ((fs.take (j + 1)).any (fun f => decide (f.nm = x.nm)) = true) := by show _ = _; rw [List.take_add_one, hf, List.any_append, hA.out]; rfl
                  clear hv1 hc1 hf k1 hA hB hbw
                  generalize (⟨f.nm.toArray⟩ : ByteArray) = s at *
                  generalize (⟨x.nm.toArray⟩ : ByteArray) = sx at *
                  have HSI : Hid (((fun W => W.cell? ⟨g1, o1 + j * 3, none⟩ = some (.string s) ∧ W.cell? ⟨wo2.heap.size, 0, none⟩ = some (.string sx))) wi) := ⟨p0, b0⟩
                  go_wp2_with fail
                  refine wp_region_held_drew (S := (fun W => W.cell? ⟨g1, o1 + j * 3, none⟩ = some (.string s) ∧ W.cell? ⟨wo2.heap.size, 0, none⟩ = some (.string sx))) (by kernel_rfl) ?hS1 (fun hHeld => ?rest1)
                  case hS1 => exact HSI.out
                  refine takeD (i := 0) (d := some 161) (v := ?vT2) rfl rfl (by kernel_rfl) (by kernel_rfl) (by kernel_rfl) (fun _ _ _ h => h) (Or.inl ⟨by rfl, ?hyT2⟩) (by assumption) ?rstT2
                  case hyT2 => (intro w hSw; (try dsimp only at hSw); go_simp; (try with_reducible rfl))
                  try simp only [Act.put, List.setIfInBounds_toArray, List.set_cons_zero, List.set_cons_succ]
                  refine takeD (i := 1) (d := some 162) (v := ?vT3) rfl rfl (by kernel_rfl) (by kernel_rfl) (by kernel_rfl) (fun _ _ _ h => h) (Or.inl ⟨by rfl, ?hyT3⟩) (by assumption) ?rstT3
                  case hyT3 => (intro w hSw; (try dsimp only at hSw); go_simp; (try with_reducible rfl))
                  try simp only [Act.put, List.setIfInBounds_toArray, List.set_cons_zero, List.set_cons_succ]
                  refine takeD (i := 2) (d := some 163) (v := undef) rfl rfl (by kernel_rfl) (by kernel_rfl) (by kernel_rfl) (fun _ _ _ h => h) (Or.inr ⟨by rfl, rfl⟩) (by assumption) ?_
                  try simp only [Act.put, List.setIfInBounds_toArray, List.set_cons_zero, List.set_cons_succ]
                  refine takeD (i := 3) (d := some 164) (v := undef) rfl rfl (by kernel_rfl) (by kernel_rfl) (by kernel_rfl) (fun _ _ _ h => h) (Or.inr ⟨by rfl, rfl⟩) (by assumption) ?_
                  try simp only [Act.put, List.setIfInBounds_toArray, List.set_cons_zero, List.set_cons_succ]
                  refine takeD (i := 4) (d := some 165) (v := undef) rfl rfl (by kernel_rfl) (by kernel_rfl) (by kernel_rfl) (fun _ _ _ h => h) (Or.inr ⟨by rfl, rfl⟩) (by assumption) ?_
                  try simp only [Act.put, List.setIfInBounds_toArray, List.set_cons_zero, List.set_cons_succ]
                  refine takeD (i := 5) (d := some 166) (v := undef) rfl rfl (by kernel_rfl) (by kernel_rfl) (by kernel_rfl) (fun _ _ _ h => h) (Or.inr ⟨by rfl, rfl⟩) (by assumption) ?_
                  try simp only [Act.put, List.setIfInBounds_toArray, List.set_cons_zero, List.set_cons_succ]
                  refine takeD (i := 6) (d := some 167) (v := undef) rfl rfl (by kernel_rfl) (by kernel_rfl) (by kernel_rfl) (fun _ _ _ h => h) (Or.inr ⟨by rfl, rfl⟩) (by assumption) ?_
                  try simp only [Act.put, List.setIfInBounds_toArray, List.set_cons_zero, List.set_cons_succ]
                  refine takeD (i := 7) (d := some 168) (v := undef) rfl rfl (by kernel_rfl) (by kernel_rfl) (by kernel_rfl) (fun _ _ _ h => h) (Or.inr ⟨by rfl, rfl⟩) (by assumption) ?_
                  try simp only [Act.put, List.setIfInBounds_toArray, List.set_cons_zero, List.set_cons_succ]
                  refine takeD (i := 8) (d := some 169) (v := undef) rfl rfl (by kernel_rfl) (by kernel_rfl) (by kernel_rfl) (fun _ _ _ h => h) (Or.inr ⟨by rfl, rfl⟩) (by assumption) ?_
                  try simp only [Act.put, List.setIfInBounds_toArray, List.set_cons_zero, List.set_cons_succ]
                  refine takeD (i := 9) (d := some 170) (v := undef) rfl rfl (by kernel_rfl) (by kernel_rfl) (by kernel_rfl) (fun _ _ _ h => h) (Or.inr ⟨by rfl, rfl⟩) (by assumption) ?_
                  try simp only [Act.put, List.setIfInBounds_toArray, List.set_cons_zero, List.set_cons_succ]
                  refine takeD (i := 10) (d := some 171) (v := ?vT4) rfl rfl (by kernel_rfl) (by kernel_rfl) (by kernel_rfl) (fun _ _ _ h => h) (Or.inl ⟨by rfl, ?hyT4⟩) (by assumption) ?rstT4
                  case hyT4 => (intro w hSw; (try dsimp only at hSw); go_simp; (try with_reducible rfl))
                  try simp only [Act.put, List.setIfInBounds_toArray, List.set_cons_zero, List.set_cons_succ]
                  refine takeD (i := 11) (d := some 15) (v := ?vT5) rfl rfl (by kernel_rfl) (by kernel_rfl) (by kernel_rfl) (fun _ _ _ h => h) (Or.inl ⟨by rfl, ?hyT5⟩) (by assumption) ?rstT5
                  case hyT5 => (intro w hSw; (try dsimp only at hSw); go_simp; (try with_reducible rfl))
                  try simp only [Act.put, List.setIfInBounds_toArray, List.set_cons_zero, List.set_cons_succ]
                  refine wpAnyH_done (by kernel_rfl) ?_ _
                  go_wp2_with fail
                  go_roundw
                  case rel => exact ⟨j + 1, by omega, by first | rfl | go_num, true, rfl, HAN.out, HBI.out.drew⟩
                  case measure => simp [RowKit.intOf]; omega
                | false =>
                  by_cases he : f.nm = x.nm
                  · have HAN : Hid ((fs.take (j + 1)).any (fun f => decide (f.nm = x.nm)) = true) := by show _ = _; rw [List.take_add_one, hf, List.any_append, hA.out]; simp [he]
                    rw [he] at p0
                    have q1 := name_eq x.nm
                    clear hv1 hc1 hf k1 hA hB hbw he
                    generalize (⟨x.nm.toArray⟩ : ByteArray) = sx at *
                    have HSI : Hid (((fun W => W.cell? ⟨g1, o1 + j * 3, none⟩ = some (.string sx) ∧ W.cell? ⟨wo2.heap.size, 0, none⟩ = some (.string sx))) wi) := ⟨p0, b0⟩
                    go_wp2_with fail
                    refine wp_region_held_drew (S := (fun W => W.cell? ⟨g1, o1 + j * 3, none⟩ = some (.string sx) ∧ W.cell? ⟨wo2.heap.size, 0, none⟩ = some (.string sx))) (by kernel_rfl) ?hS6 (fun hHeld => ?rest6)
                    case hS6 => exact HSI.out
                    refine takeD (i := 0) (d := some 161) (v := ?vT7) rfl rfl (by kernel_rfl) (by kernel_rfl) (by kernel_rfl) (fun _ _ _ h => h) (Or.inl ⟨by rfl, ?hyT7⟩) (by assumption) ?rstT7
                    case hyT7 => (intro w hSw; (try dsimp only at hSw); go_simp; (try with_reducible rfl))
                    try simp only [Act.put, List.setIfInBounds_toArray, List.set_cons_zero, List.set_cons_succ]
                    refine takeD (i := 1) (d := some 162) (v := ?vT8) rfl rfl (by kernel_rfl) (by kernel_rfl) (by kernel_rfl) (fun _ _ _ h => h) (Or.inl ⟨by rfl, ?hyT8⟩) (by assumption) ?rstT8
                    case hyT8 => (intro w hSw; (try dsimp only at hSw); go_simp; (try with_reducible rfl))
                    try simp only [Act.put, List.setIfInBounds_toArray, List.set_cons_zero, List.set_cons_succ]
                    refine takeD (i := 2) (d := some 163) (v := ?vT9) rfl rfl (by kernel_rfl) (by kernel_rfl) (by kernel_rfl) (fun _ _ _ h => h) (Or.inl ⟨by rfl, ?hyT9⟩) (by assumption) ?rstT9
                    case hyT9 => (intro w hSw; (try dsimp only at hSw); go_simp; (try with_reducible rfl))
                    try simp only [Act.put, List.setIfInBounds_toArray, List.set_cons_zero, List.set_cons_succ]
                    refine takeD (i := 3) (d := some 164) (v := ?vT10) rfl rfl (by kernel_rfl) (by kernel_rfl) (by kernel_rfl) (fun _ _ _ h => h) (Or.inl ⟨by rfl, ?hyT10⟩) (by assumption) ?rstT10
                    case hyT10 => (intro w hSw; (try dsimp only at hSw); go_simp; (try with_reducible rfl))
                    try simp only [Act.put, List.setIfInBounds_toArray, List.set_cons_zero, List.set_cons_succ]
                    refine takeD (i := 4) (d := some 165) (v := ?vT11) rfl rfl (by kernel_rfl) (by kernel_rfl) (by kernel_rfl) (fun _ _ _ h => h) (Or.inl ⟨by rfl, ?hyT11⟩) (by assumption) ?rstT11
                    case hyT11 => (intro w hSw; (try dsimp only at hSw); go_simp; (try with_reducible rfl))
                    try simp only [Act.put, List.setIfInBounds_toArray, List.set_cons_zero, List.set_cons_succ]
                    refine takeD (i := 5) (d := some 166) (v := ?vT12) rfl rfl (by kernel_rfl) (by kernel_rfl) (by kernel_rfl) (fun _ _ _ h => h) (Or.inl ⟨by rfl, ?hyT12⟩) (by assumption) ?rstT12
                    case hyT12 => (intro w hSw; (try dsimp only at hSw); go_simp; (try with_reducible rfl))
                    try simp only [Act.put, List.setIfInBounds_toArray, List.set_cons_zero, List.set_cons_succ]
                    refine takeD (i := 6) (d := some 167) (v := ?vT13) rfl rfl (by kernel_rfl) (by kernel_rfl) (by kernel_rfl) (fun _ _ _ h => h) (Or.inl ⟨by rfl, ?hyT13⟩) (by assumption) ?rstT13
                    case hyT13 => (intro w hSw; (try dsimp only at hSw); go_simp; (try with_reducible rfl))
                    try simp only [Act.put, List.setIfInBounds_toArray, List.set_cons_zero, List.set_cons_succ]
                    refine takeD (i := 7) (d := some 168) (v := ?vT14) rfl rfl (by kernel_rfl) (by kernel_rfl) (by kernel_rfl) (fun _ _ _ h => h) (Or.inl ⟨by rfl, ?hyT14⟩) (by assumption) ?rstT14
                    case hyT14 => (intro w hSw; (try dsimp only at hSw); go_simp; (try with_reducible rfl))
                    try simp only [Act.put, List.setIfInBounds_toArray, List.set_cons_zero, List.set_cons_succ]
                    refine takeD (i := 8) (d := some 169) (v := ?vT15) rfl rfl (by kernel_rfl) (by kernel_rfl) (by kernel_rfl) (fun _ _ _ h => h) (Or.inl ⟨by rfl, ?hyT15⟩) (by assumption) ?rstT15
                    case hyT15 => (intro w hSw; (try dsimp only at hSw); go_simp; (try with_reducible rfl))
                    try simp only [Act.put, List.setIfInBounds_toArray, List.set_cons_zero, List.set_cons_succ]
                    refine takeD (i := 9) (d := some 170) (v := ?vT16) rfl rfl (by kernel_rfl) (by kernel_rfl) (by kernel_rfl) (fun _ _ _ h => h) (Or.inl ⟨by rfl, ?hyT16⟩) (by assumption) ?rstT16
                    case hyT16 => (intro w hSw; (try dsimp only at hSw); go_simp; (try with_reducible rfl))
                    try simp only [Act.put, List.setIfInBounds_toArray, List.set_cons_zero, List.set_cons_succ]
                    refine takeD (i := 10) (d := some 171) (v := ?vT17) rfl rfl (by kernel_rfl) (by kernel_rfl) (by kernel_rfl) (fun _ _ _ h => h) (Or.inl ⟨by rfl, ?hyT17⟩) (by assumption) ?rstT17
                    case hyT17 => (intro w hSw; (try dsimp only at hSw); go_simp; (try with_reducible rfl))
                    try simp only [Act.put, List.setIfInBounds_toArray, List.set_cons_zero, List.set_cons_succ]
                    refine takeD (i := 11) (d := some 15) (v := ?vT18) rfl rfl (by kernel_rfl) (by kernel_rfl) (by kernel_rfl) (fun _ _ _ h => h) (Or.inl ⟨by rfl, ?hyT18⟩) (by assumption) ?rstT18
                    case hyT18 => (intro w hSw; (try dsimp only at hSw); go_simp; (try with_reducible rfl))
                    try simp only [Act.put, List.setIfInBounds_toArray, List.set_cons_zero, List.set_cons_succ]
                    refine wpAnyH_done (by kernel_rfl) ?_ _
                    go_wp2_with fail
                    go_roundw
                    case rel => exact ⟨j + 1, by omega, by first | rfl | go_num, true, rfl, HAN.out, HBI.out.drew⟩
                    case measure => simp [RowKit.intOf]; omega
                  · have HAN : Hid ((fs.take (j + 1)).any (fun f => decide (f.nm = x.nm)) = false) := by show _ = _; rw [List.take_add_one, hf, List.any_append, hA.out]; simp [he]
                    have q1 := name_ne he
                    clear hv1 hc1 hf k1 hA hB hbw he
                    generalize (⟨f.nm.toArray⟩ : ByteArray) = s at *
                    generalize (⟨x.nm.toArray⟩ : ByteArray) = sx at *
                    have HSI : Hid (((fun W => W.cell? ⟨g1, o1 + j * 3, none⟩ = some (.string s) ∧ W.cell? ⟨wo2.heap.size, 0, none⟩ = some (.string sx))) wi) := ⟨p0, b0⟩
                    go_wp2_with fail
                    refine wp_region_held_drew (S := (fun W => W.cell? ⟨g1, o1 + j * 3, none⟩ = some (.string s) ∧ W.cell? ⟨wo2.heap.size, 0, none⟩ = some (.string sx))) (by kernel_rfl) ?hS19 (fun hHeld => ?rest19)
                    case hS19 => exact HSI.out
                    refine takeD (i := 0) (d := some 161) (v := ?vT20) rfl rfl (by kernel_rfl) (by kernel_rfl) (by kernel_rfl) (fun _ _ _ h => h) (Or.inl ⟨by rfl, ?hyT20⟩) (by assumption) ?rstT20
                    case hyT20 => (intro w hSw; (try dsimp only at hSw); go_simp; (try with_reducible rfl))
                    try simp only [Act.put, List.setIfInBounds_toArray, List.set_cons_zero, List.set_cons_succ]
                    refine takeD (i := 1) (d := some 162) (v := ?vT21) rfl rfl (by kernel_rfl) (by kernel_rfl) (by kernel_rfl) (fun _ _ _ h => h) (Or.inl ⟨by rfl, ?hyT21⟩) (by assumption) ?rstT21
                    case hyT21 => (intro w hSw; (try dsimp only at hSw); go_simp; (try with_reducible rfl))
                    try simp only [Act.put, List.setIfInBounds_toArray, List.set_cons_zero, List.set_cons_succ]
                    refine takeD (i := 2) (d := some 163) (v := ?vT22) rfl rfl (by kernel_rfl) (by kernel_rfl) (by kernel_rfl) (fun _ _ _ h => h) (Or.inl ⟨by rfl, ?hyT22⟩) (by assumption) ?rstT22
                    case hyT22 => (intro w hSw; (try dsimp only at hSw); go_simp; (try with_reducible rfl))
                    try simp only [Act.put, List.setIfInBounds_toArray, List.set_cons_zero, List.set_cons_succ]
                    refine takeD (i := 3) (d := some 164) (v := ?vT23) rfl rfl (by kernel_rfl) (by kernel_rfl) (by kernel_rfl) (fun _ _ _ h => h) (Or.inl ⟨by rfl, ?hyT23⟩) (by assumption) ?rstT23
                    case hyT23 => (intro w hSw; (try dsimp only at hSw); go_simp; (try with_reducible rfl))
                    try simp only [Act.put, List.setIfInBounds_toArray, List.set_cons_zero, List.set_cons_succ]
                    refine takeD (i := 4) (d := some 165) (v := ?vT24) rfl rfl (by kernel_rfl) (by kernel_rfl) (by kernel_rfl) (fun _ _ _ h => h) (Or.inl ⟨by rfl, ?hyT24⟩) (by assumption) ?rstT24
                    case hyT24 => (intro w hSw; (try dsimp only at hSw); go_simp; (try with_reducible rfl))
                    try simp only [Act.put, List.setIfInBounds_toArray, List.set_cons_zero, List.set_cons_succ]
                    refine takeD (i := 5) (d := some 166) (v := ?vT25) rfl rfl (by kernel_rfl) (by kernel_rfl) (by kernel_rfl) (fun _ _ _ h => h) (Or.inl ⟨by rfl, ?hyT25⟩) (by assumption) ?rstT25
                    case hyT25 => (intro w hSw; (try dsimp only at hSw); go_simp; (try with_reducible rfl))
                    try simp only [Act.put, List.setIfInBounds_toArray, List.set_cons_zero, List.set_cons_succ]
                    refine takeD (i := 6) (d := some 167) (v := ?vT26) rfl rfl (by kernel_rfl) (by kernel_rfl) (by kernel_rfl) (fun _ _ _ h => h) (Or.inl ⟨by rfl, ?hyT26⟩) (by assumption) ?rstT26
                    case hyT26 => (intro w hSw; (try dsimp only at hSw); go_simp; (try with_reducible rfl))
                    try simp only [Act.put, List.setIfInBounds_toArray, List.set_cons_zero, List.set_cons_succ]
                    refine takeD (i := 7) (d := some 168) (v := ?vT27) rfl rfl (by kernel_rfl) (by kernel_rfl) (by kernel_rfl) (fun _ _ _ h => h) (Or.inl ⟨by rfl, ?hyT27⟩) (by assumption) ?rstT27
                    case hyT27 => (intro w hSw; (try dsimp only at hSw); go_simp; (try with_reducible rfl))
                    try simp only [Act.put, List.setIfInBounds_toArray, List.set_cons_zero, List.set_cons_succ]
                    refine takeD (i := 8) (d := some 169) (v := ?vT28) rfl rfl (by kernel_rfl) (by kernel_rfl) (by kernel_rfl) (fun _ _ _ h => h) (Or.inl ⟨by rfl, ?hyT28⟩) (by assumption) ?rstT28
                    case hyT28 => (intro w hSw; (try dsimp only at hSw); go_simp; (try with_reducible rfl))
                    try simp only [Act.put, List.setIfInBounds_toArray, List.set_cons_zero, List.set_cons_succ]
                    refine takeD (i := 9) (d := some 170) (v := ?vT29) rfl rfl (by kernel_rfl) (by kernel_rfl) (by kernel_rfl) (fun _ _ _ h => h) (Or.inl ⟨by rfl, ?hyT29⟩) (by assumption) ?rstT29
                    case hyT29 => (intro w hSw; (try dsimp only at hSw); go_simp; (try with_reducible rfl))
                    try simp only [Act.put, List.setIfInBounds_toArray, List.set_cons_zero, List.set_cons_succ]
                    refine takeD (i := 10) (d := some 171) (v := ?vT30) rfl rfl (by kernel_rfl) (by kernel_rfl) (by kernel_rfl) (fun _ _ _ h => h) (Or.inl ⟨by rfl, ?hyT30⟩) (by assumption) ?rstT30
                    case hyT30 => (intro w hSw; (try dsimp only at hSw); go_simp; (try with_reducible rfl))
                    try simp only [Act.put, List.setIfInBounds_toArray, List.set_cons_zero, List.set_cons_succ]
                    refine takeD (i := 11) (d := some 15) (v := ?vT31) rfl rfl (by kernel_rfl) (by kernel_rfl) (by kernel_rfl) (fun _ _ _ h => h) (Or.inl ⟨by rfl, ?hyT31⟩) (by assumption) ?rstT31
                    case hyT31 => (intro w hSw; (try dsimp only at hSw); go_simp; (try with_reducible rfl))
                    try simp only [Act.put, List.setIfInBounds_toArray, List.set_cons_zero, List.set_cons_succ]
                    refine wpAnyH_done (by kernel_rfl) ?_ _
                    go_wp2_with fail
                    go_roundw
                    case rel => exact ⟨j + 1, by omega, by first | rfl | go_num, false, rfl, HAN.out, HBI.out.drew⟩
                    case measure => simp [RowKit.intOf]; omega
              · obtain rfl : j = n := by omega
                have hlt2 : ¬ ((j : Int) < (j : Int)) := by omega
                have htb : tb = true := by rw [← hA.out, ← HH.out.2.2.2.2, List.take_length]; exact HTH.out
                subst htb
                have HB9 : Hid (Below w1.heap.size w1 wi) := HW1.out.trans ((H6.out.2.1.trans (hB.out.mono H6.out.2.1.size)).mono HW1.out.size)
                clear hA hB
                go_wp2_with fail
                go_roundw
                case rel => exact ⟨i2 + 1, by omega, by first | rfl | go_num, HB9.out⟩
                case measure => simp [RowKit.intOf]; omega
          · have t1 : ¬ ((0 : Int) < (x.syn : Int)) := by omega
            have t1d : decide (0 < x.syn) = false := by simp; omega
            by_cases c2 : 0 < kp
            · have t2 : (0 : Int) < (kp : Int) := by omega
              have t2d : decide (0 < kp) = true := by simp; omega
              by_cases c3 : 0 < x.bs.length
              · have t3 : (0 : Int) < (x.bs.length : Int) := by omega
                have t3d : decide (0 < x.bs.length) = true := by simp; omega
                have HTH : Hid (fs.any (fun f => decide (f.nm = x.nm)) = true) := by show _ = _; rw [hth]; simp; omega
                clear hth
                go_wp2_with fail
                go_loopw [15, 16] (fun vt vj wi => ∃ j : Nat, j ≤ n ∧ vj = .int .i64 (j : Int) ∧ ∃ tb : Bool, vt = .bool tb ∧ Hid ((fs.take j).any (fun f => decide (f.nm = x.nm)) = tb) ∧ Hid (Below V6.heap.size V6 wi)) (fun _ vj _ => n - (RowKit.intOf vj).toNat)
                case atStart => exact ⟨0, Nat.zero_le _, rfl, false, rfl, by show _ = _; simp, by first | exact Below.refl _ _ | exact (Below.refl _ _).drew⟩
                case round =>
                  obtain ⟨j, hj, rfl, tb, rfl, hA, hB⟩ := hrel
                  obtain ⟨wi, hwi⟩ : ∃ wi, wi = wr := ⟨_, rfl⟩
                  subst hwi
                  by_cases hlt : j < n
                  · have hlt2 : (j : Int) < (n : Int) := by omega
                    have gi : IntKind.i64.wrap ((j : Int) + 1) = ((j + 1 : Nat) : Int) := by rw [IntWalk.i64_in _ (by omega)]; omega
                    have hbw := H6.out.2.2.trans (hB.out.mono H6.out.2.2.size)
                    obtain ⟨g1, o1, v1, ha1, _, hv1, hc1⟩ := (HH.out.1.below hbw).at j hlt
                    subst ha1
                    obtain ⟨f, hf⟩ : ∃ f, fs[j]? = some f := ⟨_, List.getElem?_eq_getElem (by have := HH.out.2.1; have := HH.out.2.2.2.2; omega)⟩
                    have k1 := HH.out.2.2.1 j v1 f hv1 hf
                    have p0 := hc1 0 _ rfl
                    rw [Nat.add_zero, k1.nm] at p0
                    have b0 := (hB.out.cell (p := ⟨wo2.heap.size, 0, none⟩) H6.out.1).trans HZ0.out
                    have HBI : Hid (Below V6.heap.size V6 wi) := hB.out
                    cases tb with
                    | true =>
                      have HAN : Hid ((fs.take (j + 1)).any (fun f => decide (f.nm = x.nm)) = true) := by show _ = _; rw [List.take_add_one, hf, List.any_append, hA.out]; rfl
                      clear hv1 hc1 hf k1 hA hB hbw
                      generalize (⟨f.nm.toArray⟩ : ByteArray) = s at *
                      generalize (⟨x.nm.toArray⟩ : ByteArray) = sx at *
                      have HSI : Hid (((fun W => W.cell? ⟨g1, o1 + j * 3, none⟩ = some (.string s) ∧ W.cell? ⟨wo2.heap.size, 0, none⟩ = some (.string sx))) wi) := ⟨p0, b0⟩
                      go_wp2_with fail
                      refine wp_region_held_drew (S := (fun W => W.cell? ⟨g1, o1 + j * 3, none⟩ = some (.string s) ∧ W.cell? ⟨wo2.heap.size, 0, none⟩ = some (.string sx))) (by kernel_rfl) ?hS32 (fun hHeld => ?rest32)
                      case hS32 => exact HSI.out
                      refine takeD (i := 0) (d := some 161) (v := ?vT33) rfl rfl (by kernel_rfl) (by kernel_rfl) (by kernel_rfl) (fun _ _ _ h => h) (Or.inl ⟨by rfl, ?hyT33⟩) (by assumption) ?rstT33
                      case hyT33 => (intro w hSw; (try dsimp only at hSw); go_simp; (try with_reducible rfl))
                      try simp only [Act.put, List.setIfInBounds_toArray, List.set_cons_zero, List.set_cons_succ]
                      refine takeD (i := 1) (d := some 162) (v := ?vT34) rfl rfl (by kernel_rfl) (by kernel_rfl) (by kernel_rfl) (fun _ _ _ h => h) (Or.inl ⟨by rfl, ?hyT34⟩) (by assumption) ?rstT34
                      case hyT34 => (intro w hSw; (try dsimp only at hSw); go_simp; (try with_reducible rfl))
                      try simp only [Act.put, List.setIfInBounds_toArray, List.set_cons_zero, List.set_cons_succ]
                      refine takeD (i := 2) (d := some 163) (v := undef) rfl rfl (by kernel_rfl) (by kernel_rfl) (by kernel_rfl) (fun _ _ _ h => h) (Or.inr ⟨by rfl, rfl⟩) (by assumption) ?_
                      try simp only [Act.put, List.setIfInBounds_toArray, List.set_cons_zero, List.set_cons_succ]
                      refine takeD (i := 3) (d := some 164) (v := undef) rfl rfl (by kernel_rfl) (by kernel_rfl) (by kernel_rfl) (fun _ _ _ h => h) (Or.inr ⟨by rfl, rfl⟩) (by assumption) ?_
                      try simp only [Act.put, List.setIfInBounds_toArray, List.set_cons_zero, List.set_cons_succ]
                      refine takeD (i := 4) (d := some 165) (v := undef) rfl rfl (by kernel_rfl) (by kernel_rfl) (by kernel_rfl) (fun _ _ _ h => h) (Or.inr ⟨by rfl, rfl⟩) (by assumption) ?_
                      try simp only [Act.put, List.setIfInBounds_toArray, List.set_cons_zero, List.set_cons_succ]
                      refine takeD (i := 5) (d := some 166) (v := undef) rfl rfl (by kernel_rfl) (by kernel_rfl) (by kernel_rfl) (fun _ _ _ h => h) (Or.inr ⟨by rfl, rfl⟩) (by assumption) ?_
                      try simp only [Act.put, List.setIfInBounds_toArray, List.set_cons_zero, List.set_cons_succ]
                      refine takeD (i := 6) (d := some 167) (v := undef) rfl rfl (by kernel_rfl) (by kernel_rfl) (by kernel_rfl) (fun _ _ _ h => h) (Or.inr ⟨by rfl, rfl⟩) (by assumption) ?_
                      try simp only [Act.put, List.setIfInBounds_toArray, List.set_cons_zero, List.set_cons_succ]
                      refine takeD (i := 7) (d := some 168) (v := undef) rfl rfl (by kernel_rfl) (by kernel_rfl) (by kernel_rfl) (fun _ _ _ h => h) (Or.inr ⟨by rfl, rfl⟩) (by assumption) ?_
                      try simp only [Act.put, List.setIfInBounds_toArray, List.set_cons_zero, List.set_cons_succ]
                      refine takeD (i := 8) (d := some 169) (v := undef) rfl rfl (by kernel_rfl) (by kernel_rfl) (by kernel_rfl) (fun _ _ _ h => h) (Or.inr ⟨by rfl, rfl⟩) (by assumption) ?_
                      try simp only [Act.put, List.setIfInBounds_toArray, List.set_cons_zero, List.set_cons_succ]
                      refine takeD (i := 9) (d := some 170) (v := undef) rfl rfl (by kernel_rfl) (by kernel_rfl) (by kernel_rfl) (fun _ _ _ h => h) (Or.inr ⟨by rfl, rfl⟩) (by assumption) ?_
                      try simp only [Act.put, List.setIfInBounds_toArray, List.set_cons_zero, List.set_cons_succ]
                      refine takeD (i := 10) (d := some 171) (v := ?vT35) rfl rfl (by kernel_rfl) (by kernel_rfl) (by kernel_rfl) (fun _ _ _ h => h) (Or.inl ⟨by rfl, ?hyT35⟩) (by assumption) ?rstT35
                      case hyT35 => (intro w hSw; (try dsimp only at hSw); go_simp; (try with_reducible rfl))
                      try simp only [Act.put, List.setIfInBounds_toArray, List.set_cons_zero, List.set_cons_succ]
                      refine takeD (i := 11) (d := some 15) (v := ?vT36) rfl rfl (by kernel_rfl) (by kernel_rfl) (by kernel_rfl) (fun _ _ _ h => h) (Or.inl ⟨by rfl, ?hyT36⟩) (by assumption) ?rstT36
                      case hyT36 => (intro w hSw; (try dsimp only at hSw); go_simp; (try with_reducible rfl))
                      try simp only [Act.put, List.setIfInBounds_toArray, List.set_cons_zero, List.set_cons_succ]
                      refine wpAnyH_done (by kernel_rfl) ?_ _
                      go_wp2_with fail
                      go_roundw
                      case rel => exact ⟨j + 1, by omega, by first | rfl | go_num, true, rfl, HAN.out, HBI.out.drew⟩
                      case measure => simp [RowKit.intOf]; omega
                    | false =>
                      by_cases he : f.nm = x.nm
                      · have HAN : Hid ((fs.take (j + 1)).any (fun f => decide (f.nm = x.nm)) = true) := by show _ = _; rw [List.take_add_one, hf, List.any_append, hA.out]; simp [he]
                        rw [he] at p0
                        have q1 := name_eq x.nm
                        clear hv1 hc1 hf k1 hA hB hbw he
                        generalize (⟨x.nm.toArray⟩ : ByteArray) = sx at *
                        have HSI : Hid (((fun W => W.cell? ⟨g1, o1 + j * 3, none⟩ = some (.string sx) ∧ W.cell? ⟨wo2.heap.size, 0, none⟩ = some (.string sx))) wi) := ⟨p0, b0⟩
                        go_wp2_with fail
                        refine wp_region_held_drew (S := (fun W => W.cell? ⟨g1, o1 + j * 3, none⟩ = some (.string sx) ∧ W.cell? ⟨wo2.heap.size, 0, none⟩ = some (.string sx))) (by kernel_rfl) ?hS37 (fun hHeld => ?rest37)
                        case hS37 => exact HSI.out
                        refine takeD (i := 0) (d := some 161) (v := ?vT38) rfl rfl (by kernel_rfl) (by kernel_rfl) (by kernel_rfl) (fun _ _ _ h => h) (Or.inl ⟨by rfl, ?hyT38⟩) (by assumption) ?rstT38
                        case hyT38 => (intro w hSw; (try dsimp only at hSw); go_simp; (try with_reducible rfl))
                        try simp only [Act.put, List.setIfInBounds_toArray, List.set_cons_zero, List.set_cons_succ]
                        refine takeD (i := 1) (d := some 162) (v := ?vT39) rfl rfl (by kernel_rfl) (by kernel_rfl) (by kernel_rfl) (fun _ _ _ h => h) (Or.inl ⟨by rfl, ?hyT39⟩) (by assumption) ?rstT39
                        case hyT39 => (intro w hSw; (try dsimp only at hSw); go_simp; (try with_reducible rfl))
                        try simp only [Act.put, List.setIfInBounds_toArray, List.set_cons_zero, List.set_cons_succ]
                        refine takeD (i := 2) (d := some 163) (v := ?vT40) rfl rfl (by kernel_rfl) (by kernel_rfl) (by kernel_rfl) (fun _ _ _ h => h) (Or.inl ⟨by rfl, ?hyT40⟩) (by assumption) ?rstT40
                        case hyT40 => (intro w hSw; (try dsimp only at hSw); go_simp; (try with_reducible rfl))
                        try simp only [Act.put, List.setIfInBounds_toArray, List.set_cons_zero, List.set_cons_succ]
                        refine takeD (i := 3) (d := some 164) (v := ?vT41) rfl rfl (by kernel_rfl) (by kernel_rfl) (by kernel_rfl) (fun _ _ _ h => h) (Or.inl ⟨by rfl, ?hyT41⟩) (by assumption) ?rstT41
                        case hyT41 => (intro w hSw; (try dsimp only at hSw); go_simp; (try with_reducible rfl))
                        try simp only [Act.put, List.setIfInBounds_toArray, List.set_cons_zero, List.set_cons_succ]
                        refine takeD (i := 4) (d := some 165) (v := ?vT42) rfl rfl (by kernel_rfl) (by kernel_rfl) (by kernel_rfl) (fun _ _ _ h => h) (Or.inl ⟨by rfl, ?hyT42⟩) (by assumption) ?rstT42
                        case hyT42 => (intro w hSw; (try dsimp only at hSw); go_simp; (try with_reducible rfl))
                        try simp only [Act.put, List.setIfInBounds_toArray, List.set_cons_zero, List.set_cons_succ]
                        refine takeD (i := 5) (d := some 166) (v := ?vT43) rfl rfl (by kernel_rfl) (by kernel_rfl) (by kernel_rfl) (fun _ _ _ h => h) (Or.inl ⟨by rfl, ?hyT43⟩) (by assumption) ?rstT43
                        case hyT43 => (intro w hSw; (try dsimp only at hSw); go_simp; (try with_reducible rfl))
                        try simp only [Act.put, List.setIfInBounds_toArray, List.set_cons_zero, List.set_cons_succ]
                        refine takeD (i := 6) (d := some 167) (v := ?vT44) rfl rfl (by kernel_rfl) (by kernel_rfl) (by kernel_rfl) (fun _ _ _ h => h) (Or.inl ⟨by rfl, ?hyT44⟩) (by assumption) ?rstT44
                        case hyT44 => (intro w hSw; (try dsimp only at hSw); go_simp; (try with_reducible rfl))
                        try simp only [Act.put, List.setIfInBounds_toArray, List.set_cons_zero, List.set_cons_succ]
                        refine takeD (i := 7) (d := some 168) (v := ?vT45) rfl rfl (by kernel_rfl) (by kernel_rfl) (by kernel_rfl) (fun _ _ _ h => h) (Or.inl ⟨by rfl, ?hyT45⟩) (by assumption) ?rstT45
                        case hyT45 => (intro w hSw; (try dsimp only at hSw); go_simp; (try with_reducible rfl))
                        try simp only [Act.put, List.setIfInBounds_toArray, List.set_cons_zero, List.set_cons_succ]
                        refine takeD (i := 8) (d := some 169) (v := ?vT46) rfl rfl (by kernel_rfl) (by kernel_rfl) (by kernel_rfl) (fun _ _ _ h => h) (Or.inl ⟨by rfl, ?hyT46⟩) (by assumption) ?rstT46
                        case hyT46 => (intro w hSw; (try dsimp only at hSw); go_simp; (try with_reducible rfl))
                        try simp only [Act.put, List.setIfInBounds_toArray, List.set_cons_zero, List.set_cons_succ]
                        refine takeD (i := 9) (d := some 170) (v := ?vT47) rfl rfl (by kernel_rfl) (by kernel_rfl) (by kernel_rfl) (fun _ _ _ h => h) (Or.inl ⟨by rfl, ?hyT47⟩) (by assumption) ?rstT47
                        case hyT47 => (intro w hSw; (try dsimp only at hSw); go_simp; (try with_reducible rfl))
                        try simp only [Act.put, List.setIfInBounds_toArray, List.set_cons_zero, List.set_cons_succ]
                        refine takeD (i := 10) (d := some 171) (v := ?vT48) rfl rfl (by kernel_rfl) (by kernel_rfl) (by kernel_rfl) (fun _ _ _ h => h) (Or.inl ⟨by rfl, ?hyT48⟩) (by assumption) ?rstT48
                        case hyT48 => (intro w hSw; (try dsimp only at hSw); go_simp; (try with_reducible rfl))
                        try simp only [Act.put, List.setIfInBounds_toArray, List.set_cons_zero, List.set_cons_succ]
                        refine takeD (i := 11) (d := some 15) (v := ?vT49) rfl rfl (by kernel_rfl) (by kernel_rfl) (by kernel_rfl) (fun _ _ _ h => h) (Or.inl ⟨by rfl, ?hyT49⟩) (by assumption) ?rstT49
                        case hyT49 => (intro w hSw; (try dsimp only at hSw); go_simp; (try with_reducible rfl))
                        try simp only [Act.put, List.setIfInBounds_toArray, List.set_cons_zero, List.set_cons_succ]
                        refine wpAnyH_done (by kernel_rfl) ?_ _
                        go_wp2_with fail
                        go_roundw
                        case rel => exact ⟨j + 1, by omega, by first | rfl | go_num, true, rfl, HAN.out, HBI.out.drew⟩
                        case measure => simp [RowKit.intOf]; omega
                      · have HAN : Hid ((fs.take (j + 1)).any (fun f => decide (f.nm = x.nm)) = false) := by show _ = _; rw [List.take_add_one, hf, List.any_append, hA.out]; simp [he]
                        have q1 := name_ne he
                        clear hv1 hc1 hf k1 hA hB hbw he
                        generalize (⟨f.nm.toArray⟩ : ByteArray) = s at *
                        generalize (⟨x.nm.toArray⟩ : ByteArray) = sx at *
                        have HSI : Hid (((fun W => W.cell? ⟨g1, o1 + j * 3, none⟩ = some (.string s) ∧ W.cell? ⟨wo2.heap.size, 0, none⟩ = some (.string sx))) wi) := ⟨p0, b0⟩
                        go_wp2_with fail
                        refine wp_region_held_drew (S := (fun W => W.cell? ⟨g1, o1 + j * 3, none⟩ = some (.string s) ∧ W.cell? ⟨wo2.heap.size, 0, none⟩ = some (.string sx))) (by kernel_rfl) ?hS50 (fun hHeld => ?rest50)
                        case hS50 => exact HSI.out
                        refine takeD (i := 0) (d := some 161) (v := ?vT51) rfl rfl (by kernel_rfl) (by kernel_rfl) (by kernel_rfl) (fun _ _ _ h => h) (Or.inl ⟨by rfl, ?hyT51⟩) (by assumption) ?rstT51
                        case hyT51 => (intro w hSw; (try dsimp only at hSw); go_simp; (try with_reducible rfl))
                        try simp only [Act.put, List.setIfInBounds_toArray, List.set_cons_zero, List.set_cons_succ]
                        refine takeD (i := 1) (d := some 162) (v := ?vT52) rfl rfl (by kernel_rfl) (by kernel_rfl) (by kernel_rfl) (fun _ _ _ h => h) (Or.inl ⟨by rfl, ?hyT52⟩) (by assumption) ?rstT52
                        case hyT52 => (intro w hSw; (try dsimp only at hSw); go_simp; (try with_reducible rfl))
                        try simp only [Act.put, List.setIfInBounds_toArray, List.set_cons_zero, List.set_cons_succ]
                        refine takeD (i := 2) (d := some 163) (v := ?vT53) rfl rfl (by kernel_rfl) (by kernel_rfl) (by kernel_rfl) (fun _ _ _ h => h) (Or.inl ⟨by rfl, ?hyT53⟩) (by assumption) ?rstT53
                        case hyT53 => (intro w hSw; (try dsimp only at hSw); go_simp; (try with_reducible rfl))
                        try simp only [Act.put, List.setIfInBounds_toArray, List.set_cons_zero, List.set_cons_succ]
                        refine takeD (i := 3) (d := some 164) (v := ?vT54) rfl rfl (by kernel_rfl) (by kernel_rfl) (by kernel_rfl) (fun _ _ _ h => h) (Or.inl ⟨by rfl, ?hyT54⟩) (by assumption) ?rstT54
                        case hyT54 => (intro w hSw; (try dsimp only at hSw); go_simp; (try with_reducible rfl))
                        try simp only [Act.put, List.setIfInBounds_toArray, List.set_cons_zero, List.set_cons_succ]
                        refine takeD (i := 4) (d := some 165) (v := ?vT55) rfl rfl (by kernel_rfl) (by kernel_rfl) (by kernel_rfl) (fun _ _ _ h => h) (Or.inl ⟨by rfl, ?hyT55⟩) (by assumption) ?rstT55
                        case hyT55 => (intro w hSw; (try dsimp only at hSw); go_simp; (try with_reducible rfl))
                        try simp only [Act.put, List.setIfInBounds_toArray, List.set_cons_zero, List.set_cons_succ]
                        refine takeD (i := 5) (d := some 166) (v := ?vT56) rfl rfl (by kernel_rfl) (by kernel_rfl) (by kernel_rfl) (fun _ _ _ h => h) (Or.inl ⟨by rfl, ?hyT56⟩) (by assumption) ?rstT56
                        case hyT56 => (intro w hSw; (try dsimp only at hSw); go_simp; (try with_reducible rfl))
                        try simp only [Act.put, List.setIfInBounds_toArray, List.set_cons_zero, List.set_cons_succ]
                        refine takeD (i := 6) (d := some 167) (v := ?vT57) rfl rfl (by kernel_rfl) (by kernel_rfl) (by kernel_rfl) (fun _ _ _ h => h) (Or.inl ⟨by rfl, ?hyT57⟩) (by assumption) ?rstT57
                        case hyT57 => (intro w hSw; (try dsimp only at hSw); go_simp; (try with_reducible rfl))
                        try simp only [Act.put, List.setIfInBounds_toArray, List.set_cons_zero, List.set_cons_succ]
                        refine takeD (i := 7) (d := some 168) (v := ?vT58) rfl rfl (by kernel_rfl) (by kernel_rfl) (by kernel_rfl) (fun _ _ _ h => h) (Or.inl ⟨by rfl, ?hyT58⟩) (by assumption) ?rstT58
                        case hyT58 => (intro w hSw; (try dsimp only at hSw); go_simp; (try with_reducible rfl))
                        try simp only [Act.put, List.setIfInBounds_toArray, List.set_cons_zero, List.set_cons_succ]
                        refine takeD (i := 8) (d := some 169) (v := ?vT59) rfl rfl (by kernel_rfl) (by kernel_rfl) (by kernel_rfl) (fun _ _ _ h => h) (Or.inl ⟨by rfl, ?hyT59⟩) (by assumption) ?rstT59
                        case hyT59 => (intro w hSw; (try dsimp only at hSw); go_simp; (try with_reducible rfl))
                        try simp only [Act.put, List.setIfInBounds_toArray, List.set_cons_zero, List.set_cons_succ]
                        refine takeD (i := 9) (d := some 170) (v := ?vT60) rfl rfl (by kernel_rfl) (by kernel_rfl) (by kernel_rfl) (fun _ _ _ h => h) (Or.inl ⟨by rfl, ?hyT60⟩) (by assumption) ?rstT60
                        case hyT60 => (intro w hSw; (try dsimp only at hSw); go_simp; (try with_reducible rfl))
                        try simp only [Act.put, List.setIfInBounds_toArray, List.set_cons_zero, List.set_cons_succ]
                        refine takeD (i := 10) (d := some 171) (v := ?vT61) rfl rfl (by kernel_rfl) (by kernel_rfl) (by kernel_rfl) (fun _ _ _ h => h) (Or.inl ⟨by rfl, ?hyT61⟩) (by assumption) ?rstT61
                        case hyT61 => (intro w hSw; (try dsimp only at hSw); go_simp; (try with_reducible rfl))
                        try simp only [Act.put, List.setIfInBounds_toArray, List.set_cons_zero, List.set_cons_succ]
                        refine takeD (i := 11) (d := some 15) (v := ?vT62) rfl rfl (by kernel_rfl) (by kernel_rfl) (by kernel_rfl) (fun _ _ _ h => h) (Or.inl ⟨by rfl, ?hyT62⟩) (by assumption) ?rstT62
                        case hyT62 => (intro w hSw; (try dsimp only at hSw); go_simp; (try with_reducible rfl))
                        try simp only [Act.put, List.setIfInBounds_toArray, List.set_cons_zero, List.set_cons_succ]
                        refine wpAnyH_done (by kernel_rfl) ?_ _
                        go_wp2_with fail
                        go_roundw
                        case rel => exact ⟨j + 1, by omega, by first | rfl | go_num, false, rfl, HAN.out, HBI.out.drew⟩
                        case measure => simp [RowKit.intOf]; omega
                  · obtain rfl : j = n := by omega
                    have hlt2 : ¬ ((j : Int) < (j : Int)) := by omega
                    have htb : tb = true := by rw [← hA.out, ← HH.out.2.2.2.2, List.take_length]; exact HTH.out
                    subst htb
                    have HB9 : Hid (Below w1.heap.size w1 wi) := HW1.out.trans ((H6.out.2.1.trans (hB.out.mono H6.out.2.1.size)).mono HW1.out.size)
                    clear hA hB
                    go_wp2_with fail
                    go_roundw
                    case rel => exact ⟨i2 + 1, by omega, by first | rfl | go_num, HB9.out⟩
                    case measure => simp [RowKit.intOf]; omega
              · have t3 : ¬ ((0 : Int) < (x.bs.length : Int)) := by omega
                have t3d : decide (0 < x.bs.length) = false := decide_eq_false c3
                have HTH : Hid (fs.any (fun f => decide (f.nm = x.nm)) = false) := by show _ = _; rw [hth, decide_eq_false c1, decide_eq_true c2, decide_eq_false c3]; rfl
                clear hth
                go_wp2_with fail
                go_loopw [15, 16] (fun vt vj wi => ∃ j : Nat, j ≤ n ∧ vj = .int .i64 (j : Int) ∧ ∃ tb : Bool, vt = .bool tb ∧ Hid ((fs.take j).any (fun f => decide (f.nm = x.nm)) = tb) ∧ Hid (Below V6.heap.size V6 wi)) (fun _ vj _ => n - (RowKit.intOf vj).toNat)
                case atStart => exact ⟨0, Nat.zero_le _, rfl, false, rfl, by show _ = _; simp, by first | exact Below.refl _ _ | exact (Below.refl _ _).drew⟩
                case round =>
                  obtain ⟨j, hj, rfl, tb, rfl, hA, hB⟩ := hrel
                  obtain ⟨wi, hwi⟩ : ∃ wi, wi = wr := ⟨_, rfl⟩
                  subst hwi
                  by_cases hlt : j < n
                  · have hlt2 : (j : Int) < (n : Int) := by omega
                    have gi : IntKind.i64.wrap ((j : Int) + 1) = ((j + 1 : Nat) : Int) := by rw [IntWalk.i64_in _ (by omega)]; omega
                    have hbw := H6.out.2.2.trans (hB.out.mono H6.out.2.2.size)
                    obtain ⟨g1, o1, v1, ha1, _, hv1, hc1⟩ := (HH.out.1.below hbw).at j hlt
                    subst ha1
                    obtain ⟨f, hf⟩ : ∃ f, fs[j]? = some f := ⟨_, List.getElem?_eq_getElem (by have := HH.out.2.1; have := HH.out.2.2.2.2; omega)⟩
                    have k1 := HH.out.2.2.1 j v1 f hv1 hf
                    have p0 := hc1 0 _ rfl
                    rw [Nat.add_zero, k1.nm] at p0
                    have b0 := (hB.out.cell (p := ⟨wo2.heap.size, 0, none⟩) H6.out.1).trans HZ0.out
                    have HBI : Hid (Below V6.heap.size V6 wi) := hB.out
                    cases tb with
                    | true =>
                      have HAN : Hid ((fs.take (j + 1)).any (fun f => decide (f.nm = x.nm)) = true) := by show _ = _; rw [List.take_add_one, hf, List.any_append, hA.out]; rfl
                      clear hv1 hc1 hf k1 hA hB hbw
                      generalize (⟨f.nm.toArray⟩ : ByteArray) = s at *
                      generalize (⟨x.nm.toArray⟩ : ByteArray) = sx at *
                      have HSI : Hid (((fun W => W.cell? ⟨g1, o1 + j * 3, none⟩ = some (.string s) ∧ W.cell? ⟨wo2.heap.size, 0, none⟩ = some (.string sx))) wi) := ⟨p0, b0⟩
                      go_wp2_with fail
                      refine wp_region_held_drew (S := (fun W => W.cell? ⟨g1, o1 + j * 3, none⟩ = some (.string s) ∧ W.cell? ⟨wo2.heap.size, 0, none⟩ = some (.string sx))) (by kernel_rfl) ?hS63 (fun hHeld => ?rest63)
                      case hS63 => exact HSI.out
                      refine takeD (i := 0) (d := some 161) (v := ?vT64) rfl rfl (by kernel_rfl) (by kernel_rfl) (by kernel_rfl) (fun _ _ _ h => h) (Or.inl ⟨by rfl, ?hyT64⟩) (by assumption) ?rstT64
                      case hyT64 => (intro w hSw; (try dsimp only at hSw); go_simp; (try with_reducible rfl))
                      try simp only [Act.put, List.setIfInBounds_toArray, List.set_cons_zero, List.set_cons_succ]
                      refine takeD (i := 1) (d := some 162) (v := ?vT65) rfl rfl (by kernel_rfl) (by kernel_rfl) (by kernel_rfl) (fun _ _ _ h => h) (Or.inl ⟨by rfl, ?hyT65⟩) (by assumption) ?rstT65
                      case hyT65 => (intro w hSw; (try dsimp only at hSw); go_simp; (try with_reducible rfl))
                      try simp only [Act.put, List.setIfInBounds_toArray, List.set_cons_zero, List.set_cons_succ]
                      refine takeD (i := 2) (d := some 163) (v := undef) rfl rfl (by kernel_rfl) (by kernel_rfl) (by kernel_rfl) (fun _ _ _ h => h) (Or.inr ⟨by rfl, rfl⟩) (by assumption) ?_
                      try simp only [Act.put, List.setIfInBounds_toArray, List.set_cons_zero, List.set_cons_succ]
                      refine takeD (i := 3) (d := some 164) (v := undef) rfl rfl (by kernel_rfl) (by kernel_rfl) (by kernel_rfl) (fun _ _ _ h => h) (Or.inr ⟨by rfl, rfl⟩) (by assumption) ?_
                      try simp only [Act.put, List.setIfInBounds_toArray, List.set_cons_zero, List.set_cons_succ]
                      refine takeD (i := 4) (d := some 165) (v := undef) rfl rfl (by kernel_rfl) (by kernel_rfl) (by kernel_rfl) (fun _ _ _ h => h) (Or.inr ⟨by rfl, rfl⟩) (by assumption) ?_
                      try simp only [Act.put, List.setIfInBounds_toArray, List.set_cons_zero, List.set_cons_succ]
                      refine takeD (i := 5) (d := some 166) (v := undef) rfl rfl (by kernel_rfl) (by kernel_rfl) (by kernel_rfl) (fun _ _ _ h => h) (Or.inr ⟨by rfl, rfl⟩) (by assumption) ?_
                      try simp only [Act.put, List.setIfInBounds_toArray, List.set_cons_zero, List.set_cons_succ]
                      refine takeD (i := 6) (d := some 167) (v := undef) rfl rfl (by kernel_rfl) (by kernel_rfl) (by kernel_rfl) (fun _ _ _ h => h) (Or.inr ⟨by rfl, rfl⟩) (by assumption) ?_
                      try simp only [Act.put, List.setIfInBounds_toArray, List.set_cons_zero, List.set_cons_succ]
                      refine takeD (i := 7) (d := some 168) (v := undef) rfl rfl (by kernel_rfl) (by kernel_rfl) (by kernel_rfl) (fun _ _ _ h => h) (Or.inr ⟨by rfl, rfl⟩) (by assumption) ?_
                      try simp only [Act.put, List.setIfInBounds_toArray, List.set_cons_zero, List.set_cons_succ]
                      refine takeD (i := 8) (d := some 169) (v := undef) rfl rfl (by kernel_rfl) (by kernel_rfl) (by kernel_rfl) (fun _ _ _ h => h) (Or.inr ⟨by rfl, rfl⟩) (by assumption) ?_
                      try simp only [Act.put, List.setIfInBounds_toArray, List.set_cons_zero, List.set_cons_succ]
                      refine takeD (i := 9) (d := some 170) (v := undef) rfl rfl (by kernel_rfl) (by kernel_rfl) (by kernel_rfl) (fun _ _ _ h => h) (Or.inr ⟨by rfl, rfl⟩) (by assumption) ?_
                      try simp only [Act.put, List.setIfInBounds_toArray, List.set_cons_zero, List.set_cons_succ]
                      refine takeD (i := 10) (d := some 171) (v := ?vT66) rfl rfl (by kernel_rfl) (by kernel_rfl) (by kernel_rfl) (fun _ _ _ h => h) (Or.inl ⟨by rfl, ?hyT66⟩) (by assumption) ?rstT66
                      case hyT66 => (intro w hSw; (try dsimp only at hSw); go_simp; (try with_reducible rfl))
                      try simp only [Act.put, List.setIfInBounds_toArray, List.set_cons_zero, List.set_cons_succ]
                      refine takeD (i := 11) (d := some 15) (v := ?vT67) rfl rfl (by kernel_rfl) (by kernel_rfl) (by kernel_rfl) (fun _ _ _ h => h) (Or.inl ⟨by rfl, ?hyT67⟩) (by assumption) ?rstT67
                      case hyT67 => (intro w hSw; (try dsimp only at hSw); go_simp; (try with_reducible rfl))
                      try simp only [Act.put, List.setIfInBounds_toArray, List.set_cons_zero, List.set_cons_succ]
                      refine wpAnyH_done (by kernel_rfl) ?_ _
                      go_wp2_with fail
                      go_roundw
                      case rel => exact ⟨j + 1, by omega, by first | rfl | go_num, true, rfl, HAN.out, HBI.out.drew⟩
                      case measure => simp [RowKit.intOf]; omega
                    | false =>
                      by_cases he : f.nm = x.nm
                      · have HAN : Hid ((fs.take (j + 1)).any (fun f => decide (f.nm = x.nm)) = true) := by show _ = _; rw [List.take_add_one, hf, List.any_append, hA.out]; simp [he]
                        rw [he] at p0
                        have q1 := name_eq x.nm
                        clear hv1 hc1 hf k1 hA hB hbw he
                        generalize (⟨x.nm.toArray⟩ : ByteArray) = sx at *
                        have HSI : Hid (((fun W => W.cell? ⟨g1, o1 + j * 3, none⟩ = some (.string sx) ∧ W.cell? ⟨wo2.heap.size, 0, none⟩ = some (.string sx))) wi) := ⟨p0, b0⟩
                        go_wp2_with fail
                        refine wp_region_held_drew (S := (fun W => W.cell? ⟨g1, o1 + j * 3, none⟩ = some (.string sx) ∧ W.cell? ⟨wo2.heap.size, 0, none⟩ = some (.string sx))) (by kernel_rfl) ?hS68 (fun hHeld => ?rest68)
                        case hS68 => exact HSI.out
                        refine takeD (i := 0) (d := some 161) (v := ?vT69) rfl rfl (by kernel_rfl) (by kernel_rfl) (by kernel_rfl) (fun _ _ _ h => h) (Or.inl ⟨by rfl, ?hyT69⟩) (by assumption) ?rstT69
                        case hyT69 => (intro w hSw; (try dsimp only at hSw); go_simp; (try with_reducible rfl))
                        try simp only [Act.put, List.setIfInBounds_toArray, List.set_cons_zero, List.set_cons_succ]
                        refine takeD (i := 1) (d := some 162) (v := ?vT70) rfl rfl (by kernel_rfl) (by kernel_rfl) (by kernel_rfl) (fun _ _ _ h => h) (Or.inl ⟨by rfl, ?hyT70⟩) (by assumption) ?rstT70
                        case hyT70 => (intro w hSw; (try dsimp only at hSw); go_simp; (try with_reducible rfl))
                        try simp only [Act.put, List.setIfInBounds_toArray, List.set_cons_zero, List.set_cons_succ]
                        refine takeD (i := 2) (d := some 163) (v := ?vT71) rfl rfl (by kernel_rfl) (by kernel_rfl) (by kernel_rfl) (fun _ _ _ h => h) (Or.inl ⟨by rfl, ?hyT71⟩) (by assumption) ?rstT71
                        case hyT71 => (intro w hSw; (try dsimp only at hSw); go_simp; (try with_reducible rfl))
                        try simp only [Act.put, List.setIfInBounds_toArray, List.set_cons_zero, List.set_cons_succ]
                        refine takeD (i := 3) (d := some 164) (v := ?vT72) rfl rfl (by kernel_rfl) (by kernel_rfl) (by kernel_rfl) (fun _ _ _ h => h) (Or.inl ⟨by rfl, ?hyT72⟩) (by assumption) ?rstT72
                        case hyT72 => (intro w hSw; (try dsimp only at hSw); go_simp; (try with_reducible rfl))
                        try simp only [Act.put, List.setIfInBounds_toArray, List.set_cons_zero, List.set_cons_succ]
                        refine takeD (i := 4) (d := some 165) (v := ?vT73) rfl rfl (by kernel_rfl) (by kernel_rfl) (by kernel_rfl) (fun _ _ _ h => h) (Or.inl ⟨by rfl, ?hyT73⟩) (by assumption) ?rstT73
                        case hyT73 => (intro w hSw; (try dsimp only at hSw); go_simp; (try with_reducible rfl))
                        try simp only [Act.put, List.setIfInBounds_toArray, List.set_cons_zero, List.set_cons_succ]
                        refine takeD (i := 5) (d := some 166) (v := ?vT74) rfl rfl (by kernel_rfl) (by kernel_rfl) (by kernel_rfl) (fun _ _ _ h => h) (Or.inl ⟨by rfl, ?hyT74⟩) (by assumption) ?rstT74
                        case hyT74 => (intro w hSw; (try dsimp only at hSw); go_simp; (try with_reducible rfl))
                        try simp only [Act.put, List.setIfInBounds_toArray, List.set_cons_zero, List.set_cons_succ]
                        refine takeD (i := 6) (d := some 167) (v := ?vT75) rfl rfl (by kernel_rfl) (by kernel_rfl) (by kernel_rfl) (fun _ _ _ h => h) (Or.inl ⟨by rfl, ?hyT75⟩) (by assumption) ?rstT75
                        case hyT75 => (intro w hSw; (try dsimp only at hSw); go_simp; (try with_reducible rfl))
                        try simp only [Act.put, List.setIfInBounds_toArray, List.set_cons_zero, List.set_cons_succ]
                        refine takeD (i := 7) (d := some 168) (v := ?vT76) rfl rfl (by kernel_rfl) (by kernel_rfl) (by kernel_rfl) (fun _ _ _ h => h) (Or.inl ⟨by rfl, ?hyT76⟩) (by assumption) ?rstT76
                        case hyT76 => (intro w hSw; (try dsimp only at hSw); go_simp; (try with_reducible rfl))
                        try simp only [Act.put, List.setIfInBounds_toArray, List.set_cons_zero, List.set_cons_succ]
                        refine takeD (i := 8) (d := some 169) (v := ?vT77) rfl rfl (by kernel_rfl) (by kernel_rfl) (by kernel_rfl) (fun _ _ _ h => h) (Or.inl ⟨by rfl, ?hyT77⟩) (by assumption) ?rstT77
                        case hyT77 => (intro w hSw; (try dsimp only at hSw); go_simp; (try with_reducible rfl))
                        try simp only [Act.put, List.setIfInBounds_toArray, List.set_cons_zero, List.set_cons_succ]
                        refine takeD (i := 9) (d := some 170) (v := ?vT78) rfl rfl (by kernel_rfl) (by kernel_rfl) (by kernel_rfl) (fun _ _ _ h => h) (Or.inl ⟨by rfl, ?hyT78⟩) (by assumption) ?rstT78
                        case hyT78 => (intro w hSw; (try dsimp only at hSw); go_simp; (try with_reducible rfl))
                        try simp only [Act.put, List.setIfInBounds_toArray, List.set_cons_zero, List.set_cons_succ]
                        refine takeD (i := 10) (d := some 171) (v := ?vT79) rfl rfl (by kernel_rfl) (by kernel_rfl) (by kernel_rfl) (fun _ _ _ h => h) (Or.inl ⟨by rfl, ?hyT79⟩) (by assumption) ?rstT79
                        case hyT79 => (intro w hSw; (try dsimp only at hSw); go_simp; (try with_reducible rfl))
                        try simp only [Act.put, List.setIfInBounds_toArray, List.set_cons_zero, List.set_cons_succ]
                        refine takeD (i := 11) (d := some 15) (v := ?vT80) rfl rfl (by kernel_rfl) (by kernel_rfl) (by kernel_rfl) (fun _ _ _ h => h) (Or.inl ⟨by rfl, ?hyT80⟩) (by assumption) ?rstT80
                        case hyT80 => (intro w hSw; (try dsimp only at hSw); go_simp; (try with_reducible rfl))
                        try simp only [Act.put, List.setIfInBounds_toArray, List.set_cons_zero, List.set_cons_succ]
                        refine wpAnyH_done (by kernel_rfl) ?_ _
                        go_wp2_with fail
                        go_roundw
                        case rel => exact ⟨j + 1, by omega, by first | rfl | go_num, true, rfl, HAN.out, HBI.out.drew⟩
                        case measure => simp [RowKit.intOf]; omega
                      · have HAN : Hid ((fs.take (j + 1)).any (fun f => decide (f.nm = x.nm)) = false) := by show _ = _; rw [List.take_add_one, hf, List.any_append, hA.out]; simp [he]
                        have q1 := name_ne he
                        clear hv1 hc1 hf k1 hA hB hbw he
                        generalize (⟨f.nm.toArray⟩ : ByteArray) = s at *
                        generalize (⟨x.nm.toArray⟩ : ByteArray) = sx at *
                        have HSI : Hid (((fun W => W.cell? ⟨g1, o1 + j * 3, none⟩ = some (.string s) ∧ W.cell? ⟨wo2.heap.size, 0, none⟩ = some (.string sx))) wi) := ⟨p0, b0⟩
                        go_wp2_with fail
                        refine wp_region_held_drew (S := (fun W => W.cell? ⟨g1, o1 + j * 3, none⟩ = some (.string s) ∧ W.cell? ⟨wo2.heap.size, 0, none⟩ = some (.string sx))) (by kernel_rfl) ?hS81 (fun hHeld => ?rest81)
                        case hS81 => exact HSI.out
                        refine takeD (i := 0) (d := some 161) (v := ?vT82) rfl rfl (by kernel_rfl) (by kernel_rfl) (by kernel_rfl) (fun _ _ _ h => h) (Or.inl ⟨by rfl, ?hyT82⟩) (by assumption) ?rstT82
                        case hyT82 => (intro w hSw; (try dsimp only at hSw); go_simp; (try with_reducible rfl))
                        try simp only [Act.put, List.setIfInBounds_toArray, List.set_cons_zero, List.set_cons_succ]
                        refine takeD (i := 1) (d := some 162) (v := ?vT83) rfl rfl (by kernel_rfl) (by kernel_rfl) (by kernel_rfl) (fun _ _ _ h => h) (Or.inl ⟨by rfl, ?hyT83⟩) (by assumption) ?rstT83
                        case hyT83 => (intro w hSw; (try dsimp only at hSw); go_simp; (try with_reducible rfl))
                        try simp only [Act.put, List.setIfInBounds_toArray, List.set_cons_zero, List.set_cons_succ]
                        refine takeD (i := 2) (d := some 163) (v := ?vT84) rfl rfl (by kernel_rfl) (by kernel_rfl) (by kernel_rfl) (fun _ _ _ h => h) (Or.inl ⟨by rfl, ?hyT84⟩) (by assumption) ?rstT84
                        case hyT84 => (intro w hSw; (try dsimp only at hSw); go_simp; (try with_reducible rfl))
                        try simp only [Act.put, List.setIfInBounds_toArray, List.set_cons_zero, List.set_cons_succ]
                        refine takeD (i := 3) (d := some 164) (v := ?vT85) rfl rfl (by kernel_rfl) (by kernel_rfl) (by kernel_rfl) (fun _ _ _ h => h) (Or.inl ⟨by rfl, ?hyT85⟩) (by assumption) ?rstT85
                        case hyT85 => (intro w hSw; (try dsimp only at hSw); go_simp; (try with_reducible rfl))
                        try simp only [Act.put, List.setIfInBounds_toArray, List.set_cons_zero, List.set_cons_succ]
                        refine takeD (i := 4) (d := some 165) (v := ?vT86) rfl rfl (by kernel_rfl) (by kernel_rfl) (by kernel_rfl) (fun _ _ _ h => h) (Or.inl ⟨by rfl, ?hyT86⟩) (by assumption) ?rstT86
                        case hyT86 => (intro w hSw; (try dsimp only at hSw); go_simp; (try with_reducible rfl))
                        try simp only [Act.put, List.setIfInBounds_toArray, List.set_cons_zero, List.set_cons_succ]
                        refine takeD (i := 5) (d := some 166) (v := ?vT87) rfl rfl (by kernel_rfl) (by kernel_rfl) (by kernel_rfl) (fun _ _ _ h => h) (Or.inl ⟨by rfl, ?hyT87⟩) (by assumption) ?rstT87
                        case hyT87 => (intro w hSw; (try dsimp only at hSw); go_simp; (try with_reducible rfl))
                        try simp only [Act.put, List.setIfInBounds_toArray, List.set_cons_zero, List.set_cons_succ]
                        refine takeD (i := 6) (d := some 167) (v := ?vT88) rfl rfl (by kernel_rfl) (by kernel_rfl) (by kernel_rfl) (fun _ _ _ h => h) (Or.inl ⟨by rfl, ?hyT88⟩) (by assumption) ?rstT88
                        case hyT88 => (intro w hSw; (try dsimp only at hSw); go_simp; (try with_reducible rfl))
                        try simp only [Act.put, List.setIfInBounds_toArray, List.set_cons_zero, List.set_cons_succ]
                        refine takeD (i := 7) (d := some 168) (v := ?vT89) rfl rfl (by kernel_rfl) (by kernel_rfl) (by kernel_rfl) (fun _ _ _ h => h) (Or.inl ⟨by rfl, ?hyT89⟩) (by assumption) ?rstT89
                        case hyT89 => (intro w hSw; (try dsimp only at hSw); go_simp; (try with_reducible rfl))
                        try simp only [Act.put, List.setIfInBounds_toArray, List.set_cons_zero, List.set_cons_succ]
                        refine takeD (i := 8) (d := some 169) (v := ?vT90) rfl rfl (by kernel_rfl) (by kernel_rfl) (by kernel_rfl) (fun _ _ _ h => h) (Or.inl ⟨by rfl, ?hyT90⟩) (by assumption) ?rstT90
                        case hyT90 => (intro w hSw; (try dsimp only at hSw); go_simp; (try with_reducible rfl))
                        try simp only [Act.put, List.setIfInBounds_toArray, List.set_cons_zero, List.set_cons_succ]
                        refine takeD (i := 9) (d := some 170) (v := ?vT91) rfl rfl (by kernel_rfl) (by kernel_rfl) (by kernel_rfl) (fun _ _ _ h => h) (Or.inl ⟨by rfl, ?hyT91⟩) (by assumption) ?rstT91
                        case hyT91 => (intro w hSw; (try dsimp only at hSw); go_simp; (try with_reducible rfl))
                        try simp only [Act.put, List.setIfInBounds_toArray, List.set_cons_zero, List.set_cons_succ]
                        refine takeD (i := 10) (d := some 171) (v := ?vT92) rfl rfl (by kernel_rfl) (by kernel_rfl) (by kernel_rfl) (fun _ _ _ h => h) (Or.inl ⟨by rfl, ?hyT92⟩) (by assumption) ?rstT92
                        case hyT92 => (intro w hSw; (try dsimp only at hSw); go_simp; (try with_reducible rfl))
                        try simp only [Act.put, List.setIfInBounds_toArray, List.set_cons_zero, List.set_cons_succ]
                        refine takeD (i := 11) (d := some 15) (v := ?vT93) rfl rfl (by kernel_rfl) (by kernel_rfl) (by kernel_rfl) (fun _ _ _ h => h) (Or.inl ⟨by rfl, ?hyT93⟩) (by assumption) ?rstT93
                        case hyT93 => (intro w hSw; (try dsimp only at hSw); go_simp; (try with_reducible rfl))
                        try simp only [Act.put, List.setIfInBounds_toArray, List.set_cons_zero, List.set_cons_succ]
                        refine wpAnyH_done (by kernel_rfl) ?_ _
                        go_wp2_with fail
                        go_roundw
                        case rel => exact ⟨j + 1, by omega, by first | rfl | go_num, false, rfl, HAN.out, HBI.out.drew⟩
                        case measure => simp [RowKit.intOf]; omega
                  · obtain rfl : j = n := by omega
                    have hlt2 : ¬ ((j : Int) < (j : Int)) := by omega
                    have htb : tb = false := by rw [← hA.out, ← HH.out.2.2.2.2, List.take_length]; exact HTH.out
                    subst htb
                    have HB9 : Hid (Below w1.heap.size w1 wi) := HW1.out.trans ((H6.out.2.1.trans (hB.out.mono H6.out.2.1.size)).mono HW1.out.size)
                    clear hA hB
                    go_wp2_with fail
                    go_roundw
                    case rel => exact ⟨i2 + 1, by omega, by first | rfl | go_num, HB9.out⟩
                    case measure => simp [RowKit.intOf]; omega
            · have t2 : ¬ ((0 : Int) < (kp : Int)) := by omega
              have t2d : decide (0 < kp) = false := by simp; omega
              have HTH : Hid (fs.any (fun f => decide (f.nm = x.nm)) = false) := by show _ = _; rw [hth]; simp; omega
              clear hth
              go_wp2_with fail
              go_loopw [15, 16] (fun vt vj wi => ∃ j : Nat, j ≤ n ∧ vj = .int .i64 (j : Int) ∧ ∃ tb : Bool, vt = .bool tb ∧ Hid ((fs.take j).any (fun f => decide (f.nm = x.nm)) = tb) ∧ Hid (Below V6.heap.size V6 wi)) (fun _ vj _ => n - (RowKit.intOf vj).toNat)
              case atStart => exact ⟨0, Nat.zero_le _, rfl, false, rfl, by show _ = _; simp, by first | exact Below.refl _ _ | exact (Below.refl _ _).drew⟩
              case round =>
                obtain ⟨j, hj, rfl, tb, rfl, hA, hB⟩ := hrel
                obtain ⟨wi, hwi⟩ : ∃ wi, wi = wr := ⟨_, rfl⟩
                subst hwi
                by_cases hlt : j < n
                · have hlt2 : (j : Int) < (n : Int) := by omega
                  have gi : IntKind.i64.wrap ((j : Int) + 1) = ((j + 1 : Nat) : Int) := by rw [IntWalk.i64_in _ (by omega)]; omega
                  have hbw := H6.out.2.2.trans (hB.out.mono H6.out.2.2.size)
                  obtain ⟨g1, o1, v1, ha1, _, hv1, hc1⟩ := (HH.out.1.below hbw).at j hlt
                  subst ha1
                  obtain ⟨f, hf⟩ : ∃ f, fs[j]? = some f := ⟨_, List.getElem?_eq_getElem (by have := HH.out.2.1; have := HH.out.2.2.2.2; omega)⟩
                  have k1 := HH.out.2.2.1 j v1 f hv1 hf
                  have p0 := hc1 0 _ rfl
                  rw [Nat.add_zero, k1.nm] at p0
                  have b0 := (hB.out.cell (p := ⟨wo2.heap.size, 0, none⟩) H6.out.1).trans HZ0.out
                  have HBI : Hid (Below V6.heap.size V6 wi) := hB.out
                  cases tb with
                  | true =>
                    have HAN : Hid ((fs.take (j + 1)).any (fun f => decide (f.nm = x.nm)) = true) := by show _ = _; rw [List.take_add_one, hf, List.any_append, hA.out]; rfl
                    clear hv1 hc1 hf k1 hA hB hbw
                    generalize (⟨f.nm.toArray⟩ : ByteArray) = s at *
                    generalize (⟨x.nm.toArray⟩ : ByteArray) = sx at *
                    have HSI : Hid (((fun W => W.cell? ⟨g1, o1 + j * 3, none⟩ = some (.string s) ∧ W.cell? ⟨wo2.heap.size, 0, none⟩ = some (.string sx))) wi) := ⟨p0, b0⟩
                    go_wp2_with fail
                    refine wp_region_held_drew (S := (fun W => W.cell? ⟨g1, o1 + j * 3, none⟩ = some (.string s) ∧ W.cell? ⟨wo2.heap.size, 0, none⟩ = some (.string sx))) (by kernel_rfl) ?hS94 (fun hHeld => ?rest94)
                    case hS94 => exact HSI.out
                    refine takeD (i := 0) (d := some 161) (v := ?vT95) rfl rfl (by kernel_rfl) (by kernel_rfl) (by kernel_rfl) (fun _ _ _ h => h) (Or.inl ⟨by rfl, ?hyT95⟩) (by assumption) ?rstT95
                    case hyT95 => (intro w hSw; (try dsimp only at hSw); go_simp; (try with_reducible rfl))
                    try simp only [Act.put, List.setIfInBounds_toArray, List.set_cons_zero, List.set_cons_succ]
                    refine takeD (i := 1) (d := some 162) (v := ?vT96) rfl rfl (by kernel_rfl) (by kernel_rfl) (by kernel_rfl) (fun _ _ _ h => h) (Or.inl ⟨by rfl, ?hyT96⟩) (by assumption) ?rstT96
                    case hyT96 => (intro w hSw; (try dsimp only at hSw); go_simp; (try with_reducible rfl))
                    try simp only [Act.put, List.setIfInBounds_toArray, List.set_cons_zero, List.set_cons_succ]
                    refine takeD (i := 2) (d := some 163) (v := undef) rfl rfl (by kernel_rfl) (by kernel_rfl) (by kernel_rfl) (fun _ _ _ h => h) (Or.inr ⟨by rfl, rfl⟩) (by assumption) ?_
                    try simp only [Act.put, List.setIfInBounds_toArray, List.set_cons_zero, List.set_cons_succ]
                    refine takeD (i := 3) (d := some 164) (v := undef) rfl rfl (by kernel_rfl) (by kernel_rfl) (by kernel_rfl) (fun _ _ _ h => h) (Or.inr ⟨by rfl, rfl⟩) (by assumption) ?_
                    try simp only [Act.put, List.setIfInBounds_toArray, List.set_cons_zero, List.set_cons_succ]
                    refine takeD (i := 4) (d := some 165) (v := undef) rfl rfl (by kernel_rfl) (by kernel_rfl) (by kernel_rfl) (fun _ _ _ h => h) (Or.inr ⟨by rfl, rfl⟩) (by assumption) ?_
                    try simp only [Act.put, List.setIfInBounds_toArray, List.set_cons_zero, List.set_cons_succ]
                    refine takeD (i := 5) (d := some 166) (v := undef) rfl rfl (by kernel_rfl) (by kernel_rfl) (by kernel_rfl) (fun _ _ _ h => h) (Or.inr ⟨by rfl, rfl⟩) (by assumption) ?_
                    try simp only [Act.put, List.setIfInBounds_toArray, List.set_cons_zero, List.set_cons_succ]
                    refine takeD (i := 6) (d := some 167) (v := undef) rfl rfl (by kernel_rfl) (by kernel_rfl) (by kernel_rfl) (fun _ _ _ h => h) (Or.inr ⟨by rfl, rfl⟩) (by assumption) ?_
                    try simp only [Act.put, List.setIfInBounds_toArray, List.set_cons_zero, List.set_cons_succ]
                    refine takeD (i := 7) (d := some 168) (v := undef) rfl rfl (by kernel_rfl) (by kernel_rfl) (by kernel_rfl) (fun _ _ _ h => h) (Or.inr ⟨by rfl, rfl⟩) (by assumption) ?_
                    try simp only [Act.put, List.setIfInBounds_toArray, List.set_cons_zero, List.set_cons_succ]
                    refine takeD (i := 8) (d := some 169) (v := undef) rfl rfl (by kernel_rfl) (by kernel_rfl) (by kernel_rfl) (fun _ _ _ h => h) (Or.inr ⟨by rfl, rfl⟩) (by assumption) ?_
                    try simp only [Act.put, List.setIfInBounds_toArray, List.set_cons_zero, List.set_cons_succ]
                    refine takeD (i := 9) (d := some 170) (v := undef) rfl rfl (by kernel_rfl) (by kernel_rfl) (by kernel_rfl) (fun _ _ _ h => h) (Or.inr ⟨by rfl, rfl⟩) (by assumption) ?_
                    try simp only [Act.put, List.setIfInBounds_toArray, List.set_cons_zero, List.set_cons_succ]
                    refine takeD (i := 10) (d := some 171) (v := ?vT97) rfl rfl (by kernel_rfl) (by kernel_rfl) (by kernel_rfl) (fun _ _ _ h => h) (Or.inl ⟨by rfl, ?hyT97⟩) (by assumption) ?rstT97
                    case hyT97 => (intro w hSw; (try dsimp only at hSw); go_simp; (try with_reducible rfl))
                    try simp only [Act.put, List.setIfInBounds_toArray, List.set_cons_zero, List.set_cons_succ]
                    refine takeD (i := 11) (d := some 15) (v := ?vT98) rfl rfl (by kernel_rfl) (by kernel_rfl) (by kernel_rfl) (fun _ _ _ h => h) (Or.inl ⟨by rfl, ?hyT98⟩) (by assumption) ?rstT98
                    case hyT98 => (intro w hSw; (try dsimp only at hSw); go_simp; (try with_reducible rfl))
                    try simp only [Act.put, List.setIfInBounds_toArray, List.set_cons_zero, List.set_cons_succ]
                    refine wpAnyH_done (by kernel_rfl) ?_ _
                    go_wp2_with fail
                    go_roundw
                    case rel => exact ⟨j + 1, by omega, by first | rfl | go_num, true, rfl, HAN.out, HBI.out.drew⟩
                    case measure => simp [RowKit.intOf]; omega
                  | false =>
                    by_cases he : f.nm = x.nm
                    · have HAN : Hid ((fs.take (j + 1)).any (fun f => decide (f.nm = x.nm)) = true) := by show _ = _; rw [List.take_add_one, hf, List.any_append, hA.out]; simp [he]
                      rw [he] at p0
                      have q1 := name_eq x.nm
                      clear hv1 hc1 hf k1 hA hB hbw he
                      generalize (⟨x.nm.toArray⟩ : ByteArray) = sx at *
                      have HSI : Hid (((fun W => W.cell? ⟨g1, o1 + j * 3, none⟩ = some (.string sx) ∧ W.cell? ⟨wo2.heap.size, 0, none⟩ = some (.string sx))) wi) := ⟨p0, b0⟩
                      go_wp2_with fail
                      refine wp_region_held_drew (S := (fun W => W.cell? ⟨g1, o1 + j * 3, none⟩ = some (.string sx) ∧ W.cell? ⟨wo2.heap.size, 0, none⟩ = some (.string sx))) (by kernel_rfl) ?hS99 (fun hHeld => ?rest99)
                      case hS99 => exact HSI.out
                      refine takeD (i := 0) (d := some 161) (v := ?vT100) rfl rfl (by kernel_rfl) (by kernel_rfl) (by kernel_rfl) (fun _ _ _ h => h) (Or.inl ⟨by rfl, ?hyT100⟩) (by assumption) ?rstT100
                      case hyT100 => (intro w hSw; (try dsimp only at hSw); go_simp; (try with_reducible rfl))
                      try simp only [Act.put, List.setIfInBounds_toArray, List.set_cons_zero, List.set_cons_succ]
                      refine takeD (i := 1) (d := some 162) (v := ?vT101) rfl rfl (by kernel_rfl) (by kernel_rfl) (by kernel_rfl) (fun _ _ _ h => h) (Or.inl ⟨by rfl, ?hyT101⟩) (by assumption) ?rstT101
                      case hyT101 => (intro w hSw; (try dsimp only at hSw); go_simp; (try with_reducible rfl))
                      try simp only [Act.put, List.setIfInBounds_toArray, List.set_cons_zero, List.set_cons_succ]
                      refine takeD (i := 2) (d := some 163) (v := ?vT102) rfl rfl (by kernel_rfl) (by kernel_rfl) (by kernel_rfl) (fun _ _ _ h => h) (Or.inl ⟨by rfl, ?hyT102⟩) (by assumption) ?rstT102
                      case hyT102 => (intro w hSw; (try dsimp only at hSw); go_simp; (try with_reducible rfl))
                      try simp only [Act.put, List.setIfInBounds_toArray, List.set_cons_zero, List.set_cons_succ]
                      refine takeD (i := 3) (d := some 164) (v := ?vT103) rfl rfl (by kernel_rfl) (by kernel_rfl) (by kernel_rfl) (fun _ _ _ h => h) (Or.inl ⟨by rfl, ?hyT103⟩) (by assumption) ?rstT103
                      case hyT103 => (intro w hSw; (try dsimp only at hSw); go_simp; (try with_reducible rfl))
                      try simp only [Act.put, List.setIfInBounds_toArray, List.set_cons_zero, List.set_cons_succ]
                      refine takeD (i := 4) (d := some 165) (v := ?vT104) rfl rfl (by kernel_rfl) (by kernel_rfl) (by kernel_rfl) (fun _ _ _ h => h) (Or.inl ⟨by rfl, ?hyT104⟩) (by assumption) ?rstT104
                      case hyT104 => (intro w hSw; (try dsimp only at hSw); go_simp; (try with_reducible rfl))
                      try simp only [Act.put, List.setIfInBounds_toArray, List.set_cons_zero, List.set_cons_succ]
                      refine takeD (i := 5) (d := some 166) (v := ?vT105) rfl rfl (by kernel_rfl) (by kernel_rfl) (by kernel_rfl) (fun _ _ _ h => h) (Or.inl ⟨by rfl, ?hyT105⟩) (by assumption) ?rstT105
                      case hyT105 => (intro w hSw; (try dsimp only at hSw); go_simp; (try with_reducible rfl))
                      try simp only [Act.put, List.setIfInBounds_toArray, List.set_cons_zero, List.set_cons_succ]
                      refine takeD (i := 6) (d := some 167) (v := ?vT106) rfl rfl (by kernel_rfl) (by kernel_rfl) (by kernel_rfl) (fun _ _ _ h => h) (Or.inl ⟨by rfl, ?hyT106⟩) (by assumption) ?rstT106
                      case hyT106 => (intro w hSw; (try dsimp only at hSw); go_simp; (try with_reducible rfl))
                      try simp only [Act.put, List.setIfInBounds_toArray, List.set_cons_zero, List.set_cons_succ]
                      refine takeD (i := 7) (d := some 168) (v := ?vT107) rfl rfl (by kernel_rfl) (by kernel_rfl) (by kernel_rfl) (fun _ _ _ h => h) (Or.inl ⟨by rfl, ?hyT107⟩) (by assumption) ?rstT107
                      case hyT107 => (intro w hSw; (try dsimp only at hSw); go_simp; (try with_reducible rfl))
                      try simp only [Act.put, List.setIfInBounds_toArray, List.set_cons_zero, List.set_cons_succ]
                      refine takeD (i := 8) (d := some 169) (v := ?vT108) rfl rfl (by kernel_rfl) (by kernel_rfl) (by kernel_rfl) (fun _ _ _ h => h) (Or.inl ⟨by rfl, ?hyT108⟩) (by assumption) ?rstT108
                      case hyT108 => (intro w hSw; (try dsimp only at hSw); go_simp; (try with_reducible rfl))
                      try simp only [Act.put, List.setIfInBounds_toArray, List.set_cons_zero, List.set_cons_succ]
                      refine takeD (i := 9) (d := some 170) (v := ?vT109) rfl rfl (by kernel_rfl) (by kernel_rfl) (by kernel_rfl) (fun _ _ _ h => h) (Or.inl ⟨by rfl, ?hyT109⟩) (by assumption) ?rstT109
                      case hyT109 => (intro w hSw; (try dsimp only at hSw); go_simp; (try with_reducible rfl))
                      try simp only [Act.put, List.setIfInBounds_toArray, List.set_cons_zero, List.set_cons_succ]
                      refine takeD (i := 10) (d := some 171) (v := ?vT110) rfl rfl (by kernel_rfl) (by kernel_rfl) (by kernel_rfl) (fun _ _ _ h => h) (Or.inl ⟨by rfl, ?hyT110⟩) (by assumption) ?rstT110
                      case hyT110 => (intro w hSw; (try dsimp only at hSw); go_simp; (try with_reducible rfl))
                      try simp only [Act.put, List.setIfInBounds_toArray, List.set_cons_zero, List.set_cons_succ]
                      refine takeD (i := 11) (d := some 15) (v := ?vT111) rfl rfl (by kernel_rfl) (by kernel_rfl) (by kernel_rfl) (fun _ _ _ h => h) (Or.inl ⟨by rfl, ?hyT111⟩) (by assumption) ?rstT111
                      case hyT111 => (intro w hSw; (try dsimp only at hSw); go_simp; (try with_reducible rfl))
                      try simp only [Act.put, List.setIfInBounds_toArray, List.set_cons_zero, List.set_cons_succ]
                      refine wpAnyH_done (by kernel_rfl) ?_ _
                      go_wp2_with fail
                      go_roundw
                      case rel => exact ⟨j + 1, by omega, by first | rfl | go_num, true, rfl, HAN.out, HBI.out.drew⟩
                      case measure => simp [RowKit.intOf]; omega
                    · have HAN : Hid ((fs.take (j + 1)).any (fun f => decide (f.nm = x.nm)) = false) := by show _ = _; rw [List.take_add_one, hf, List.any_append, hA.out]; simp [he]
                      have q1 := name_ne he
                      clear hv1 hc1 hf k1 hA hB hbw he
                      generalize (⟨f.nm.toArray⟩ : ByteArray) = s at *
                      generalize (⟨x.nm.toArray⟩ : ByteArray) = sx at *
                      have HSI : Hid (((fun W => W.cell? ⟨g1, o1 + j * 3, none⟩ = some (.string s) ∧ W.cell? ⟨wo2.heap.size, 0, none⟩ = some (.string sx))) wi) := ⟨p0, b0⟩
                      go_wp2_with fail
                      refine wp_region_held_drew (S := (fun W => W.cell? ⟨g1, o1 + j * 3, none⟩ = some (.string s) ∧ W.cell? ⟨wo2.heap.size, 0, none⟩ = some (.string sx))) (by kernel_rfl) ?hS112 (fun hHeld => ?rest112)
                      case hS112 => exact HSI.out
                      refine takeD (i := 0) (d := some 161) (v := ?vT113) rfl rfl (by kernel_rfl) (by kernel_rfl) (by kernel_rfl) (fun _ _ _ h => h) (Or.inl ⟨by rfl, ?hyT113⟩) (by assumption) ?rstT113
                      case hyT113 => (intro w hSw; (try dsimp only at hSw); go_simp; (try with_reducible rfl))
                      try simp only [Act.put, List.setIfInBounds_toArray, List.set_cons_zero, List.set_cons_succ]
                      refine takeD (i := 1) (d := some 162) (v := ?vT114) rfl rfl (by kernel_rfl) (by kernel_rfl) (by kernel_rfl) (fun _ _ _ h => h) (Or.inl ⟨by rfl, ?hyT114⟩) (by assumption) ?rstT114
                      case hyT114 => (intro w hSw; (try dsimp only at hSw); go_simp; (try with_reducible rfl))
                      try simp only [Act.put, List.setIfInBounds_toArray, List.set_cons_zero, List.set_cons_succ]
                      refine takeD (i := 2) (d := some 163) (v := ?vT115) rfl rfl (by kernel_rfl) (by kernel_rfl) (by kernel_rfl) (fun _ _ _ h => h) (Or.inl ⟨by rfl, ?hyT115⟩) (by assumption) ?rstT115
                      case hyT115 => (intro w hSw; (try dsimp only at hSw); go_simp; (try with_reducible rfl))
                      try simp only [Act.put, List.setIfInBounds_toArray, List.set_cons_zero, List.set_cons_succ]
                      refine takeD (i := 3) (d := some 164) (v := ?vT116) rfl rfl (by kernel_rfl) (by kernel_rfl) (by kernel_rfl) (fun _ _ _ h => h) (Or.inl ⟨by rfl, ?hyT116⟩) (by assumption) ?rstT116
                      case hyT116 => (intro w hSw; (try dsimp only at hSw); go_simp; (try with_reducible rfl))
                      try simp only [Act.put, List.setIfInBounds_toArray, List.set_cons_zero, List.set_cons_succ]
                      refine takeD (i := 4) (d := some 165) (v := ?vT117) rfl rfl (by kernel_rfl) (by kernel_rfl) (by kernel_rfl) (fun _ _ _ h => h) (Or.inl ⟨by rfl, ?hyT117⟩) (by assumption) ?rstT117
                      case hyT117 => (intro w hSw; (try dsimp only at hSw); go_simp; (try with_reducible rfl))
                      try simp only [Act.put, List.setIfInBounds_toArray, List.set_cons_zero, List.set_cons_succ]
                      refine takeD (i := 5) (d := some 166) (v := ?vT118) rfl rfl (by kernel_rfl) (by kernel_rfl) (by kernel_rfl) (fun _ _ _ h => h) (Or.inl ⟨by rfl, ?hyT118⟩) (by assumption) ?rstT118
                      case hyT118 => (intro w hSw; (try dsimp only at hSw); go_simp; (try with_reducible rfl))
                      try simp only [Act.put, List.setIfInBounds_toArray, List.set_cons_zero, List.set_cons_succ]
                      refine takeD (i := 6) (d := some 167) (v := ?vT119) rfl rfl (by kernel_rfl) (by kernel_rfl) (by kernel_rfl) (fun _ _ _ h => h) (Or.inl ⟨by rfl, ?hyT119⟩) (by assumption) ?rstT119
                      case hyT119 => (intro w hSw; (try dsimp only at hSw); go_simp; (try with_reducible rfl))
                      try simp only [Act.put, List.setIfInBounds_toArray, List.set_cons_zero, List.set_cons_succ]
                      refine takeD (i := 7) (d := some 168) (v := ?vT120) rfl rfl (by kernel_rfl) (by kernel_rfl) (by kernel_rfl) (fun _ _ _ h => h) (Or.inl ⟨by rfl, ?hyT120⟩) (by assumption) ?rstT120
                      case hyT120 => (intro w hSw; (try dsimp only at hSw); go_simp; (try with_reducible rfl))
                      try simp only [Act.put, List.setIfInBounds_toArray, List.set_cons_zero, List.set_cons_succ]
                      refine takeD (i := 8) (d := some 169) (v := ?vT121) rfl rfl (by kernel_rfl) (by kernel_rfl) (by kernel_rfl) (fun _ _ _ h => h) (Or.inl ⟨by rfl, ?hyT121⟩) (by assumption) ?rstT121
                      case hyT121 => (intro w hSw; (try dsimp only at hSw); go_simp; (try with_reducible rfl))
                      try simp only [Act.put, List.setIfInBounds_toArray, List.set_cons_zero, List.set_cons_succ]
                      refine takeD (i := 9) (d := some 170) (v := ?vT122) rfl rfl (by kernel_rfl) (by kernel_rfl) (by kernel_rfl) (fun _ _ _ h => h) (Or.inl ⟨by rfl, ?hyT122⟩) (by assumption) ?rstT122
                      case hyT122 => (intro w hSw; (try dsimp only at hSw); go_simp; (try with_reducible rfl))
                      try simp only [Act.put, List.setIfInBounds_toArray, List.set_cons_zero, List.set_cons_succ]
                      refine takeD (i := 10) (d := some 171) (v := ?vT123) rfl rfl (by kernel_rfl) (by kernel_rfl) (by kernel_rfl) (fun _ _ _ h => h) (Or.inl ⟨by rfl, ?hyT123⟩) (by assumption) ?rstT123
                      case hyT123 => (intro w hSw; (try dsimp only at hSw); go_simp; (try with_reducible rfl))
                      try simp only [Act.put, List.setIfInBounds_toArray, List.set_cons_zero, List.set_cons_succ]
                      refine takeD (i := 11) (d := some 15) (v := ?vT124) rfl rfl (by kernel_rfl) (by kernel_rfl) (by kernel_rfl) (fun _ _ _ h => h) (Or.inl ⟨by rfl, ?hyT124⟩) (by assumption) ?rstT124
                      case hyT124 => (intro w hSw; (try dsimp only at hSw); go_simp; (try with_reducible rfl))
                      try simp only [Act.put, List.setIfInBounds_toArray, List.set_cons_zero, List.set_cons_succ]
                      refine wpAnyH_done (by kernel_rfl) ?_ _
                      go_wp2_with fail
                      go_roundw
                      case rel => exact ⟨j + 1, by omega, by first | rfl | go_num, false, rfl, HAN.out, HBI.out.drew⟩
                      case measure => simp [RowKit.intOf]; omega
                · obtain rfl : j = n := by omega
                  have hlt2 : ¬ ((j : Int) < (j : Int)) := by omega
                  have htb : tb = false := by rw [← hA.out, ← HH.out.2.2.2.2, List.take_length]; exact HTH.out
                  subst htb
                  have HB9 : Hid (Below w1.heap.size w1 wi) := HW1.out.trans ((H6.out.2.1.trans (hB.out.mono H6.out.2.1.size)).mono HW1.out.size)
                  clear hA hB
                  go_wp2_with fail
                  go_roundw
                  case rel => exact ⟨i2 + 1, by omega, by first | rfl | go_num, HB9.out⟩
                  case measure => simp [RowKit.intOf]; omega
        · obtain rfl : i2 = pn := by omega
          have hlt3 : ¬ ((i2 : Int) < (i2 : Int)) := by omega
          obtain ⟨a', c3, hv3, _⟩ := own_shapeP hS.out.own
          obtain ⟨zn, hzn⟩ : ∃ zn, zs.length = zn := ⟨_, rfl⟩
          rw [hzn] at hv3
          subst hv3
          clear hzn
          have df := Lib.frozen_of_heap hBk.box 0
          obtain ⟨V2, hV2⟩ : ∃ V2, wo2.setCell ⟨k, 0, none⟩ (.slice a' zn c3) = V2 := ⟨_, rfl⟩
          have hst := HX.out.1.store (Chg.of_below hbw0) ((hS.out.own.below hb.out).mono HX.out.2.2.2.1) (fun y hy => ((hS.out.each y hy).below hb.out).mono HX.out.2.2.2.1) hV2
          have HF : Hid (LeftP w V2 k B v ps fs) := ⟨zs, by rw [hS.out.st, ← HH.out.2.2.2.2, List.take_length], _, hst.1, hst.2.1, fun q hq => by
            rcases hq with h1 | h1 | ⟨y, hy, h1⟩
            · exact .inl (.inl h1)
            · exact .inr (hS.out.own.ge h1)
            · exact .inr ((hS.out.each y hy).ge h1)⟩
          clear hst hBk hbw0
          go_wp2_with fail
          go_ret
          exact ⟨rfl, HF.out⟩
end Go.Proofs.Ytaclgiakinoocaa
