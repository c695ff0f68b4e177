import Derived.Test.YtfehgaioioejoaaDfD
/-! own: a list of files copied. -/
namespace Go.Proofs.Ytfehgaioioejoaa
open Go.RowKit Go.Lib Go.Sort Go.Shelf
set_option maxRecDepth 100000

/-- a file of one's own -/
structure Cpy (W : World) (B : Nat) (u : Fv) (f : Fl) : Prop where
  nm : u.nm = f.nm
  syn : u.syn = f.syn
  n : u.n = f.bs.length
  own : OwnF byU 1 5 W B (.slice u.a u.n u.cap) f.bs
theorem Cpy.ok {W : World} {B : Nat} {u : Fv} {f : Fl} (h : Cpy W B u f) : FlOk W u f := ⟨h.nm, h.syn, h.n, h.own.rw_ layU⟩
theorem Cpy.chg {W W' : World} {B : Nat} {u : Fv} {f : Fl} {v : Value} {us : List Fv} {C : Nat} (h : Cpy W B u f) (hv : OwnF fvV 3 73 W C v us) (hC : Chg (fun g => v.ownBlock = some g) W W') : Cpy W' B u f := by
  refine ⟨h.nm, h.syn, h.n, h.own.chg hC (fun g hg hd => ?_)⟩
  obtain ⟨cur, hh⟩ := own_block (h.own.mono (Nat.zero_le _)) hg
  rcases hv.2 with ⟨rfl, _⟩ | ⟨g', cap, cur', rfl, _, hh', _⟩
  · simp [Value.ownBlock] at hd
  · simp [Value.ownBlock] at hd
    subst hd
    rw [hh] at hh'
    simp at hh'
/-- own behind i files -/
structure Ow (w wr : World) (fs : List Fl) (i : Nat) (v : Value) (us : List Fv) : Prop where
  row : OwnF fvV 3 73 wr w.heap.size v us
  len : us.length = i
  each : ∀ (j : Nat) (u : Fv) (f : Fl), us[j]? = some u → fs[j]? = some f → Cpy wr w.heap.size u f
  below : Below w.heap.size w wr
theorem Ow.grow {w wr W' : World} {fs : List Fl} {i : Nat} {v : Value} {us : List Fv} (h : Ow w wr fs i v us) (hb : Below wr.heap.size wr W') : Ow w W' fs i v us := ⟨h.row.below hb, h.len, fun j u f hu hf => ⟨(h.each j u f hu hf).nm, (h.each j u f hu hf).syn, (h.each j u f hu hf).n, (h.each j u f hu hf).own.below hb⟩, h.below.trans (hb.mono h.below.size)⟩
theorem Ow.next {w W w' : World} {fs : List Fl} {i g cap n : Nat} {v : Value} {us : List Fv} (h : Ow w W fs i v us) {u : Fv} {f : Fl} (hf : fs[i]? = some f) (hu : Cpy W w.heap.size u f) (ho : OwnF fvV 3 73 w' w.heap.size (.slice (some ⟨g, 0, none⟩) n cap) (us ++ [u])) (hb : Below w.heap.size W w') (hk : Keeps W w' v) : Ow w w' fs (i + 1) (.slice (some ⟨g, 0, none⟩) n cap) (us ++ [u]) := by
  have hC : Chg (fun g => v.ownBlock = some g) W w' := ⟨hb.mono (Nat.zero_le _), fun g hg hd => hk g hg hd⟩
  refine ⟨ho, by rw [List.length_append, h.len]; rfl, fun j u' f' hj hf' => ?_, h.below.trans hb⟩
  by_cases hj2 : j < us.length
  · rw [List.getElem?_append_left hj2] at hj
    exact (h.each j u' f' hj hf').chg h.row hC
  · have h1 := (List.getElem?_eq_some_iff.1 hj).1
    rw [List.length_append, List.length_singleton] at h1
    obtain rfl : j = us.length := by omega
    rw [List.getElem?_append_right (Nat.le_refl _), Nat.sub_self] at hj
    simp only [List.getElem?_cons_zero, Option.some.injEq] at hj
    subst hj
    rw [h.len, hf] at hf'
    cases hf'
    exact hu.chg h.row hC
set_option maxHeartbeats 2000000 in
theorem own_any {w : World} {a : Option Addr} {n c : Nat} {vs : List Fv} {fs : List Fl} (h : Rw fvV 3 w a n c vs) (hn : n ≤ 4398046511104) (hlen : vs.length = fs.length) (hfl : ∀ (i : Nat) v f, vs[i]? = some v → fs[i]? = some f → FlOk w v f) (hb : ∀ v ∈ vs, v.n ≤ 1099511627776) :
    Calls Try.prog 57 #[.slice a n c] w fun e w' => ∃ (a' : Option Addr) (c' : Nat) (us : List Fv), e = .returned (.slice a' n c') ∧ Ow w w' fs n (.slice a' n c') us := by
  have HR : Hid (Rw fvV 3 w a n c vs ∧ n ≤ 4398046511104) := ⟨h, hn⟩
  have HF : Hid (vs.length = fs.length ∧ (∀ (i : Nat) v, vs[i]? = some v → ∃ f, fs[i]? = some f ∧ FlOk w v f) ∧ ∀ v ∈ vs, v.n ≤ 1099511627776) := ⟨hlen, fun i v hv => by
    have h1 := (List.getElem?_eq_some_iff.1 hv).1
    exact ⟨fs[i], List.getElem?_eq_getElem (by omega), hfl i v _ hv (List.getElem?_eq_getElem (by omega))⟩, hb⟩
  have hnc : (n : Int) ≤ 4398046511104 := by omega
  clear h hn hlen hfl hb
  go_enter Try.func57, Try.ntmps57
  go_wp2_with fail
  go_loopw [3, 4] (fun vo vi wr => ∃ i : Nat, i ≤ n ∧ vi = .int .i64 (i : Int) ∧ ∃ (a' : Option Addr) (c' : Nat) (us : List Fv), vo = .slice a' i c' ∧ Hid (Ow w wr fs i (.slice a' i c') us)) (fun _ vi _ => n - (RowKit.intOf vi).toNat)
  case atStart => exact ⟨0, Nat.zero_le _, rfl, none, 0, [], rfl, ownF_nil _ _, rfl, fun j u f hu => by simp at hu, Below.refl _ _⟩
  case round =>
    obtain ⟨wo, hwo⟩ : ∃ wo, wo = wr := ⟨_, rfl⟩
    subst hwo
    obtain ⟨i, hi, rfl, a', c', us, rfl, hS⟩ := hrel
    by_cases hlt : i < n
    · have hlt2 : (i : Int) < (n : Int) := by omega
      obtain ⟨g, off, v, ha, hg, hv, hcell⟩ := HR.out.1.at i hlt
      subst ha
      have o0 := hcell 0 _ rfl
      have o1 := hcell 1 _ rfl
      have o2 := hcell 2 _ rfl
      rw [Nat.add_zero] at o0
      obtain ⟨f, hf, hfo⟩ := HF.out.2.1 i v hv
      have gi : IntKind.i64.wrap ((i : Int) + 1) = ((i + 1 : Nat) : Int) := by rw [IntWalk.i64_in _ (by omega)]; omega
      have HKP : Hid (∀ W, Below w.heap.size w W → ∀ m : Nat, W.cell? ⟨g, m, none⟩ = w.cell? ⟨g, m, none⟩) := fun W hb m => hb.cell (p := ⟨g, m, none⟩) hg
      have HCL : Hid (∀ W, Below w.heap.size w W → Calls Try.prog 26 #[.slice v.a v.n v.cap] W fun e w' => ∃ a' cap', e = .returned (.slice a' v.n cap') ∧ OwnF byU 1 5 w' W.heap.size (.slice a' v.n cap') f.bs ∧ Below W.heap.size W w') := fun W hb => copied_any (hfo.row.below hb) (Nat.le_trans (HF.out.2.2 v (List.mem_of_getElem? hv)) (by omega))
      have HX : Hid (fs[i]? = some f ∧ FlOk w v f) := ⟨hf, hfo⟩
      have hlen := hS.out.len
      have h48 : (us.length + 1 + (us.length + 1) / 4 + 192) * 48 ≤ 281474976710656 := by rw [hlen]; omega
      have h63 : us.length + 1 ≤ 9223372036854775807 := by rw [hlen]; omega
      have HSZ : Hid ((us.length + 1 + (us.length + 1) / 4 + 192) * 48 ≤ 281474976710656 ∧ us.length + 1 ≤ 9223372036854775807 ∧ us.length = i) := ⟨h48, h63, hlen⟩
      clear hcell hg hv hf hfo hlen h48 h63
      have w0 : wo.cell? ⟨g, off + i * 3, none⟩ = w.cell? ⟨g, off + i * 3, none⟩ := HKP.out _ hS.out.below _
      have w1 : wo.cell? ⟨g, off + i * 3 + 1, none⟩ = w.cell? ⟨g, off + i * 3 + 1, none⟩ := HKP.out _ hS.out.below _
      have w2 : wo.cell? ⟨g, off + i * 3 + 2, none⟩ = w.cell? ⟨g, off + i * 3 + 2, none⟩ := HKP.out _ hS.out.below _
      go_wp2_with fail
      clear w0 w1 w2
      refine wp_region_held_drew (S := (fun W => ∀ m : Nat, W.cell? ⟨g, m, none⟩ = w.cell? ⟨g, m, none⟩)) (by kernel_rfl) ?hS1 (fun hHeld => ?rest1)
      case hS1 => exact HKP.out _ hS.out.below.drew
      refine takeD (i := 0) (d := some 11) (v := ?vT2) rfl rfl (by kernel_rfl) (by kernel_rfl) (by kernel_rfl) (fun _ _ _ h => h) (Or.inl ⟨by rfl, ?hyT2⟩) (by assumption) ?rstT2
      case hyT2 => (intro w hSw; (try dsimp only at hSw); go_simp; (try with_reducible rfl))
      try simp only [Act.put, List.setIfInBounds_toArray, List.set_cons_zero, List.set_cons_succ]
      refine takeD (i := 1) (d := some 12) (v := ?vT3) rfl rfl (by kernel_rfl) (by kernel_rfl) (by kernel_rfl) (fun _ _ _ h => h) (Or.inl ⟨by rfl, ?hyT3⟩) (by assumption) ?rstT3
      case hyT3 => (intro w hSw; (try dsimp only at hSw); go_simp; (try with_reducible rfl))
      try simp only [Act.put, List.setIfInBounds_toArray, List.set_cons_zero, List.set_cons_succ]
      refine takeD (i := 2) (d := some 13) (v := ?vT4) rfl rfl (by kernel_rfl) (by kernel_rfl) (by kernel_rfl) (fun _ _ _ h => h) (Or.inl ⟨by rfl, ?hyT4⟩) (by assumption) ?rstT4
      case hyT4 => (intro w hSw; (try dsimp only at hSw); go_simp; (try with_reducible rfl))
      try simp only [Act.put, List.setIfInBounds_toArray, List.set_cons_zero, List.set_cons_succ]
      refine takeD (i := 3) (d := some 14) (v := ?vT5) rfl rfl (by kernel_rfl) (by kernel_rfl) (by kernel_rfl) (fun _ _ _ h => h) (Or.inl ⟨by rfl, ?hyT5⟩) (by assumption) ?rstT5
      case hyT5 => (intro w hSw; (try dsimp only at hSw); go_simp; (try with_reducible rfl))
      try simp only [Act.put, List.setIfInBounds_toArray, List.set_cons_zero, List.set_cons_succ]
      refine takeD (i := 4) (d := some 15) (v := ?vT6) rfl rfl (by kernel_rfl) (by kernel_rfl) (by kernel_rfl) (fun _ _ _ h => h) (Or.inl ⟨by rfl, ?hyT6⟩) (by assumption) ?rstT6
      case hyT6 => (intro w hSw; (try dsimp only at hSw); go_simp; (try with_reducible rfl))
      try simp only [Act.put, List.setIfInBounds_toArray, List.set_cons_zero, List.set_cons_succ]
      refine takeD (i := 5) (d := some 16) (v := ?vT7) rfl rfl (by kernel_rfl) (by kernel_rfl) (by kernel_rfl) (fun _ _ _ h => h) (Or.inl ⟨by rfl, ?hyT7⟩) (by assumption) ?rstT7
      case hyT7 => (intro w hSw; (try dsimp only at hSw); go_simp; (try with_reducible rfl))
      try simp only [Act.put, List.setIfInBounds_toArray, List.set_cons_zero, List.set_cons_succ]
      refine takeD (i := 6) (d := some 17) (v := ?vT8) rfl rfl (by kernel_rfl) (by kernel_rfl) (by kernel_rfl) (fun _ _ _ h => h) (Or.inl ⟨by rfl, ?hyT8⟩) (by assumption) ?rstT8
      case hyT8 => (intro w hSw; (try dsimp only at hSw); go_simp; (try with_reducible rfl))
      try simp only [Act.put, List.setIfInBounds_toArray, List.set_cons_zero, List.set_cons_succ]
      refine takeD (i := 7) (d := some 18) (v := ?vT9) rfl rfl (by kernel_rfl) (by kernel_rfl) (by kernel_rfl) (fun _ _ _ h => h) (Or.inl ⟨by rfl, ?hyT9⟩) (by assumption) ?rstT9
      case hyT9 => (intro w hSw; (try dsimp only at hSw); go_simp; (try with_reducible rfl))
      try simp only [Act.put, List.setIfInBounds_toArray, List.set_cons_zero, List.set_cons_succ]
      refine takeD (i := 8) (d := some 19) (v := ?vT10) rfl rfl (by kernel_rfl) (by kernel_rfl) (by kernel_rfl) (fun _ _ _ h => h) (Or.inl ⟨by rfl, ?hyT10⟩) (by assumption) ?rstT10
      case hyT10 => (intro w hSw; (try dsimp only at hSw); go_simp; (try with_reducible rfl))
      try simp only [Act.put, List.setIfInBounds_toArray, List.set_cons_zero, List.set_cons_succ]
      refine takeD (i := 9) (d := some 20) (v := ?vT11) rfl rfl (by kernel_rfl) (by kernel_rfl) (by kernel_rfl) (fun _ _ _ h => h) (Or.inl ⟨by rfl, ?hyT11⟩) (by assumption) ?rstT11
      case hyT11 => (intro w hSw; (try dsimp only at hSw); go_simp; (try with_reducible rfl))
      try simp only [Act.put, List.setIfInBounds_toArray, List.set_cons_zero, List.set_cons_succ]
      refine takeD (i := 10) (d := some 21) (v := ?vT12) rfl rfl (by kernel_rfl) (by kernel_rfl) (by kernel_rfl) (fun _ _ _ h => h) (Or.inl ⟨by rfl, ?hyT12⟩) (by assumption) ?rstT12
      case hyT12 => (intro w hSw; (try dsimp only at hSw); go_simp; (try with_reducible rfl))
      try simp only [Act.put, List.setIfInBounds_toArray, List.set_cons_zero, List.set_cons_succ]
      refine takeD (i := 12) (d := some 23) (v := ?vT13) rfl rfl (by kernel_rfl) (by kernel_rfl) (by kernel_rfl) (fun _ _ _ h => h) (Or.inl ⟨by rfl, ?hyT13⟩) (by assumption) ?rstT13
      case hyT13 => (intro w hSw; (try dsimp only at hSw); go_simp; (try with_reducible rfl))
      try simp only [Act.put, List.setIfInBounds_toArray, List.set_cons_zero, List.set_cons_succ]
      refine takeD (i := 13) (d := some 24) (v := ?vT14) rfl rfl (by kernel_rfl) (by kernel_rfl) (by kernel_rfl) (fun _ _ _ h => h) (Or.inl ⟨by rfl, ?hyT14⟩) (by assumption) ?rstT14
      case hyT14 => (intro w hSw; (try dsimp only at hSw); go_simp; (try with_reducible rfl))
      try simp only [Act.put, List.setIfInBounds_toArray, List.set_cons_zero, List.set_cons_succ]
      refine takeD (i := 14) (d := some 25) (v := ?vT15) rfl rfl (by kernel_rfl) (by kernel_rfl) (by kernel_rfl) (fun _ _ _ h => h) (Or.inl ⟨by rfl, ?hyT15⟩) (by assumption) ?rstT15
      case hyT15 => (intro w hSw; (try dsimp only at hSw); go_simp; (try with_reducible rfl))
      try simp only [Act.put, List.setIfInBounds_toArray, List.set_cons_zero, List.set_cons_succ]
      refine takeD (i := 15) (d := some 26) (v := ?vT16) rfl rfl (by kernel_rfl) (by kernel_rfl) (by kernel_rfl) (fun _ _ _ h => h) (Or.inl ⟨by rfl, ?hyT16⟩) (by assumption) ?rstT16
      case hyT16 => (intro w hSw; (try dsimp only at hSw); go_simp; (try with_reducible rfl))
      try simp only [Act.put, List.setIfInBounds_toArray, List.set_cons_zero, List.set_cons_succ]
      refine takeD (i := 16) (d := some 27) (v := ?vT17) rfl rfl (by kernel_rfl) (by kernel_rfl) (by kernel_rfl) (fun _ _ _ h => h) (Or.inl ⟨by rfl, ?hyT17⟩) (by assumption) ?rstT17
      case hyT17 => (intro w hSw; (try dsimp only at hSw); go_simp; (try with_reducible rfl))
      try simp only [Act.put, List.setIfInBounds_toArray, List.set_cons_zero, List.set_cons_succ]
      refine wpAnyH_ready (rs := [11]) (by kernel_rfl) (by simp) ?_
      refine AllReadyH.cons rfl (fun K hK => ?_) AllReadyH.nil
      go_simp
      refine (HCL.out _ hS.out.below.drew).mono ?_
      rintro e w5 ⟨a5, c5, rfl, ho5, hb5⟩
      have hcur5 : Below wo.heap.size wo w5 := ((Below.refl _ _).drew).trans hb5
      have HO5 : Hid (Ow w w5 fs i (.slice a' i c') us ∧ Cpy w5 w.heap.size ⟨v.nm, a5, v.n, c5, v.syn⟩ f) := ⟨hS.out.grow hcur5, HX.out.2.nm, HX.out.2.syn, HX.out.2.n, ho5.mono hS.out.below.size⟩
      clear ho5 hb5 hcur5
      clear hHeld
      refine hK.out _ _ ?hS18 (fun hHeld => ?rest18)
      case hS18 => exact HKP.out _ HO5.out.1.below
      clear hK K
      try simp only [Act.put, List.setIfInBounds_toArray, List.set_cons_zero, List.set_cons_succ]
      refine takeD (i := 17) (d := some 28) (v := ?vT19) rfl rfl (by kernel_rfl) (by kernel_rfl) (by kernel_rfl) (fun _ _ _ h => h) (Or.inl ⟨by rfl, ?hyT19⟩) (by assumption) ?rstT19
      case hyT19 => (intro w hSw; (try dsimp only at hSw); go_simp; (try with_reducible rfl))
      try simp only [Act.put, List.setIfInBounds_toArray, List.set_cons_zero, List.set_cons_succ]
      refine wpAnyH_ready (rs := [18]) (by kernel_rfl) (by simp) ?_
      refine AllReadyH.cons rfl (fun K hK => ?_) AllReadyH.nil
      obtain ⟨g8, cap8, w8, hr8, ho8, hb8, hk8, hs8, hat8⟩ := appendF_wide kindFv layFv HO5.out.1.row HO5.out.1.below.size (⟨v.nm, a5, v.n, c5, v.syn⟩ : Fv) #[.string ⟨v.nm.toArray⟩, .slice a5 v.n c5, .int .i64 (v.syn : Int)] rfl 73 HSZ.out.1 HSZ.out.2.1 22
      rw [HSZ.out.2.2] at hr8 ho8
      have HN : Hid (Ow w w8 fs (i + 1) (.slice (some ⟨g8, 0, none⟩) (i + 1) cap8) (us ++ [⟨v.nm, a5, v.n, c5, v.syn⟩])) := HO5.out.1.next HX.out.1 HO5.out.2 ho8 hb8 hk8
      clear ho8 hb8 hk8 hs8 hat8
      go_simp
      clear hHeld
      refine hK.out _ _ ?hS20 (fun hHeld => ?rest20)
      case hS20 => exact HKP.out _ (HO5.out.1.below.alloc HO5.out.1.below.size _)
      clear hK K
      try simp only [Act.put, List.setIfInBounds_toArray, List.set_cons_zero, List.set_cons_succ]
      refine wpAnyH_ready (rs := [19]) (by kernel_rfl) (by simp) ?_
      refine AllReadyH.cons rfl (fun K hK => ?_) AllReadyH.nil
      rw [if_pos (by rfl)]
      refine wp_append_hr (.tmp 11) (.tmp 29) 22 (some 30) rfl rfl _ _ rfl rfl hr8 ?_
      clear hHeld
      refine hK.out _ _ ?hS21 (fun hHeld => ?rest21)
      case hS21 => exact HKP.out _ HN.out.below
      clear hK K
      try simp only [Act.put, List.setIfInBounds_toArray, List.set_cons_zero, List.set_cons_succ]
      refine takeD (i := 20) (d := some 3) (v := ?vT22) rfl rfl (by kernel_rfl) (by kernel_rfl) (by kernel_rfl) (fun _ _ _ h => h) (Or.inl ⟨by rfl, ?hyT22⟩) (by assumption) ?rstT22
      case hyT22 => (intro w hSw; (try dsimp only at hSw); go_simp; (try with_reducible rfl))
      try simp only [Act.put, List.setIfInBounds_toArray, List.set_cons_zero, List.set_cons_succ]
      refine wpAnyH_done (by kernel_rfl) ?_ _
      go_wp2_with fail
      go_roundw
      case rel => exact ⟨i + 1, by omega, by first | rfl | go_num, _, _, _, rfl, HN.out⟩
      case measure => simp [RowKit.intOf]; omega
    · obtain rfl : i = n := by omega
      have hlt2 : ¬ ((i : Int) < (i : Int)) := by omega
      go_wp2_with fail
      go_ret
      exact ⟨a', c', rfl, us, hS.out⟩
/-- what own hands back reads as the list -/
theorem Ow.files {w W : World} {fs : List Fl} {n : Nat} {a : Option Addr} {c : Nat} {us : List Fv} (h : Ow w W fs n (.slice a n c) us) (hn : n = fs.length) : Rw fvV 3 W a n c us ∧ us.length = fs.length ∧ ∀ (i : Nat) v f, us[i]? = some v → fs[i]? = some f → FlOk W v f := ⟨h.row.rw_ layFv, by rw [h.len, hn], fun i v f hv hf => (h.each i v f hv hf).ok⟩
end Go.Proofs.Ytfehgaioioejoaa
