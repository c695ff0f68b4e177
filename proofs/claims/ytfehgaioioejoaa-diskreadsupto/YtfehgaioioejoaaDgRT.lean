import Derived.Test.YtfehgaioioejoaaDgPQ
/-! Files as they are handed in; own of them. -/
namespace Go.Proofs.Ytfehgaioioejoaa
open Go.RowKit Go.Lib Go.Sort Go.Shelf
set_option maxRecDepth 100000

structure Fi where
  nm : List UInt8
  a : Option Addr
  cap : Nat
  bs : List UInt8
  syn : Int
def fiV (f : Fi) : List Value := [.string ⟨f.nm.toArray⟩, .slice f.a f.bs.length f.cap, .int .i64 f.syn]
theorem layFi : Lay fiV 3 := ⟨fun _ => rfl, by decide, fun x u hu => by simp [fiV] at hu; rcases hu with rfl | rfl | rfl <;> rfl⟩
theorem kindFi : Kind Try.prog 22 73 3 48 := kind_of Try.underlying22 (z := .agg #[.string ⟨#[]⟩, .slice none 0 0, .int .i64 0]) (by kernel_rfl) rfl
structure CpI (W : World) (B : Nat) (u f : Fi) : Prop where
  nm : u.nm = f.nm
  syn : u.syn = f.syn
  bs : u.bs = f.bs
  own : OwnF byU 1 5 W B (.slice u.a u.bs.length u.cap) u.bs
theorem CpI.chg {W W' : World} {B : Nat} {u f : Fi} {v : Value} {us : List Fi} {C : Nat} (h : CpI W B u f) (hv : OwnF fiV 3 73 W C v us) (hC : Chg (fun g => v.ownBlock = some g) W W') : CpI W' B u f := by
  refine ⟨h.nm, h.syn, h.bs, h.own.chg hC (fun g hg hd => ?_)⟩
  obtain ⟨cur, hh⟩ := own_block (h.own.mono (Nat.zero_le _)) hg
  rcases hv.2 with ⟨rfl, _⟩ | ⟨g', cap, cur', rfl, _, hh', _⟩
  · simp [Value.ownBlock] at hd
  · simp [Value.ownBlock] at hd
    subst hd
    rw [hh] at hh'
    simp at hh'
structure OwI (w wr : World) (vs : List Fi) (i : Nat) (v : Value) (us : List Fi) : Prop where
  row : OwnF fiV 3 73 wr w.heap.size v us
  len : us.length = i
  each : ∀ (j : Nat) (u f : Fi), us[j]? = some u → vs[j]? = some f → CpI wr w.heap.size u f
  below : Below w.heap.size w wr
theorem OwI.grow {w wr W' : World} {vs : List Fi} {i : Nat} {v : Value} {us : List Fi} (h : OwI w wr vs i v us) (hb : Below wr.heap.size wr W') : OwI w W' vs i v us := ⟨h.row.below hb, h.len, fun j u f hu hf => ⟨(h.each j u f hu hf).nm, (h.each j u f hu hf).syn, (h.each j u f hu hf).bs, (h.each j u f hu hf).own.below hb⟩, h.below.trans (hb.mono h.below.size)⟩
theorem OwI.next {w W w' : World} {vs : List Fi} {i g cap n : Nat} {v : Value} {us : List Fi} (h : OwI w W vs i v us) {u f : Fi} (hf : vs[i]? = some f) (hu : CpI W w.heap.size u f) (ho : OwnF fiV 3 73 w' w.heap.size (.slice (some ⟨g, 0, none⟩) n cap) (us ++ [u])) (hb : Below w.heap.size W w') (hk : Keeps W w' v) : OwI w w' vs (i + 1) (.slice (some ⟨g, 0, none⟩) n cap) (us ++ [u]) := by
  have hC : Chg (fun g => v.ownBlock = some g) W w' := ⟨hb.mono (Nat.zero_le _), fun g hg hd => hk g hg hd⟩
  refine ⟨ho, by rw [List.length_append, h.len]; rfl, fun j u' f' hj hf' => ?_, h.below.trans hb⟩
  by_cases hj2 : j < us.length
  · rw [List.getElem?_append_left hj2] at hj
    exact (h.each j u' f' hj hf').chg h.row hC
  · have h1 := (List.getElem?_eq_some_iff.1 hj).1
    rw [List.length_append, List.length_singleton] at h1
    obtain rfl : j = us.length := by omega
    rw [List.getElem?_append_right (Nat.le_refl _), Nat.sub_self] at hj
    simp only [List.getElem?_cons_zero, Option.some.injEq] at hj
    subst hj
    rw [h.len, hf] at hf'
    cases hf'
    exact hu.chg h.row hC
set_option maxHeartbeats 2000000 in
theorem ownI {w : World} {a : Option Addr} {n c : Nat} {vs : List Fi} (h : Rw fiV 3 w a n c vs) (hn : n ≤ 4398046511104) (hby : ∀ v ∈ vs, Rw byU 1 w v.a v.bs.length v.cap v.bs) (hb : ∀ v ∈ vs, v.bs.length ≤ 140737488351232) :
    Calls Try.prog 57 #[.slice a n c] w fun e w' => ∃ (a' : Option Addr) (c' : Nat) (us : List Fi), e = .returned (.slice a' n c') ∧ OwI w w' vs n (.slice a' n c') us := by
  have HR : Hid (Rw fiV 3 w a n c vs ∧ n ≤ 4398046511104) := ⟨h, hn⟩
  have HF : Hid ((∀ v ∈ vs, Rw byU 1 w v.a v.bs.length v.cap v.bs) ∧ ∀ v ∈ vs, v.bs.length ≤ 140737488351232) := ⟨hby, hb⟩
  have hnc : (n : Int) ≤ 4398046511104 := by omega
  clear h hn hby hb
  go_enter Try.func57, Try.ntmps57
  go_wp2_with fail
  go_loopw [3, 4] (fun vo vi wr => ∃ i : Nat, i ≤ n ∧ vi = .int .i64 (i : Int) ∧ ∃ (a' : Option Addr) (c' : Nat) (us : List Fi), vo = .slice a' i c' ∧ Hid (OwI w wr vs i (.slice a' i c') us)) (fun _ vi _ => n - (RowKit.intOf vi).toNat)
  case atStart => exact ⟨0, Nat.zero_le _, rfl, none, 0, [], rfl, ownF_nil _ _, rfl, fun j u f hu => by simp at hu, Below.refl _ _⟩
  case round =>
    obtain ⟨wo, hwo⟩ : ∃ wo, wo = wr := ⟨_, rfl⟩
    subst hwo
    obtain ⟨i, hi, rfl, a', c', us, rfl, hS⟩ := hrel
    by_cases hlt : i < n
    · have hlt2 : (i : Int) < (n : Int) := by omega
      obtain ⟨g, off, v, ha, hg, hv, hcell⟩ := HR.out.1.at i hlt
      subst ha
      have o0 := hcell 0 _ rfl
      have o1 := hcell 1 _ rfl
      have o2 := hcell 2 _ rfl
      rw [Nat.add_zero] at o0
      have hvm := List.mem_of_getElem? hv
      have gi : IntKind.i64.wrap ((i : Int) + 1) = ((i + 1 : Nat) : Int) := by rw [IntWalk.i64_in _ (by omega)]; omega
      have HKP : Hid (∀ W, Below w.heap.size w W → ∀ m : Nat, W.cell? ⟨g, m, none⟩ = w.cell? ⟨g, m, none⟩) := fun W hb m => hb.cell (p := ⟨g, m, none⟩) hg
      have HCL : Hid (∀ W, Below w.heap.size w W → Calls Try.prog 26 #[.slice v.a v.bs.length v.cap] W fun e w' => ∃ a' cap', e = .returned (.slice a' v.bs.length cap') ∧ OwnF byU 1 5 w' W.heap.size (.slice a' v.bs.length cap') v.bs ∧ Below W.heap.size W w') := fun W hb => copied_any ((HF.out.1 v hvm).below hb) (HF.out.2 v hvm)
      have HX : Hid (vs[i]? = some v) := hv
      have hlen := hS.out.len
      have h48 : (us.length + 1 + (us.length + 1) / 4 + 192) * 48 ≤ 281474976710656 := by rw [hlen]; omega
      have h63 : us.length + 1 ≤ 9223372036854775807 := by rw [hlen]; omega
      have HSZ : Hid ((us.length + 1 + (us.length + 1) / 4 + 192) * 48 ≤ 281474976710656 ∧ us.length + 1 ≤ 9223372036854775807 ∧ us.length = i) := ⟨h48, h63, hlen⟩
      clear hcell hg hv hvm hlen h48 h63
      have w0 : wo.cell? ⟨g, off + i * 3, none⟩ = w.cell? ⟨g, off + i * 3, none⟩ := HKP.out _ hS.out.below _
      have w1 : wo.cell? ⟨g, off + i * 3 + 1, none⟩ = w.cell? ⟨g, off + i * 3 + 1, none⟩ := HKP.out _ hS.out.below _
      have w2 : wo.cell? ⟨g, off + i * 3 + 2, none⟩ = w.cell? ⟨g, off + i * 3 + 2, none⟩ := HKP.out _ hS.out.below _
      go_wp2_with fail
      clear w0 w1 w2
      refine wp_region_held_drew (S := (fun W => ∀ m : Nat, W.cell? ⟨g, m, none⟩ = w.cell? ⟨g, m, none⟩)) (by kernel_rfl) ?hS1 (fun hHeld => ?rest1)
      case hS1 => exact HKP.out _ hS.out.below.drew
      refine takeD (i := 0) (d := some 11) (v := ?vT2) rfl rfl (by kernel_rfl) (by kernel_rfl) (by kernel_rfl) (fun _ _ _ h => h) (Or.inl ⟨by rfl, ?hyT2⟩) (by assumption) ?rstT2
      case hyT2 => (intro w hSw; (try dsimp only at hSw); go_simp; (try with_reducible rfl))
      try simp only [Act.put, List.setIfInBounds_toArray, List.set_cons_zero, List.set_cons_succ]
      refine takeD (i := 1) (d := some 12) (v := ?vT3) rfl rfl (by kernel_rfl) (by kernel_rfl) (by kernel_rfl) (fun _ _ _ h => h) (Or.inl ⟨by rfl, ?hyT3⟩) (by assumption) ?rstT3
      case hyT3 => (intro w hSw; (try dsimp only at hSw); go_simp; (try with_reducible rfl))
      try simp only [Act.put, List.setIfInBounds_toArray, List.set_cons_zero, List.set_cons_succ]
      refine takeD (i := 2) (d := some 13) (v := ?vT4) rfl rfl (by kernel_rfl) (by kernel_rfl) (by kernel_rfl) (fun _ _ _ h => h) (Or.inl ⟨by rfl, ?hyT4⟩) (by assumption) ?rstT4
      case hyT4 => (intro w hSw; (try dsimp only at hSw); go_simp; (try with_reducible rfl))
      try simp only [Act.put, List.setIfInBounds_toArray, List.set_cons_zero, List.set_cons_succ]
      refine takeD (i := 3) (d := some 14) (v := ?vT5) rfl rfl (by kernel_rfl) (by kernel_rfl) (by kernel_rfl) (fun _ _ _ h => h) (Or.inl ⟨by rfl, ?hyT5⟩) (by assumption) ?rstT5
      case hyT5 => (intro w hSw; (try dsimp only at hSw); go_simp; (try with_reducible rfl))
      try simp only [Act.put, List.setIfInBounds_toArray, List.set_cons_zero, List.set_cons_succ]
      refine takeD (i := 4) (d := some 15) (v := ?vT6) rfl rfl (by kernel_rfl) (by kernel_rfl) (by kernel_rfl) (fun _ _ _ h => h) (Or.inl ⟨by rfl, ?hyT6⟩) (by assumption) ?rstT6
      case hyT6 => (intro w hSw; (try dsimp only at hSw); go_simp; (try with_reducible rfl))
      try simp only [Act.put, List.setIfInBounds_toArray, List.set_cons_zero, List.set_cons_succ]
      refine takeD (i := 5) (d := some 16) (v := ?vT7) rfl rfl (by kernel_rfl) (by kernel_rfl) (by kernel_rfl) (fun _ _ _ h => h) (Or.inl ⟨by rfl, ?hyT7⟩) (by assumption) ?rstT7
      case hyT7 => (intro w hSw; (try dsimp only at hSw); go_simp; (try with_reducible rfl))
      try simp only [Act.put, List.setIfInBounds_toArray, List.set_cons_zero, List.set_cons_succ]
      refine takeD (i := 6) (d := some 17) (v := ?vT8) rfl rfl (by kernel_rfl) (by kernel_rfl) (by kernel_rfl) (fun _ _ _ h => h) (Or.inl ⟨by rfl, ?hyT8⟩) (by assumption) ?rstT8
      case hyT8 => (intro w hSw; (try dsimp only at hSw); go_simp; (try with_reducible rfl))
      try simp only [Act.put, List.setIfInBounds_toArray, List.set_cons_zero, List.set_cons_succ]
      refine takeD (i := 7) (d := some 18) (v := ?vT9) rfl rfl (by kernel_rfl) (by kernel_rfl) (by kernel_rfl) (fun _ _ _ h => h) (Or.inl ⟨by rfl, ?hyT9⟩) (by assumption) ?rstT9
      case hyT9 => (intro w hSw; (try dsimp only at hSw); go_simp; (try with_reducible rfl))
      try simp only [Act.put, List.setIfInBounds_toArray, List.set_cons_zero, List.set_cons_succ]
      refine takeD (i := 8) (d := some 19) (v := ?vT10) rfl rfl (by kernel_rfl) (by kernel_rfl) (by kernel_rfl) (fun _ _ _ h => h) (Or.inl ⟨by rfl, ?hyT10⟩) (by assumption) ?rstT10
      case hyT10 => (intro w hSw; (try dsimp only at hSw); go_simp; (try with_reducible rfl))
      try simp only [Act.put, List.setIfInBounds_toArray, List.set_cons_zero, List.set_cons_succ]
      refine takeD (i := 9) (d := some 20) (v := ?vT11) rfl rfl (by kernel_rfl) (by kernel_rfl) (by kernel_rfl) (fun _ _ _ h => h) (Or.inl ⟨by rfl, ?hyT11⟩) (by assumption) ?rstT11
      case hyT11 => (intro w hSw; (try dsimp only at hSw); go_simp; (try with_reducible rfl))
      try simp only [Act.put, List.setIfInBounds_toArray, List.set_cons_zero, List.set_cons_succ]
      refine takeD (i := 10) (d := some 21) (v := ?vT12) rfl rfl (by kernel_rfl) (by kernel_rfl) (by kernel_rfl) (fun _ _ _ h => h) (Or.inl ⟨by rfl, ?hyT12⟩) (by assumption) ?rstT12
      case hyT12 => (intro w hSw; (try dsimp only at hSw); go_simp; (try with_reducible rfl))
      try simp only [Act.put, List.setIfInBounds_toArray, List.set_cons_zero, List.set_cons_succ]
      refine takeD (i := 12) (d := some 23) (v := ?vT13) rfl rfl (by kernel_rfl) (by kernel_rfl) (by kernel_rfl) (fun _ _ _ h => h) (Or.inl ⟨by rfl, ?hyT13⟩) (by assumption) ?rstT13
      case hyT13 => (intro w hSw; (try dsimp only at hSw); go_simp; (try with_reducible rfl))
      try simp only [Act.put, List.setIfInBounds_toArray, List.set_cons_zero, List.set_cons_succ]
      refine takeD (i := 13) (d := some 24) (v := ?vT14) rfl rfl (by kernel_rfl) (by kernel_rfl) (by kernel_rfl) (fun _ _ _ h => h) (Or.inl ⟨by rfl, ?hyT14⟩) (by assumption) ?rstT14
      case hyT14 => (intro w hSw; (try dsimp only at hSw); go_simp; (try with_reducible rfl))
      try simp only [Act.put, List.setIfInBounds_toArray, List.set_cons_zero, List.set_cons_succ]
      refine takeD (i := 14) (d := some 25) (v := ?vT15) rfl rfl (by kernel_rfl) (by kernel_rfl) (by kernel_rfl) (fun _ _ _ h => h) (Or.inl ⟨by rfl, ?hyT15⟩) (by assumption) ?rstT15
      case hyT15 => (intro w hSw; (try dsimp only at hSw); go_simp; (try with_reducible rfl))
      try simp only [Act.put, List.setIfInBounds_toArray, List.set_cons_zero, List.set_cons_succ]
      refine takeD (i := 15) (d := some 26) (v := ?vT16) rfl rfl (by kernel_rfl) (by kernel_rfl) (by kernel_rfl) (fun _ _ _ h => h) (Or.inl ⟨by rfl, ?hyT16⟩) (by assumption) ?rstT16
      case hyT16 => (intro w hSw; (try dsimp only at hSw); go_simp; (try with_reducible rfl))
      try simp only [Act.put, List.setIfInBounds_toArray, List.set_cons_zero, List.set_cons_succ]
      refine takeD (i := 16) (d := some 27) (v := ?vT17) rfl rfl (by kernel_rfl) (by kernel_rfl) (by kernel_rfl) (fun _ _ _ h => h) (Or.inl ⟨by rfl, ?hyT17⟩) (by assumption) ?rstT17
      case hyT17 => (intro w hSw; (try dsimp only at hSw); go_simp; (try with_reducible rfl))
      try simp only [Act.put, List.setIfInBounds_toArray, List.set_cons_zero, List.set_cons_succ]
      refine wpAnyH_ready (rs := [11]) (by kernel_rfl) (by simp) ?_
      refine AllReadyH.cons rfl (fun K hK => ?_) AllReadyH.nil
      go_simp
      refine (HCL.out _ hS.out.below.drew).mono ?_
      rintro e w5 ⟨a5, c5, rfl, ho5, hb5⟩
      have hcur5 : Below wo.heap.size wo w5 := ((Below.refl _ _).drew).trans hb5
      have HO5 : Hid (OwI w w5 vs i (.slice a' i c') us ∧ CpI w5 w.heap.size ⟨v.nm, a5, c5, v.bs, v.syn⟩ v) := ⟨hS.out.grow hcur5, rfl, rfl, rfl, ho5.mono hS.out.below.size⟩
      clear ho5 hb5 hcur5
      clear hHeld
      refine hK.out _ _ ?hS18 (fun hHeld => ?rest18)
      case hS18 => exact HKP.out _ HO5.out.1.below
      clear hK K
      try simp only [Act.put, List.setIfInBounds_toArray, List.set_cons_zero, List.set_cons_succ]
      refine takeD (i := 17) (d := some 28) (v := ?vT19) rfl rfl (by kernel_rfl) (by kernel_rfl) (by kernel_rfl) (fun _ _ _ h => h) (Or.inl ⟨by rfl, ?hyT19⟩) (by assumption) ?rstT19
      case hyT19 => (intro w hSw; (try dsimp only at hSw); go_simp; (try with_reducible rfl))
      try simp only [Act.put, List.setIfInBounds_toArray, List.set_cons_zero, List.set_cons_succ]
      refine wpAnyH_ready (rs := [18]) (by kernel_rfl) (by simp) ?_
      refine AllReadyH.cons rfl (fun K hK => ?_) AllReadyH.nil
      obtain ⟨g8, cap8, w8, hr8, ho8, hb8, hk8, hs8, hat8⟩ := appendF_wide kindFi layFi HO5.out.1.row HO5.out.1.below.size (⟨v.nm, a5, c5, v.bs, v.syn⟩ : Fi) #[.string ⟨v.nm.toArray⟩, .slice a5 v.bs.length c5, .int .i64 v.syn] rfl 73 HSZ.out.1 HSZ.out.2.1 22
      rw [HSZ.out.2.2] at hr8 ho8
      have HN : Hid (OwI w w8 vs (i + 1) (.slice (some ⟨g8, 0, none⟩) (i + 1) cap8) (us ++ [⟨v.nm, a5, c5, v.bs, v.syn⟩])) := HO5.out.1.next HX.out HO5.out.2 ho8 hb8 hk8
      clear ho8 hb8 hk8 hs8 hat8
      go_simp
      clear hHeld
      refine hK.out _ _ ?hS20 (fun hHeld => ?rest20)
      case hS20 => exact HKP.out _ (HO5.out.1.below.alloc HO5.out.1.below.size _)
      clear hK K
      try simp only [Act.put, List.setIfInBounds_toArray, List.set_cons_zero, List.set_cons_succ]
      refine wpAnyH_ready (rs := [19]) (by kernel_rfl) (by simp) ?_
      refine AllReadyH.cons rfl (fun K hK => ?_) AllReadyH.nil
      rw [if_pos (by rfl)]
      refine wp_append_hr (.tmp 11) (.tmp 29) 22 (some 30) rfl rfl _ _ rfl rfl hr8 ?_
      clear hHeld
      refine hK.out _ _ ?hS21 (fun hHeld => ?rest21)
      case hS21 => exact HKP.out _ HN.out.below
      clear hK K
      try simp only [Act.put, List.setIfInBounds_toArray, List.set_cons_zero, List.set_cons_succ]
      refine takeD (i := 20) (d := some 3) (v := ?vT22) rfl rfl (by kernel_rfl) (by kernel_rfl) (by kernel_rfl) (fun _ _ _ h => h) (Or.inl ⟨by rfl, ?hyT22⟩) (by assumption) ?rstT22
      case hyT22 => (intro w hSw; (try dsimp only at hSw); go_simp; (try with_reducible rfl))
      try simp only [Act.put, List.setIfInBounds_toArray, List.set_cons_zero, List.set_cons_succ]
      refine wpAnyH_done (by kernel_rfl) ?_ _
      go_wp2_with fail
      go_roundw
      case rel => exact ⟨i + 1, by omega, by first | rfl | go_num, _, _, _, rfl, HN.out⟩
      case measure => simp [RowKit.intOf]; omega
    · obtain rfl : i = n := by omega
      have hlt2 : ¬ ((i : Int) < (i : Int)) := by omega
      go_wp2_with fail
      go_ret
      exact ⟨a', c', rfl, us, hS.out⟩
end Go.Proofs.Ytfehgaioioejoaa

/-! Load where it refuses. -/
namespace Go.Proofs.Ytfehgaioioejoaa
open Go.RowKit Go.Lib Go.Sort Go.Shelf
set_option maxRecDepth 100000

def Fi.fl (v : Fi) : Fl := ⟨v.nm, v.bs, v.syn.toNat⟩
/-- The fault of a file behind others. -/
def faultE (seen : List (List UInt8)) (v : Fi) : Int := if nameOk v.nm = true then (if v.nm ∈ seen then 61 else if v.syn < 0 ∨ (v.bs.length : Int) < v.syn then 12 else 0) else 113
structure GoodPre (vs : List Fi) : Prop where
  ok : ∀ v ∈ vs, nameOk v.nm = true ∧ 0 ≤ v.syn ∧ v.syn ≤ (v.bs.length : Int)
  nd : (vs.map (·.nm)).Nodup
theorem good_upto (vs : List Fi) : ∀ k, k ≤ vs.length → GoodPre (vs.take k) ∨ ∃ i v, vs[i]? = some v ∧ GoodPre (vs.take i) ∧ faultE ((vs.take i).map (·.nm)) v ≠ 0
  | 0, _ => .inl ⟨by simp, by simp⟩
  | k + 1, hk => by
    rcases good_upto vs k (by omega) with h | h
    · have hv : vs[k]? = some vs[k] := List.getElem?_eq_getElem (by omega)
      by_cases hf : faultE ((vs.take k).map (·.nm)) vs[k] = 0
      · left
        rw [List.take_add_one, hv]
        simp only [Option.toList_some]
        unfold faultE at hf
        split at hf
        · rename_i hok
          split at hf
          · cases hf
          · rename_i hmem
            split at hf
            · cases hf
            · rename_i hr
              refine ⟨fun u hu => ?_, ?_⟩
              · rcases List.mem_append.1 hu with hu | hu
                · exact h.ok u hu
                · simp at hu; subst hu; exact ⟨hok, by omega, by omega⟩
              · rw [List.map_append, List.nodup_append]
                refine ⟨h.nd, by simp, fun x hx y hy => ?_⟩
                simp at hy
                subst hy
                exact fun e => hmem (e ▸ hx)
        · cases hf
      · exact .inr ⟨k, _, hv, h, hf⟩
    · exact .inr h
theorem good_or (vs : List Fi) : GoodPre vs ∨ ∃ i v, vs[i]? = some v ∧ GoodPre (vs.take i) ∧ faultE ((vs.take i).map (·.nm)) v ≠ 0 := by
  have := good_upto vs vs.length (Nat.le_refl _)
  rwa [List.take_length] at this
set_option maxHeartbeats 4000000 in
theorem enter_bad {w : World} {p b ck lim : Nat} {xs : List X} (h : LdAt w p b lim xs ck) (v : Fi) (hl : v.nm.length ≤ 9223372036854775807) (hne : faultE (xs.map (·.nm)) v ≠ 0) :
    Calls Try.prog 87 #[.pointer (some ⟨p, 0, none⟩), .agg #[.string ⟨v.nm.toArray⟩, .slice v.a v.bs.length v.cap, .int .i64 v.syn]] w fun e w' => e = .returned (.int .i64 (faultE (xs.map (·.nm)) v)) ∧ Below w.heap.size w w' := by
  obtain ⟨W0, hW0⟩ : ∃ W0, w.alloc (.cells #[.string ⟨v.nm.toArray⟩, .slice v.a v.bs.length v.cap, .int .i64 v.syn] 73) = W0 := ⟨_, rfl⟩
  have hb0 : Below w.heap.size w W0 := by rw [← hW0]; exact (Below.refl _ _).alloc (Nat.le_refl _) _
  have hq0 : W0.heap[w.heap.size]? = some (.cells #[.string ⟨v.nm.toArray⟩, .slice v.a v.bs.length v.cap, .int .i64 v.syn] 73) := by rw [← hW0]; exact (MapKept.heap_alloc w _).1
  have hD0 := h.below hb0
  obtain ⟨c0, c1, c2, c3, c4⟩ := box5 hD0.box
  obtain ⟨s0, s1, s2⟩ := box3 hq0
  have HH : Hid (LdAt W0 p b lim xs ck ∧ Below w.heap.size w W0) := ⟨hD0, hb0⟩
  have HNM : Hid (∀ w, Calls Try.prog 74 #[.string ⟨v.nm.toArray⟩] w fun e w' => e = .returned (.bool (nameOk v.nm)) ∧ w' = w) := fun w => isName_any v.nm hl w
  by_cases hok : nameOk v.nm = true
  · rw [hok] at HNM
    by_cases hm : v.nm ∈ xs.map (·.nm)
    · have hE : faultE (xs.map (·.nm)) v = 61 := by unfold faultE; rw [if_pos hok, if_pos hm]
      rw [hE]
      rcases name_cases v.nm xs h.map.nm with hno | ⟨l, x, r, rfl, hx, hl1, _⟩
      · obtain ⟨y, hy, he⟩ := List.mem_map.1 hm
        exact absurd he (hno y hy)
      clear h hl hne hb0 hq0 hD0 c0 c2 c3 c4 hok hm hE
      go_enter Try.func87, Try.ntmps87
      go_wp2_with fail
      refine (HNM.out _).mono ?_
      rintro e w1 ⟨rfl, hz⟩
      rw [hz]
      clear hz w1
      go_wp2_with fail
      refine wp_region_held_drew (S := (fun W => W.cell? ⟨p, 1, none⟩ = some (.map (some b)) ∧ W.cell? ⟨w.heap.size, 0, none⟩ = some (.string ⟨v.nm.toArray⟩) ∧ (Instr.lookup 50 (.map (some b)) (.string ⟨v.nm.toArray⟩) false).run Try.prog W = .ok (.pointer (some ⟨x.q, 0, none⟩)) W)) (by kernel_rfl) ?hS1 (fun hHeld => ?rest1)
      case hS1 => exact ⟨c1, s0, look_hit (HH.out.1.map.chg (D := fun _ => False) ((Chg.refl _ _).drew) (fun f => f)) hx hl1⟩
      refine takeD (i := 0) (d := some 9) (v := ?vT2) rfl rfl (by kernel_rfl) (by kernel_rfl) (by kernel_rfl) (fun _ _ _ h => h) (Or.inl ⟨by rfl, ?hyT2⟩) (by assumption) ?rstT2
      case hyT2 => (intro w hSw; obtain ⟨hSa, hSb, hSc⟩ := hSw; go_simp; (try with_reducible rfl))
      try simp only [Act.put, List.setIfInBounds_toArray, List.set_cons_zero, List.set_cons_succ]
      refine takeD (i := 1) (d := some 10) (v := ?vT3) rfl rfl (by kernel_rfl) (by kernel_rfl) (by kernel_rfl) (fun _ _ _ h => h) (Or.inl ⟨by rfl, ?hyT3⟩) (by assumption) ?rstT3
      case hyT3 => (intro w hSw; obtain ⟨hSa, hSb, hSc⟩ := hSw; go_simp; (try with_reducible rfl))
      try simp only [Act.put, List.setIfInBounds_toArray, List.set_cons_zero, List.set_cons_succ]
      refine takeD (i := 2) (d := some 11) (v := ?vT4) rfl rfl (by kernel_rfl) (by kernel_rfl) (by kernel_rfl) (fun _ _ _ h => h) (Or.inl ⟨by rfl, ?hyT4⟩) (by assumption) ?rstT4
      case hyT4 => (intro w hSw; obtain ⟨hSa, hSb, hSc⟩ := hSw; go_simp; (try with_reducible rfl))
      try simp only [Act.put, List.setIfInBounds_toArray, List.set_cons_zero, List.set_cons_succ]
      refine takeD (i := 3) (d := some 12) (v := ?vT5) rfl rfl (by kernel_rfl) (by kernel_rfl) (by kernel_rfl) (fun _ _ _ h => h) (Or.inl ⟨by rfl, ?hyT5⟩) (by assumption) ?rstT5
      case hyT5 => (intro w hSw; obtain ⟨hSa, hSb, hSc⟩ := hSw; go_simp; (try with_reducible rfl))
      try simp only [Act.put, List.setIfInBounds_toArray, List.set_cons_zero, List.set_cons_succ]
      refine takeD (i := 4) (d := some 13) (v := ?vT6) rfl rfl (by kernel_rfl) (by kernel_rfl) (by kernel_rfl) (fun _ _ _ h => h) (Or.inl ⟨by rfl, ?hyT6⟩) (by assumption) ?rstT6
      case hyT6 => (intro w hSw; obtain ⟨hSa, hSb, hSc⟩ := hSw; go_simp; (try with_reducible rfl))
      try simp only [Act.put, List.setIfInBounds_toArray, List.set_cons_zero, List.set_cons_succ]
      refine takeD (i := 5) (d := some 14) (v := ?vT7) rfl rfl (by kernel_rfl) (by kernel_rfl) (by kernel_rfl) (fun _ _ _ h => h) (Or.inl ⟨by rfl, ?hyT7⟩) (by assumption) ?rstT7
      case hyT7 => (intro w hSw; obtain ⟨hSa, hSb, hSc⟩ := hSw; go_simp; (try with_reducible rfl))
      try simp only [Act.put, List.setIfInBounds_toArray, List.set_cons_zero, List.set_cons_succ]
      refine takeD (i := 6) (d := some 15) (v := ?vT8) rfl rfl (by kernel_rfl) (by kernel_rfl) (by kernel_rfl) (fun _ _ _ h => h) (Or.inl ⟨by rfl, ?hyT8⟩) (by assumption) ?rstT8
      case hyT8 => (intro w hSw; obtain ⟨hSa, hSb, hSc⟩ := hSw; go_simp; (try with_reducible rfl))
      try simp only [Act.put, List.setIfInBounds_toArray, List.set_cons_zero, List.set_cons_succ]
      refine takeD (i := 7) (d := some 16) (v := ?vT9) rfl rfl (by kernel_rfl) (by kernel_rfl) (by kernel_rfl) (fun _ _ _ h => h) (Or.inl ⟨by rfl, ?hyT9⟩) (by assumption) ?rstT9
      case hyT9 => (intro w hSw; obtain ⟨hSa, hSb, hSc⟩ := hSw; go_simp; (try with_reducible rfl))
      try simp only [Act.put, List.setIfInBounds_toArray, List.set_cons_zero, List.set_cons_succ]
      refine wpAnyH_done (by kernel_rfl) ?_ _
      go_wp2_with fail
      go_ret
      exact ⟨rfl, HH.out.2.drew⟩
    · have hn : ∀ y ∈ xs, y.nm ≠ v.nm := fun y hy e => hm (List.mem_map.2 ⟨y, hy, e⟩)
      have hbad : v.syn < 0 ∨ (v.bs.length : Int) < v.syn := by
        by_cases hb : v.syn < 0 ∨ (v.bs.length : Int) < v.syn
        · exact hb
        · exact absurd (by unfold faultE; rw [if_pos hok, if_neg hm, if_neg hb]) hne
      have hE : faultE (xs.map (·.nm)) v = 12 := by unfold faultE; rw [if_pos hok, if_neg hm, if_pos hbad]
      rw [hE]
      have HNN : Hid (∀ y ∈ xs, y.nm ≠ v.nm) := hn
      clear h hl hne hb0 hq0 hD0 c0 c2 c3 c4 hok hm hE hn
      by_cases g1 : v.syn < 0
      · clear hbad
        go_enter Try.func87, Try.ntmps87
        go_wp2_with fail
        refine (HNM.out _).mono ?_
        rintro e w1 ⟨rfl, hz⟩
        rw [hz]
        clear hz w1
        go_wp2_with fail
        refine wp_region_held_drew (S := (fun W => W.cell? ⟨p, 1, none⟩ = some (.map (some b)) ∧ W.cell? ⟨w.heap.size, 0, none⟩ = some (.string ⟨v.nm.toArray⟩) ∧ (Instr.lookup 50 (.map (some b)) (.string ⟨v.nm.toArray⟩) false).run Try.prog W = .ok (.pointer none) W)) (by kernel_rfl) ?hS10 (fun hHeld => ?rest10)
        case hS10 => exact ⟨c1, s0, look_miss (HH.out.1.map.chg (D := fun _ => False) ((Chg.refl _ _).drew) (fun f => f)) HNN.out⟩
        refine takeD (i := 0) (d := some 9) (v := ?vT11) rfl rfl (by kernel_rfl) (by kernel_rfl) (by kernel_rfl) (fun _ _ _ h => h) (Or.inl ⟨by rfl, ?hyT11⟩) (by assumption) ?rstT11
        case hyT11 => (intro w hSw; obtain ⟨hSa, hSb, hSc⟩ := hSw; go_simp; (try with_reducible rfl))
        try simp only [Act.put, List.setIfInBounds_toArray, List.set_cons_zero, List.set_cons_succ]
        refine takeD (i := 1) (d := some 10) (v := ?vT12) rfl rfl (by kernel_rfl) (by kernel_rfl) (by kernel_rfl) (fun _ _ _ h => h) (Or.inl ⟨by rfl, ?hyT12⟩) (by assumption) ?rstT12
        case hyT12 => (intro w hSw; obtain ⟨hSa, hSb, hSc⟩ := hSw; go_simp; (try with_reducible rfl))
        try simp only [Act.put, List.setIfInBounds_toArray, List.set_cons_zero, List.set_cons_succ]
        refine takeD (i := 2) (d := some 11) (v := ?vT13) rfl rfl (by kernel_rfl) (by kernel_rfl) (by kernel_rfl) (fun _ _ _ h => h) (Or.inl ⟨by rfl, ?hyT13⟩) (by assumption) ?rstT13
        case hyT13 => (intro w hSw; obtain ⟨hSa, hSb, hSc⟩ := hSw; go_simp; (try with_reducible rfl))
        try simp only [Act.put, List.setIfInBounds_toArray, List.set_cons_zero, List.set_cons_succ]
        refine takeD (i := 3) (d := some 12) (v := ?vT14) rfl rfl (by kernel_rfl) (by kernel_rfl) (by kernel_rfl) (fun _ _ _ h => h) (Or.inl ⟨by rfl, ?hyT14⟩) (by assumption) ?rstT14
        case hyT14 => (intro w hSw; obtain ⟨hSa, hSb, hSc⟩ := hSw; go_simp; (try with_reducible rfl))
        try simp only [Act.put, List.setIfInBounds_toArray, List.set_cons_zero, List.set_cons_succ]
        refine takeD (i := 4) (d := some 13) (v := ?vT15) rfl rfl (by kernel_rfl) (by kernel_rfl) (by kernel_rfl) (fun _ _ _ h => h) (Or.inl ⟨by rfl, ?hyT15⟩) (by assumption) ?rstT15
        case hyT15 => (intro w hSw; obtain ⟨hSa, hSb, hSc⟩ := hSw; go_simp; (try with_reducible rfl))
        try simp only [Act.put, List.setIfInBounds_toArray, List.set_cons_zero, List.set_cons_succ]
        refine takeD (i := 5) (d := some 14) (v := ?vT16) rfl rfl (by kernel_rfl) (by kernel_rfl) (by kernel_rfl) (fun _ _ _ h => h) (Or.inl ⟨by rfl, ?hyT16⟩) (by assumption) ?rstT16
        case hyT16 => (intro w hSw; obtain ⟨hSa, hSb, hSc⟩ := hSw; go_simp; (try with_reducible rfl))
        try simp only [Act.put, List.setIfInBounds_toArray, List.set_cons_zero, List.set_cons_succ]
        refine takeD (i := 6) (d := some 15) (v := ?vT17) rfl rfl (by kernel_rfl) (by kernel_rfl) (by kernel_rfl) (fun _ _ _ h => h) (Or.inl ⟨by rfl, ?hyT17⟩) (by assumption) ?rstT17
        case hyT17 => (intro w hSw; obtain ⟨hSa, hSb, hSc⟩ := hSw; go_simp; (try with_reducible rfl))
        try simp only [Act.put, List.setIfInBounds_toArray, List.set_cons_zero, List.set_cons_succ]
        refine takeD (i := 7) (d := some 16) (v := ?vT18) rfl rfl (by kernel_rfl) (by kernel_rfl) (by kernel_rfl) (fun _ _ _ h => h) (Or.inl ⟨by rfl, ?hyT18⟩) (by assumption) ?rstT18
        case hyT18 => (intro w hSw; obtain ⟨hSa, hSb, hSc⟩ := hSw; go_simp; (try with_reducible rfl))
        try simp only [Act.put, List.setIfInBounds_toArray, List.set_cons_zero, List.set_cons_succ]
        refine wpAnyH_done (by kernel_rfl) ?_ _
        go_wp2_with fail
        go_ret
        exact ⟨rfl, HH.out.2.drew⟩
      · have g2 : (v.bs.length : Int) < v.syn := by omega
        clear hbad
        go_enter Try.func87, Try.ntmps87
        go_wp2_with fail
        refine (HNM.out _).mono ?_
        rintro e w1 ⟨rfl, hz⟩
        rw [hz]
        clear hz w1
        go_wp2_with fail
        refine wp_region_held_drew (S := (fun W => W.cell? ⟨p, 1, none⟩ = some (.map (some b)) ∧ W.cell? ⟨w.heap.size, 0, none⟩ = some (.string ⟨v.nm.toArray⟩) ∧ (Instr.lookup 50 (.map (some b)) (.string ⟨v.nm.toArray⟩) false).run Try.prog W = .ok (.pointer none) W)) (by kernel_rfl) ?hS19 (fun hHeld => ?rest19)
        case hS19 => exact ⟨c1, s0, look_miss (HH.out.1.map.chg (D := fun _ => False) ((Chg.refl _ _).drew) (fun f => f)) HNN.out⟩
        refine takeD (i := 0) (d := some 9) (v := ?vT20) rfl rfl (by kernel_rfl) (by kernel_rfl) (by kernel_rfl) (fun _ _ _ h => h) (Or.inl ⟨by rfl, ?hyT20⟩) (by assumption) ?rstT20
        case hyT20 => (intro w hSw; obtain ⟨hSa, hSb, hSc⟩ := hSw; go_simp; (try with_reducible rfl))
        try simp only [Act.put, List.setIfInBounds_toArray, List.set_cons_zero, List.set_cons_succ]
        refine takeD (i := 1) (d := some 10) (v := ?vT21) rfl rfl (by kernel_rfl) (by kernel_rfl) (by kernel_rfl) (fun _ _ _ h => h) (Or.inl ⟨by rfl, ?hyT21⟩) (by assumption) ?rstT21
        case hyT21 => (intro w hSw; obtain ⟨hSa, hSb, hSc⟩ := hSw; go_simp; (try with_reducible rfl))
        try simp only [Act.put, List.setIfInBounds_toArray, List.set_cons_zero, List.set_cons_succ]
        refine takeD (i := 2) (d := some 11) (v := ?vT22) rfl rfl (by kernel_rfl) (by kernel_rfl) (by kernel_rfl) (fun _ _ _ h => h) (Or.inl ⟨by rfl, ?hyT22⟩) (by assumption) ?rstT22
        case hyT22 => (intro w hSw; obtain ⟨hSa, hSb, hSc⟩ := hSw; go_simp; (try with_reducible rfl))
        try simp only [Act.put, List.setIfInBounds_toArray, List.set_cons_zero, List.set_cons_succ]
        refine takeD (i := 3) (d := some 12) (v := ?vT23) rfl rfl (by kernel_rfl) (by kernel_rfl) (by kernel_rfl) (fun _ _ _ h => h) (Or.inl ⟨by rfl, ?hyT23⟩) (by assumption) ?rstT23
        case hyT23 => (intro w hSw; obtain ⟨hSa, hSb, hSc⟩ := hSw; go_simp; (try with_reducible rfl))
        try simp only [Act.put, List.setIfInBounds_toArray, List.set_cons_zero, List.set_cons_succ]
        refine takeD (i := 4) (d := some 13) (v := ?vT24) rfl rfl (by kernel_rfl) (by kernel_rfl) (by kernel_rfl) (fun _ _ _ h => h) (Or.inl ⟨by rfl, ?hyT24⟩) (by assumption) ?rstT24
        case hyT24 => (intro w hSw; obtain ⟨hSa, hSb, hSc⟩ := hSw; go_simp; (try with_reducible rfl))
        try simp only [Act.put, List.setIfInBounds_toArray, List.set_cons_zero, List.set_cons_succ]
        refine takeD (i := 5) (d := some 14) (v := ?vT25) rfl rfl (by kernel_rfl) (by kernel_rfl) (by kernel_rfl) (fun _ _ _ h => h) (Or.inl ⟨by rfl, ?hyT25⟩) (by assumption) ?rstT25
        case hyT25 => (intro w hSw; obtain ⟨hSa, hSb, hSc⟩ := hSw; go_simp; (try with_reducible rfl))
        try simp only [Act.put, List.setIfInBounds_toArray, List.set_cons_zero, List.set_cons_succ]
        refine takeD (i := 6) (d := some 15) (v := ?vT26) rfl rfl (by kernel_rfl) (by kernel_rfl) (by kernel_rfl) (fun _ _ _ h => h) (Or.inl ⟨by rfl, ?hyT26⟩) (by assumption) ?rstT26
        case hyT26 => (intro w hSw; obtain ⟨hSa, hSb, hSc⟩ := hSw; go_simp; (try with_reducible rfl))
        try simp only [Act.put, List.setIfInBounds_toArray, List.set_cons_zero, List.set_cons_succ]
        refine takeD (i := 7) (d := some 16) (v := ?vT27) rfl rfl (by kernel_rfl) (by kernel_rfl) (by kernel_rfl) (fun _ _ _ h => h) (Or.inl ⟨by rfl, ?hyT27⟩) (by assumption) ?rstT27
        case hyT27 => (intro w hSw; obtain ⟨hSa, hSb, hSc⟩ := hSw; go_simp; (try with_reducible rfl))
        try simp only [Act.put, List.setIfInBounds_toArray, List.set_cons_zero, List.set_cons_succ]
        refine wpAnyH_done (by kernel_rfl) ?_ _
        go_wp2_with fail
        go_ret
        exact ⟨rfl, HH.out.2.drew⟩
  · have hno : nameOk v.nm = false := by simpa using hok
    have hE : faultE (xs.map (·.nm)) v = 113 := by unfold faultE; rw [if_neg hok]
    rw [hE]
    rw [hno] at HNM
    clear h hl hne hb0 hq0 hD0 c0 c1 c2 c3 c4 hok hE hno
    go_enter Try.func87, Try.ntmps87
    go_wp2_with fail
    refine (HNM.out _).mono ?_
    rintro e w1 ⟨rfl, hz⟩
    rw [hz]
    clear hz w1
    go_wp2_with fail
    go_ret
    exact ⟨rfl, HH.out.2⟩
end Go.Proofs.Ytfehgaioioejoaa

/-! Load of files as they are handed in. -/
namespace Go.Proofs.Ytfehgaioioejoaa
open Go.RowKit Go.Lib Go.Sort Go.Shelf
set_option maxRecDepth 100000

set_option maxHeartbeats 4000000 in
theorem load_fault {w : World} {a : Option Addr} {n c : Nat} {vs : List Fi} (h : Rw fiV 3 w a n c vs) (hn : n ≤ 4398046511104) {lim : Nat} (hl : lim ≤ 1099511627776) {m : Nat} {u : Fi} (hu : vs[m]? = some u) (hg : GoodPre (vs.take m)) (hne : faultE ((vs.take m).map (·.nm)) u ≠ 0) (hul : u.nm.length ≤ 9223372036854775807) :
    Calls Try.prog 56 #[.int .i64 (lim : Int), .slice a n c] w fun e w' => e = .returned (.tuple #[.pointer none, .int .i64 (faultE ((vs.take m).map (·.nm)) u)]) ∧ Below w.heap.size w w' := by
  have HR : Hid (Rw fiV 3 w a n c vs ∧ n ≤ 4398046511104) := ⟨h, hn⟩
  have HL : Hid (lim ≤ 1099511627776) := hl
  have hmn : m < n := by have := h.len; have := (List.getElem?_eq_some_iff.1 hu).1; omega
  have HFK : Hid (∀ k v, k < m → vs[k]? = some v → (((vs.take m).map Fi.fl))[k]? = some v.fl) := fun k v hk hv => by rw [List.getElem?_map, List.getElem?_take, if_pos hk, hv]; rfl
  have HGD : Hid (∀ k v, k < m → vs[k]? = some v → nameOk v.nm = true ∧ 0 ≤ v.syn ∧ v.syn ≤ (v.bs.length : Int)) := fun k v hk hv => hg.ok v (List.mem_of_getElem? (i := k) (by rw [List.getElem?_take, if_pos hk, hv]))
  have HND : Hid (((((vs.take m).map Fi.fl)).map (·.nm)).Nodup) := by rw [List.map_map]; exact hg.nd
  have HU : Hid (vs[m]? = some u ∧ u.nm.length ≤ 9223372036854775807) := ⟨hu, hul⟩
  obtain ⟨E, hE⟩ : ∃ E, faultE ((vs.take m).map (·.nm)) u = E := ⟨_, rfl⟩
  have HE : Hid (faultE ((vs.take m).map (·.nm)) u = E ∧ E ≠ 0) := ⟨hE, hE ▸ hne⟩
  have hEb : (E != 0) = true := bne_iff_ne.2 (hE ▸ hne)
  rw [hE]
  have hnc : (n : Int) ≤ 4398046511104 := by omega
  clear h hn hl hu hg hne hul hE
  go_enter Try.func56, Try.ntmps56
  go_wp2_with fail
  refine (diskNew_any lim HL.out w).mono ?_
  rintro e w1 ⟨rfl, hD, hb1⟩
  obtain ⟨p, hp⟩ : ∃ p, w.heap.size + 1 = p := ⟨_, rfl⟩
  have hge : ∀ g, Blk (w.heap.size + 1) w.heap.size [] g → w.heap.size ≤ g := fun g hg => by
    rcases hg with h | h | ⟨x, hx, _⟩
    · omega
    · omega
    · simp at hx
  rw [hp] at hD hge ⊢
  have H1 : Hid (L1 w w1 p w.heap.size lim ((vs.take m).map Fi.fl) 0 [] 0) := ⟨hD.ld, rfl, fun j x f hx => by simp at hx, hge, hb1⟩
  clear hD hb1 hge hp
  go_wp2_with fail
  go_loopw [23] (fun vi wr => ∃ k : Nat, k ≤ m ∧ vi = .int .i64 (k : Int) ∧ ∃ (xs : List X) (ck : Nat), Hid (L1 w wr p w.heap.size lim ((vs.take m).map Fi.fl) k xs ck)) (fun vi _ => n - (RowKit.intOf vi).toNat)
  case atStart => exact ⟨0, Nat.zero_le _, rfl, [], 0, H1.out⟩
  case round =>
    obtain ⟨wo, hwo⟩ : ∃ wo, wo = wr := ⟨_, rfl⟩
    subst hwo
    obtain ⟨k, hk, rfl, xs, ck, hS⟩ := hrel
    have hlt : k < n := by omega
    have hlt2 : (k : Int) < (n : Int) := by omega
    by_cases hkm : k < m
    · skip
      obtain ⟨g, off, v, ha, hg, hv, hcell⟩ := (HR.out.1.below hS.out.below).at k hlt
      subst ha
      have o0 := hcell 0 _ rfl
      have o1 := hcell 1 _ rfl
      have o2 := hcell 2 _ rfl
      rw [Nat.add_zero] at o0
      obtain ⟨V, V2, hV, hV2, hVh, hh, hb⟩ := fbox wo ⟨v.nm.toArray⟩ v.a v.bs.length v.cap v.syn
      obtain ⟨z0, z1, z2⟩ := box3 hVh
      have k0 := Lib.frozen_of_heap hVh 0
      have k1 := Lib.frozen_of_heap hVh 1
      have k2 := Lib.frozen_of_heap hVh 2
      obtain ⟨e0, e1, e2⟩ := box3 hh
      have gi : IntKind.i64.wrap ((k : Int) + 1) = ((k + 1 : Nat) : Int) := by rw [IntWalk.i64_in _ (by omega)]; omega
      have hfk : (((vs.take m).map Fi.fl))[k]? = some v.fl := HFK.out k v hkm hv
      have hgd := HGD.out k v hkm hv
      obtain ⟨y, hy⟩ : ∃ y : Nat, v.syn = (y : Int) := ⟨v.syn.toNat, by omega⟩
      have HB : Hid (L1 w V2 p w.heap.size lim (((vs.take m).map Fi.fl)) k xs ck ∧ (((vs.take m).map Fi.fl))[k]? = some v.fl ∧ nameOk v.nm = true ∧ y ≤ v.bs.length ∧ y = v.fl.syn) := ⟨hS.out.grow hb, hfk, hgd.1, by omega, by show y = v.syn.toNat; omega⟩
      rw [hy] at hV2 e2 o2
      clear hcell hv hVh hh hb hg hfk hgd hy
      go_wp2_with fail
      refine (enter_ok HB.out.1.ld HB.out.2.2.1 (Nat.le_trans (nameOk_len HB.out.2.2.1) (by omega)) (HB.out.1.fresh HND.out HB.out.2.1) v.a v.bs.length v.cap y HB.out.2.2.2.1).mono ?_
      rintro e w5 ⟨rfl, q, hq, hld, hC⟩
      have HN : Hid (L1 w w5 p w.heap.size lim (((vs.take m).map Fi.fl)) (k + 1) _ (ck + 1)) := HB.out.1.next HB.out.2.1 HB.out.2.2.2.2 hq hld hC
      clear hq hld hC
      go_wp2_with fail
      go_roundw
      case rel => exact ⟨k + 1, by omega, by first | rfl | go_num, _, _, HN.out⟩
      case measure => simp [RowKit.intOf]; omega
    · obtain rfl : k = m := by omega
      obtain ⟨g, off, v, ha, hg, hv, hcell⟩ := (HR.out.1.below hS.out.below).at k hlt
      subst ha
      have o0 := hcell 0 _ rfl
      have o1 := hcell 1 _ rfl
      have o2 := hcell 2 _ rfl
      rw [Nat.add_zero] at o0
      have hvu : v = u := by have := HU.out.1; rw [hv] at this; cases this; rfl
      subst hvu
      obtain ⟨V, V2, hV, hV2, hVh, hh, hb⟩ := fbox wo ⟨v.nm.toArray⟩ v.a v.bs.length v.cap v.syn
      obtain ⟨z0, z1, z2⟩ := box3 hVh
      have k0 := Lib.frozen_of_heap hVh 0
      have k1 := Lib.frozen_of_heap hVh 1
      have k2 := Lib.frozen_of_heap hVh 2
      obtain ⟨e0, e1, e2⟩ := box3 hh
      have hnames : xs.map (·.nm) = (vs.take k).map (·.nm) := by
        have hl := hS.out.len
        refine List.ext_getElem? (fun j => ?_)
        by_cases hj : j < k
        · have hvl : j < vs.length := by have := HR.out.1.len; omega
          have hx : xs[j]? = some xs[j] := List.getElem?_eq_getElem (by omega)
          have hvj : vs[j]? = some vs[j] := List.getElem?_eq_getElem hvl
          rw [List.getElem?_map, List.getElem?_map, hx, List.getElem?_take, if_pos hj, hvj]
          have := (hS.out.hd j _ _ hx (HFK.out j _ hj hvj)).1
          simp only [Option.map_some, this]
          rfl
        · rw [List.getElem?_map, List.getElem?_map, List.getElem?_eq_none (by omega), List.getElem?_take, if_neg hj]
          rfl
      have HB : Hid (L1 w V2 p w.heap.size lim ((vs.take k).map Fi.fl) k xs ck ∧ faultE (xs.map (·.nm)) v = E) := ⟨hS.out.grow hb, by rw [hnames]; exact HE.out.1⟩
      clear hcell hv hVh hh hb hg hnames
      go_wp2_with fail
      have hce := enter_bad HB.out.1.ld v HU.out.2 (by rw [HB.out.2]; exact HE.out.2)
      rw [HB.out.2] at hce
      refine hce.mono ?_
      rintro e w5 ⟨rfl, hb5⟩
      have HX : Hid (Below w.heap.size w w5) := HB.out.1.below.trans (hb5.mono HB.out.1.below.size)
      clear hb5 hce
      go_wp2_with fail
      go_ret2
      exact ⟨rfl, HX.out⟩
def Fi.fv (v : Fi) : Fv := ⟨v.nm, v.a, v.bs.length, v.cap, v.syn.toNat⟩
theorem rw_fv {w : World} {a : Option Addr} {n c : Nat} {vs : List Fi} (h : Rw fiV 3 w a n c vs) (hg : ∀ v ∈ vs, 0 ≤ v.syn) : Rw fvV 3 w a n c (vs.map Fi.fv) := by
  refine ⟨by rw [List.length_map]; exact h.len, h.room, fun h0 => ?_⟩
  obtain ⟨g, off, e, hgl, hc⟩ := h.cells h0
  refine ⟨g, off, e, hgl, fun j x hj i v hv => ?_⟩
  rw [List.getElem?_map] at hj
  obtain ⟨y, hy, rfl⟩ := Option.map_eq_some_iff.1 hj
  have h1 := hg y (List.mem_of_getElem? hy)
  refine hc j y hy i v ?_
  have e2 : fvV y.fv = fiV y := by
    show [Value.string ⟨y.nm.toArray⟩, .slice y.a y.bs.length y.cap, .int .i64 ((y.syn.toNat : Nat) : Int)] = [Value.string ⟨y.nm.toArray⟩, .slice y.a y.bs.length y.cap, .int .i64 y.syn]
    rw [Int.toNat_of_nonneg h1]
  rw [← e2]
  exact hv
theorem loads_good {vs : List Fi} {lim : Nat} (hg : GoodPre vs) (hs : used (vs.map Fi.fl) ≤ lim) : Loads (vs.map Fi.fl) lim := by
  refine ⟨fun f hf => ?_, by rw [List.map_map]; exact hg.nd, fun f hf => ?_, hs⟩
  · obtain ⟨v, hv, rfl⟩ := List.mem_map.1 hf
    exact (hg.ok v hv).1
  · obtain ⟨v, hv, rfl⟩ := List.mem_map.1 hf
    have := hg.ok v hv
    show v.syn.toNat ≤ v.bs.length
    omega
theorem load_take {w : World} {a : Option Addr} {n c : Nat} {vs : List Fi} (h : Rw fiV 3 w a n c vs) (hn : n ≤ 4398046511104) (hby : ∀ v ∈ vs, Rw byU 1 w v.a v.bs.length v.cap v.bs) {lim : Nat} (hl : lim ≤ 1099511627776) (hg : GoodPre vs) (hs : used (vs.map Fi.fl) ≤ lim) :
    Calls Try.prog 56 #[.int .i64 (lim : Int), .slice a n c] w fun e w' => ∃ p b xs ck, e = .returned (.tuple #[.pointer (some ⟨p, 0, none⟩), .int .i64 0]) ∧ DiskAt w' p b ⟨lim, vs.map Fi.fl, false, 0, 0⟩ xs ck ∧ (∀ g, Blk p b xs g → w.heap.size ≤ g) ∧ Below w.heap.size w w' := by
  refine load_ok (rw_fv h (fun v hv => (hg.ok v hv).2.1)) hn (by rw [List.length_map, List.length_map]) (fun i v f hv hf => ?_) hl (loads_good hg hs)
  rw [List.getElem?_map] at hv hf
  obtain ⟨y, hy, rfl⟩ := Option.map_eq_some_iff.1 hv
  rw [hy] at hf
  simp only [Option.map_some, Option.some.injEq] at hf
  subst hf
  exact ⟨rfl, rfl, rfl, hby y (List.mem_of_getElem? hy)⟩
set_option maxHeartbeats 4000000 in
theorem load_big {w : World} {a : Option Addr} {n c : Nat} {vs : List Fi} (h : Rw fiV 3 w a n c vs) (hn : n ≤ 4398046511104) (hbl : ∀ v ∈ vs, v.bs.length ≤ 9223372036854775807) {lim : Nat} (hl : lim ≤ 1099511627776) (hg : GoodPre vs) (hs : ¬ used (vs.map Fi.fl) ≤ lim) :
    Calls Try.prog 56 #[.int .i64 (lim : Int), .slice a n c] w fun e w' => e = .returned (.tuple #[.pointer none, .int .i64 12]) ∧ Below w.heap.size w w' := by
  have HR : Hid (Rw fiV 3 w a n c vs ∧ n ≤ 4398046511104) := ⟨h, hn⟩
  have HL : Hid (lim ≤ 1099511627776) := hl
  obtain ⟨m, hm⟩ : ∃ m, n = m := ⟨_, rfl⟩
  have hnm : n ≤ m := by omega
  have HFK : Hid (∀ k v, k < m → vs[k]? = some v → (vs.map Fi.fl)[k]? = some v.fl) := fun k v hk hv => by rw [List.getElem?_map, hv]; rfl
  have HGD : Hid (∀ k v, k < m → vs[k]? = some v → nameOk v.nm = true ∧ 0 ≤ v.syn ∧ v.syn ≤ (v.bs.length : Int)) := fun k v hk hv => hg.ok v (List.mem_of_getElem? hv)
  have HND : Hid (((vs.map Fi.fl).map (·.nm)).Nodup) := by rw [List.map_map]; exact hg.nd
  have hsv : sumV (vs.map Fi.fv) = used (vs.map Fi.fl) := by unfold sumV used; rw [List.map_map, List.map_map]; rfl
  have HFT : Hid (∀ W, Below w.heap.size w W → Calls Try.prog 88 #[.slice a n c, .int .i64 (lim : Int)] W fun e w' => e = .returned (.bool false) ∧ Below W.heap.size W w') := fun W hb => by
    have := fit_any ((rw_fv h (fun v hv => (hg.ok v hv).2.1)).below hb) hn (fun v hv => by obtain ⟨y, hy, rfl⟩ := List.mem_map.1 hv; exact hbl y hy) lim hl
    rwa [decide_eq_false (by rw [hsv]; exact hs)] at this
  have hnc : (n : Int) ≤ 4398046511104 := by omega
  have hmn2 : m ≤ n := by omega
  clear h hn hl hg hs hsv hbl hm
  go_enter Try.func56, Try.ntmps56
  go_wp2_with fail
  refine (diskNew_any lim HL.out w).mono ?_
  rintro e w1 ⟨rfl, hD, hb1⟩
  obtain ⟨p, hp⟩ : ∃ p, w.heap.size + 1 = p := ⟨_, rfl⟩
  have hge : ∀ g, Blk (w.heap.size + 1) w.heap.size [] g → w.heap.size ≤ g := fun g hg => by
    rcases hg with h | h | ⟨x, hx, _⟩
    · omega
    · omega
    · simp at hx
  rw [hp] at hD hge ⊢
  have H1 : Hid (L1 w w1 p w.heap.size lim (vs.map Fi.fl) 0 [] 0) := ⟨hD.ld, rfl, fun j x f hx => by simp at hx, hge, hb1⟩
  clear hD hb1 hge hp
  go_wp2_with fail
  go_loopw [23] (fun vi wr => ∃ k : Nat, k ≤ m ∧ vi = .int .i64 (k : Int) ∧ ∃ (xs : List X) (ck : Nat), Hid (L1 w wr p w.heap.size lim (vs.map Fi.fl) k xs ck)) (fun vi _ => n - (RowKit.intOf vi).toNat)
  case atStart => exact ⟨0, Nat.zero_le _, rfl, [], 0, H1.out⟩
  case round =>
    obtain ⟨wo, hwo⟩ : ∃ wo, wo = wr := ⟨_, rfl⟩
    subst hwo
    obtain ⟨k, hk, rfl, xs, ck, hS⟩ := hrel
    by_cases hkm : k < m
    · have hlt : k < n := by omega
      have hlt2 : (k : Int) < (n : Int) := by omega
      obtain ⟨g, off, v, ha, hg, hv, hcell⟩ := (HR.out.1.below hS.out.below).at k hlt
      subst ha
      have o0 := hcell 0 _ rfl
      have o1 := hcell 1 _ rfl
      have o2 := hcell 2 _ rfl
      rw [Nat.add_zero] at o0
      obtain ⟨V, V2, hV, hV2, hVh, hh, hb⟩ := fbox wo ⟨v.nm.toArray⟩ v.a v.bs.length v.cap v.syn
      obtain ⟨z0, z1, z2⟩ := box3 hVh
      have k0 := Lib.frozen_of_heap hVh 0
      have k1 := Lib.frozen_of_heap hVh 1
      have k2 := Lib.frozen_of_heap hVh 2
      obtain ⟨e0, e1, e2⟩ := box3 hh
      have gi : IntKind.i64.wrap ((k : Int) + 1) = ((k + 1 : Nat) : Int) := by rw [IntWalk.i64_in _ (by omega)]; omega
      have hfk : (vs.map Fi.fl)[k]? = some v.fl := HFK.out k v hkm hv
      have hgd := HGD.out k v hkm hv
      obtain ⟨y, hy⟩ : ∃ y : Nat, v.syn = (y : Int) := ⟨v.syn.toNat, by omega⟩
      have HB : Hid (L1 w V2 p w.heap.size lim (vs.map Fi.fl) k xs ck ∧ (vs.map Fi.fl)[k]? = some v.fl ∧ nameOk v.nm = true ∧ y ≤ v.bs.length ∧ y = v.fl.syn) := ⟨hS.out.grow hb, hfk, hgd.1, by omega, by show y = v.syn.toNat; omega⟩
      rw [hy] at hV2 e2 o2
      clear hcell hv hVh hh hb hg hfk hgd hy
      go_wp2_with fail
      refine (enter_ok HB.out.1.ld HB.out.2.2.1 (Nat.le_trans (nameOk_len HB.out.2.2.1) (by omega)) (HB.out.1.fresh HND.out HB.out.2.1) v.a v.bs.length v.cap y HB.out.2.2.2.1).mono ?_
      rintro e w5 ⟨rfl, q, hq, hld, hC⟩
      have HN : Hid (L1 w w5 p w.heap.size lim (vs.map Fi.fl) (k + 1) _ (ck + 1)) := HB.out.1.next HB.out.2.1 HB.out.2.2.2.2 hq hld hC
      clear hq hld hC
      go_wp2_with fail
      go_roundw
      case rel => exact ⟨k + 1, by omega, by first | rfl | go_num, _, _, HN.out⟩
      case measure => simp [RowKit.intOf]; omega
    · obtain rfl : k = m := by omega
      obtain rfl : n = k := by omega
      have hlt2 : ¬ ((n : Int) < (n : Int)) := by omega
      go_wp2_with fail
      refine (HFT.out _ hS.out.below).mono ?_
      rintro e w6 ⟨rfl, hb6⟩
      have HX : Hid (Below w.heap.size w w6) := hS.out.below.trans (hb6.mono hS.out.below.size)
      clear hb6
      go_wp2_with fail
      go_ret2
      exact ⟨rfl, HX.out⟩
end Go.Proofs.Ytfehgaioioejoaa
