import Derived.Test.YtdmhajlhpieedaaLdHI
/-! handed: packets of the statement's own. -/
namespace Go.Proofs.Ytdmhajlhpieedaa
open Go.RowKit Go.Lib Go.Shelf
set_option maxRecDepth 100000

/-- The bytes of a packet that was handed in, with two marks behind them. -/
def HB (W : World) (B : Nat) (z : Pk) : Prop := ∃ g, z.a = some ⟨g, 0, none⟩ ∧ B ≤ g ∧ g < W.heap.size ∧ Rw byU 1 W (some ⟨g, 0, none⟩) (z.bs.length + 2) z.cap (z.bs ++ [85, 170]) ∧ (∃ (cur : Array Value) (fz : Nat × Nat), W.heap[g]? = some (.cells cur 5 fz)) ∧ ∀ j, j < z.bs.length + 2 → W.frozen? ⟨g, j, none⟩ = false
theorem HB.chg {W W' : World} {B : Nat} {z : Pk} {D : Nat → Prop} (h : HB W B z) (hC : Chg D W W') (hd : ∀ g, z.a = some ⟨g, 0, none⟩ → ¬ D g) : HB W' B z := by
  obtain ⟨g, h1, h2, h3, h4, ⟨cur, fz, h5⟩, h6⟩ := h
  have h7 := hC.block h5 (hd g h1)
  refine ⟨g, h1, h2, Nat.lt_of_lt_of_le h3 hC.size, h4.chg hC (fun p hp => by cases hp; exact hd g h1), ⟨cur, fz, h7⟩, fun j hj => ?_⟩
  have := h6 j hj
  unfold World.frozen? at this ⊢
  rw [h5] at this
  rw [h7]
  exact this
/-- Where handed's loop stands. -/
structure HDI (W : World) (ps : List Pk) (i : Nat) (v : Value) (wr : World) (zs : List Pk) : Prop where
  eq : zs.map (fun z => (z.fr, z.tt, z.bs)) = (ps.take i).map (fun z => (z.fr, z.tt, z.bs))
  row : OffF pkv 3 36 wr v zs
  ge : ∀ g, v.ownBlock = some g → W.heap.size ≤ g
  by_ : ∀ z ∈ zs, HB wr W.heap.size z
  bel : Below W.heap.size W wr
theorem back_type {W W' : World} {l : List UInt8} {v : Value} (h : (convert 9 34 (.string ⟨l.toArray⟩)).run Try.prog W = .ok v W') : ∃ (cur : Array Value) (fz : Nat × Nat), W'.heap[W.heap.size]? = some (.cells cur 5 fz) := by
  have hr := run_bytes_of_string (P := Try.prog) W 9 34 5 ⟨l.toArray⟩ Try.underlying9 Try.underlying34 Try.underlying5
  rw [hr] at h
  cases h
  exact ⟨_, _, heap_alloc_new W.drew _⟩
theorem cat_marks (bs : List UInt8) : (⟨bs.toArray⟩ : ByteArray) ++ ⟨#[85, 170]⟩ = ⟨(bs ++ [85, 170]).toArray⟩ := by
  apply ByteArray.ext
  simp [ByteArray.data_append]
theorem HDI.step {W wr W4 W' : World} {ps zs : List Pk} {i : Nat} {v v' : Value} {p : Pk} {g cap : Nat} (h : HDI W ps i v wr zs) (hp : ps[i]? = some p) (hB4 : Below wr.heap.size wr W4) (hz : HB W4 wr.heap.size ⟨p.fr, p.tt, some ⟨g, 0, none⟩, cap, p.bs⟩) (hN : OffF pkv 3 36 W' v' (zs ++ [⟨p.fr, p.tt, some ⟨g, 0, none⟩, cap, p.bs⟩])) (hC : Chg (fun g => v.ownBlock = some g) W4 W') (hb : ∀ g, v'.ownBlock = some g → v.ownBlock = some g ∨ W4.heap.size ≤ g) : HDI W ps (i + 1) v' W' (zs ++ [⟨p.fr, p.tt, some ⟨g, 0, none⟩, cap, p.bs⟩]) := by
  have hs1 := h.bel.size
  have hs2 := hB4.size
  have hof : OffF pkv 3 36 W4 v zs := h.row.chg (D := fun g => wr.heap.size ≤ g) (Chg.of_below hB4) (fun g hg e => by have := h.row.lt hg; omega)
  have hne : ∀ {z : Pk} {g : Nat}, HB W4 W.heap.size z → z.a = some ⟨g, 0, none⟩ → ¬ v.ownBlock = some g := fun {z g} h1 h2 h3 => by
    obtain ⟨g', e1, _, _, _, ⟨cur, fz, hh⟩, _⟩ := h1
    rw [h2] at e1
    cases e1
    obtain ⟨cur2, h4⟩ := hof.block h3
    rw [hh] at h4; simp at h4
  refine ⟨?_, hN, fun g hg => ?_, fun z hz' => ?_, ?_⟩
  · rw [List.map_append, h.eq, List.take_add_one, hp]
    simp
  · rcases hb g hg with h1 | h1
    · exact h.ge g h1
    · omega
  · rcases List.mem_append.1 hz' with h1 | h1
    · have h2 : HB W4 W.heap.size z := (h.by_ z h1).chg (D := fun g => wr.heap.size ≤ g) (Chg.of_below hB4) (fun g hg e => by obtain ⟨g', e1, _, e2, _⟩ := h.by_ z h1; rw [hg] at e1; cases e1; omega)
      exact h2.chg hC (fun g hg => hne h2 hg)
    · simp only [List.mem_singleton] at h1
      subst h1
      obtain ⟨g', e1, e2, e3⟩ := hz
      have h2 : HB W4 W.heap.size ⟨p.fr, p.tt, some ⟨g, 0, none⟩, cap, p.bs⟩ := ⟨g', e1, by omega, e3⟩
      exact h2.chg hC (fun g hg => hne h2 hg)
  · exact h.bel.trans ((hB4.mono hs1).trans (hC.below (fun g hg => h.ge g hg) (by omega)))
set_option maxHeartbeats 8000000 in
theorem handed_any {W : World} {a : Option Addr} {n c : Nat} {ps : List Pk} (hP : PsAt W a n c ps) (hn : n ≤ 1099511627776) : Calls Try.prog 49 #[.slice a n c] W fun e w' => ∃ v zs, e = .returned v ∧ HDI W ps n v w' zs := by
  have HL : Hid (PsAt W a n c ps) := hP
  have H0 : Hid (∃ zs, HDI W ps 0 (.slice none 0 0) W zs) := ⟨[], by simp, offF_nil W, fun g hg => by simp [Value.ownBlock] at hg, fun z hz => by simp at hz, Below.refl _ _⟩
  clear hP
  go_enter Try.func49, Try.ntmps49
  go_wp2_with fail
  go_loopw [3, 4, 5, 6] (fun v3 vi _ _ wr => ∃ i : Nat, i ≤ n ∧ vi = .int .i64 (i : Int) ∧ Hid (∃ zs, HDI W ps i v3 wr zs)) (fun _ vi _ _ _ => n - (RowKit.intOf vi).toNat)
  case atStart => exact ⟨0, Nat.zero_le _, rfl, H0.out⟩
  case round =>
    obtain ⟨i, hi, rfl, hI⟩ := hrel
    obtain ⟨zs, h⟩ := hI.out
    obtain ⟨a6, cap6, e6, _, _⟩ := h.row.shape
    have hzl : zs.length = min i ps.length := by have := congrArg List.length h.eq; simpa using this
    obtain ⟨n6, hn6⟩ : ∃ n6, zs.length = n6 := ⟨_, rfl⟩
    rw [hn6] at e6
    subst e6
    by_cases hin : i < n
    · have hin2 : (i : Int) < (n : Int) := by omega
      obtain ⟨gp, off, p, ea, hgp, hpi, hc⟩ := (HL.out.row.below h.bel).at i hin
      have ei : IntKind.i64.wrap ((i : Int) + 1) = (i : Int) + 1 := IntWalk.i64_in _ (by omega)
      subst ea
      have c0 := hc 0 _ rfl
      have c1 := hc 1 _ rfl
      have c2 := hc 2 _ rfl
      simp only [Nat.add_zero] at c0
      have hpm := List.mem_of_getElem? hpi
      have hbb := (HL.out.bytes p hpm).1.below h.bel
      have hble := (HL.out.bytes p hpm).2
      obtain ⟨V, V2, hV, hV2, hVh, hx2, hBV⟩ := pbox wr p.fr p.tt p.a p.bs.length p.cap
      obtain ⟨b0, b1, b2⟩ := box3 hVh
      have z0 := Lib.frozen_of_heap hVh 0
      have z1 := Lib.frozen_of_heap hVh 1
      have z2 := Lib.frozen_of_heap hVh 2
      have hsV := (Array.getElem?_eq_some_iff.1 hx2).1
      have d2 := (hBV.cell (p := ⟨gp, off + i * 3 + 2, none⟩) hgp).trans c2
      have hb2 := hbb.below hBV
      have k1 := conv_bytes hb2
      have k2 := cat_marks p.bs
      obtain ⟨cap, W3, hcv, hR3, hB3, hs3, hfz, hcap⟩ := back_bytes V2 (p.bs ++ [85, 170]) (by simp; omega)
      have hl2 : (p.bs ++ [85, 170]).length = p.bs.length + 2 := by simp
      rw [hl2] at hcv hR3 hcap
      have hx3 := (hB3.block wr.heap.size hsV).trans hx2
      have f2 := Lib.frozen_of_heap hx3 2
      obtain ⟨m0, m1, m2⟩ := box3 hx3
      have hBw3 : Below wr.heap.size wr W3 := hBV.trans (hB3.mono hBV.size)
      have d3 := (hBw3.cell (p := ⟨gp, off + i * 3 + 2, none⟩) hgp).trans c2
      obtain ⟨W4, hW4⟩ : ∃ W4, W3.setCell ⟨wr.heap.size, 2, none⟩ (.slice (some ⟨V2.heap.size, 0, none⟩) p.bs.length cap) = W4 := ⟨_, rfl⟩
      have hC4 : Chg (fun k => k = wr.heap.size) W3 W4 := by rw [← hW4]; exact Chg.set (D := fun k => k = wr.heap.size) (q := wr.heap.size) 2 _ _ rfl
      have hx4 := heap_setCell_cells hx3 2 (.slice (some ⟨V2.heap.size, 0, none⟩) p.bs.length cap)
      rw [hW4] at hx4
      have hx4' : W4.heap[wr.heap.size]? = some (.cells #[.int .i64 p.fr, .int .i64 p.tt, .slice (some ⟨V2.heap.size, 0, none⟩) p.bs.length cap] 36) := hx4
      obtain ⟨y0, y1, y2⟩ := box3 hx4'
      have hB4 : Below wr.heap.size wr W4 := hBw3.trans (hC4.below (fun k e => by omega) hBw3.size)
      have hof : OffF pkv 3 36 W4 (.slice a6 n6 cap6) zs := h.row.chg (D := fun g => wr.heap.size ≤ g) (Chg.of_below hB4) (fun g hg e => by have := h.row.lt hg; omega)
      obtain ⟨v', W', hap, hN, hCh, hbk⟩ := offF_append kindP layP (W := W4) hof ⟨p.fr, p.tt, some ⟨V2.heap.size, 0, none⟩, cap, p.bs⟩ #[.int .i64 p.fr, .int .i64 p.tt, .slice (some ⟨V2.heap.size, 0, none⟩) p.bs.length cap] (by simp [pkv]) 36 (by omega) (by omega) 41
      have hty := back_type hcv
      have hHB : HB W4 wr.heap.size ⟨p.fr, p.tt, some ⟨V2.heap.size, 0, none⟩, cap, p.bs⟩ := by
        refine HB.chg (D := fun k => k = wr.heap.size) (W := W3) ⟨V2.heap.size, rfl, hBV.size, by omega, hR3, hty, fun j hj => hfz j (by rw [hl2]; exact hj)⟩ hC4 (fun k hk e => ?_)
        simp at hk
        first | omega | skip
      have HN : Hid (∃ zs, HDI W ps (i + 1) v' W' zs) := ⟨_, h.step hpi hB4 hHB hN hCh hbk⟩
      obtain ⟨bl, hbl⟩ : ∃ bl, p.bs.length = bl := ⟨_, rfl⟩
      rw [hbl] at c2 hV2 d2 k1 hcv hcap d3 hW4 hap y2 m2
      have n1 : ¬ (9223372036854775807 < p.bs.length + 2) := by omega
      have n2 : ¬ ((⟨p.bs.toArray⟩ : ByteArray).size + (⟨#[85, 170]⟩ : ByteArray).size > 9223372036854775807) := by simpa [ByteArray.size] using (by omega : p.bs.length + 2 ≤ 9223372036854775807)
      have hcut := cutU W3 (some ⟨V2.heap.size, 0, none⟩) (bl + 2) cap bl (by omega)
      clear h hI hzl hn6 hgp hpi hc hpm hbb hble hVh hx2 hBV hsV hb2 hR3 hB3 hs3 hfz hcap hl2 hx3 hBw3 hC4 hx4 hx4' hB4 hof hN hCh hbk hty hHB hbl
      go_wp2_with (first | (refine wpList_append_hr rfl _ _ 41 rfl _ _ rfl rfl hap ?_) | fail)
      exact ⟨⟨i + 1, by omega, by simp, HN.out⟩, by simp [RowKit.intOf]; omega⟩
    · have hin2 : ¬ (i : Int) < (n : Int) := by omega
      obtain rfl : i = n := by omega
      clear h hzl hn6
      go_wp2_with fail
      go_ret
      obtain ⟨zs, h⟩ := hI.out
      exact ⟨_, rfl, zs, h⟩
end Go.Proofs.Ytdmhajlhpieedaa

/-! samePackets of equal packets. -/
namespace Go.Proofs.Ytdmhajlhpieedaa
open Go.RowKit Go.Lib Go.Shelf
set_option maxRecDepth 100000

/-- A packet without where its bytes lie. -/
def Pk.d (z : Pk) : Int × Int × List UInt8 := (z.fr, z.tt, z.bs)
theorem d_at {zs ps : List Pk} (h : zs.map Pk.d = ps.map Pk.d) {i : Nat} {z p : Pk} (hz : zs[i]? = some z) (hp : ps[i]? = some p) : z.fr = p.fr ∧ z.tt = p.tt ∧ z.bs = p.bs := by
  have h1 : (zs.map Pk.d)[i]? = some z.d := by rw [List.getElem?_map, hz]; rfl
  rw [h, List.getElem?_map, hp] at h1
  simp only [Option.map_some, Option.some.injEq, Pk.d, Prod.mk.injEq] at h1
  exact ⟨h1.1.symm, h1.2.1.symm, h1.2.2.symm⟩
set_option maxHeartbeats 8000000 in
theorem samePackets_true {W : World} {a1 a2 : Option Addr} {n c1 c2 : Nat} {zs ps : List Pk} (h1 : Rw pkv 3 W a1 n c1 zs) (b1 : ∀ z ∈ zs, Rw byU 1 W z.a z.bs.length z.cap z.bs) (h2 : Rw pkv 3 W a2 n c2 ps) (b2 : ∀ z ∈ ps, Rw byU 1 W z.a z.bs.length z.cap z.bs) (he : zs.map Pk.d = ps.map Pk.d) (hn : n ≤ 1099511627776) :
    Calls Try.prog 51 #[.slice a1 n c1, .slice a2 n c2] W fun e w' => e = .returned (.bool true) ∧ Below W.heap.size W w' := by
  have HL : Hid (Rw pkv 3 W a1 n c1 zs ∧ (∀ z ∈ zs, Rw byU 1 W z.a z.bs.length z.cap z.bs) ∧ Rw pkv 3 W a2 n c2 ps ∧ (∀ z ∈ ps, Rw byU 1 W z.a z.bs.length z.cap z.bs) ∧ zs.map Pk.d = ps.map Pk.d) := ⟨h1, b1, h2, b2, he⟩
  clear h1 b1 h2 b2 he
  go_enter Try.func51, Try.ntmps51
  go_wp2_with fail
  go_loopw [5] (fun vi wr => ∃ i : Nat, i ≤ n ∧ vi = .int .i64 (i : Int) ∧ Hid (Below W.heap.size W wr)) (fun vi _ => n - (RowKit.intOf vi).toNat)
  case atStart => exact ⟨0, Nat.zero_le _, rfl, Below.refl _ _⟩
  case round =>
    obtain ⟨i, hi, rfl, hB⟩ := hrel
    by_cases hin : i < n
    · have hin2 : (i : Int) < (n : Int) := by omega
      have ei : IntKind.i64.wrap ((i : Int) + 1) = (i : Int) + 1 := IntWalk.i64_in _ (by omega)
      have hBd : Below W.heap.size W wr.drew := hB.out.drew
      obtain ⟨g1, o1, z, ea, _, hz, hc⟩ := (HL.out.1.below hBd).at i hin
      obtain ⟨g2, o2, p, eb, _, hp, hd⟩ := (HL.out.2.2.1.below hBd).at i hin
      obtain ⟨d0, d1, d2⟩ := d_at HL.out.2.2.2.2 hz hp
      subst ea
      subst eb
      have k1 := conv_bytes ((HL.out.2.1 z (List.mem_of_getElem? hz)).below hBd)
      have k2 := conv_bytes ((HL.out.2.2.2.1 p (List.mem_of_getElem? hp)).below hBd)
      obtain ⟨bl, hbl⟩ : ∃ bl, p.bs.length = bl := ⟨_, rfl⟩
      obtain ⟨st, hst⟩ : ∃ st : ByteArray, ⟨p.bs.toArray⟩ = st := ⟨_, rfl⟩
      have x0 := hc 0 _ rfl
      have x1 := hc 1 _ rfl
      have x2 := hc 2 _ rfl
      have y0 := hd 0 _ rfl
      have y1 := hd 1 _ rfl
      have y2 := hd 2 _ rfl
      simp only [Nat.add_zero] at x0 y0
      rw [d0] at x0
      rw [d1] at x1
      rw [d2, hbl] at x2
      rw [d2, hbl, hst] at k1
      rw [hbl] at y2
      rw [hbl, hst] at k2
      have HSS : Hid ((fun w => w.cell? ⟨g1, o1 + i * 3, none⟩ = some (.int .i64 p.fr) ∧ w.cell? ⟨g1, o1 + i * 3 + 1, none⟩ = some (.int .i64 p.tt) ∧ w.cell? ⟨g1, o1 + i * 3 + 2, none⟩ = some (.slice z.a bl z.cap) ∧ w.cell? ⟨g2, o2 + i * 3, none⟩ = some (.int .i64 p.fr) ∧ w.cell? ⟨g2, o2 + i * 3 + 1, none⟩ = some (.int .i64 p.tt) ∧ w.cell? ⟨g2, o2 + i * 3 + 2, none⟩ = some (.slice p.a bl p.cap) ∧ (convert 34 9 (.slice z.a bl z.cap)).run Try.prog w = .ok (.string st) w ∧ (convert 34 9 (.slice p.a bl p.cap)).run Try.prog w = .ok (.string st) w) wr.drew) := ⟨x0, x1, x2, y0, y1, y2, k1, k2⟩
      have HB2 : Hid (Below W.heap.size W wr.drew) := hBd
      clear hBd hc hd hz hp d0 d1 d2 k1 k2 x0 x1 x2 y0 y1 y2 hbl hst hB
      go_wp2_with fail
      refine wp_region_held_drew (S := (fun w => w.cell? ⟨g1, o1 + i * 3, none⟩ = some (.int .i64 p.fr) ∧ w.cell? ⟨g1, o1 + i * 3 + 1, none⟩ = some (.int .i64 p.tt) ∧ w.cell? ⟨g1, o1 + i * 3 + 2, none⟩ = some (.slice z.a bl z.cap) ∧ w.cell? ⟨g2, o2 + i * 3, none⟩ = some (.int .i64 p.fr) ∧ w.cell? ⟨g2, o2 + i * 3 + 1, none⟩ = some (.int .i64 p.tt) ∧ w.cell? ⟨g2, o2 + i * 3 + 2, none⟩ = some (.slice p.a bl p.cap) ∧ (convert 34 9 (.slice z.a bl z.cap)).run Try.prog w = .ok (.string st) w ∧ (convert 34 9 (.slice p.a bl p.cap)).run Try.prog w = .ok (.string st) w)) (by kernel_rfl) ?hSx (fun hHeld => ?restx)
      case hSx => exact HSS.out
      refine takeD (i := 0) (d := some 17) (v := ?vT1) rfl rfl (by kernel_rfl) (by kernel_rfl) (by kernel_rfl) (fun _ _ _ h => h) (Or.inl ⟨by rfl, ?hyT1⟩) (by assumption) ?rstT1
      case hyT1 => (intro w hSw; (try dsimp only at hSw); obtain ⟨s0, s1, s2, s3, s4, s5, s6, s7⟩ := hSw; go_simp; (try with_reducible rfl))
      try simp only [Act.put, List.setIfInBounds_toArray, List.set_cons_zero, List.set_cons_succ]
      refine takeD (i := 1) (d := some 18) (v := ?vT2) rfl rfl (by kernel_rfl) (by kernel_rfl) (by kernel_rfl) (fun _ _ _ h => h) (Or.inl ⟨by rfl, ?hyT2⟩) (by assumption) ?rstT2
      case hyT2 => (intro w hSw; (try dsimp only at hSw); obtain ⟨s0, s1, s2, s3, s4, s5, s6, s7⟩ := hSw; go_simp; (try with_reducible rfl))
      try simp only [Act.put, List.setIfInBounds_toArray, List.set_cons_zero, List.set_cons_succ]
      refine takeD (i := 2) (d := some 19) (v := ?vT3) rfl rfl (by kernel_rfl) (by kernel_rfl) (by kernel_rfl) (fun _ _ _ h => h) (Or.inl ⟨by rfl, ?hyT3⟩) (by assumption) ?rstT3
      case hyT3 => (intro w hSw; (try dsimp only at hSw); obtain ⟨s0, s1, s2, s3, s4, s5, s6, s7⟩ := hSw; go_simp; (try with_reducible rfl))
      try simp only [Act.put, List.setIfInBounds_toArray, List.set_cons_zero, List.set_cons_succ]
      refine takeD (i := 3) (d := some 20) (v := ?vT4) rfl rfl (by kernel_rfl) (by kernel_rfl) (by kernel_rfl) (fun _ _ _ h => h) (Or.inl ⟨by rfl, ?hyT4⟩) (by assumption) ?rstT4
      case hyT4 => (intro w hSw; (try dsimp only at hSw); obtain ⟨s0, s1, s2, s3, s4, s5, s6, s7⟩ := hSw; go_simp; (try with_reducible rfl))
      try simp only [Act.put, List.setIfInBounds_toArray, List.set_cons_zero, List.set_cons_succ]
      refine takeD (i := 4) (d := some 21) (v := ?vT5) rfl rfl (by kernel_rfl) (by kernel_rfl) (by kernel_rfl) (fun _ _ _ h => h) (Or.inl ⟨by rfl, ?hyT5⟩) (by assumption) ?rstT5
      case hyT5 => (intro w hSw; (try dsimp only at hSw); obtain ⟨s0, s1, s2, s3, s4, s5, s6, s7⟩ := hSw; go_simp; (try with_reducible rfl))
      try simp only [Act.put, List.setIfInBounds_toArray, List.set_cons_zero, List.set_cons_succ]
      refine takeD (i := 5) (d := some 22) (v := ?vT6) rfl rfl (by kernel_rfl) (by kernel_rfl) (by kernel_rfl) (fun _ _ _ h => h) (Or.inl ⟨by rfl, ?hyT6⟩) (by assumption) ?rstT6
      case hyT6 => (intro w hSw; (try dsimp only at hSw); obtain ⟨s0, s1, s2, s3, s4, s5, s6, s7⟩ := hSw; go_simp; (try with_reducible rfl))
      try simp only [Act.put, List.setIfInBounds_toArray, List.set_cons_zero, List.set_cons_succ]
      refine takeD (i := 6) (d := some 23) (v := ?vT7) rfl rfl (by kernel_rfl) (by kernel_rfl) (by kernel_rfl) (fun _ _ _ h => h) (Or.inl ⟨by rfl, ?hyT7⟩) (by assumption) ?rstT7
      case hyT7 => (intro w hSw; (try dsimp only at hSw); obtain ⟨s0, s1, s2, s3, s4, s5, s6, s7⟩ := hSw; go_simp; (try with_reducible rfl))
      try simp only [Act.put, List.setIfInBounds_toArray, List.set_cons_zero, List.set_cons_succ]
      refine takeD (i := 7) (d := some 24) (v := ?vT8) rfl rfl (by kernel_rfl) (by kernel_rfl) (by kernel_rfl) (fun _ _ _ h => h) (Or.inl ⟨by rfl, ?hyT8⟩) (by assumption) ?rstT8
      case hyT8 => (intro w hSw; (try dsimp only at hSw); obtain ⟨s0, s1, s2, s3, s4, s5, s6, s7⟩ := hSw; go_simp; (try with_reducible rfl))
      try simp only [Act.put, List.setIfInBounds_toArray, List.set_cons_zero, List.set_cons_succ]
      refine takeD (i := 8) (d := some 25) (v := ?vT9) rfl rfl (by kernel_rfl) (by kernel_rfl) (by kernel_rfl) (fun _ _ _ h => h) (Or.inl ⟨by rfl, ?hyT9⟩) (by assumption) ?rstT9
      case hyT9 => (intro w hSw; (try dsimp only at hSw); obtain ⟨s0, s1, s2, s3, s4, s5, s6, s7⟩ := hSw; go_simp; (try with_reducible rfl))
      try simp only [Act.put, List.setIfInBounds_toArray, List.set_cons_zero, List.set_cons_succ]
      refine takeD (i := 9) (d := some 26) (v := ?vT10) rfl rfl (by kernel_rfl) (by kernel_rfl) (by kernel_rfl) (fun _ _ _ h => h) (Or.inl ⟨by rfl, ?hyT10⟩) (by assumption) ?rstT10
      case hyT10 => (intro w hSw; (try dsimp only at hSw); obtain ⟨s0, s1, s2, s3, s4, s5, s6, s7⟩ := hSw; go_simp; (try with_reducible rfl))
      try simp only [Act.put, List.setIfInBounds_toArray, List.set_cons_zero, List.set_cons_succ]
      refine takeD (i := 10) (d := some 27) (v := ?vT11) rfl rfl (by kernel_rfl) (by kernel_rfl) (by kernel_rfl) (fun _ _ _ h => h) (Or.inl ⟨by rfl, ?hyT11⟩) (by assumption) ?rstT11
      case hyT11 => (intro w hSw; (try dsimp only at hSw); obtain ⟨s0, s1, s2, s3, s4, s5, s6, s7⟩ := hSw; go_simp; (try with_reducible rfl))
      try simp only [Act.put, List.setIfInBounds_toArray, List.set_cons_zero, List.set_cons_succ]
      refine takeD (i := 11) (d := some 28) (v := ?vT12) rfl rfl (by kernel_rfl) (by kernel_rfl) (by kernel_rfl) (fun _ _ _ h => h) (Or.inl ⟨by rfl, ?hyT12⟩) (by assumption) ?rstT12
      case hyT12 => (intro w hSw; (try dsimp only at hSw); obtain ⟨s0, s1, s2, s3, s4, s5, s6, s7⟩ := hSw; go_simp; (try with_reducible rfl))
      try simp only [Act.put, List.setIfInBounds_toArray, List.set_cons_zero, List.set_cons_succ]
      refine takeD (i := 12) (d := some 29) (v := ?vT13) rfl rfl (by kernel_rfl) (by kernel_rfl) (by kernel_rfl) (fun _ _ _ h => h) (Or.inl ⟨by rfl, ?hyT13⟩) (by assumption) ?rstT13
      case hyT13 => (intro w hSw; (try dsimp only at hSw); obtain ⟨s0, s1, s2, s3, s4, s5, s6, s7⟩ := hSw; go_simp; (try with_reducible rfl))
      try simp only [Act.put, List.setIfInBounds_toArray, List.set_cons_zero, List.set_cons_succ]
      refine takeD (i := 13) (d := some 30) (v := ?vT14) rfl rfl (by kernel_rfl) (by kernel_rfl) (by kernel_rfl) (fun _ _ _ h => h) (Or.inl ⟨by rfl, ?hyT14⟩) (by assumption) ?rstT14
      case hyT14 => (intro w hSw; (try dsimp only at hSw); obtain ⟨s0, s1, s2, s3, s4, s5, s6, s7⟩ := hSw; go_simp; (try with_reducible rfl))
      try simp only [Act.put, List.setIfInBounds_toArray, List.set_cons_zero, List.set_cons_succ]
      refine takeD (i := 14) (d := some 31) (v := ?vT15) rfl rfl (by kernel_rfl) (by kernel_rfl) (by kernel_rfl) (fun _ _ _ h => h) (Or.inl ⟨by rfl, ?hyT15⟩) (by assumption) ?rstT15
      case hyT15 => (intro w hSw; (try dsimp only at hSw); obtain ⟨s0, s1, s2, s3, s4, s5, s6, s7⟩ := hSw; go_simp; (try with_reducible rfl))
      try simp only [Act.put, List.setIfInBounds_toArray, List.set_cons_zero, List.set_cons_succ]
      refine takeD (i := 15) (d := some 32) (v := ?vT16) rfl rfl (by kernel_rfl) (by kernel_rfl) (by kernel_rfl) (fun _ _ _ h => h) (Or.inl ⟨by rfl, ?hyT16⟩) (by assumption) ?rstT16
      case hyT16 => (intro w hSw; (try dsimp only at hSw); obtain ⟨s0, s1, s2, s3, s4, s5, s6, s7⟩ := hSw; go_simp; (try with_reducible rfl))
      try simp only [Act.put, List.setIfInBounds_toArray, List.set_cons_zero, List.set_cons_succ]
      refine takeD (i := 16) (d := some 33) (v := ?vT17) rfl rfl (by kernel_rfl) (by kernel_rfl) (by kernel_rfl) (fun _ _ _ h => h) (Or.inl ⟨by rfl, ?hyT17⟩) (by assumption) ?rstT17
      case hyT17 => (intro w hSw; (try dsimp only at hSw); obtain ⟨s0, s1, s2, s3, s4, s5, s6, s7⟩ := hSw; go_simp; (try with_reducible rfl))
      try simp only [Act.put, List.setIfInBounds_toArray, List.set_cons_zero, List.set_cons_succ]
      refine takeD (i := 17) (d := some 34) (v := ?vT18) rfl rfl (by kernel_rfl) (by kernel_rfl) (by kernel_rfl) (fun _ _ _ h => h) (Or.inl ⟨by rfl, ?hyT18⟩) (by assumption) ?rstT18
      case hyT18 => (intro w hSw; (try dsimp only at hSw); obtain ⟨s0, s1, s2, s3, s4, s5, s6, s7⟩ := hSw; go_simp; (try with_reducible rfl))
      try simp only [Act.put, List.setIfInBounds_toArray, List.set_cons_zero, List.set_cons_succ]
      refine takeD (i := 18) (d := some 35) (v := ?vT19) rfl rfl (by kernel_rfl) (by kernel_rfl) (by kernel_rfl) (fun _ _ _ h => h) (Or.inl ⟨by rfl, ?hyT19⟩) (by assumption) ?rstT19
      case hyT19 => (intro w hSw; (try dsimp only at hSw); obtain ⟨s0, s1, s2, s3, s4, s5, s6, s7⟩ := hSw; go_simp; (try with_reducible rfl))
      try simp only [Act.put, List.setIfInBounds_toArray, List.set_cons_zero, List.set_cons_succ]
      refine takeD (i := 19) (d := some 36) (v := ?vT20) rfl rfl (by kernel_rfl) (by kernel_rfl) (by kernel_rfl) (fun _ _ _ h => h) (Or.inl ⟨by rfl, ?hyT20⟩) (by assumption) ?rstT20
      case hyT20 => (intro w hSw; (try dsimp only at hSw); obtain ⟨s0, s1, s2, s3, s4, s5, s6, s7⟩ := hSw; go_simp; (try with_reducible rfl))
      try simp only [Act.put, List.setIfInBounds_toArray, List.set_cons_zero, List.set_cons_succ]
      refine takeD (i := 20) (d := some 37) (v := ?vT21) rfl rfl (by kernel_rfl) (by kernel_rfl) (by kernel_rfl) (fun _ _ _ h => h) (Or.inl ⟨by rfl, ?hyT21⟩) (by assumption) ?rstT21
      case hyT21 => (intro w hSw; (try dsimp only at hSw); obtain ⟨s0, s1, s2, s3, s4, s5, s6, s7⟩ := hSw; go_simp; (try with_reducible rfl))
      try simp only [Act.put, List.setIfInBounds_toArray, List.set_cons_zero, List.set_cons_succ]
      refine takeD (i := 21) (d := some 38) (v := ?vT22) rfl rfl (by kernel_rfl) (by kernel_rfl) (by kernel_rfl) (fun _ _ _ h => h) (Or.inl ⟨by rfl, ?hyT22⟩) (by assumption) ?rstT22
      case hyT22 => (intro w hSw; (try dsimp only at hSw); obtain ⟨s0, s1, s2, s3, s4, s5, s6, s7⟩ := hSw; go_simp; (try with_reducible rfl))
      try simp only [Act.put, List.setIfInBounds_toArray, List.set_cons_zero, List.set_cons_succ]
      refine takeD (i := 22) (d := some 39) (v := ?vT23) rfl rfl (by kernel_rfl) (by kernel_rfl) (by kernel_rfl) (fun _ _ _ h => h) (Or.inl ⟨by rfl, ?hyT23⟩) (by assumption) ?rstT23
      case hyT23 => (intro w hSw; (try dsimp only at hSw); obtain ⟨s0, s1, s2, s3, s4, s5, s6, s7⟩ := hSw; go_simp; (try with_reducible rfl))
      try simp only [Act.put, List.setIfInBounds_toArray, List.set_cons_zero, List.set_cons_succ]
      refine takeD (i := 23) (d := some 40) (v := ?vT24) rfl rfl (by kernel_rfl) (by kernel_rfl) (by kernel_rfl) (fun _ _ _ h => h) (Or.inl ⟨by rfl, ?hyT24⟩) (by assumption) ?rstT24
      case hyT24 => (intro w hSw; (try dsimp only at hSw); obtain ⟨s0, s1, s2, s3, s4, s5, s6, s7⟩ := hSw; go_simp; (try with_reducible rfl))
      try simp only [Act.put, List.setIfInBounds_toArray, List.set_cons_zero, List.set_cons_succ]
      refine takeD (i := 24) (d := some 41) (v := ?vT25) rfl rfl (by kernel_rfl) (by kernel_rfl) (by kernel_rfl) (fun _ _ _ h => h) (Or.inl ⟨by rfl, ?hyT25⟩) (by assumption) ?rstT25
      case hyT25 => (intro w hSw; (try dsimp only at hSw); obtain ⟨s0, s1, s2, s3, s4, s5, s6, s7⟩ := hSw; go_simp; (try with_reducible rfl))
      try simp only [Act.put, List.setIfInBounds_toArray, List.set_cons_zero, List.set_cons_succ]
      refine takeD (i := 25) (d := some 42) (v := ?vT26) rfl rfl (by kernel_rfl) (by kernel_rfl) (by kernel_rfl) (fun _ _ _ h => h) (Or.inl ⟨by rfl, ?hyT26⟩) (by assumption) ?rstT26
      case hyT26 => (intro w hSw; (try dsimp only at hSw); obtain ⟨s0, s1, s2, s3, s4, s5, s6, s7⟩ := hSw; go_simp; (try with_reducible rfl))
      try simp only [Act.put, List.setIfInBounds_toArray, List.set_cons_zero, List.set_cons_succ]
      refine takeD (i := 26) (d := some 43) (v := ?vT27) rfl rfl (by kernel_rfl) (by kernel_rfl) (by kernel_rfl) (fun _ _ _ h => h) (Or.inl ⟨by rfl, ?hyT27⟩) (by assumption) ?rstT27
      case hyT27 => (intro w hSw; (try dsimp only at hSw); obtain ⟨s0, s1, s2, s3, s4, s5, s6, s7⟩ := hSw; go_simp; (try with_reducible rfl))
      try simp only [Act.put, List.setIfInBounds_toArray, List.set_cons_zero, List.set_cons_succ]
      refine takeD (i := 27) (d := some 44) (v := ?vT28) rfl rfl (by kernel_rfl) (by kernel_rfl) (by kernel_rfl) (fun _ _ _ h => h) (Or.inl ⟨by rfl, ?hyT28⟩) (by assumption) ?rstT28
      case hyT28 => (intro w hSw; (try dsimp only at hSw); obtain ⟨s0, s1, s2, s3, s4, s5, s6, s7⟩ := hSw; go_simp; (try with_reducible rfl))
      try simp only [Act.put, List.setIfInBounds_toArray, List.set_cons_zero, List.set_cons_succ]
      refine takeD (i := 28) (d := some 45) (v := ?vT29) rfl rfl (by kernel_rfl) (by kernel_rfl) (by kernel_rfl) (fun _ _ _ h => h) (Or.inl ⟨by rfl, ?hyT29⟩) (by assumption) ?rstT29
      case hyT29 => (intro w hSw; (try dsimp only at hSw); obtain ⟨s0, s1, s2, s3, s4, s5, s6, s7⟩ := hSw; go_simp; (try with_reducible rfl))
      try simp only [Act.put, List.setIfInBounds_toArray, List.set_cons_zero, List.set_cons_succ]
      refine takeD (i := 29) (d := some 46) (v := ?vT30) rfl rfl (by kernel_rfl) (by kernel_rfl) (by kernel_rfl) (fun _ _ _ h => h) (Or.inl ⟨by rfl, ?hyT30⟩) (by assumption) ?rstT30
      case hyT30 => (intro w hSw; (try dsimp only at hSw); obtain ⟨s0, s1, s2, s3, s4, s5, s6, s7⟩ := hSw; go_simp; (try with_reducible rfl))
      try simp only [Act.put, List.setIfInBounds_toArray, List.set_cons_zero, List.set_cons_succ]
      refine takeD (i := 30) (d := some 47) (v := ?vT31) rfl rfl (by kernel_rfl) (by kernel_rfl) (by kernel_rfl) (fun _ _ _ h => h) (Or.inl ⟨by rfl, ?hyT31⟩) (by assumption) ?rstT31
      case hyT31 => (intro w hSw; (try dsimp only at hSw); obtain ⟨s0, s1, s2, s3, s4, s5, s6, s7⟩ := hSw; go_simp; (try with_reducible rfl))
      try simp only [Act.put, List.setIfInBounds_toArray, List.set_cons_zero, List.set_cons_succ]
      refine takeD (i := 31) (d := some 48) (v := ?vT32) rfl rfl (by kernel_rfl) (by kernel_rfl) (by kernel_rfl) (fun _ _ _ h => h) (Or.inl ⟨by rfl, ?hyT32⟩) (by assumption) ?rstT32
      case hyT32 => (intro w hSw; (try dsimp only at hSw); obtain ⟨s0, s1, s2, s3, s4, s5, s6, s7⟩ := hSw; go_simp; (try with_reducible rfl))
      try simp only [Act.put, List.setIfInBounds_toArray, List.set_cons_zero, List.set_cons_succ]
      refine takeD (i := 32) (d := some 49) (v := ?vT33) rfl rfl (by kernel_rfl) (by kernel_rfl) (by kernel_rfl) (fun _ _ _ h => h) (Or.inl ⟨by rfl, ?hyT33⟩) (by assumption) ?rstT33
      case hyT33 => (intro w hSw; (try dsimp only at hSw); obtain ⟨s0, s1, s2, s3, s4, s5, s6, s7⟩ := hSw; go_simp; (try with_reducible rfl))
      try simp only [Act.put, List.setIfInBounds_toArray, List.set_cons_zero, List.set_cons_succ]
      refine takeD (i := 33) (d := some 50) (v := ?vT34) rfl rfl (by kernel_rfl) (by kernel_rfl) (by kernel_rfl) (fun _ _ _ h => h) (Or.inl ⟨by rfl, ?hyT34⟩) (by assumption) ?rstT34
      case hyT34 => (intro w hSw; (try dsimp only at hSw); obtain ⟨s0, s1, s2, s3, s4, s5, s6, s7⟩ := hSw; go_simp; (try with_reducible rfl))
      try simp only [Act.put, List.setIfInBounds_toArray, List.set_cons_zero, List.set_cons_succ]
      refine takeD (i := 34) (d := some 51) (v := ?vT35) rfl rfl (by kernel_rfl) (by kernel_rfl) (by kernel_rfl) (fun _ _ _ h => h) (Or.inl ⟨by rfl, ?hyT35⟩) (by assumption) ?rstT35
      case hyT35 => (intro w hSw; (try dsimp only at hSw); obtain ⟨s0, s1, s2, s3, s4, s5, s6, s7⟩ := hSw; go_simp; (try with_reducible rfl))
      try simp only [Act.put, List.setIfInBounds_toArray, List.set_cons_zero, List.set_cons_succ]
      refine takeD (i := 35) (d := some 52) (v := ?vT36) rfl rfl (by kernel_rfl) (by kernel_rfl) (by kernel_rfl) (fun _ _ _ h => h) (Or.inl ⟨by rfl, ?hyT36⟩) (by assumption) ?rstT36
      case hyT36 => (intro w hSw; (try dsimp only at hSw); obtain ⟨s0, s1, s2, s3, s4, s5, s6, s7⟩ := hSw; go_simp; (try with_reducible rfl))
      try simp only [Act.put, List.setIfInBounds_toArray, List.set_cons_zero, List.set_cons_succ]
      refine takeD (i := 36) (d := some 53) (v := ?vT37) rfl rfl (by kernel_rfl) (by kernel_rfl) (by kernel_rfl) (fun _ _ _ h => h) (Or.inl ⟨by rfl, ?hyT37⟩) (by assumption) ?rstT37
      case hyT37 => (intro w hSw; (try dsimp only at hSw); obtain ⟨s0, s1, s2, s3, s4, s5, s6, s7⟩ := hSw; go_simp; (try with_reducible rfl))
      try simp only [Act.put, List.setIfInBounds_toArray, List.set_cons_zero, List.set_cons_succ]
      refine takeD (i := 37) (d := some 54) (v := ?vT38) rfl rfl (by kernel_rfl) (by kernel_rfl) (by kernel_rfl) (fun _ _ _ h => h) (Or.inl ⟨by rfl, ?hyT38⟩) (by assumption) ?rstT38
      case hyT38 => (intro w hSw; (try dsimp only at hSw); obtain ⟨s0, s1, s2, s3, s4, s5, s6, s7⟩ := hSw; go_simp; (try with_reducible rfl))
      try simp only [Act.put, List.setIfInBounds_toArray, List.set_cons_zero, List.set_cons_succ]
      refine takeD (i := 38) (d := some 55) (v := ?vT39) rfl rfl (by kernel_rfl) (by kernel_rfl) (by kernel_rfl) (fun _ _ _ h => h) (Or.inl ⟨by rfl, ?hyT39⟩) (by assumption) ?rstT39
      case hyT39 => (intro w hSw; (try dsimp only at hSw); obtain ⟨s0, s1, s2, s3, s4, s5, s6, s7⟩ := hSw; go_simp; (try with_reducible rfl))
      try simp only [Act.put, List.setIfInBounds_toArray, List.set_cons_zero, List.set_cons_succ]
      refine wpAnyH_done (by kernel_rfl) ?_ _
      clear hHeld
      go_wp2_with fail
      exact ⟨⟨i + 1, by omega, by simp, HB2.out⟩, by simp [RowKit.intOf]; omega⟩
    · have hin2 : ¬ (i : Int) < (n : Int) := by omega
      obtain rfl : i = n := by omega
      go_wp2_with fail
      go_ret
      exact ⟨rfl, hB.out⟩
end Go.Proofs.Ytdmhajlhpieedaa
