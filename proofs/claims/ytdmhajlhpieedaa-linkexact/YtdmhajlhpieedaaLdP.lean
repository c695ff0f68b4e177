import Derived.Test.YtdmhajlhpieedaaLdNO
/-! sends. -/
namespace Go.Proofs.Ytdmhajlhpieedaa
open Go.RowKit Go.Lib Go.Shelf
set_option maxRecDepth 100000

theorem SndIn.below {K J : Nat → Prop} {W W1 : World} {a : Option Addr} {n c : Nat} {ps : List Pk} {S : Lk} (h : SndIn K J W a n c ps S) (hB : Below W.heap.size W W1) : SndIn K J W1 a n c ps S :=
  ⟨⟨h.pk.row.below hB, fun p hp => ⟨(h.pk.bytes p hp).1.below hB, (h.pk.bytes p hp).2⟩⟩, fun h0 g hg => ⟨Nat.lt_of_lt_of_le (h.aw h0 g hg).1 hB.size, (h.aw h0 g hg).2⟩, fun p hp => ⟨fun h0 g hg => ⟨Nat.lt_of_lt_of_le ((h.by_ p hp).1 h0 g hg).1 hB.size, ((h.by_ p hp).1 h0 g hg).2⟩, (h.by_ p hp).2⟩, h.hn, h.nx⟩
/-- The box of a step. -/
def spBox (sp : Sp) : Obj := .cells #[.int .i64 sp.kind, .int .i64 sp.which, .int .i64 sp.k, .int .i64 sp.at_, .int .u8 (sp.mask.toNat : Int), .slice sp.pa sp.pn sp.pc] 51
set_option maxHeartbeats 8000000 in
theorem sends_any {K J : Nat → Prop} {W : World} {q r : Nat} {S : Lk} (h : Duo K J W q r S) (sp : Sp) {ps : List Pk} (hi : SndIn K J W sp.pa sp.pn sp.pc ps S) : Calls Try.prog 34 #[.pointer (some ⟨q, 0, none⟩), .pointer (some ⟨r, 0, none⟩), sp.val] W fun e w' => e = .returned (.bool true) ∧ DuoP K J W q r (sendR S ps) w' := by
  obtain ⟨W1, hW1⟩ : ∃ W1, W.alloc (.cells #[.int .i64 sp.kind, .int .i64 sp.which, .int .i64 sp.k, .int .i64 sp.at_, .int .u8 (sp.mask.toNat : Int), .slice sp.pa sp.pn sp.pc] 51) = W1 := ⟨_, rfl⟩
  have hB1 : Below W.heap.size W W1 := by rw [← hW1]; exact (Below.refl _ _).alloc (Nat.le_refl _) _
  have hx1 : W1.heap[W.heap.size]? = some (spBox sp) := by rw [← hW1]; exact heap_alloc_new W _
  have hs1 : W1.heap.size = W.heap.size + 1 := by rw [← hW1]; exact World.size_alloc ..
  have HH := handed_any (hi.below hB1).pk hi.hn
  have HD : Hid (Duo K J W1 q r S ∧ SndIn K J W1 sp.pa sp.pn sp.pc ps S ∧ Duo K J W q r S ∧ Below W.heap.size W W1) := ⟨h.below hB1, hi.below hB1, h, hB1⟩
  have HX : Hid (W1.heap[W.heap.size]? = some (spBox sp) ∧ W1.heap.size = W.heap.size + 1 ∧ ¬ K W.heap.size ∧ ¬ J W.heap.size) := ⟨hx1, hs1, fun e => by have := h.kl _ e; omega, fun e => by have := h.jl _ e; omega⟩
  have r5 := (box6 hx1).2.2.2.2.2
  have hn := hi.hn
  obtain ⟨S2, hS2⟩ : ∃ S2, sendR S ps = S2 := ⟨_, rfl⟩
  obtain ⟨ec, hec⟩ : ∃ ec : Int, sendE S ps = ec := ⟨_, rfl⟩
  obtain ⟨en, hen⟩ : ∃ en : Int, (if ec = 0 then (S.next : Int) else 0) = en := ⟨_, rfl⟩
  have hV : sendV S ps = .tuple #[.int .i64 en, .int .i64 ec] := by rw [sendV, hec, hen]
  have HV : Hid (sendR S ps = S2 ∧ sendV S ps = .tuple #[.int .i64 en, .int .i64 ec]) := ⟨hS2, hV⟩
  rw [hS2]
  unfold Sp.val
  obtain ⟨pa, hpa⟩ : ∃ pa, sp.pa = pa := ⟨_, rfl⟩
  obtain ⟨n, hpn⟩ : ∃ n, sp.pn = n := ⟨_, rfl⟩
  obtain ⟨pc, hpc⟩ : ∃ pc, sp.pc = pc := ⟨_, rfl⟩
  have HSP : Hid (sp.pa = pa ∧ sp.pn = n ∧ sp.pc = pc) := ⟨hpa, hpn, hpc⟩
  rw [hpa, hpn, hpc] at hW1 HH HD r5 ⊢
  rw [hpn] at hn
  clear h hi hB1 hx1 hs1 hS2 hec hen hV hpa hpn hpc
  go_enter Try.func34, Try.ntmps34
  go_wp2_with fail
  refine HH.mono ?_
  rintro e w2 ⟨v, zs, rfl, hH⟩
  obtain ⟨a6, cap6, ev, HP⟩ := sends_l HD.out.1 HD.out.2.1 hH
  subst ev
  rw [HV.out.1, HV.out.2] at HP
  have HHI : Hid (HDI W1 ps n (.slice a6 n cap6) w2 zs) := hH
  have hx2 : Hid (w2.heap[W.heap.size]? = some (spBox sp)) := (hH.bel.block _ (by have := HX.out.2.1; omega)).trans HX.out.1
  clear HH hH r5
  go_wp2_with fail
  refine HP.mono ?_
  rintro e w3 ⟨rfl, hl⟩
  have HR := sends_r HD.out.1 HD.out.2.1 HHI.out.bel hl
  rw [HV.out.1, HV.out.2] at HR
  have hx3 : Hid (w3.heap[W.heap.size]? = some (spBox sp)) := hl.2.block hx2.out HX.out.2.2.1
  have r5 := (box6 hx3.out).2.2.2.2.2
  rw [HSP.out.1, HSP.out.2.1, HSP.out.2.2] at r5
  have HL : Hid (Lft K w2 q S2 w3) := hl
  clear HP hl hx2
  go_wp2_with fail
  refine HR.mono ?_
  rintro e w4 ⟨rfl, hr⟩
  have HQ := sends_same HD.out.1 HD.out.2.1 HHI.out HL.out hr
  have hx4 := hr.2.block hx3.out HX.out.2.2.2
  have r6 := (box6 hx4).2.2.2.2.2
  rw [HSP.out.1, HSP.out.2.1, HSP.out.2.2] at r6
  have HRL : Hid (RLft J w3 r S2 w4) := hr
  clear HR hr hx3 hx4 r5
  go_wp2_with fail
  refine HQ.mono ?_
  rintro e w5 ⟨rfl, hb5⟩
  have hzl : zs.length = n := by
    have h1 := congrArg List.length (HHI.out.same HD.out.2.1.pk.row.len)
    rw [List.length_map, List.length_map, HD.out.2.1.pk.row.len] at h1
    exact h1
  have HZ : Hid (HDX W1.heap.size w5 (.slice a6 n cap6) zs ∧ zs.length = n) := ⟨(sends_x HD.out.1 HHI.out HL.out HRL.out).below hb5, hzl⟩
  have HF : Hid (DuoP K J w2 q r S2 w5) := ((HD.out.1.below HHI.out.bel).step HL.out HRL.out).then_ hb5
  clear HQ hb5 r6 hzl HRL HL
  go_wp2_with fail
  go_loopw [12, 13] (fun vi _ wr => ∃ i : Nat, i ≤ n ∧ vi = .int .i64 (i : Int) ∧ wr = w5) (fun vi _ _ => n - (RowKit.intOf vi).toNat)
  case atStart => exact ⟨0, Nat.zero_le _, rfl, rfl⟩
  case round =>
    obtain ⟨i, hi, rfl, hw⟩ := hrel
    obtain rfl := hw.symm
    clear hw
    by_cases hin : i < n
    · have hin2 : (i : Int) < (n : Int) := by omega
      have ei : IntKind.i64.wrap ((i : Int) + 1) = (i : Int) + 1 := IntWalk.i64_in _ (by omega)
      obtain ⟨gp, off, z, ea, _, hz, hc⟩ := (HZ.out.1.row.rw_ layP).at i hin
      obtain ⟨g, e1, _, _, h4, _⟩ := HZ.out.1.by_ z (List.mem_of_getElem? hz)
      subst ea
      have c2 := hc 2 _ rfl
      rw [e1] at c2
      obtain ⟨bl, hbl⟩ : ∃ bl, z.bs.length = bl := ⟨_, rfl⟩
      obtain ⟨cz, hcz⟩ : ∃ cz, z.cap = cz := ⟨_, rfl⟩
      rw [hbl, hcz] at c2 h4
      have hroom := h4.room
      have k1 := cutU w5 (some ⟨g, 0, none⟩) bl cz (bl + 2) hroom.1
      have k2 := cutLow w5 g (bl + 2) cz bl (by omega) hroom.1
      have k3 := conv_bytes (rw_tail h4 hbl (by decide))
      rw [Nat.add_sub_cancel_left] at k2
      have k4 : ¬ ((cz : Int) < (bl : Int) + 2) := by have := hroom.1; omega
      have hmx : cz ≤ 9223372036854775807 := by have := hroom.2; simp only [maxLen] at this; omega
      have e2 : IntKind.i64.wrap ((bl : Int) + 2) = (bl : Int) + 2 := IntWalk.i64_in _ (by have := hroom.1; omega)
      have k1' : (Instr.slice 34 (.slice (some ⟨g, 0, none⟩) bl cz) none (some (.int .i64 ((bl : Int) + 2))) none).run Try.prog w5 = .ok (.slice (some ⟨g, 0, none⟩) (bl + 2) cz) w5 := k1
      clear hc hz e1 h4 hbl hcz hroom hmx k1
      go_wp2_with fail
      exact ⟨⟨i + 1, by omega, by simp, trivial⟩, by simp [RowKit.intOf]; omega⟩
    · have hin2 : ¬ (i : Int) < (n : Int) := by omega
      obtain rfl : i = n := by omega
      have HW0 : Hid (∃ xs, HDW (fun g => W1.heap.size ≤ g ∧ g < w2.heap.size) i w5 (.slice a6 i cap6) xs ∧ Chg (fun g => W1.heap.size ≤ g ∧ g < w2.heap.size) w5 w5) := ⟨zs, HZ.out.1.hdw HZ.out.2 HHI.out.place.1 HHI.out.place.2, Chg.refl _ _⟩
      have HFN : Hid (∀ w6, Chg (fun g => W1.heap.size ≤ g ∧ g < w2.heap.size) w5 w6 → DuoP K J W q r S2 w6) := fun w6 hC => DuoP.from HD.out.2.2.2 (DuoP.wiped HD.out.1 HHI.out.bel HF.out hC)
      clear HF HZ hin
      go_wp2_with fail
      go_loopw [14, 15] (fun vi _ wr => ∃ j : Nat, j ≤ i ∧ vi = .int .i64 (j : Int) ∧ Hid (∃ xs, HDW (fun g => W1.heap.size ≤ g ∧ g < w2.heap.size) i wr (.slice a6 i cap6) xs ∧ Chg (fun g => W1.heap.size ≤ g ∧ g < w2.heap.size) w5 wr)) (fun vi _ _ => i - (RowKit.intOf vi).toNat)
      case atStart => exact ⟨0, Nat.zero_le _, rfl, HW0.out⟩
      case round =>
        obtain ⟨j, hj, rfl, hI⟩ := hrel
        obtain ⟨wo, hwo⟩ : ∃ wo, wo = wr := ⟨_, rfl⟩
        subst hwo
        by_cases hjl : j < i
        · have hjl2 : (j : Int) < (i : Int) := by omega
          have ej : IntKind.i64.wrap ((j : Int) + 1) = (j : Int) + 1 := IntWalk.i64_in _ (by omega)
          obtain ⟨xs, hX, hC⟩ := hI.out
          obtain ⟨gp, off, x, ea, _, hx, hc⟩ := (hX.row.rw_ layP).at j hjl
          subst ea
          have HXI : Hid (HDW (fun g => W1.heap.size ≤ g ∧ g < w2.heap.size) i wo (.slice (some ⟨gp, off, none⟩) i cap6) xs ∧ Chg (fun g => W1.heap.size ≤ g ∧ g < w2.heap.size) w5 wo) := ⟨hX, hC⟩
          have HXX : Hid (xs[j]? = some x) := hx
          obtain ⟨bl, hbl⟩ : ∃ bl, x.bs.length = bl := ⟨_, rfl⟩
          have HBL : Hid (x.bs.length = bl) := hbl
          clear hX hC hx hc hbl hI HW0
          go_wp2_with fail
          go_loopw [15] (fun vm wr => ∃ m : Nat, m ≤ bl ∧ vm = .int .i64 (m : Int) ∧ Hid (HDW (fun g => W1.heap.size ≤ g ∧ g < w2.heap.size) i wr (.slice (some ⟨gp, off, none⟩) i cap6) xs ∧ Chg (fun g => W1.heap.size ≤ g ∧ g < w2.heap.size) w5 wr)) (fun vm _ => bl - (RowKit.intOf vm).toNat)
          case atStart => exact ⟨0, Nat.zero_le _, rfl, HXI.out⟩
          case round =>
            obtain ⟨m, hm, rfl, hM⟩ := hrel
            obtain ⟨gp', off', x', ea', _, hx', hc'⟩ := (hM.out.1.row.rw_ layP).at j hjl
            simp only [Option.some.injEq, Addr.mk.injEq, and_true] at ea'
            obtain ⟨rfl, rfl⟩ := ea'
            obtain rfl : x = x' := by rw [HXX.out] at hx'; cases hx'; rfl
            have c0 := hc' 0 _ rfl
            have c1 := hc' 1 _ rfl
            have c2 := hc' 2 _ rfl
            simp only [Nat.add_zero] at c0
            rw [HBL.out] at c2
            have hroom := hM.out.1.by_ x (List.mem_of_getElem? hx')
            by_cases hml : m < bl
            · have hml2 : (m : Int) < (bl : Int) := by omega
              obtain ⟨g, e1, _, ⟨cur, fz, h3, h4⟩, _⟩ := hroom (by have := HBL.out; omega)
              obtain ⟨⟨u, hu⟩, hf, hP, _⟩ := hroom.cell e1 (j := m) (by have := HBL.out; omega)
              have em : IntKind.i64.wrap ((m : Int) + 1) = (m : Int) + 1 := IntWalk.i64_in _ (by have := HBL.out; have := h4.2; omega)
              rw [e1] at c2
              have HN : Hid (HDW (fun g => W1.heap.size ≤ g ∧ g < w2.heap.size) i (wr.setCell ⟨g, m, none⟩ (.int .u8 238)) (.slice (some ⟨gp, off, none⟩) i cap6) xs ∧ Chg (fun g => W1.heap.size ≤ g ∧ g < w2.heap.size) w5 (wr.setCell ⟨g, m, none⟩ (.int .u8 238))) := ⟨hM.out.1.byte (List.mem_of_getElem? hx') e1 (by have := HBL.out; omega) _, hM.out.2.trans (Chg.set (D := fun g => W1.heap.size ≤ g ∧ g < w2.heap.size) (q := g) m wr _ hP)⟩
              clear hx' hc' hroom e1 h3 h4 hP hM c0 c1
              go_wp2_with fail
              exact ⟨⟨m + 1, by omega, by simp, HN.out⟩, by simp [RowKit.intOf]; omega⟩
            · have hml2 : ¬ (m : Int) < (bl : Int) := by omega
              obtain ⟨W9, xs', hW9, hX9, hC9, f0, f1, f2⟩ := hM.out.1.wipe hjl
              have HN : Hid (∃ xs, HDW (fun g => W1.heap.size ≤ g ∧ g < w2.heap.size) i W9 (.slice (some ⟨gp, off, none⟩) i cap6) xs ∧ Chg (fun g => W1.heap.size ≤ g ∧ g < w2.heap.size) w5 W9) := ⟨xs', hX9, hM.out.2.trans (hC9.mono (fun k _ e => by rw [e]; exact hM.out.1.ge _ rfl))⟩
              clear hx' hc' hroom hX9 hC9 hM
              go_wp2_with fail
              exact ⟨⟨j + 1, by omega, by simp, HN.out⟩, by simp [RowKit.intOf]; omega⟩
        · have hjl2 : ¬ (j : Int) < (i : Int) := by omega
          obtain ⟨xs, hX, hC⟩ := hI.out
          have HG : Hid (DuoP K J W q r S2 wo) := HFN.out wo hC
          clear hX hC hI HW0 HFN
          go_wp2_with fail
          go_ret
          exact ⟨rfl, HG.out⟩
end Go.Proofs.Ytdmhajlhpieedaa
