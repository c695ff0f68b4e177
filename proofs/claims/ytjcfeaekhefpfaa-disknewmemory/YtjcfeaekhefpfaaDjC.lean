import Derived.Test.YtjcfeaekhefpfaaDjB
/-! The sentences' filled: its walk. -/
namespace Go.Proofs.Ytjcfeaekhefpfaa.Nm
open Go.RowKit Go.Lib
set_option maxRecDepth 100000
/-- Behind k rounds of filled. -/
structure Fd (w wr : World) (B : Nat) (R : List Sl) (k : Nat) (Lv : Value) (Lg : List Sl) : Prop where
  len : Lg.length = k
  done : ∀ (j : Nat) x, R[j]? = some x → j < k → OwnF byU 1 5 wr B x.v (List.replicate x.2.1 (mkB j))
  rest : ∀ (j : Nat) x, R[j]? = some x → k ≤ j → ∃ l, OwnF byU 1 5 wr B x.v l
  long : ∀ (j : Nat) x y, R[j]? = some x → Lg[j]? = some y → OwnF byU 1 5 wr B y.v (List.replicate (x.2.1 + 1) (mkB j)) ∧ y.2.1 = x.2.1 + 1 ∧ ∀ g, y.v.ownBlock = some g → x.v.ownBlock = some g ∨ w.heap.size ≤ g
  row : OwnF slV 1 22 wr w.heap.size Lv Lg
  chg : Chg (fun g => ∃ x ∈ R, x.v.ownBlock = some g) w wr
set_option maxHeartbeats 4000000 in
theorem filled_any {w : World} {B : Nat} {a : Option Addr} {n c : Nat} {R : List Sl} (hR : Rw slV 1 w a n c R) (hRb : ∀ x ∈ R, ∀ ga : Addr, a = some ga → x.v.ownBlock ≠ some ga.block) (hown : ∀ x ∈ R, ∃ l, OwnF byU 1 5 w B x.v l) (hap : R.Pairwise (fun x y => ∀ g, x.v.ownBlock = some g → y.v.ownBlock ≠ some g)) (hn : n ≤ 55) (hlen : ∀ x ∈ R, x.2.1 ≤ 1073741824) (hB : B ≤ w.heap.size) :
    Calls Try.prog 12 #[.slice a n c] w fun e w' => ∃ la lc Lg, e = .returned (.slice la n lc) ∧ Fd w w' B R n (.slice la n lc) Lg := by
  have HH : Hid (Rw slV 1 w a n c R ∧ (∀ x ∈ R, ∀ ga : Addr, a = some ga → x.v.ownBlock ≠ some ga.block) ∧ R.Pairwise (fun x y => ∀ g, x.v.ownBlock = some g → y.v.ownBlock ≠ some g) ∧ n ≤ 55 ∧ (∀ x ∈ R, x.2.1 ≤ 1073741824) ∧ B ≤ w.heap.size) := ⟨hR, hRb, hap, hn, hlen, hB⟩
  have HLT : Hid (∀ x ∈ R, ∀ g, x.v.ownBlock = some g → g < w.heap.size) := fun x hx g hg => (hown x hx).choose_spec.lt hg
  have H0 : Hid (Fd w w B R 0 (.slice none 0 0) []) := ⟨rfl, fun _ _ _ h => absurd h (Nat.not_lt_zero _), fun j x hx _ => hown x (List.mem_of_getElem? hx), fun j x y _ h => by simp at h, ownF_nil _ _, Chg.refl _ _⟩
  have hnc : (n : Int) ≤ 55 := by omega
  clear hR hRb hown hap hn hlen hB
  go_enter Try.func12, Try.ntmps12
  go_wp2_with fail
  go_loopw [3, 4] (fun v3 v4 wr => ∃ (k : Nat) (la : Option Addr) (lc : Nat) (Lg : List Sl), k ≤ n ∧ v3 = .slice la k lc ∧ v4 = .int .i64 (k : Int) ∧ Hid (Fd w wr B R k (.slice la k lc) Lg)) (fun _ v4 _ => n - (RowKit.intOf v4).toNat)
  case atStart => exact ⟨0, none, 0, [], Nat.zero_le _, rfl, rfl, H0.out⟩
  case round =>
    obtain ⟨k, la, lc, Lg, hk, rfl, rfl, hS⟩ := hrel
    by_cases hlt : k < n
    · have hlt2 : (k : Int) < (n : Int) := by omega
      have gk : IntKind.i64.wrap ((k : Int) + 1) = ((k + 1 : Nat) : Int) := by rw [IntWalk.i64_in _ (by omega)]; omega
      obtain ⟨mk, hmk⟩ : ∃ mk : Int, 200 + (k : Int) = mk := ⟨_, rfl⟩
      have hmkb : ((mkB k).toNat : Int) = mk := by rw [← hmk]; exact mkB_nat k (by omega)
      have gm : IntKind.i64.wrap (200 + (k : Int)) = mk := by rw [hmk]; exact IntWalk.i64_in _ (by omega)
      have gm2 : IntKind.u8.wrap mk = mk := by rw [← hmk]; exact IntWalk.u8_in (200 + (k : Int)) (by omega)
      have hRw : Rw slV 1 wr a n c R := HH.out.1.chg hS.out.chg (fun ga hga ⟨x, hx, e⟩ => HH.out.2.1 x hx ga hga e)
      obtain ⟨g, off, x, hoa, hgl, hxi, hcell⟩ := hRw.at k hlt
      subst hoa
      have o0 := hcell 0 _ rfl
      rw [Nat.add_zero, Nat.mul_one] at o0
      obtain ⟨xa, xn, xc⟩ := x
      obtain ⟨l, hl⟩ := hS.out.rest k _ hxi (Nat.le_refl _)
      have hll : l.length = xn := ((show OwnF byU 1 5 wr B (.slice xa xn xc) l from hl).rw_ layU).len
      have HX : Hid (R[k]? = some (xa, xn, xc) ∧ OwnF byU 1 5 wr B (.slice xa xn xc) l ∧ l.length = xn ∧ xn ≤ 1073741824 ∧ g < wr.heap.size ∧ (Value.slice xa xn xc).ownBlock ≠ some g ∧ ((mkB k).toNat : Int) = mk) := ⟨hxi, hl, hll, HH.out.2.2.2.2.1 _ (List.mem_of_getElem? hxi), hgl, HH.out.2.1 _ (List.mem_of_getElem? hxi) ⟨g, off, none⟩ rfl, hmkb⟩
      have hxn : (xn : Int) ≤ 1073741824 := by have := HX.out.2.2.2.1; omega
      clear hRw hcell hl hll hmk hmkb hgl hxi
      go_wp2_with fail
      go_loopw [5] (fun v5 wq => ∃ i : Nat, i ≤ xn ∧ v5 = .int .i64 (i : Int) ∧ Hid (OwnF byU 1 5 wq B (.slice xa xn xc) (List.replicate i (mkB k) ++ l.drop i) ∧ Chg (fun g => (Value.slice xa xn xc).ownBlock = some g) wr wq)) (fun v5 _ => xn - (RowKit.intOf v5).toNat)
      case atStart => exact ⟨0, Nat.zero_le _, rfl, by simpa using HX.out.2.1, Chg.refl _ _⟩
      case round =>
        obtain ⟨i, hi, rfl, hI⟩ := hrel
        have p0 : wr.cell? ⟨g, off + k, none⟩ = some (.slice xa xn xc) := (hI.out.2.cell (p := ⟨g, off + k, none⟩) HX.out.2.2.2.2.1 HX.out.2.2.2.2.2.1).trans o0
        by_cases hil : i < xn
        · have hil2 : (i : Int) < (xn : Int) := by omega
          have gi : IntKind.i64.wrap ((i : Int) + 1) = ((i + 1 : Nat) : Int) := by rw [IntWalk.i64_in _ (by omega)]; omega
          obtain ⟨gx, rfl⟩ := own_addr HX.out.2.1 (by omega)
          obtain ⟨hset, fz⟩ := own_setU hI.out.1 i hil (mkB k)
          rw [rep_step (mkB k) (by rw [HX.out.2.2.1]; exact hil)] at hset
          have hcl : ∃ u, wr.cell? ⟨gx, i, none⟩ = some u := by
            obtain ⟨g', off', o, e, _, _, hc⟩ := (hI.out.1.rw_ layU).at i hil
            simp only [Option.some.injEq, Addr.mk.injEq, and_true] at e
            obtain ⟨rfl, rfl⟩ := e
            exact ⟨_, by have := hc 0 _ rfl; simpa using this⟩
          obtain ⟨ou, hcl⟩ := hcl
          rw [HX.out.2.2.2.2.2.2] at hset
          have HS2 : Hid (OwnF byU 1 5 (wr.setCell ⟨gx, i, none⟩ (.int .u8 mk)) B (.slice (some ⟨gx, 0, none⟩) xn xc) (List.replicate (i + 1) (mkB k) ++ l.drop (i + 1)) ∧ Chg (fun g => (Value.slice (some ⟨gx, 0, none⟩) xn xc).ownBlock = some g) _ (wr.setCell ⟨gx, i, none⟩ (.int .u8 mk))) := ⟨hset, hI.out.2.trans (Chg.set (q := gx) i _ _ rfl)⟩
          clear hset
          go_wp2_with fail
          go_roundw
          case rel => exact ⟨i + 1, by omega, by first | rfl | go_num, HS2.out⟩
          case measure => simp [RowKit.intOf]; omega
        · obtain rfl : i = xn := by omega
          have hil2 : ¬ ((i : Int) < (i : Int)) := by omega
          obtain ⟨hxi, hx0, hll, hxb, hgl, hgne, hmkb⟩ := HX.out
          have hrow := hI.out.1
          rw [List.drop_of_length_le (by omega), List.append_nil] at hrow
          have hTS : (5 : TypeId) ≠ 22 := by decide
          have hszw : w.heap.size ≤ wr.heap.size := Nat.le_trans hS.out.chg.size hI.out.2.size
          have hBw := HH.out.2.2.2.2.2
          have hlong0 : OwnF slV 1 22 wr w.heap.size (.slice la k lc) Lg := hS.out.row.chg hI.out.2 (fun g hg e => own_type hx0 hS.out.row hTS e hg)
          have hb1 : Below wr.heap.size wr (wr.alloc (.cells #[.int .u8 mk] 5)) := (Below.refl _ _).alloc (Nat.le_refl _) _
          have hlit : Rw byU 1 (wr.alloc (.cells #[.int .u8 mk] 5)) (some ⟨wr.heap.size, 0, none⟩) 1 1 [mkB k] := rw_lit wr (mkB k) #[.int .u8 mk] (by rw [byU, hmkb]) _
          have hrow1 := hrow.below hb1
          obtain ⟨g1, c1, Z2, hr1, ho1, hp1, hb2, hk2, hat1⟩ := appendF_both kindU layU hrow1 (by simp; omega) hlit (by omega) (by simp; omega) (by simp; omega) 22
          simp only [List.length_replicate] at hr1 ho1
          have hC2 := chg_keeps hb2 hk2
          have hlong1 := hlong0.below hb1
          have hlong2 : OwnF slV 1 22 Z2 w.heap.size (.slice la k lc) Lg := hlong1.chg hC2 (fun g hg e => own_type hrow1 hlong1 hTS e hg)
          have hs2 : wr.heap.size ≤ Z2.heap.size := Nat.le_trans (by simp) hC2.size
          obtain ⟨g2, c2, Z4, hr2, ho2, hb4, hk4, hs4, hat2⟩ := appendF_one kindSl laySl hlong2 (by omega) (some ⟨g1, 0, none⟩, i + 1, c1) #[.slice (some ⟨g1, 0, none⟩) (i + 1) c1] rfl 22 (by rw [hS.out.len]; omega) (by rw [hS.out.len]; omega) 40
          rw [hS.out.len] at hr2 ho2
          have hC4 := chg_keeps hb4 hk4
          -- what changes from the round's beginning on
          have hch : Chg (fun g => (Value.slice xa i xc).ownBlock = some g ∨ (Value.slice la k lc).ownBlock = some g) _ Z4 := ((hI.out.2.trans (Chg.of_below hb1)).trans hC2).mono (fun _ _ h => .inl h) |>.trans (hC4.mono fun _ _ h => .inr h)
          have hlb : ∀ g, (Value.slice la k lc).ownBlock = some g → w.heap.size ≤ g := fun g hg => hS.out.row.ge hg
          have keep : ∀ {v : Value} {z : List UInt8}, OwnF byU 1 5 _ B v z → (∀ g, v.ownBlock = some g → (Value.slice xa i xc).ownBlock ≠ some g) → OwnF byU 1 5 Z4 B v z := fun {v z} ho hne => ho.chg hch (fun g hg e => by
            rcases e with e | e
            · exact hne g hg e
            · exact own_type ho hS.out.row hTS hg e)
          have keep2 : ∀ {v : Value} {z : List UInt8}, OwnF byU 1 5 Z2 B v z → OwnF byU 1 5 Z4 B v z := fun {v z} ho => ho.chg hC4 (fun g hg e => own_type ho hlong2 hTS hg e)
          have hpw := List.pairwise_iff_getElem.1 HH.out.2.2.1
          have hne : ∀ (j : Nat) (x : Sl), R[j]? = some x → j ≠ k → ∀ g, x.v.ownBlock = some g → (Value.slice xa i xc).ownBlock ≠ some g := fun j x hj hjk g hg e => by
            obtain ⟨hj1, hj2⟩ := List.getElem?_eq_some_iff.1 hj
            obtain ⟨hk1, hk2⟩ := List.getElem?_eq_some_iff.1 hxi
            rcases Nat.lt_or_gt_of_ne hjk with h | h
            · have := hpw j k hj1 hk1 h g (by rw [hj2]; exact hg)
              rw [hk2] at this
              exact this e
            · have := hpw k j hk1 hj1 h g (by rw [hk2]; exact e)
              rw [hj2] at this
              exact this hg
          have HS4 : Hid (Fd w Z4 B R (k + 1) (.slice (some ⟨g2, 0, none⟩) (k + 1) c2) (Lg ++ [(some ⟨g1, 0, none⟩, i + 1, c1)])) := by
            have hF := hS.out
            refine ⟨by rw [List.length_append, hF.len]; rfl, fun j x hj hjk => ?_, fun j x hj hjk => ?_, fun j x y hx hy => ?_, ho2, ?_⟩
            · by_cases hjk2 : j = k
              · subst hjk2
                rw [hxi] at hj
                cases hj
                exact keep2 hp1
              · exact keep (hF.done j x hj (by omega)) (hne j x hj hjk2)
            · obtain ⟨z, hz⟩ := hF.rest j x hj (by omega)
              exact ⟨z, keep hz (hne j x hj (by omega))⟩
            · by_cases hjk2 : j < k
              · rw [List.getElem?_append_left (by rw [hF.len]; exact hjk2)] at hy
                obtain ⟨q1, q2, q3⟩ := hF.long j x y hx hy
                refine ⟨keep q1 (fun g hg e => ?_), q2, q3⟩
                rcases q3 g hg with h | h
                · exact hne j x hx (by omega) g h e
                · have hxlt : g < w.heap.size := HLT.out _ (List.mem_of_getElem? hxi) g e
                  omega
              · rw [List.getElem?_append_right (by rw [hF.len]; omega), hF.len] at hy
                have : j = k := by
                  have := (List.getElem?_eq_some_iff.1 hy).1
                  simp at this
                  omega
                subst this
                simp at hy
                subst hy
                rw [hxi] at hx
                cases hx
                refine ⟨?_, rfl, fun g hg => ?_⟩
                · have := keep2 ho1
                  rw [← List.replicate_succ'] at this
                  exact this
                · have hg0 : g1 = g := by simpa [Sl.v, Value.ownBlock] using hg
                  subst hg0
                  rcases hat1 with e | e
                  · exact .inl e
                  · exact .inr (by rw [e]; simp; omega)
            · refine hF.chg.then hch (fun g hg => ?_)
              rcases hg with h | h
              · exact .inl ⟨_, List.mem_of_getElem? hxi, h⟩
              · exact .inr (hlb g h)
          clear hxi hx0 hll hxb hgl hgne hmkb hrow hTS hszw hBw hlong0 hb1 hlit hrow1 ho1 hp1 hb2 hk2 hat1 hC2 hlong1 hlong2 hs2 ho2 hb4 hk4 hs4 hat2 hC4 hch hlb keep keep2 hpw hne
          go_wp2_with (at_builtin; first | refine wpList_append_hr rfl _ _ 22 rfl _ _ rfl rfl hr1 ?_ | refine wpList_append_hr rfl _ _ 40 rfl _ _ rfl rfl hr2 ?_)
          go_roundw
          case rel => exact ⟨k + 1, _, _, _, by omega, rfl, by first | rfl | go_num, HS4.out⟩
          case measure => simp [RowKit.intOf]; omega
    · obtain rfl : k = n := by omega
      have hlt2 : ¬ ((k : Int) < (k : Int)) := by omega
      go_wp2_with fail
      go_ret
      exact ⟨la, lc, rfl, Lg, hS.out⟩
end Go.Proofs.Ytjcfeaekhefpfaa.Nm
