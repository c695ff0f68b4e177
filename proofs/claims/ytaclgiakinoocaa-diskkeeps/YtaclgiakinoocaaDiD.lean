import Derived.Test.YtaclgiakinoocaaDiC
/-! gone. -/
namespace Go.Proofs.Ytaclgiakinoocaa
open Go.RowKit Go.Lib
set_option maxRecDepth 100000

variable {w : World} {k B : Nat} {v : Value} {ps : List Pg}
/-- Where gone stands. -/
structure GnI (w wr : World) (i j : Nat) (v : Value) (ps zs : List Pg) : Prop where
  own : OwnF pgV 3 95 wr w.heap.size v zs
  below : Below w.heap.size w wr
  st : zs = (ps.take j).eraseIdx i
theorem gone_same {ps : List Pg} {j : Nat} {x : Pg} (h : ps[j]? = some x) : (ps.take (j + 1)).eraseIdx j = (ps.take j).eraseIdx j := by
  have hl := (List.getElem?_eq_some_iff.1 h).1
  have e1 : (ps.take j).length = j := by rw [List.length_take]; omega
  rw [List.take_add_one, h, List.eraseIdx_append_of_length_le (by omega), List.eraseIdx_of_length_le (l := ps.take j) (by omega), e1]
  simp
theorem gone_other {ps : List Pg} {i j : Nat} {x : Pg} (h : ps[j]? = some x) (hne : i ≠ j) : (ps.take (j + 1)).eraseIdx i = (ps.take j).eraseIdx i ++ [x] := by
  have hl := (List.getElem?_eq_some_iff.1 h).1
  rw [List.take_add_one, h]
  by_cases hlt : i < j
  · rw [List.eraseIdx_append_of_lt_length (by simp; omega)]
    rfl
  · rw [List.eraseIdx_of_length_le (by simp; omega), List.eraseIdx_of_length_le (by simp; omega)]
    rfl
set_option maxHeartbeats 4000000 in
theorem gone_any {l t : List Pg} {x : Pg} (h : BkAt w k B v (l ++ x :: t)) (hB : B ≤ w.heap.size) (hn : (l ++ x :: t).length ≤ 4398046511104) :
    Calls Try.prog 51 #[.pointer (some ⟨k, 0, none⟩), .int .i64 (l.length : Int)] w fun e w' => e = .returned (.tuple #[]) ∧ BNx w w' k B v (l ++ x :: t) (l ++ t) := by
  obtain ⟨ps, hps⟩ : ∃ ps, l ++ x :: t = ps := ⟨_, rfl⟩
  have HPS : Hid (ps.eraseIdx l.length = l ++ t) := by show _ = _; rw [← hps, List.eraseIdx_append_of_length_le (Nat.le_refl _)]; simp
  rw [hps] at h hn ⊢
  clear hps
  obtain ⟨i, hi⟩ : ∃ i, l.length = i := ⟨_, rfl⟩
  rw [hi] at HPS ⊢
  clear hi
  obtain ⟨a, c, hv, hrow⟩ := own_shapeP h.own
  have HX : Hid (BkAt w k B v ps ∧ v = .slice a ps.length c ∧ B ≤ w.heap.size ∧ ps.length ≤ 4398046511104) := ⟨h, hv, hB, hn⟩
  have HRW : Hid (Rw pgV 3 w a ps.length c ps) := hrow
  have hnc : (ps.length : Int) ≤ 4398046511104 := by omega
  obtain ⟨n, hn⟩ : ∃ n, ps.length = n := ⟨_, rfl⟩
  have HN : Hid (ps.length = n) := hn
  rw [hn] at hnc
  clear h hv hrow hn hB
  go_enter Try.func51, Try.ntmps51
  go_wp2_with fail
  go_loopw [4, 5] (fun vo vi wr => ∃ j : Nat, j ≤ n ∧ vi = .int .i64 (j : Int) ∧ ∃ zs : List Pg, Hid (GnI w wr i j vo ps zs)) (fun _ vi _ => n - (RowKit.intOf vi).toNat)
  case atStart => exact ⟨0, Nat.zero_le _, rfl, [], ownF_nil _ _, Below.refl _ _, by simp⟩
  case round =>
    obtain ⟨j, hj, rfl, zs, hS⟩ := hrel
    obtain ⟨wo, hwo⟩ : ∃ wo, wo = wr := ⟨_, rfl⟩
    subst hwo
    obtain ⟨vo, hvo⟩ : ∃ vo, vo = u4 := ⟨_, rfl⟩
    subst hvo
    have hBk := HX.out.1.below hS.out.below
    have c1 := box1 hBk.box
    rw [HX.out.2.1, HN.out] at c1
    by_cases hlt : j < n
    · have hlt2 : (j : Int) < (n : Int) := by omega
      have gi : IntKind.i64.wrap ((j : Int) + 1) = ((j + 1 : Nat) : Int) := by rw [IntWalk.i64_in _ (by omega)]; omega
      have hrow := HRW.out.below hS.out.below
      rw [HN.out] at hrow
      obtain ⟨g, off, o, hoa, hgl, hoi, hcell⟩ := hrow.at j hlt
      subst hoa
      have o0 := hcell 0 _ rfl
      have o1 := hcell 1 _ rfl
      have o2 := hcell 2 _ rfl
      rw [Nat.add_zero] at o0
      have HOI : Hid (ps[j]? = some o) := hoi
      clear hcell hgl hoi hrow hBk
      by_cases hij : i = j
      · subst hij
        have hne : ((i : Int) == (i : Int)) = true := by simp
        go_wp2_with fail
        go_roundw
        case rel => exact ⟨i + 1, by omega, by first | rfl | go_num, zs, hS.out.own, hS.out.below, by rw [hS.out.st, gone_same HOI.out]⟩
        case measure => simp [RowKit.intOf]; omega
      · have hne : ((j : Int) == (i : Int)) = false := by simp; omega
        have hzl : zs.length ≤ ps.length := by rw [hS.out.st]; exact Nat.le_trans (List.length_eraseIdx_le _ _) (by rw [List.length_take]; omega)
        obtain ⟨g8, cap8, w8, hr8, ho8, hb8, hk8, hs8, hat8⟩ := appendF_wide kindPg layPg hS.out.own hS.out.below.size o #[.string ⟨o.nm.toArray⟩, .slice o.a o.bs.length o.cap, .int .i64 (o.syn : Int)] rfl 95 (by have := HX.out.2.2.2; omega) (by have := HX.out.2.2.2; omega) 60
        have HS : Hid (GnI w w8 i (j + 1) (.slice (some ⟨g8, 0, none⟩) (zs.length + 1) cap8) ps (zs ++ [o])) := ⟨ho8, hS.out.below.trans hb8, by rw [gone_other HOI.out hij, ← hS.out.st]⟩
        clear ho8 hb8 hk8 hs8 hat8 hzl
        generalize (⟨o.nm.toArray⟩ : ByteArray) = so at *
        go_wp2_with (at_builtin; refine wpList_append_hr rfl _ _ 60 rfl _ _ rfl rfl hr8 ?_)
        go_roundw
        case rel => exact ⟨j + 1, by omega, by first | rfl | go_num, _, HS.out⟩
        case measure => simp [RowKit.intOf]; omega
    · obtain rfl : j = n := by omega
      have hlt2 : ¬ ((j : Int) < (j : Int)) := by omega
      obtain ⟨a', c', hv, _⟩ := own_shapeP hS.out.own
      obtain ⟨zn, hzn⟩ : ∃ zn, zs.length = zn := ⟨_, rfl⟩
      rw [hzn] at hv
      subst hv
      clear hzn
      have hzs : zs = l ++ t := by rw [hS.out.st, ← HN.out, List.take_length, HPS.out]
      have df := Lib.frozen_of_heap hBk.box 0
      obtain ⟨V2, hV2⟩ : ∃ V2, wo.setCell ⟨k, 0, none⟩ (.slice a' zn c') = V2 := ⟨_, rfl⟩
      have hmem : ∀ y ∈ zs, y ∈ ps := fun y hy => by rw [hS.out.st] at hy; exact List.mem_of_mem_take (List.mem_of_mem_eraseIdx hy)
      have hst := HX.out.1.store (Chg.of_below hS.out.below) (hS.out.own.mono HX.out.2.2.1) (fun y hy => (HX.out.1.each y (hmem y hy)).below hS.out.below) hV2
      have HF : Hid (BNx w V2 k B v ps zs) := ⟨_, hst.1, hst.2.1, fun q hq => by
        rcases hq with h1 | h1 | ⟨y, hy, h1⟩
        · exact .inl (.inl h1)
        · exact .inr (hS.out.own.ge h1)
        · exact .inl (.inr (.inr ⟨y, hmem y hy, h1⟩))⟩
      rw [hzs] at HF
      clear hst hmem hBk hzs
      go_wp2_with fail
      go_end0
      exact ⟨rfl, HF.out⟩
end Go.Proofs.Ytaclgiakinoocaa
