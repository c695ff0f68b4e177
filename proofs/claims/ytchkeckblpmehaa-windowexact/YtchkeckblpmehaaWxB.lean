import Derived.Test.YtchkeckblpmehaaWxA
/-! The reference's out. -/
namespace Go.Proofs.Ytchkeckblpmehaa
open Go.RowKit Go.Lib
set_option maxRecDepth 100000

theorem RfW.mono {W : World} {B C r : Nat} {v : Value} {S : Wn Int} (h : RfW W B r v S) (hC : C ≤ B) : RfW W C r v S := ⟨h.box, h.row.mono hC, Nat.le_trans hC h.base⟩
theorem erase_same {α : Type} {L : List α} {k : Nat} {o : α} (h : L[k]? = some o) : (L.take (k + 1)).eraseIdx k = (L.take k).eraseIdx k := by
  have hk := (List.getElem?_eq_some_iff.1 h).1
  have hl : (L.take k).length = k := by rw [List.length_take]; omega
  rw [List.take_add_one, h]
  simp only [Option.toList_some]
  rw [List.eraseIdx_append_of_length_le (by omega), hl, Nat.sub_self, List.eraseIdx_of_length_le (l := L.take k) (by omega)]
  simp
theorem erase_other {α : Type} {L : List α} {k i : Nat} {o : α} (h : L[k]? = some o) (hne : k ≠ i) : (L.take (k + 1)).eraseIdx i = (L.take k).eraseIdx i ++ [o] := by
  have hk := (List.getElem?_eq_some_iff.1 h).1
  have hl : (L.take k).length = k := by rw [List.length_take]; omega
  rw [List.take_add_one, h]
  simp only [Option.toList_some]
  rcases Nat.lt_or_ge i k with hi | hi
  · rw [List.eraseIdx_append_of_lt_length (by omega)]
  · rw [List.eraseIdx_append_of_length_le (by omega), List.eraseIdx_of_length_le (l := L.take k) (by omega), List.eraseIdx_of_length_le (l := [o]) (by simp; omega)]
set_option maxHeartbeats 2000000 in
theorem rOut {w : World} {B r : Nat} {v : Value} {S : Wn Int} (h : RfW w B r v S) (hn : S.L.length ≤ 1073741824) (i : Nat) :
    Calls Try.prog 26 #[.pointer (some ⟨r, 0, none⟩), .int .i64 (i : Int)] w fun e w' => e = .returned (.tuple #[]) ∧ ∃ v', RfW w' w.heap.size r v' ⟨S.nx, S.sz, S.L.eraseIdx i⟩ ∧ Chg (fun g => g = r) w w' := by
  obtain ⟨a, cap, rfl⟩ := h.row.shape
  obtain ⟨ln, hln⟩ : ∃ ln, S.L.length = ln := ⟨_, rfl⟩
  have HH : Hid (RfW w B r (.slice a ln cap) S ∧ S.L.length = ln ∧ ln ≤ 1073741824) := ⟨by rw [← hln]; exact h, hln, by omega⟩
  have hnc : (ln : Int) ≤ 1073741824 := by omega
  clear h hln hn
  go_enter Try.func26, Try.ntmps26
  go_wp2_with fail
  go_loopw [4, 5] (fun v4 vk wr => ∃ (k : Nat) (a4 : Option Addr) (n4 c4 : Nat), k ≤ ln ∧ vk = .int .i64 (k : Int) ∧ v4 = .slice a4 n4 c4 ∧ Hid (OwnF thV 2 67 wr w.heap.size (.slice a4 n4 c4) ((S.L.take k).eraseIdx i) ∧ Below w.heap.size w wr ∧ n4 = ((S.L.take k).eraseIdx i).length)) (fun _ vk _ => ln - (RowKit.intOf vk).toNat)
  case atStart => exact ⟨0, none, 0, 0, Nat.zero_le _, rfl, rfl, by simpa using ownF_nil _ _, Below.refl _ _, by simp⟩
  case round =>
    obtain ⟨k, a4, n4, c4, hk, rfl, rfl, hS⟩ := hrel
    have hR := HH.out.1.below hS.out.2.1
    obtain ⟨_, _, c2⟩ := box3 hR.box
    by_cases hlt : k < ln
    · have hlt2 : (k : Int) < (ln : Int) := by omega
      have hrow := hR.row.rw_ layTh
      obtain ⟨g, off, o, hoa, hgl, hoi, hcell⟩ := hrow.at k hlt
      subst hoa
      have o0 := hcell 0 _ rfl
      have o1 := hcell 1 _ rfl
      rw [Nat.add_zero] at o0
      have gi : IntKind.i64.wrap ((k : Int) + 1) = ((k + 1 : Nat) : Int) := by rw [IntWalk.i64_in _ (by omega)]; omega
      by_cases he : k = i
      · have q1 : ((k : Int) == (i : Int)) = true := by rw [he]; simp
        have HS : Hid (OwnF thV 2 67 wr w.heap.size (.slice a4 n4 c4) ((S.L.take (k + 1)).eraseIdx i) ∧ Below w.heap.size w wr ∧ n4 = ((S.L.take (k + 1)).eraseIdx i).length) := by
          have h1 : (S.L.take (k + 1)).eraseIdx i = (S.L.take k).eraseIdx i := by rw [← he]; exact erase_same hoi
          show _ ∧ _
          rw [h1]; exact hS.out
        clear hcell hgl hoi he hrow hR
        go_wp2_with fail
        go_roundw
        case rel => exact ⟨k + 1, _, _, _, by omega, by first | rfl | go_num, rfl, HS.out⟩
        case measure => simp [RowKit.intOf]; omega
      · have q1 : ((k : Int) == (i : Int)) = false := beq_eq_false_iff_ne.2 (by omega)
        obtain ⟨zs, hzs⟩ : ∃ zs, (S.L.take k).eraseIdx i = zs := ⟨_, rfl⟩
        have hzl : zs.length ≤ 1073741824 := by
          have h1 := HH.out.2
          have := List.length_eraseIdx_le (S.L.take k) i
          rw [← hzs]
          simp only [List.length_take] at this
          omega
        have ho := hS.out.1
        have hn4 := hS.out.2.2
        rw [hzs] at ho hn4
        obtain ⟨g8, cap8, w8, hr8, ho8, hb8, hk8, hs8, hat8⟩ := appendF_one kindTh layTh ho hS.out.2.1.size (o : Int × Int) #[.int .i64 o.1, .int .i64 o.2] rfl 67 (by omega) (by omega) 62
        rw [← hn4] at hr8 ho8
        have HS : Hid (OwnF thV 2 67 w8 w.heap.size (.slice (some ⟨g8, 0, none⟩) (n4 + 1) cap8) ((S.L.take (k + 1)).eraseIdx i) ∧ Below w.heap.size w w8 ∧ n4 + 1 = ((S.L.take (k + 1)).eraseIdx i).length) := ⟨by rw [erase_other hoi he, hzs]; exact ho8, hS.out.2.1.trans hb8, by rw [erase_other hoi he, hzs, List.length_append, hn4]; rfl⟩
        clear hcell hgl hoi he hrow hR ho8 hb8 hk8 hs8 hat8 ho hzl hzs hn4
        go_wp2_with (at_builtin; refine wpList_append_hr rfl _ _ 62 rfl _ _ rfl rfl hr8 ?_)
        go_roundw
        case rel => exact ⟨k + 1, _, _, _, by omega, by first | rfl | go_num, rfl, HS.out⟩
        case measure => simp [RowKit.intOf]; omega
    · obtain rfl : k = ln := by omega
      have hlt2 : ¬ ((k : Int) < (k : Int)) := by omega
      have f2 := Lib.frozen_of_heap hR.box 2
      have HE : Hid (∃ v', RfW (wr.setCell ⟨r, 2, none⟩ (.slice a4 n4 c4)) w.heap.size r v' ⟨S.nx, S.sz, S.L.eraseIdx i⟩ ∧ Chg (fun g => g = r) w (wr.setCell ⟨r, 2, none⟩ (.slice a4 n4 c4))) := by
        have hC : Chg (fun g => g = r) wr (wr.setCell ⟨r, 2, none⟩ (.slice a4 n4 c4)) := Chg.set (D := fun g => g = r) (q := r) 2 _ _ rfl
        have h1 := hS.out.1
        rw [← HH.out.2.1, List.take_length] at h1
        refine ⟨.slice a4 n4 c4, ⟨heap_setCell_cells hR.box 2 _, h1.chgX hC (fun g hg e => ?_), Nat.le_trans hS.out.2.1.size hC.size⟩, (Chg.of_below hS.out.2.1).trans hC⟩
        have h2 := h1.ge hg
        have h3 := (Array.getElem?_eq_some_iff.1 HH.out.1.box).1
        omega
      clear hR
      go_wp2_with fail
      go_end0
      obtain ⟨v', h1, h2⟩ := HE.out
      exact ⟨rfl, ⟨v', h1⟩, h2⟩
end Go.Proofs.Ytchkeckblpmehaa
