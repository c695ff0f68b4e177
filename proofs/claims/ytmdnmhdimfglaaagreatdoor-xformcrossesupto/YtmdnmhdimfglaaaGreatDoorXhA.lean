import Derived.Test.YtmdnmhdimfglaaaGreatDoorGaX
import Derived.Test.YtmdnmhdimfglaaaGreatDoorGaB
namespace Go.Proofs.YtmdnmhdimfglaaaGreatDoor
open Go.RowKit Go.Lib
set_option maxRecDepth 100000
def amongOne (who lo hi z : Int) (s : Sth) : List (Int × Int) := if s.1 = who ∧ s.2.1 < hi ∧ lo < s.2.2 then [(z + max lo s.2.1 - s.2.1, z + min hi s.2.2 - s.2.1)] else []
def amongL (who lo hi : Int) : List Sth → Int → List (Int × Int)
  | [], _ => []
  | s :: t, z => amongOne who lo hi z s ++ amongL who lo hi t (z + wid s)
theorem amongL_snoc (who lo hi : Int) (s : Sth) : ∀ (R : List Sth) (z : Int), amongL who lo hi (R ++ [s]) z = amongL who lo hi R z ++ amongOne who lo hi (z + seenL R) s
  | [], z => by simp [amongL, seenL]
  | x :: t, z => by
    simp only [List.cons_append, amongL, amongL_snoc who lo hi s t, List.append_assoc, seenL]
    rw [show z + wid x + seenL t = z + (wid x + seenL t) by omega]
theorem amongL_len (who lo hi : Int) : ∀ (R : List Sth) (z : Int), (amongL who lo hi R z).length ≤ R.length
  | [], z => by simp [amongL]
  | s :: t, z => by
    have h2 := amongL_len who lo hi t (z + wid s)
    have h1 : (amongOne who lo hi z s).length ≤ 1 := by unfold amongOne; split <;> simp
    simp only [amongL, List.length_append, List.length_cons]
    omega
set_option maxHeartbeats 8000000 in
theorem among_any {w : World} {a : Option Addr} {m cap : Nat} {R : List Sth} (h : Rw sthF 3 w a m cap R) (hm : m ≤ 16) (hR : SthOk R) (who lo hi : Int) (h1 : 0 ≤ lo ∧ lo ≤ 4194304) (h2 : 0 ≤ hi ∧ hi ≤ 4194304) :
    Calls Tryz.prog 89 #[.slice a m cap, .int .i64 who, .int .i64 lo, .int .i64 hi] w fun e w' => ∃ a' cap', e = .returned (.slice a' (amongL who lo hi R 0).length cap') ∧ OwnF rangeV 2 91 w' w.heap.size (.slice a' (amongL who lo hi R 0).length cap') (amongL who lo hi R 0) ∧ Below w.heap.size w w' := by
  have hRl := h.len
  go_enter Tryz.func89, Tryz.ntmps89
  go_wp2_with fail
  go_loopw [9, 10, 11] (fun vo vs vi W => ∃ (j : Nat) (z : Int) (L : List (Int × Int)), j ≤ m ∧ vi = .int .i64 (j : Int) ∧ vs = .int .i64 z ∧ Hid (seenL (R.take j) = z ∧ amongL who lo hi (R.take j) 0 = L) ∧ OwnF rangeV 2 91 W w.heap.size vo L ∧ Below w.heap.size w W) (fun _ _ vi _ => m - (RowKit.intOf vi).toNat)
  case atStart => exact ⟨0, 0, [], Nat.zero_le _, rfl, rfl, ⟨rfl, rfl⟩, ownF_nil _ _, Below.refl _ _⟩
  case round =>
    obtain ⟨j, z, L, hj, rfl, rfl, HZ, ho, hb⟩ := hrel
    by_cases hlt : j < m
    · obtain ⟨g, off, ⟨wh, fr, to⟩, rfl, hg, hx, hc⟩ := h.at j hlt
      have c0 : wr.cell? ⟨g, off + j * 3, none⟩ = some (.int .i64 wh) := (hb.cell (p := ⟨g, off + j * 3, none⟩) hg).trans (hc 0 _ rfl)
      have c1 : wr.cell? ⟨g, off + j * 3 + 1, none⟩ = some (.int .i64 fr) := (hb.cell (p := ⟨g, off + j * 3 + 1, none⟩) hg).trans (hc 1 _ rfl)
      have c2 : wr.cell? ⟨g, off + j * 3 + 2, none⟩ = some (.int .i64 to) := (hb.cell (p := ⟨g, off + j * 3 + 2, none⟩) hg).trans (hc 2 _ rfl)
      obtain ⟨s1, s2, s3⟩ := hR _ (List.mem_of_getElem? hx)
      obtain ⟨n1, n2⟩ := seenL_le (hR.take j)
      simp only [List.length_take] at n2
      simp only at s1 s2 s3
      rw [HZ.out.1] at n1 n2
      have n3 : z ≤ 4194304 * 16 := by omega
      have hLl : L.length ≤ 16 := by
        have := amongL_len who lo hi (R.take j) 0
        rw [HZ.out.2, List.length_take] at this
        omega
      obtain ⟨W1, hW1⟩ : ∃ W1, wr.alloc (Obj.cells #[.int .i64 wh, .int .i64 fr, .int .i64 to] 103) = W1 := ⟨_, rfl⟩
      have hX1 : W1.heap[wr.heap.size]? = some (Obj.cells #[.int .i64 wh, .int .i64 fr, .int .i64 to] 103) := by rw [← hW1]; exact heap_alloc_new _ _
      have hb1 : Below w.heap.size w W1 := by rw [← hW1]; exact hb.alloc hb.size _
      have ho1 : OwnF rangeV 2 91 W1 w.heap.size u9 L := by rw [← hW1]; exact ho.below ((Below.refl _ _).alloc (Nat.le_refl _) _)
      have hne : ∀ e, u9.ownBlock = some e → e ≠ wr.heap.size := fun e he eq => by have := ho.lt he; omega
      obtain ⟨ao, co, rfl⟩ := ho.shape
      have HD : Hid (seenL (R.take (j + 1)) = z + to - fr ∧ amongL who lo hi (R.take (j + 1)) 0 = L ++ amongOne who lo hi z (wh, fr, to)) := ⟨by rw [take_snocH hx, seenL_snoc, HZ.out.1]; simp only [wid]; omega, by rw [take_snocH hx, amongL_snoc, HZ.out.1, HZ.out.2, Int.zero_add]⟩
      obtain ⟨bx0, bx1, bx2⟩ := box3 hX1
      have hmx : ∀ ats ty (w : World), (Builtin.max_ ats ty #[.int .i64 lo, .int .i64 fr]).run Tryz.prog w = .ok (.int .i64 (max lo fr)) w := fun ats ty w => max_run ats ty lo fr w
      have hmn : ∀ ats ty (w : World), (Builtin.min_ ats ty #[.int .i64 hi, .int .i64 to]).run Tryz.prog w = .ok (.int .i64 (min hi to)) w := fun ats ty w => min_run ats ty hi to w
      obtain ⟨x, hxx⟩ : ∃ x, max lo fr = x := ⟨_, rfl⟩
      obtain ⟨y, hyy⟩ : ∃ y, min hi to = y := ⟨_, rfl⟩
      have bx : 0 ≤ x ∧ x ≤ 4194304 := by omega
      have byy : 0 ≤ y ∧ y ≤ 4194304 := by omega
      rw [hxx] at hmx
      rw [hyy] at hmn
      have e0 : IntKind.i64.wrap (z + to) = z + to := IntWalk.i64_in _ (by omega)
      have e1 : IntKind.i64.wrap (z + to - fr) = z + to - fr := IntWalk.i64_in _ (by omega)
      have e2 : IntKind.i64.wrap (z + x) = z + x := IntWalk.i64_in _ (by omega)
      have e3 : IntKind.i64.wrap (z + x - fr) = z + x - fr := IntWalk.i64_in _ (by omega)
      have e4 : IntKind.i64.wrap (z + y) = z + y := IntWalk.i64_in _ (by omega)
      have e5 : IntKind.i64.wrap (z + y - fr) = z + y - fr := IntWalk.i64_in _ (by omega)
      have HXY : Hid (max lo fr = x ∧ min hi to = y) := ⟨hxx, hyy⟩
      have ho2 : OwnF rangeV 2 91 W1 w.heap.size (.slice ao L.length co) L := ho1
      clear hc HZ n2 hb hR h ho hxx hyy ho1
      by_cases hA : wh = who ∧ fr < hi ∧ lo < to
      · obtain ⟨rfl, hA2, hA3⟩ := hA
        obtain ⟨g4, cp4, w4, r4, o4, b4, x4, ne4⟩ := app_box kindG layG ho2 hb1.size hX1 hne (z + x - fr, z + y - fr) #[.int .i64 (z + x - fr), .int .i64 (z + y - fr)] rfl 91 (by omega) (by omega) 32
        have hb4 := hb1.trans b4
        have eL : L ++ [(z + x - fr, z + y - fr)] = L ++ amongOne wh lo hi z (wh, fr, to) := by
          unfold amongOne
          rw [if_pos ⟨rfl, hA2, hA3⟩, HXY.out.1, HXY.out.2]
        rw [eL] at o4
        have HO : Hid (OwnF rangeV 2 91 w4 w.heap.size (.slice (some ⟨g4, 0, none⟩) (L.length + 1) cp4) (L ++ amongOne wh lo hi z (wh, fr, to))) := o4
        obtain ⟨by0, by1, by2⟩ := box3 x4
        clear o4 ne4 x4 hne ho2 eL b4 hb1 HXY
        go_wp2_with (at_builtin; refine wpList_append_hr rfl _ _ 32 rfl _ _ rfl rfl r4 ?_)
        go_roundw
        case rel => exact ⟨j + 1, z + to - fr, _, by omega, by go_num, rfl, HD, HO.out, hb4⟩
        case measure => simp [RowKit.intOf]; omega
      · have eL : L = L ++ amongOne who lo hi z (wh, fr, to) := by
          unfold amongOne
          rw [if_neg hA, List.append_nil]
        have HO : Hid (OwnF rangeV 2 91 W1 w.heap.size (.slice ao L.length co) (L ++ amongOne who lo hi z (wh, fr, to))) := by rw [← eL]; exact ho2
        clear hne ho2 eL HXY
        by_cases q1 : wh = who
        · subst q1
          by_cases q2 : fr < hi
          · have t3 : decide (lo < to) = false := decide_eq_false (fun hh => hA ⟨rfl, q2, hh⟩)
            go_wp2_with fail
            go_roundw
            case rel => exact ⟨j + 1, z + to - fr, _, by omega, by go_num, rfl, HD, HO.out, hb1⟩
            case measure => simp [RowKit.intOf]; omega
          · have t2 : decide (fr < hi) = false := decide_eq_false q2
            go_wp2_with fail
            go_roundw
            case rel => exact ⟨j + 1, z + to - fr, _, by omega, by go_num, rfl, HD, HO.out, hb1⟩
            case measure => simp [RowKit.intOf]; omega
        · have t1 : (wh == who) = false := beq_eq_false_iff_ne.2 q1
          go_wp2_with fail
          go_roundw
          case rel => exact ⟨j + 1, z + to - fr, _, by omega, by go_num, rfl, HD, HO.out, hb1⟩
          case measure => simp [RowKit.intOf]; omega
    · obtain rfl : j = m := by omega
      have HR : Hid (amongL who lo hi R 0 = L) := by
        have := HZ.out.2
        rwa [show R.take j = R by rw [← hRl]; exact List.take_length] at this
      obtain ⟨ao, co, rfl⟩ := ho.shape
      clear HZ
      go_wp2_with fail
      go_ret
      rw [HR.out]
      exact ⟨_, _, rfl, ho, hb⟩
end Go.Proofs.YtmdnmhdimfglaaaGreatDoor
