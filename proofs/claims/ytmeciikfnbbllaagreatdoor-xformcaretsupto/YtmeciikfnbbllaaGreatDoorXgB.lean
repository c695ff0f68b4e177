import Derived.Test.YtmeciikfnbbllaaGreatDoorXgA
namespace Go.Proofs.YtmeciikfnbbllaaGreatDoor
open Go.RowKit Go.Lib
set_option maxRecDepth 100000
theorem box3 {W : World} {b : Nat} {T : TypeId} {v0 v1 v2 : Value} (h : W.heap[b]? = some (.cells #[v0, v1, v2] T)) :
    W.cell? ⟨b, 0, none⟩ = some v0 ∧ W.cell? ⟨b, 1, none⟩ = some v1 ∧ W.cell? ⟨b, 2, none⟩ = some v2 := by
  simp only [Lib.cell_of_heap h]
  exact ⟨rfl, rfl, rfl⟩
theorem app_box {α : Type} {f : α → List Value} {k by_ : Nat} {S T : TypeId} (hK : Kind Tryz.prog S T k by_) (hf : Lay f k) {W : World} {B b : Nat} {v : Value} {l : List α} {o : Obj} (h : OwnF f k T W B v l) (hB : B ≤ W.heap.size) (hbx : W.heap[b]? = some o) (hne : ∀ g, v.ownBlock = some g → g ≠ b)
    (x : α) (cs : Array Value) (hcs : f x = cs.toList) (t : TypeId) (hs : (l.length + 1) * by_ ≤ 140737488355328) (hs2 : l.length + 1 ≤ 9223372036854775807) (ty : TypeId) :
    ∃ g cap' w', (Builtin.append_ #[S, S] ty #[v, .slice (some ⟨W.heap.size, 0, none⟩) 1 1]).run Tryz.prog (W.alloc (.cells cs t)) = .ok (.slice (some ⟨g, 0, none⟩) (l.length + 1) cap') w' ∧ OwnF f k T w' B (.slice (some ⟨g, 0, none⟩) (l.length + 1) cap') (l ++ [x]) ∧ Below B W w' ∧ w'.heap[b]? = some o ∧ (∀ e, (Value.slice (some ⟨g, 0, none⟩) (l.length + 1) cap').ownBlock = some e → e ≠ b) := by
  have hlt := (Array.getElem?_eq_some_iff.1 hbx).1
  obtain ⟨g, cap', w', hr, ho, hb, hk, _, hat⟩ := appendF_one hK hf h hB x cs hcs t hs hs2 ty
  refine ⟨g, cap', w', hr, ho, hb, (hk b hlt (fun e => hne b e rfl)).trans hbx, fun e he eq => ?_⟩
  simp only [Value.ownBlock, Option.some.injEq] at he
  subst he
  rcases hat with q | q
  · exact hne _ q eq
  · omega
theorem withOne_len (who at_ n : Int) (s : Sth) (z : Int) : (withOne who at_ n s z).length ≤ 3 := by
  unfold withOne
  split
  · split <;> simp
  · simp
theorem withL_len (who at_ n : Int) : ∀ (R : List Sth) (z : Int), (withL who at_ n R z).length ≤ 3 * R.length
  | [], z => by simp [withL]
  | s :: t, z => by
    have h1 := withOne_len who at_ n s z
    have h2 := withL_len who at_ n t (z + wid s)
    simp only [withL, List.length_append, List.length_cons]
    omega
set_option maxHeartbeats 8000000 in
theorem with_any {w : World} {a : Option Addr} {m cap : Nat} {R : List Sth} (h : Rw sthF 3 w a m cap R) (hm : m ≤ 16) (hR : SthOk R) (who at_ n : Int) (ha : 0 ≤ at_ ∧ at_ ≤ 4194304) :
    Calls Tryz.prog 62 #[.slice a m cap, .int .i64 who, .int .i64 at_, .int .i64 n] w fun e w' => ∃ a' cap', e = .returned (.slice a' (withL who at_ n R 0).length cap') ∧ OwnF sthF 3 109 w' w.heap.size (.slice a' (withL who at_ n R 0).length cap') (withL who at_ n R 0) ∧ Below w.heap.size w w' := by
  have hRl := h.len
  go_enter Tryz.func62, Tryz.ntmps62
  go_wp2_with fail
  go_loopw [9, 10, 11] (fun vo vs vi W => ∃ (j : Nat) (z : Int) (L : List Sth), j ≤ m ∧ vi = .int .i64 (j : Int) ∧ vs = .int .i64 z ∧ Hid (seenL (R.take j) = z ∧ withL who at_ n (R.take j) 0 = L) ∧ OwnF sthF 3 109 W w.heap.size vo L ∧ Below w.heap.size w W) (fun _ _ vi _ => m - (RowKit.intOf vi).toNat)
  case atStart => exact ⟨0, 0, [], Nat.zero_le _, rfl, rfl, ⟨rfl, rfl⟩, ownF_nil _ _, Below.refl _ _⟩
  case round =>
    obtain ⟨j, z, L, hj, rfl, rfl, HZ, ho, hb⟩ := hrel
    by_cases hlt : j < m
    · obtain ⟨g, off, ⟨wh, fr, to⟩, rfl, hg, hx, hc⟩ := h.at j hlt
      have c0 : wr.cell? ⟨g, off + j * 3, none⟩ = some (.int .i64 wh) := (hb.cell (p := ⟨g, off + j * 3, none⟩) hg).trans (hc 0 _ rfl)
      have c1 : wr.cell? ⟨g, off + j * 3 + 1, none⟩ = some (.int .i64 fr) := (hb.cell (p := ⟨g, off + j * 3 + 1, none⟩) hg).trans (hc 1 _ rfl)
      have c2 : wr.cell? ⟨g, off + j * 3 + 2, none⟩ = some (.int .i64 to) := (hb.cell (p := ⟨g, off + j * 3 + 2, none⟩) hg).trans (hc 2 _ rfl)
      obtain ⟨s1, s2, s3⟩ := hR _ (List.mem_of_getElem? hx)
      obtain ⟨n1, n2⟩ := seenL_le (hR.take j)
      simp only [List.length_take] at n2
      simp only at s1 s2 s3
      rw [HZ.out.1] at n1 n2
      have n3 : z ≤ 4194304 * 16 := by omega
      have hLl : L.length ≤ 48 := by
        have := withL_len who at_ n (R.take j) 0
        rw [HZ.out.2, List.length_take] at this
        omega
      obtain ⟨W1, hW1⟩ : ∃ W1, wr.alloc (Obj.cells #[.int .i64 wh, .int .i64 fr, .int .i64 to] 109) = W1 := ⟨_, rfl⟩
      have hX1 : W1.heap[wr.heap.size]? = some (Obj.cells #[.int .i64 wh, .int .i64 fr, .int .i64 to] 109) := by rw [← hW1]; exact heap_alloc_new _ _
      have hb1 : Below w.heap.size w W1 := by rw [← hW1]; exact hb.alloc hb.size _
      have ho1 : OwnF sthF 3 109 W1 w.heap.size u9 L := by rw [← hW1]; exact ho.below ((Below.refl _ _).alloc (Nat.le_refl _) _)
      have hne : ∀ e, u9.ownBlock = some e → e ≠ wr.heap.size := fun e he eq => by have := ho.lt he; omega
      obtain ⟨ao, co, rfl⟩ := ho.shape
      have HD : Hid (seenL (R.take (j + 1)) = z + (to - fr) ∧ withL who at_ n (R.take (j + 1)) 0 = L ++ withOne who at_ n (wh, fr, to) z) := ⟨by rw [take_snocH hx, seenL_snoc, HZ.out.1]; rfl, by rw [take_snocH hx, withL_snoc, HZ.out.1, HZ.out.2, Int.zero_add]⟩
      obtain ⟨bx0, bx1, bx2⟩ := box3 hX1
      have e0 : IntKind.i64.wrap (to - fr) = to - fr := IntWalk.i64_in _ (by omega)
      have e1 : IntKind.i64.wrap (z + (to - fr)) = z + (to - fr) := IntWalk.i64_in _ (by omega)
      have e2 : IntKind.i64.wrap (fr + at_) = fr + at_ := IntWalk.i64_in _ (by omega)
      have e3 : IntKind.i64.wrap (fr + at_ - z) = fr + at_ - z := IntWalk.i64_in _ (by omega)
      clear hc HZ n2 hb hR h ho
      by_cases h1 : z ≤ at_ ∧ at_ < z + (to - fr)
      · obtain ⟨h1, h2⟩ := h1
        by_cases h3 : z < at_
        · obtain ⟨g2, cp2, w2, r2, o2, b2, x2, ne2⟩ := app_box kindH layH ho1 hb1.size hX1 hne (wh, fr, fr + at_ - z) #[.int .i64 wh, .int .i64 fr, .int .i64 (fr + at_ - z)] rfl 109 (by omega) (by omega) 86
          have hb2 := hb1.trans b2
          obtain ⟨g3, cp3, w3, r3, o3, b3, x3, ne3⟩ := app_box kindH layH o2 hb2.size x2 (by simpa using ne2) (who, 0, n) #[.int .i64 who, .int .i64 0, .int .i64 n] rfl 109 (by simp; omega) (by simp; omega) 86
          have hb3 := hb2.trans b3
          obtain ⟨g4, cp4, w4, r4, o4, b4, x4, ne4⟩ := app_box kindH layH o3 hb3.size x3 (by simpa using ne3) (wh, fr + at_ - z, to) #[.int .i64 wh, .int .i64 (fr + at_ - z), .int .i64 to] rfl 109 (by simp; omega) (by simp; omega) 86
          have hb4 := hb3.trans b4
          simp only [List.length_append, List.length_cons, List.length_nil, Nat.zero_add] at r3 r4 o4
          obtain ⟨by0, by1, by2⟩ := box3 x2
          obtain ⟨bz0, bz1, bz2⟩ := box3 x3
          have eL : L ++ [(wh, fr, fr + at_ - z)] ++ [(who, 0, n)] ++ [(wh, fr + at_ - z, to)] = L ++ withOne who at_ n (wh, fr, to) z := by
            unfold withOne
            rw [if_pos ⟨h1, by simpa [wid] using h2⟩, if_pos h3]
            simp
          rw [eL] at o4
          have HO : Hid (OwnF sthF 3 109 w4 w.heap.size (.slice (some ⟨g4, 0, none⟩) (L.length + 1 + 1 + 1) cp4) (L ++ withOne who at_ n (wh, fr, to) z)) := o4
          clear o2 o3 o4 ne2 ne3 ne4 x2 x3 x4 hne ho1 eL b2 b3 b4 hb1 hb2 hb3
          go_wp2_with (at_builtin; first | (have hgd := r2; refine wpList_append_hr rfl _ _ 86 rfl _ _ rfl rfl r2 ?_; clear hgd r2) | (have hgd := r3; refine wpList_append_hr rfl _ _ 86 rfl _ _ rfl rfl r3 ?_; clear hgd r3) | (have hgd := r4; refine wpList_append_hr rfl _ _ 86 rfl _ _ rfl rfl r4 ?_; clear hgd r4))
          go_roundw
          case rel => exact ⟨j + 1, z + (to - fr), _, by omega, by go_num, rfl, HD, HO.out, hb4⟩
          case measure => simp [RowKit.intOf]; omega
        · have t3 : decide (z < at_) = false := decide_eq_false h3
          obtain ⟨g3, cp3, w3, r3, o3, b3, x3, ne3⟩ := app_box kindH layH ho1 hb1.size hX1 hne (who, 0, n) #[.int .i64 who, .int .i64 0, .int .i64 n] rfl 109 (by omega) (by omega) 86
          have hb3 := hb1.trans b3
          obtain ⟨g4, cp4, w4, r4, o4, b4, x4, ne4⟩ := app_box kindH layH o3 hb3.size x3 (by simpa using ne3) (wh, fr + at_ - z, to) #[.int .i64 wh, .int .i64 (fr + at_ - z), .int .i64 to] rfl 109 (by simp; omega) (by simp; omega) 86
          have hb4 := hb3.trans b4
          simp only [List.length_append, List.length_cons, List.length_nil, Nat.zero_add] at r4 o4
          obtain ⟨bz0, bz1, bz2⟩ := box3 x3
          have eL : L ++ [(who, 0, n)] ++ [(wh, fr + at_ - z, to)] = L ++ withOne who at_ n (wh, fr, to) z := by
            unfold withOne
            rw [if_pos ⟨h1, by simpa [wid] using h2⟩, if_neg h3]
            simp
          rw [eL] at o4
          have HO : Hid (OwnF sthF 3 109 w4 w.heap.size (.slice (some ⟨g4, 0, none⟩) (L.length + 1 + 1) cp4) (L ++ withOne who at_ n (wh, fr, to) z)) := o4
          clear o3 o4 ne3 ne4 x3 x4 hne ho1 eL b3 b4 hb1 hb3
          go_wp2_with (at_builtin; first | (have hgd := r3; refine wpList_append_hr rfl _ _ 86 rfl _ _ rfl rfl r3 ?_; clear hgd r3) | (have hgd := r4; refine wpList_append_hr rfl _ _ 86 rfl _ _ rfl rfl r4 ?_; clear hgd r4))
          go_roundw
          case rel => exact ⟨j + 1, z + (to - fr), _, by omega, by go_num, rfl, HD, HO.out, hb4⟩
          case measure => simp [RowKit.intOf]; omega
      · obtain ⟨g4, cp4, w4, r4, o4, b4, x4, ne4⟩ := app_box kindH layH ho1 hb1.size hX1 hne (wh, fr, to) #[.int .i64 wh, .int .i64 fr, .int .i64 to] rfl 109 (by omega) (by omega) 86
        have hb4 := hb1.trans b4
        have eL : L ++ [(wh, fr, to)] = L ++ withOne who at_ n (wh, fr, to) z := by
          unfold withOne
          rw [if_neg (fun hh => h1 ⟨hh.1, by simpa [wid] using hh.2⟩)]
        rw [eL] at o4
        have HO : Hid (OwnF sthF 3 109 w4 w.heap.size (.slice (some ⟨g4, 0, none⟩) (L.length + 1) cp4) (L ++ withOne who at_ n (wh, fr, to) z)) := o4
        clear o4 ne4 x4 hne ho1 eL b4 hb1
        by_cases h2 : z ≤ at_
        · have t2 : decide (at_ < z + (to - fr)) = false := decide_eq_false (fun hh => h1 ⟨h2, hh⟩)
          go_wp2_with (at_builtin; refine wpList_append_hr rfl _ _ 86 rfl _ _ rfl rfl r4 ?_)
          go_roundw
          case rel => exact ⟨j + 1, z + (to - fr), _, by omega, by go_num, rfl, HD, HO.out, hb4⟩
          case measure => simp [RowKit.intOf]; omega
        · have t2 : decide (z ≤ at_) = false := decide_eq_false h2
          go_wp2_with (at_builtin; refine wpList_append_hr rfl _ _ 86 rfl _ _ rfl rfl r4 ?_)
          go_roundw
          case rel => exact ⟨j + 1, z + (to - fr), _, by omega, by go_num, rfl, HD, HO.out, hb4⟩
          case measure => simp [RowKit.intOf]; omega
    · obtain rfl : j = m := by omega
      have HR : Hid (withL who at_ n R 0 = L) := by
        have := HZ.out.2
        rwa [show R.take j = R by rw [← hRl]; exact List.take_length] at this
      obtain ⟨ao, co, rfl⟩ := ho.shape
      clear HZ
      go_wp2_with fail
      go_ret
      rw [HR.out]
      exact ⟨_, _, rfl, ho, hb⟩
end Go.Proofs.YtmeciikfnbbllaaGreatDoor
