import Derived.Test.YtmdnmhdimfglaaaGreatDoorGaX
import Derived.BigQuiet
import Derived.Test.YtmdnmhdimfglaaaGreatDoorGaB
namespace Go.Proofs.YtmdnmhdimfglaaaGreatDoor
open Go.RowKit Go.Lib
set_option maxRecDepth 100000
def cntL (who : Int) : List Sth → Nat
  | [] => 0
  | s :: t => (if s.1 = who then 1 else 0) + cntL who t
theorem cntL_snoc (who : Int) (s : Sth) (R : List Sth) : cntL who (R ++ [s]) = cntL who R + (if s.1 = who then 1 else 0) := by
  induction R with
  | nil => simp [cntL]
  | cons x t ih => simp only [List.cons_append, cntL, ih]; omega
set_option maxHeartbeats 4000000 in
theorem whole_any {w : World} {a : Option Addr} {m cap : Nat} {R : List Sth} (h : Rw sthF 3 w a m cap R) (hm : m ≤ 16) (who : Int) :
    Calls Tryz.prog 76 #[.slice a m cap, .int .i64 who] w fun e w' => e = .returned (.bool (cntL who R == 1)) ∧ Below w.heap.size w w' := by
  have hRl := h.len
  obtain ⟨res, hres⟩ : ∃ r, (cntL who R == 1) = r := ⟨_, rfl⟩
  rw [hres]
  have HRes : Hid ((cntL who R == 1) = res) := hres
  clear hres
  go_enter Tryz.func76, Tryz.ntmps76
  go_wp2_with fail
  go_loopw [5, 6] (fun vc vi W => ∃ (j c : Nat), j ≤ m ∧ vi = .int .i64 (j : Int) ∧ vc = .int .i64 (c : Int) ∧ Hid (cntL who (R.take j) = c) ∧ c ≤ j ∧ Below w.heap.size w W) (fun _ vi _ => m - (RowKit.intOf vi).toNat)
  case atStart => exact ⟨0, 0, Nat.zero_le _, rfl, rfl, rfl, Nat.le_refl _, Below.refl _ _⟩
  case round =>
    obtain ⟨j, c, hj, rfl, rfl, HC, hcj, hb⟩ := hrel
    by_cases hlt : j < m
    · obtain ⟨g, off, ⟨wh, fr, to⟩, rfl, hg, hx, hc⟩ := h.at j hlt
      have c0 : wr.cell? ⟨g, off + j * 3, none⟩ = some (.int .i64 wh) := (hb.cell (p := ⟨g, off + j * 3, none⟩) hg).trans (hc 0 _ rfl)
      have HN : Hid (cntL who (R.take (j + 1)) = c + (if wh = who then 1 else 0)) := by
        show cntL who (R.take (j + 1)) = _
        rw [take_snocH hx, cntL_snoc, HC.out]
      clear hc HC HRes
      by_cases h1 : wh = who
      · subst h1
        have HN2 : Hid (cntL wh (R.take (j + 1)) = c + 1) := by have := HN.out; rwa [if_pos rfl] at this
        clear HN
        go_wp2_with fail
        go_roundw
        case rel => exact ⟨j + 1, c + 1, by omega, by go_num, by go_num, HN2, by omega, hb⟩
        case measure => simp [RowKit.intOf]; omega
      · have t1 : (wh == who) = false := beq_eq_false_iff_ne.2 h1
        have HN2 : Hid (cntL who (R.take (j + 1)) = c) := by have := HN.out; rwa [if_neg h1] at this
        clear HN
        go_wp2_with fail
        go_roundw
        case rel => exact ⟨j + 1, c, by omega, by go_num, rfl, HN2, by omega, hb⟩
        case measure => simp [RowKit.intOf]; omega
    · obtain rfl : j = m := by omega
      have hr : (c == 1) = res := by
        have := HC.out
        rw [show R.take j = R by rw [← hRl]; exact List.take_length] at this
        rw [← this]
        exact HRes.out
      have hr2 : ((c : Int) == 1) = res := by
        rw [← hr]
        by_cases q : c = 1
        · subst q; rfl
        · rw [beq_eq_false_iff_ne.2 q, beq_eq_false_iff_ne.2 (by omega)]
      clear HC HRes hr
      have HB : Hid (Below w.heap.size w wr) := hb
      cases res with
      | true =>
        have q : c = 1 := by have := eq_of_beq hr2; omega
        subst q
        go_wp2_with fail
        go_ret
        exact ⟨rfl, HB.out⟩
      | false =>
        have q : ¬ (c : Int) = 1 := fun e => by rw [e] at hr2; exact absurd hr2 (by decide)
        have q2 : decide ((c : Int) = 1) = false := decide_eq_false q
        have q3 : (c == 1) = false := beq_eq_false_iff_ne.2 (by omega)
        go_wp2_with fail
        go_ret
        exact ⟨rfl, HB.out⟩
def wtoS (who : Int) (out : List Sth) (s : Sth) : List Sth :=
  if s.1 = who then out else match out.getLast? with
    | some z => if z.1 = s.1 ∧ z.2.2 = s.2.1 then out.dropLast ++ [(z.1, z.2.1, s.2.2)] else out ++ [s]
    | none => [s]
def wtoL (who : Int) (R : List Sth) : List Sth := R.foldl (wtoS who) []
theorem wtoL_snoc (who : Int) (R : List Sth) (s : Sth) : wtoL who (R ++ [s]) = wtoS who (wtoL who R) s := by simp [wtoL]
theorem wtoS_len (who : Int) (out : List Sth) (s : Sth) : (wtoS who out s).length ≤ out.length + 1 := by
  unfold wtoS
  split
  · omega
  · split
    · split
      · simp [List.length_dropLast]
      · simp
    · simp
theorem wtoL_len (who : Int) (R : List Sth) : (wtoL who R).length ≤ R.length := by
  have key : ∀ (R out : List Sth), (R.foldl (wtoS who) out).length ≤ out.length + R.length := by
    intro R
    induction R with
    | nil => intro out; simp
    | cons s t ih => intro out; have := ih (wtoS who out s); have := wtoS_len who out s; simp only [List.foldl_cons, List.length_cons]; omega
  simpa [wtoL] using key R []
theorem wtoS_none {who : Int} {s : Sth} (h : s.1 ≠ who) : wtoS who [] s = [s] := by unfold wtoS; rw [if_neg h]; rfl
theorem wtoS_some {who : Int} {O : List Sth} {z s : Sth} (h : s.1 ≠ who) : wtoS who (O ++ [z]) s = if z.1 = s.1 ∧ z.2.2 = s.2.1 then O ++ [(z.1, z.2.1, s.2.2)] else O ++ [z] ++ [s] := by
  unfold wtoS
  rw [if_neg h]
  simp
theorem flatH_set (l : List Sth) (x y z t : Int) : (flatF sthF (l ++ [(x, y, z)])).set (l.length * 3 + 2) (.int .i64 t) = flatF sthF (l ++ [(x, y, t)]) := by
  rw [flatF_append, flatF_append, List.set_append_right _ _ (by rw [flatF_length layH]; omega)]
  rw [flatF_length layH, show l.length * 3 + 2 - l.length * 3 = 2 by omega]
  rfl
theorem ownH_last {w : World} {B g cap : Nat} {l : List Sth} {x y z : Int} (h : OwnF sthF 3 103 w B (.slice (some ⟨g, 0, none⟩) (l.length + 1) cap) (l ++ [(x, y, z)])) (t : Int) :
    OwnF sthF 3 103 (w.setCell ⟨g, l.length * 3 + 2, none⟩ (.int .i64 t)) B (.slice (some ⟨g, 0, none⟩) (l.length + 1) cap) (l ++ [(x, y, t)]) := by
  have e : ∀ t : Int, (l ++ [(x, y, t)]).length = l.length + 1 := fun t => by simp
  unfold OwnF at h ⊢
  rw [e] at h ⊢
  have := (World.ownsRow.stored h (l.length * 3 + 2) (.int .i64 t)).1
  rw [flatH_set] at this
  exact this
theorem own_ptr {α : Type} {f : α → List Value} {k : Nat} {T : TypeId} {w : World} {B : Nat} {v : Value} {l : List α} (h : OwnF f k T w B v l) (hn : 0 < l.length) : ∃ g cap, v = .slice (some ⟨g, 0, none⟩) l.length cap ∧ B ≤ g ∧ g < w.heap.size ∧ l.length ≤ cap ∧ cap ≤ maxLen ∧ ∀ j, w.frozen? ⟨g, j, none⟩ = false := by
  rcases h.2 with ⟨e, h0⟩ | ⟨g, cap, cur, e, hb, hh, h1, h2, _⟩
  · omega
  · exact ⟨g, cap, e, hb, (Array.getElem?_eq_some_iff.1 hh).1, h1, h2, fun j => frozen_of_row w g j cur _ hh⟩
set_option maxHeartbeats 8000000 in
theorem without_any {w : World} {a : Option Addr} {m cap : Nat} {R : List Sth} (h : Rw sthF 3 w a m cap R) (hm : m ≤ 16) (who : Int) :
    Calls Tryz.prog 77 #[.slice a m cap, .int .i64 who] w fun e w' => ∃ a' cap', e = .returned (.slice a' (wtoL who R).length cap') ∧ OwnF sthF 3 103 w' w.heap.size (.slice a' (wtoL who R).length cap') (wtoL who R) ∧ Below w.heap.size w w' := by
  have hRl := h.len
  go_enter Tryz.func77, Tryz.ntmps77
  go_wp2_with fail
  go_loopw [5, 6] (fun vo vi W => ∃ (j : Nat) (L : List Sth), j ≤ m ∧ vi = .int .i64 (j : Int) ∧ Hid (wtoL who (R.take j) = L) ∧ OwnF sthF 3 103 W w.heap.size vo L ∧ Below w.heap.size w W) (fun _ vi _ => m - (RowKit.intOf vi).toNat)
  case atStart => exact ⟨0, [], Nat.zero_le _, rfl, rfl, ownF_nil _ _, Below.refl _ _⟩
  case round =>
    obtain ⟨j, L, hj, rfl, HZ, ho, hb⟩ := hrel
    by_cases hlt : j < m
    · obtain ⟨g, off, ⟨wh, fr, to⟩, rfl, hg, hx, hc⟩ := h.at j hlt
      have c0 : wr.cell? ⟨g, off + j * 3, none⟩ = some (.int .i64 wh) := (hb.cell (p := ⟨g, off + j * 3, none⟩) hg).trans (hc 0 _ rfl)
      have c1 : wr.cell? ⟨g, off + j * 3 + 1, none⟩ = some (.int .i64 fr) := (hb.cell (p := ⟨g, off + j * 3 + 1, none⟩) hg).trans (hc 1 _ rfl)
      have c2 : wr.cell? ⟨g, off + j * 3 + 2, none⟩ = some (.int .i64 to) := (hb.cell (p := ⟨g, off + j * 3 + 2, none⟩) hg).trans (hc 2 _ rfl)
      have hLl : L.length ≤ 16 := by
        have := wtoL_len who (R.take j)
        rw [HZ.out, List.length_take] at this
        omega
      obtain ⟨W1, hW1⟩ : ∃ W1, wr.alloc (Obj.cells #[.int .i64 wh, .int .i64 fr, .int .i64 to] 103) = W1 := ⟨_, rfl⟩
      have hX1 : W1.heap[wr.heap.size]? = some (Obj.cells #[.int .i64 wh, .int .i64 fr, .int .i64 to] 103) := by rw [← hW1]; exact heap_alloc_new _ _
      have hb1 : Below w.heap.size w W1 := by rw [← hW1]; exact hb.alloc hb.size _
      have ho1 : OwnF sthF 3 103 W1 w.heap.size u5 L := by rw [← hW1]; exact ho.below ((Below.refl _ _).alloc (Nat.le_refl _) _)
      have hne : ∀ e, u5.ownBlock = some e → e ≠ wr.heap.size := fun e he eq => by have := ho.lt he; omega
      have HD : Hid (wtoL who (R.take (j + 1)) = wtoS who L (wh, fr, to)) := by
        show wtoL who (R.take (j + 1)) = _
        rw [take_snocH hx, wtoL_snoc, HZ.out]
      obtain ⟨bx0, bx1, bx2⟩ := box3 hX1
      clear hc HZ hb h
      by_cases h1 : wh = who
      · subst h1
        have HD2 : Hid (wtoL wh (R.take (j + 1)) = L) := by have := HD.out; unfold wtoS at this; rwa [if_pos rfl] at this
        have HO : Hid (OwnF sthF 3 103 W1 w.heap.size u5 L) := ho1
        clear HD ho1 ho hne
        go_wp2_with fail
        go_roundw
        case rel => exact ⟨j + 1, L, by omega, by go_num, HD2, HO.out, hb1⟩
        case measure => simp [RowKit.intOf]; omega
      · have t1 : (wh == who) = false := beq_eq_false_iff_ne.2 h1
        obtain ⟨ao, co, rfl⟩ := ho.shape
        have HX1 : Hid (W1.heap[wr.heap.size]? = some (Obj.cells #[.int .i64 wh, .int .i64 fr, .int .i64 to] 103)) := hX1
        have HB1 : Hid (Below w.heap.size w W1) := hb1
        rcases List.eq_nil_or_concat L with rfl | ⟨O, ⟨zw, zf, zt⟩, hLc⟩
        · have HD2 : Hid (wtoL who (R.take (j + 1)) = [] ++ [(wh, fr, to)]) := by have := HD.out; rwa [wtoS_none (by simpa using h1)] at this
          have HO1 : Hid (OwnF sthF 3 103 W1 w.heap.size (.slice ao 0 co) []) := ho1
          have HNE : Hid (∀ e, (Value.slice ao 0 co).ownBlock = some e → e ≠ wr.heap.size) := hne
          simp only [List.length_nil]
          clear ho1 ho hne hb1 hX1 HD
          go_wp2_with fail
          go_quiet (fail)
          obtain ⟨W2, hW2⟩ : ∃ V, W1.drewN nq = V := ⟨_, rfl⟩
          rw [hW2]
          have hX2 : W2.heap[wr.heap.size]? = some (Obj.cells #[.int .i64 wh, .int .i64 fr, .int .i64 to] 103) := by rw [← hW2]; exact HX1.out
          have hb2 : Below w.heap.size w W2 := by rw [← hW2]; exact below_drewN HB1.out nq
          have ho2 : OwnF sthF 3 103 W2 w.heap.size (.slice ao 0 co) [] := by rw [← hW2]; exact HO1.out.below (below_drewN (Below.refl _ _) nq)
          clear hW2 HX1 HB1 HO1
          obtain ⟨bx0, bx1, bx2⟩ := box3 hX2
          obtain ⟨g4, cp4, w4, r4, o4, b4, x4, ne4⟩ := app_box kindH layH ho2 hb2.size hX2 HNE.out (wh, fr, to) #[.int .i64 wh, .int .i64 fr, .int .i64 to] rfl 103 (by first | (simp; done) | (simp; omega)) (by first | (simp; done) | (simp; omega)) 83
          have hb4 := hb2.trans b4
          simp only [List.length_nil] at r4 o4
          have HO : Hid (OwnF sthF 3 103 w4 w.heap.size _ ([] ++ [(wh, fr, to)])) := o4
          clear o4 ne4 x4 HNE ho2 b4 hb2
          go_wp2_with (at_builtin; refine wpList_append_hr rfl _ _ 83 rfl _ _ rfl rfl r4 ?_)
          go_roundw
          case rel => exact ⟨j + 1, _, by omega, by go_num, HD2, HO.out, hb4⟩
          case measure => simp [RowKit.intOf]; omega
        · rw [List.concat_eq_append] at hLc
          subst hLc
          obtain ⟨gz, cz, hvz, hgz, hgl, _, _, hfz⟩ := own_ptr ho1 (by simp)
          have hlen : (O ++ [(zw, zf, zt)]).length = O.length + 1 := by simp
          rw [hlen] at hvz
          simp only [hlen] at *
          cases hvz
          obtain ⟨g3, off3, x3, hg3, _, hx3, hc3⟩ := (ho1.rw_ layH).at O.length (by omega)
          cases hg3
          have hx3' : x3 = (zw, zf, zt) := by simpa using hx3.symm
          subst hx3'
          have z0 := hc3 0 _ rfl
          have z1 := hc3 1 _ rfl
          have z2 := hc3 2 _ rfl
          simp only [Nat.zero_add, Nat.add_zero] at z0 z1 z2
          have HO1 : Hid (OwnF sthF 3 103 W1 w.heap.size (.slice (some ⟨gz, 0, none⟩) (O.length + 1) co) (O ++ [(zw, zf, zt)])) := ho1
          have HNE : Hid (∀ e, (Value.slice (some ⟨gz, 0, none⟩) (O.length + 1) co).ownBlock = some e → e ≠ wr.heap.size) := hne
          have hOl : O.length ≤ 15 := by omega
          obtain ⟨nn, hnn⟩ : ∃ nn, O.length = nn := ⟨_, rfl⟩
          have HNN : Hid (O.length = nn) := hnn
          rw [hnn] at z0 z1 z2 HO1 HNE hLl
          have b1 : (0 : Int) < ((nn + 1 : Nat) : Int) := by omega
          have b2 : IntKind.i64.wrap (((nn + 1 : Nat) : Int) - 1) = (nn : Int) := (IntWalk.i64_in _ (by omega)).trans (by omega)
          have b3 : IntKind.i64.wrap ((nn : Int) + 1 - 1) = (nn : Int) := (IntWalk.i64_in _ (by omega)).trans (by omega)
          have b4 : (nn : Int) < (nn : Int) + 1 := by omega
          have HDS : Hid (wtoL who (R.take (j + 1)) = if zw = wh ∧ zt = fr then O ++ [(zw, zf, to)] else O ++ [(zw, zf, zt)] ++ [(wh, fr, to)]) := by have := HD.out; rwa [wtoS_some (by simpa using h1)] at this
          simp only [hnn]
          clear ho1 ho hne hb1 hX1 HD hc3 hx3 hnn hlen hfz
          by_cases hq : zw = wh ∧ zt = fr
          · obtain ⟨hq1, hq2⟩ := hq
            replace hq1 := hq1.symm
            replace hq2 := hq2.symm
            subst hq1 hq2
            have HD2 : Hid (wtoL who (R.take (j + 1)) = O ++ [(wh, zf, to)]) := by have := HDS.out; rwa [if_pos ⟨rfl, rfl⟩] at this
            clear HDS
            go_wp2_with fail
            go_quiet (fail)
            obtain ⟨W2, hW2⟩ : ∃ V, W1.drewN nq = V := ⟨_, rfl⟩
            rw [hW2]
            have hX2 : W2.heap[wr.heap.size]? = some (Obj.cells #[.int .i64 wh, .int .i64 fr, .int .i64 to] 103) := by rw [← hW2]; exact HX1.out
            have hb2 : Below w.heap.size w W2 := by rw [← hW2]; exact below_drewN HB1.out nq
            have ho2 : OwnF sthF 3 103 W2 w.heap.size (.slice (some ⟨gz, 0, none⟩) (nn + 1) co) (O ++ [(wh, zf, fr)]) := by rw [← hW2]; exact HO1.out.below (below_drewN (Below.refl _ _) nq)
            have zz2 : W2.cell? ⟨gz, nn * 3 + 2, none⟩ = some (.int .i64 fr) := by rw [← hW2]; exact z2
            clear hW2 HX1 HB1 HO1
            obtain ⟨bx0, bx1, bx2⟩ := box3 hX2
            have HO : Hid (OwnF sthF 3 103 (W2.setCell ⟨gz, nn * 3 + 2, none⟩ (.int .i64 to)) w.heap.size (.slice (some ⟨gz, 0, none⟩) (nn + 1) co) (O ++ [(wh, zf, to)])) := by
              have := ownH_last (l := O) (by rw [HNN.out]; exact ho2) to
              rw [HNN.out] at this
              exact this
            obtain ⟨g5, c5, e5, _, _, _, _, hf5⟩ := own_ptr ho2 (by simp)
            simp only [Value.slice.injEq, Option.some.injEq, Addr.mk.injEq, and_true] at e5
            have hf6 : W2.frozen? ⟨gz, nn * 3 + 2, none⟩ = false := by rw [e5.1]; exact hf5 _
            have hb3 := hb2.setCell (p := ⟨gz, nn * 3 + 2, none⟩) hgz (.int .i64 to)
            clear hf5 e5 ho2 hb2 HNE HNN
            go_wp2_with fail
            go_roundw
            case rel => exact ⟨j + 1, _, by omega, by go_num, HD2, HO.out, hb3⟩
            case measure => simp [RowKit.intOf]; omega
          · have HD2 : Hid (wtoL who (R.take (j + 1)) = O ++ [(zw, zf, zt)] ++ [(wh, fr, to)]) := by have := HDS.out; rwa [if_neg hq] at this
            clear HDS
            have key : ((zw == wh) = false ∧ decide (zw = wh) = false) ∨ (wh = zw ∧ (zt == fr) = false ∧ decide (zt = fr) = false) := by
              by_cases q : zw = wh
              · exact .inr ⟨q.symm, beq_eq_false_iff_ne.2 (fun e => hq ⟨q, e⟩), decide_eq_false (fun e => hq ⟨q, e⟩)⟩
              · exact .inl ⟨beq_eq_false_iff_ne.2 q, decide_eq_false q⟩
            clear hq
            rcases key with ⟨t5, t6⟩ | ⟨q5, t5, t6⟩
            rotate_left
            · subst q5
              go_wp2_with fail
              go_quiet (fail)
              obtain ⟨W2, hW2⟩ : ∃ V, W1.drewN nq = V := ⟨_, rfl⟩
              rw [hW2]
              have hX2 : W2.heap[wr.heap.size]? = some (Obj.cells #[.int .i64 wh, .int .i64 fr, .int .i64 to] 103) := by rw [← hW2]; exact HX1.out
              have hb2 : Below w.heap.size w W2 := by rw [← hW2]; exact below_drewN HB1.out nq
              have ho2 : OwnF sthF 3 103 W2 w.heap.size (.slice (some ⟨gz, 0, none⟩) (nn + 1) co) (O ++ [(wh, zf, zt)]) := by rw [← hW2]; exact HO1.out.below (below_drewN (Below.refl _ _) nq)
              clear hW2 HX1 HB1 HO1
              obtain ⟨bx0, bx1, bx2⟩ := box3 hX2
              obtain ⟨g4, cp4, w4, r4, o4, b4, x4, ne4⟩ := app_box kindH layH ho2 hb2.size hX2 HNE.out (wh, fr, to) #[.int .i64 wh, .int .i64 fr, .int .i64 to] rfl 103 (by first | (simp; done) | (simp; omega)) (by first | (simp; done) | (simp; omega)) 83
              have hb4 := hb2.trans b4
              simp only [List.length_append, List.length_cons, List.length_nil, Nat.zero_add, HNN.out] at r4 o4
              have HO : Hid (OwnF sthF 3 103 w4 w.heap.size _ ((O ++ [(wh, zf, zt)]) ++ [(wh, fr, to)])) := o4
              clear o4 ne4 x4 HNE ho2 b4 hb2
              go_wp2_with (at_builtin; refine wpList_append_hr rfl _ _ 83 rfl _ _ rfl rfl r4 ?_)
              go_roundw
              case rel => exact ⟨j + 1, _, by omega, by go_num, HD2, HO.out, hb4⟩
              case measure => simp [RowKit.intOf]; omega
            · skip
              go_wp2_with fail
              go_quiet (fail)
              obtain ⟨W2, hW2⟩ : ∃ V, W1.drewN nq = V := ⟨_, rfl⟩
              rw [hW2]
              have hX2 : W2.heap[wr.heap.size]? = some (Obj.cells #[.int .i64 wh, .int .i64 fr, .int .i64 to] 103) := by rw [← hW2]; exact HX1.out
              have hb2 : Below w.heap.size w W2 := by rw [← hW2]; exact below_drewN HB1.out nq
              have ho2 : OwnF sthF 3 103 W2 w.heap.size (.slice (some ⟨gz, 0, none⟩) (nn + 1) co) (O ++ [(zw, zf, zt)]) := by rw [← hW2]; exact HO1.out.below (below_drewN (Below.refl _ _) nq)
              clear hW2 HX1 HB1 HO1
              obtain ⟨bx0, bx1, bx2⟩ := box3 hX2
              obtain ⟨g4, cp4, w4, r4, o4, b4, x4, ne4⟩ := app_box kindH layH ho2 hb2.size hX2 HNE.out (wh, fr, to) #[.int .i64 wh, .int .i64 fr, .int .i64 to] rfl 103 (by first | (simp; done) | (simp; omega)) (by first | (simp; done) | (simp; omega)) 83
              have hb4 := hb2.trans b4
              simp only [List.length_append, List.length_cons, List.length_nil, Nat.zero_add, HNN.out] at r4 o4
              have HO : Hid (OwnF sthF 3 103 w4 w.heap.size _ ((O ++ [(zw, zf, zt)]) ++ [(wh, fr, to)])) := o4
              clear o4 ne4 x4 HNE ho2 b4 hb2
              go_wp2_with (at_builtin; refine wpList_append_hr rfl _ _ 83 rfl _ _ rfl rfl r4 ?_)
              go_roundw
              case rel => exact ⟨j + 1, _, by omega, by go_num, HD2, HO.out, hb4⟩
              case measure => simp [RowKit.intOf]; omega
    · obtain rfl : j = m := by omega
      have HR : Hid (wtoL who R = L) := by
        have := HZ.out
        rwa [show R.take j = R by rw [← hRl]; exact List.take_length] at this
      obtain ⟨ao, co, rfl⟩ := ho.shape
      clear HZ
      go_wp2_with fail
      go_ret
      rw [HR.out]
      exact ⟨_, _, rfl, ho, hb⟩
end Go.Proofs.YtmdnmhdimfglaaaGreatDoor

namespace Go.Proofs.YtmdnmhdimfglaaaGreatDoor
open Go.RowKit Go.Lib
set_option maxRecDepth 100000
def amongOne (who lo hi z : Int) (s : Sth) : List (Int × Int) := if s.1 = who ∧ s.2.1 < hi ∧ lo < s.2.2 then [(z + max lo s.2.1 - s.2.1, z + min hi s.2.2 - s.2.1)] else []
def amongL (who lo hi : Int) : List Sth → Int → List (Int × Int)
  | [], _ => []
  | s :: t, z => amongOne who lo hi z s ++ amongL who lo hi t (z + wid s)
theorem amongL_snoc (who lo hi : Int) (s : Sth) : ∀ (R : List Sth) (z : Int), amongL who lo hi (R ++ [s]) z = amongL who lo hi R z ++ amongOne who lo hi (z + seenL R) s
  | [], z => by simp [amongL, seenL]
  | x :: t, z => by
    simp only [List.cons_append, amongL, amongL_snoc who lo hi s t, List.append_assoc, seenL]
    rw [show z + wid x + seenL t = z + (wid x + seenL t) by omega]
theorem amongL_len (who lo hi : Int) : ∀ (R : List Sth) (z : Int), (amongL who lo hi R z).length ≤ R.length
  | [], z => by simp [amongL]
  | s :: t, z => by
    have h2 := amongL_len who lo hi t (z + wid s)
    have h1 : (amongOne who lo hi z s).length ≤ 1 := by unfold amongOne; split <;> simp
    simp only [amongL, List.length_append, List.length_cons]
    omega
set_option maxHeartbeats 8000000 in
theorem among_any {w : World} {a : Option Addr} {m cap : Nat} {R : List Sth} (h : Rw sthF 3 w a m cap R) (hm : m ≤ 16) (hR : SthOk R) (who lo hi : Int) (h1 : 0 ≤ lo ∧ lo ≤ 4194304) (h2 : 0 ≤ hi ∧ hi ≤ 4194304) :
    Calls Tryz.prog 89 #[.slice a m cap, .int .i64 who, .int .i64 lo, .int .i64 hi] w fun e w' => ∃ a' cap', e = .returned (.slice a' (amongL who lo hi R 0).length cap') ∧ OwnF rangeV 2 91 w' w.heap.size (.slice a' (amongL who lo hi R 0).length cap') (amongL who lo hi R 0) ∧ Below w.heap.size w w' := by
  have hRl := h.len
  go_enter Tryz.func89, Tryz.ntmps89
  go_wp2_with fail
  go_loopw [9, 10, 11] (fun vo vs vi W => ∃ (j : Nat) (z : Int) (L : List (Int × Int)), j ≤ m ∧ vi = .int .i64 (j : Int) ∧ vs = .int .i64 z ∧ Hid (seenL (R.take j) = z ∧ amongL who lo hi (R.take j) 0 = L) ∧ OwnF rangeV 2 91 W w.heap.size vo L ∧ Below w.heap.size w W) (fun _ _ vi _ => m - (RowKit.intOf vi).toNat)
  case atStart => exact ⟨0, 0, [], Nat.zero_le _, rfl, rfl, ⟨rfl, rfl⟩, ownF_nil _ _, Below.refl _ _⟩
  case round =>
    obtain ⟨j, z, L, hj, rfl, rfl, HZ, ho, hb⟩ := hrel
    by_cases hlt : j < m
    · obtain ⟨g, off, ⟨wh, fr, to⟩, rfl, hg, hx, hc⟩ := h.at j hlt
      have c0 : wr.cell? ⟨g, off + j * 3, none⟩ = some (.int .i64 wh) := (hb.cell (p := ⟨g, off + j * 3, none⟩) hg).trans (hc 0 _ rfl)
      have c1 : wr.cell? ⟨g, off + j * 3 + 1, none⟩ = some (.int .i64 fr) := (hb.cell (p := ⟨g, off + j * 3 + 1, none⟩) hg).trans (hc 1 _ rfl)
      have c2 : wr.cell? ⟨g, off + j * 3 + 2, none⟩ = some (.int .i64 to) := (hb.cell (p := ⟨g, off + j * 3 + 2, none⟩) hg).trans (hc 2 _ rfl)
      obtain ⟨s1, s2, s3⟩ := hR _ (List.mem_of_getElem? hx)
      obtain ⟨n1, n2⟩ := seenL_le (hR.take j)
      simp only [List.length_take] at n2
      simp only at s1 s2 s3
      rw [HZ.out.1] at n1 n2
      have n3 : z ≤ 4194304 * 16 := by omega
      have hLl : L.length ≤ 16 := by
        have := amongL_len who lo hi (R.take j) 0
        rw [HZ.out.2, List.length_take] at this
        omega
      obtain ⟨W1, hW1⟩ : ∃ W1, wr.alloc (Obj.cells #[.int .i64 wh, .int .i64 fr, .int .i64 to] 103) = W1 := ⟨_, rfl⟩
      have hX1 : W1.heap[wr.heap.size]? = some (Obj.cells #[.int .i64 wh, .int .i64 fr, .int .i64 to] 103) := by rw [← hW1]; exact heap_alloc_new _ _
      have hb1 : Below w.heap.size w W1 := by rw [← hW1]; exact hb.alloc hb.size _
      have ho1 : OwnF rangeV 2 91 W1 w.heap.size u9 L := by rw [← hW1]; exact ho.below ((Below.refl _ _).alloc (Nat.le_refl _) _)
      have hne : ∀ e, u9.ownBlock = some e → e ≠ wr.heap.size := fun e he eq => by have := ho.lt he; omega
      obtain ⟨ao, co, rfl⟩ := ho.shape
      have HD : Hid (seenL (R.take (j + 1)) = z + to - fr ∧ amongL who lo hi (R.take (j + 1)) 0 = L ++ amongOne who lo hi z (wh, fr, to)) := ⟨by rw [take_snocH hx, seenL_snoc, HZ.out.1]; simp only [wid]; omega, by rw [take_snocH hx, amongL_snoc, HZ.out.1, HZ.out.2, Int.zero_add]⟩
      obtain ⟨bx0, bx1, bx2⟩ := box3 hX1
      have hmx : ∀ ats ty (w : World), (Builtin.max_ ats ty #[.int .i64 lo, .int .i64 fr]).run Tryz.prog w = .ok (.int .i64 (max lo fr)) w := fun ats ty w => max_run ats ty lo fr w
      have hmn : ∀ ats ty (w : World), (Builtin.min_ ats ty #[.int .i64 hi, .int .i64 to]).run Tryz.prog w = .ok (.int .i64 (min hi to)) w := fun ats ty w => min_run ats ty hi to w
      obtain ⟨x, hxx⟩ : ∃ x, max lo fr = x := ⟨_, rfl⟩
      obtain ⟨y, hyy⟩ : ∃ y, min hi to = y := ⟨_, rfl⟩
      have bx : 0 ≤ x ∧ x ≤ 4194304 := by omega
      have byy : 0 ≤ y ∧ y ≤ 4194304 := by omega
      rw [hxx] at hmx
      rw [hyy] at hmn
      have e0 : IntKind.i64.wrap (z + to) = z + to := IntWalk.i64_in _ (by omega)
      have e1 : IntKind.i64.wrap (z + to - fr) = z + to - fr := IntWalk.i64_in _ (by omega)
      have e2 : IntKind.i64.wrap (z + x) = z + x := IntWalk.i64_in _ (by omega)
      have e3 : IntKind.i64.wrap (z + x - fr) = z + x - fr := IntWalk.i64_in _ (by omega)
      have e4 : IntKind.i64.wrap (z + y) = z + y := IntWalk.i64_in _ (by omega)
      have e5 : IntKind.i64.wrap (z + y - fr) = z + y - fr := IntWalk.i64_in _ (by omega)
      have HXY : Hid (max lo fr = x ∧ min hi to = y) := ⟨hxx, hyy⟩
      have ho2 : OwnF rangeV 2 91 W1 w.heap.size (.slice ao L.length co) L := ho1
      clear hc HZ n2 hb hR h ho hxx hyy ho1
      by_cases hA : wh = who ∧ fr < hi ∧ lo < to
      · obtain ⟨rfl, hA2, hA3⟩ := hA
        obtain ⟨g4, cp4, w4, r4, o4, b4, x4, ne4⟩ := app_box kindG layG ho2 hb1.size hX1 hne (z + x - fr, z + y - fr) #[.int .i64 (z + x - fr), .int .i64 (z + y - fr)] rfl 91 (by omega) (by omega) 32
        have hb4 := hb1.trans b4
        have eL : L ++ [(z + x - fr, z + y - fr)] = L ++ amongOne wh lo hi z (wh, fr, to) := by
          unfold amongOne
          rw [if_pos ⟨rfl, hA2, hA3⟩, HXY.out.1, HXY.out.2]
        rw [eL] at o4
        have HO : Hid (OwnF rangeV 2 91 w4 w.heap.size (.slice (some ⟨g4, 0, none⟩) (L.length + 1) cp4) (L ++ amongOne wh lo hi z (wh, fr, to))) := o4
        obtain ⟨by0, by1, by2⟩ := box3 x4
        clear o4 ne4 x4 hne ho2 eL b4 hb1 HXY
        go_wp2_with (at_builtin; refine wpList_append_hr rfl _ _ 32 rfl _ _ rfl rfl r4 ?_)
        go_roundw
        case rel => exact ⟨j + 1, z + to - fr, _, by omega, by go_num, rfl, HD, HO.out, hb4⟩
        case measure => simp [RowKit.intOf]; omega
      · have eL : L = L ++ amongOne who lo hi z (wh, fr, to) := by
          unfold amongOne
          rw [if_neg hA, List.append_nil]
        have HO : Hid (OwnF rangeV 2 91 W1 w.heap.size (.slice ao L.length co) (L ++ amongOne who lo hi z (wh, fr, to))) := by rw [← eL]; exact ho2
        clear hne ho2 eL HXY
        by_cases q1 : wh = who
        · subst q1
          by_cases q2 : fr < hi
          · have t3 : decide (lo < to) = false := decide_eq_false (fun hh => hA ⟨rfl, q2, hh⟩)
            go_wp2_with fail
            go_roundw
            case rel => exact ⟨j + 1, z + to - fr, _, by omega, by go_num, rfl, HD, HO.out, hb1⟩
            case measure => simp [RowKit.intOf]; omega
          · have t2 : decide (fr < hi) = false := decide_eq_false q2
            go_wp2_with fail
            go_roundw
            case rel => exact ⟨j + 1, z + to - fr, _, by omega, by go_num, rfl, HD, HO.out, hb1⟩
            case measure => simp [RowKit.intOf]; omega
        · have t1 : (wh == who) = false := beq_eq_false_iff_ne.2 q1
          go_wp2_with fail
          go_roundw
          case rel => exact ⟨j + 1, z + to - fr, _, by omega, by go_num, rfl, HD, HO.out, hb1⟩
          case measure => simp [RowKit.intOf]; omega
    · obtain rfl : j = m := by omega
      have HR : Hid (amongL who lo hi R 0 = L) := by
        have := HZ.out.2
        rwa [show R.take j = R by rw [← hRl]; exact List.take_length] at this
      obtain ⟨ao, co, rfl⟩ := ho.shape
      clear HZ
      go_wp2_with fail
      go_ret
      rw [HR.out]
      exact ⟨_, _, rfl, ho, hb⟩
end Go.Proofs.YtmdnmhdimfglaaaGreatDoor
