import Derived.Test.YtlebbffpbbjakaaDoorXeB
import Derived.Test.YtlebbffpbbjakaaDoorXcBG
namespace Go.Proofs.YtlebbffpbbjakaaDoor
open Go.RowKit Go.Lib
set_option maxRecDepth 100000

/-- A spec in memory. -/
structure SpecM where
  kd : Int
  at_ : Int
  nn : Int
  pa : Option Addr
  pm : Nat
  pc : Nat
  on : Bool
def specF (x : SpecM) : List Value := [.int .i64 x.kd, .int .i64 x.at_, .int .i64 x.nn, .slice x.pa x.pm x.pc, .bool x.on]
theorem layS : Lay specF 5 := ⟨fun _ => rfl, by decide, fun x u hu => by simp [specF] at hu; rcases hu with rfl | rfl | rfl | rfl | rfl <;> rfl⟩
theorem kindO : Kind Tryd.prog 27 42 9 96 := kind_of Tryd.underlying27 (z := .agg #[.int .i64 0, .int .i64 0, .int .i64 0, .int .i64 0, .string ⟨#[]⟩, .slice none 0 0, .int .i64 0, .int .i64 0, .bool false]) (by kernel_rfl) rfl
def OkSpecs (w : World) (S : List SpecM) : Prop := ∀ x ∈ S, ∃ zs, Rw int1 1 w x.pa x.pm x.pc zs
/-- Operations, each made behind those ahead of it. -/
def RunOk (client : Int) : Nat → Nat → List OpV → Prop
  | _, _, [] => True
  | i, t, o :: L => Made client ((i : Int) + 1) t o ∧ RunOk client (i + 1) (t + wdL o) L
def endT (t : Nat) (L : List OpV) : Nat := L.foldl (fun t o => t + wdL o) t
theorem RunOk.snoc {client : Int} : ∀ {L : List OpV} {i t : Nat} {o : OpV}, RunOk client i t L → Made client (((i + L.length : Nat) : Int) + 1) (endT t L) o → RunOk client i t (L ++ [o])
  | [], i, t, o, _, h => ⟨by simpa [endT] using h, trivial⟩
  | x :: L, i, t, o, hx, h => ⟨hx.1, RunOk.snoc hx.2 (by
      rw [show i + 1 + L.length = i + (x :: L).length by simp; omega]
      exact h)⟩
theorem endT_snoc (t : Nat) (L : List OpV) (o : OpV) : endT t (L ++ [o]) = endT t L + wdL o := by simp [endT]
theorem wdL_made {c n : Int} {t : Nat} {o : OpV} (h : Made c n t o) : wdL o ≤ 5 := by
  rcases h.kind with ⟨p, i, _, hi, rfl⟩ | ⟨k, on, _, rfl⟩ | ⟨k, l, hk, _, rfl, _⟩
  · rw [insV_wdL _ _ _ _ hi]; omega
  · unfold wdL; rw [if_neg (by simp)]; omega
  · unfold wdL; rw [if_neg (by simp only; omega)]; omega
/-- The ranges of each are memory of their own kind. -/
def OwnRs (W : World) (B : Nat) (L : List OpM) : Prop := ∀ x ∈ L, OwnF rangeV 2 85 W B (.slice x.2.1 x.2.2.1 x.2.2.2) x.1.l

set_option maxHeartbeats 8000000 in
theorem run_any {w : World} {a : Option Addr} {m cap : Nat} {S : List SpecM} (h : Rw specF 5 w a m cap S) (hS : OkSpecs w S) {client : Int} {t : Nat} (ht : t ≤ 100) (hT : Txs w) :
    Calls Tryd.prog 8 #[.slice a m cap, .int .i64 client, .int .i64 (t : Int)] w fun e w' => ∃ va vm vc L, e = .returned (.slice va vm vc) ∧ OwnF opF 9 42 w' w.heap.size (.slice va vm vc) L ∧ OwnRs w' w.heap.size L ∧ RunOk client 0 t (L.map (·.1)) ∧ L.length ≤ 12 ∧ Below w.heap.size w w' := by
  have hln := h.len
  have hro := h.room
  have hm : m ≤ 9223372036854775807 := by simp only [maxLen] at hro; omega
  have HS : Hid (OkSpecs w S) := hS
  have HH : Hid (Rw specF 5 w a m cap S) := h
  have HT : Hid (Txs w) := hT
  clear hS h hT
  go_enter Tryd.func8, Tryd.ntmps8
  go_wp2_with fail
  go_loopw [2, 7, 8, 9] (fun v2 v vi v9 W => ∃ (j : Nat) (L : List OpM) (tj : Nat), vi = .int .i64 j ∧ v2 = .int .i64 (tj : Int) ∧ j ≤ m ∧ j ≤ 12 ∧ L.length = j ∧ tj ≤ 100 + 5 * j ∧ OwnF opF 9 42 W w.heap.size v L ∧ Hid (OwnRs W w.heap.size L ∧ RunOk client 0 t (L.map (·.1)) ∧ endT t (L.map (·.1)) = tj) ∧ Below w.heap.size w W) (fun _ _ vi _ _ => m - (RowKit.intOf vi).toNat)
  case atStart => exact ⟨0, [], t, rfl, rfl, Nat.zero_le _, by omega, rfl, by omega, ownF_nil _ _, ⟨(fun x hx => by cases hx), trivial, rfl⟩, Below.refl _ _⟩
  case round =>
    obtain ⟨j, L, tj, rfl, rfl, hjm, hj12, hLl, htj, ho, HP, hb⟩ := hrel
    by_cases hj : j < m ∧ j < 12
    · obtain ⟨hj1, hj2⟩ := hj
      have b1 : (j : Int) < (m : Int) := by omega
      have b2 : (j : Int) < 12 := by omega
      have b0 : (0 : Int) ≤ (j : Int) := by omega
      obtain ⟨g, off, x, rfl, hg, hx, hc⟩ := HH.out.at j hj1
      have c0 := (hb.cell (p := ⟨g, off + j * 5 + 0, none⟩) hg).trans (hc 0 _ rfl)
      have c1 := (hb.cell (p := ⟨g, off + j * 5 + 1, none⟩) hg).trans (hc 1 _ rfl)
      have c2 := (hb.cell (p := ⟨g, off + j * 5 + 2, none⟩) hg).trans (hc 2 _ rfl)
      have c3 := (hb.cell (p := ⟨g, off + j * 5 + 3, none⟩) hg).trans (hc 3 _ rfl)
      have c4 := (hb.cell (p := ⟨g, off + j * 5 + 4, none⟩) hg).trans (hc 4 _ rfl)
      simp only [Nat.add_zero] at c0
      obtain ⟨zs, hzs⟩ := HS.out x (List.mem_of_getElem? hx)
      have HM : Hid (Calls Tryd.prog 15 #[.agg #[.int .i64 x.kd, .int .i64 x.at_, .int .i64 x.nn, .slice x.pa x.pm x.pc, .bool x.on], .agg #[.int .i64 client, .int .i64 ((j : Int) + 1)], .int .i64 (tj : Int)] wr fun e w' => ∃ o va vm vc, e = .returned (opVal o (.slice va vm vc)) ∧ Made client ((j : Int) + 1) tj o ∧ OwnF rangeV 2 85 w' wr.heap.size (.slice va vm vc) o.l ∧ Below wr.heap.size wr w') := made_any (hzs.below hb) (by omega) (HT.out.below hb)
      have ej : IntKind.i64.wrap ((j : Int) + 1) = (j : Int) + 1 := IntWalk.i64_in _ (by omega)
      clear hc hx hzs
      obtain ⟨kd, at_, nn, pa, pm, pc, on⟩ := x
      simp only at c0 c1 c2 c3 c4 HM
      obtain ⟨ao, co, rfl⟩ := ho.shape
      go_wp2_with fail
      refine HM.out.mono ?_
      rintro e2 w2 ⟨o, va, vm, vc, rfl, hmd, hor, hb2⟩
      have HW : Hid (∀ W, Calls Tryd.prog 22 #[opVal o (.slice va vm vc)] W fun e w' => e = .returned (.int .i64 ((wdL o : Nat) : Int)) ∧ Below W.heap.size W w') := fun W => lawWidth_any (by have := hmd.size; omega)
      have hwd := wdL_made hmd
      obtain ⟨wd, hwde⟩ : ∃ k, wdL o = k := ⟨_, rfl⟩
      rw [hwde] at HW hwd
      obtain ⟨tk, htk⟩ : ∃ k : Nat, tj + wd = k := ⟨_, rfl⟩
      have ek : IntKind.i64.wrap ((tj : Int) + (wd : Int)) = (tk : Int) := by rw [IntWalk.i64_in _ (by omega)]; omega
      have HO1 : Hid (Made client ((j : Int) + 1) tj o) := hmd
      have HOR : Hid (OwnF rangeV 2 85 w2 wr.heap.size (.slice va vm vc) o.l) := hor
      have hb3 := hb.trans (hb2.mono hb.size)
      have ho2 := ho.below hb2
      have HP2 : Hid (OwnRs w2 w.heap.size L) := fun y hy => (HP.out.1 y hy).below hb2
      have HRk : Hid (RunOk client 0 t (L.map (·.1)) ∧ endT t (L.map (·.1)) = tj) := HP.out.2
      clear hmd hor HM ho HP c0 c1 c2 c3 c4
      obtain ⟨oc, on_, ok, op_, os, ol, otc, otn, oo⟩ := o
      simp only [opVal] at *
      go_upto_region 6 with fail
      obtain ⟨W3, hW3⟩ : ∃ W3, w2.alloc (Obj.cells #[.int .i64 oc, .int .i64 on_, .int .i64 ok, .int .i64 op_, .string os, .slice va vm vc, .int .i64 otc, .int .i64 otn, .bool oo] 42) = W3 := ⟨_, rfl⟩
      have hX3 : W3.heap[w2.heap.size]? = some (Obj.cells #[.int .i64 oc, .int .i64 on_, .int .i64 ok, .int .i64 op_, .string os, .slice va vm vc, .int .i64 otc, .int .i64 otn, .bool oo] 42) := by rw [← hW3]; exact alloc_last _ _ _ rfl
      have h23 : Below w2.heap.size w2 W3 := by rw [← hW3]; exact (Below.refl _ _).alloc (Nat.le_refl _) _
      rw [hW3]
      clear hW3
      obtain ⟨bo, hbo⟩ : ∃ k, w2.heap.size = k := ⟨_, rfl⟩
      rw [hbo] at hX3 ⊢
      obtain ⟨k0, k1, k2, k3, k4, k5, k6, k7, k8⟩ := box9 hX3
      go_wp2_with fail
      refine (HW.out _).mono ?_
      rintro e2 w4 ⟨rfl, hb4⟩
      have hX4 := (hb4.block _ (Array.getElem?_eq_some_iff.1 hX3).1).trans hX3
      have h24 := h23.trans (hb4.mono h23.size)
      have hb5 := hb3.trans (h24.mono hb3.size)
      have ho4 := ho2.below h24
      have HP4 : Hid (OwnRs w4 w.heap.size L) := fun y hy => (HP2.out y hy).below h24
      have HOR4 : Hid (OwnF rangeV 2 85 w4 w.heap.size (.slice va vm vc) ol) := (HOR.out.below h24).mono hb.size
      clear k0 k1 k2 k3 k4 k5 k6 k7 k8 hX3 hb4 h23 ho2 HP2 HOR HW h24
      obtain ⟨k0, k1, k2, k3, k4, k5, k6, k7, k8⟩ := box9 hX4
      obtain ⟨g5, cap5, w6, hr, ho6, hb6, hkp, _, _⟩ := appendF_one kindO layO ho4 hb5.size (⟨oc, on_, ok, op_, os, ol, otc, otn, oo⟩, (va, vm, vc)) #[.int .i64 oc, .int .i64 on_, .int .i64 ok, .int .i64 op_, .string os, .slice va vm vc, .int .i64 otc, .int .i64 otn, .bool oo] rfl 42 (by omega) (by omega) 27
      have hb7 := hb5.trans hb6
      rw [hLl] at hr ho6
      have HO6 : Hid (OwnF opF 9 42 w6 w.heap.size (.slice (some ⟨g5, 0, none⟩) (j + 1) cap5) (L ++ [(⟨oc, on_, ok, op_, os, ol, otc, otn, oo⟩, (va, vm, vc))])) := ho6
      have HKEEP : Hid (∀ (v : Value) (l : List (Int × Int)), OwnF rangeV 2 85 w4 w.heap.size v l → OwnF rangeV 2 85 w6 w.heap.size v l) := fun v l hv => by
        refine ⟨hv.1, ?_⟩
        rcases hv.2 with h0 | ⟨gx, cx, cur, e, h1, hh, rest⟩
        · exact .inl h0
        · refine .inr ⟨gx, cx, cur, e, h1, ?_, rest⟩
          rw [hkp gx (Array.getElem?_eq_some_iff.1 hh).1 (fun e3 => ?_)]
          · exact hh
          · rcases ho4.2 with ⟨e4, _⟩ | ⟨gy, cy, cur2, e4, _, hh2, _⟩
            · rw [e4] at e3; simp [Value.ownBlock] at e3
            · rw [e4] at e3
              simp [Value.ownBlock] at e3
              subst e3
              rw [hh] at hh2
              simp at hh2
      have HFIN : Hid (OwnRs w6 w.heap.size (L ++ [(⟨oc, on_, ok, op_, os, ol, otc, otn, oo⟩, (va, vm, vc))]) ∧ RunOk client 0 t ((L ++ [((⟨oc, on_, ok, op_, os, ol, otc, otn, oo⟩ : OpV), ((va, vm, vc) : Option Addr × Nat × Nat))]).map (·.1)) ∧ endT t ((L ++ [((⟨oc, on_, ok, op_, os, ol, otc, otn, oo⟩ : OpV), ((va, vm, vc) : Option Addr × Nat × Nat))]).map (·.1)) = tk) := by
        refine ⟨fun y hy => ?_, ?_, ?_⟩
        · rcases List.mem_append.1 hy with hy | hy
          · exact HKEEP.out _ _ (HP4.out y hy)
          · simp only [List.mem_singleton] at hy
            subst hy
            exact HKEEP.out _ _ HOR4.out
        · rw [List.map_append]
          refine RunOk.snoc HRk.out.1 ?_
          rw [HRk.out.2, List.length_map, hLl, Nat.zero_add]
          exact HO1.out
        · rw [List.map_append]
          show endT t (L.map (·.1) ++ [_]) = tk
          rw [endT_snoc, HRk.out.2, hwde, htk]
      clear ho4 ho6 hb5 hb6 hkp HKEEP HP4 HOR4 HO1 HRk hX4
      go_wp2_with (at_builtin; refine wpList_append_hr rfl _ _ 27 rfl _ _ rfl rfl hr ?_)
      go_roundw
      case rel => exact ⟨j + 1, _, tk, by go_num, rfl, by omega, by omega, by simp [hLl], by omega, HO6.out, HFIN, hb7⟩
      case measure => simp [RowKit.intOf]; omega
    · have HF : Hid (OwnRs wr w.heap.size L ∧ RunOk client 0 t (L.map (·.1))) := ⟨HP.out.1, HP.out.2.1⟩
      obtain ⟨ao, co, rfl⟩ := ho.shape
      rw [hLl] at ho ⊢
      have HO : Hid (OwnF opF 9 42 wr w.heap.size (.slice ao j co) L) := ho
      have b0 : (0 : Int) ≤ (j : Int) := by omega
      clear ho HP
      by_cases hj1 : j < m
      · have b1 : (j : Int) < (m : Int) := by omega
        have b2 : decide ((j : Int) < 12) = false := decide_eq_false (by omega)
        have b2' : decide (j < 12) = false := decide_eq_false (by omega)
        go_wp2_with fail
        go_ret
        exact ⟨_, _, _, L, rfl, HO.out, HF.out.1, HF.out.2, by omega, hb⟩
      · have b1 : decide ((j : Int) < (m : Int)) = false := decide_eq_false (by omega)
        have b1' : decide (j < m) = false := decide_eq_false hj1
        go_wp2_with fail
        go_ret
        exact ⟨_, _, _, L, rfl, HO.out, HF.out.1, HF.out.2, by omega, hb⟩
end Go.Proofs.YtlebbffpbbjakaaDoor
