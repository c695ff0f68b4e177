import Derived.Test.YtohfckcikincoacSpIi
import Derived.Deep.RegionHeld3
namespace Go.Proofs.Ytohfckcikincoac
open Go.RowKit Go.Lib
set_option maxRecDepth 100000

/-- A slice of bool in the world that reads as bs. -/
structure RngB (w : World) (a : Option Addr) (n cap : Nat) (bs : List Bool) : Prop where
  len : bs.length = n
  room : n ≤ cap ∧ cap ≤ maxLen
  cells : ∀ j, j < n → ∃ g off, a = some ⟨g, off, none⟩ ∧ g < w.heap.size ∧ w.cell? ⟨g, off + j, none⟩ = some (.bool (bs.getD j false))
/-- The pieces that are in, put together: the first k of them. -/
def joinedL (cuts : List Int) (bs : List Bool) : Nat → List (Int × Int)
  | 0 => []
  | k + 1 => if bs.getD k false = true then addedL (joinedL cuts bs k) (cuts.getD k 0) (cuts.getD (k + 1) 0) else joinedL cuts bs k
theorem joinedL_length (cuts : List Int) (bs : List Bool) (k : Nat) : (joinedL cuts bs k).length ≤ k := by
  induction k with
  | zero => simp [joinedL]
  | succ k ih =>
    rw [joinedL]
    split
    · have := addedL_length (joinedL cuts bs k) (cuts.getD k 0) (cuts.getD (k + 1) 0); omega
    · omega
theorem joinedL_last {cuts : List Int} (hs : Asc cuts) (bs : List Bool) (k : Nat) (hk : k < cuts.length) (r : Int × Int) (h : (joinedL cuts bs k).getLast? = some r) : r.2 ≤ cuts.getD k 0 := by
  induction k generalizing r with
  | zero => simp [joinedL] at h
  | succ k ih =>
    have hle : cuts.getD k 0 ≤ cuts.getD (k + 1) 0 := asc_get hs (by omega) hk
    rw [joinedL] at h
    generalize cuts.getD (k + 1) 0 = y at *
    generalize cuts.getD k 0 = x at *
    split at h
    · unfold addedL at h
      split at h
      · have := ih (by omega) r h; omega
      · split at h
        · simp at h; subst h; exact Int.le_refl _
        · rename_i r0 h0
          have := ih (by omega) r0 h0
          split at h
          · simp at h; subst h; simp only; omega
          · simp at h; subst h; exact Int.le_refl _
    · have := ih (by omega) r h; omega
theorem step_append_e2 {P : Program} {ops : Array Oper} {o : Oper} {a : Act} {w : World} {K : Act → World → Prop} {Q : Exit → Act → World → Prop} {E : Prop} {R : Value → World → Prop} (hgd : o.guard = none) (s x : Operand) (t : TypeId)
    (ho : o.op = .call { callee := .builtin .append, args := #[s, x], argTypes := #[t, t] }) (v u : Value) (hs : a.eval s = v) (hx : a.eval x = u)
    (hex : ∃ v' w', (Builtin.append_ #[t, t] o.type #[v, u]).run P w = .ok v' w' ∧ R v' w') (h : ∀ v' w', R v' w' → K (a.put o.dst v') w') :
    if Region.wanted o (yielded ops a.tmps) = true then Oper.wp P o a w K Q else E := by
  obtain ⟨v', w', hr, hR⟩ := hex
  have hw : Region.wanted o (yielded ops a.tmps) = true := by simp [Region.wanted, hgd]
  rw [if_pos hw]
  unfold Oper.wp execOp
  simp only [ho, resolve, invoke, builtin, Sem.run_bind, Sem.run_pure, Result.andThen_ok, List.map_toArray, List.map_cons, List.map_nil, hs, hx, hr]
  exact h v' w' hR

set_option maxHeartbeats 2000000 in
theorem joined_any {w : World} {a : Option Addr} {n cap : Nat} {cuts : List Int} (h : RngI w a n cap cuts) (hs : Asc cuts) {b : Option Addr} {capb : Nat} {bs : List Bool} (hk : RngB w b n capb bs) (hn : n ≤ 1048576) :
    Calls Try.prog 61 #[.slice a n cap, .slice b n capb] w fun e w' => ∃ o no co, e = .returned (.slice o no co) ∧ Own w' w.heap.size (.slice o no co) (joinedL cuts bs (n - 1)) ∧ Below w.heap.size w w' := by
  have hln := h.len
  have hlb := hk.len
  go_enter Try.func61, Try.ntmps61
  go_wp2_with fail
  go_loopw [5, 6] (fun vo vi w' => ∃ (j : Nat) (o : Option Addr) (no co : Nat), (j = 0 ∨ j + 1 ≤ n) ∧ no ≤ j ∧ vi = .int .i64 j ∧ vo = .slice o no co ∧ Own w' w.heap.size (.slice o no co) (joinedL cuts bs j) ∧ Below w.heap.size w w') (fun _ i _ => n - (RowKit.intOf i).toNat)
  case atStart => exact ⟨0, none, 0, 0, .inl rfl, Nat.le_refl _, rfl, rfl, own_nil _ _, Below.refl _ _⟩
  case round =>
    obtain ⟨j, o, no, co, hj0, hno, rfl, rfl, ho, hb⟩ := hrel
    have hsz := hb.size
    by_cases hj : j + 1 < n
    · obtain ⟨g, off, rfl, hg, hc⟩ := h.cells j (by omega)
      obtain ⟨g', off', e', _, hd⟩ := h.cells (j + 1) (by omega)
      cases e'
      obtain ⟨g2, off2, rfl, hg2, hc2⟩ := hk.cells j (by omega)
      have c0 := (hb.cell (p := ⟨g, off + j, none⟩) hg).trans hc
      have c1 := (hb.cell (p := ⟨g, off + (j + 1), none⟩) hg).trans hd
      have c2 := (hb.cell (p := ⟨g2, off2 + j, none⟩) hg2).trans hc2
      have hle : cuts.getD j 0 ≤ cuts.getD (j + 1) 0 := asc_get hs (by omega) (by omega)
      have hlast := joinedL_last hs bs j (by omega)
      have hJ : Hid (joinedL cuts bs (j + 1) = if bs.getD j false = true then addedL (joinedL cuts bs j) (cuts.getD j 0) (cuts.getD (j + 1) 0) else joinedL cuts bs j) := rfl
      generalize joinedL cuts bs j = L at *
      generalize cuts.getD (j + 1) 0 = y at *
      generalize cuts.getD j 0 = x at *
      generalize bs.getD j false = t at *
      have hlen := ho.rng.len
      have HC : Hid (w.cell? ⟨g, off + j, none⟩ = some (.int .i64 x) ∧ w.cell? ⟨g, off + (j + 1), none⟩ = some (.int .i64 y)) := ⟨hc, hd⟩
      clear hc hd hc2 hk h hs
      cases t with
      | false =>
        have HJ : Hid (joinedL cuts bs (j + 1) = L) := hJ.out.trans (if_neg (by decide))
        clear hJ hlast
        go_wp2_with fail
        go_quiet (fail)
        go_wp2_with fail
        go_roundw
        case rel => exact ⟨j + 1, o, no, co, .inr (by omega), by omega, by go_num, rfl, HJ.out ▸ ho.below (below_drewN (Below.refl _ _) _), below_drewN hb _⟩
        case measure => simp [RowKit.intOf]; omega
      | true =>
        have HJ : Hid (joinedL cuts bs (j + 1) = addedL L x y) := hJ.out.trans (if_pos rfl)
        clear hJ
        by_cases hxy : x = y
        · subst hxy
          have HJ2 : Hid (joinedL cuts bs (j + 1) = L) := HJ.out.trans (by unfold addedL; rw [if_pos (Int.le_refl _)])
          clear HJ hlast
          go_wp2_with fail
          go_quiet (fail)
          go_wp2_with fail
          go_roundw
          case rel => exact ⟨j + 1, o, no, co, .inr (by omega), by omega, by go_num, rfl, HJ2.out ▸ ho.below (below_drewN (Below.refl _ _) _), below_drewN hb _⟩
          case measure => simp [RowKit.intOf]; omega
        · have h1 : ¬ y ≤ x := by omega
          have dxy : (x == y) = false := by simp [hxy]
          have HAP : ∀ W, Below wr.heap.size wr W → ∃ v' w', (Builtin.append_ #[31, 31] 31 #[.slice o no co, .slice (some ⟨W.heap.size, 0, none⟩) 1 1]).run Try.prog (W.alloc (.cells #[.int .i64 x, .int .i64 y] 30)) = .ok v' w' ∧ (∃ a'' co'', v' = .slice a'' (no + 1) co'' ∧ Own w' w.heap.size (.slice a'' (no + 1) co'') (L ++ [(x, y)]) ∧ Below w.heap.size w w') := fun W hW => by
            have hB := hb.trans (hW.mono hsz)
            obtain ⟨a'', co'', w', hr, ho', hb', _, _⟩ := append_one (w := W) (B := w.heap.size) (ho.below hW) hB.size x y (by omega) 31
            exact ⟨_, w', hr, a'', co'', rfl, ho', hB.trans hb'⟩
          rcases List.eq_nil_or_concat L with rfl | ⟨l0, ⟨p, q⟩, hl⟩
          · have HJ2 : Hid (joinedL cuts bs (j + 1) = [] ++ [(x, y)]) := HJ.out.trans (by unfold addedL; rw [if_neg h1]; rfl)
            simp only [List.length_nil] at hlen
            subst hlen
            clear HJ hlast h1 hxy
            have HAP2 : Hid _ := HAP
            clear HAP
            go_wp2_with fail
            go_quiet (fail)
            go_wp2_with fail
            go_quiet (fail)
            go_wp2_with fail
            rename_i nq0
            generalize hW0 : (wr.drewN nq0).drewN nq = W0
            have B0 : Below wr.heap.size wr W0 := by rw [← hW0]; exact below_drewN (below_drewN (Below.refl _ _) _) _
            have hgr : g < wr.heap.size := by omega
            have d0 := (B0.cell (p := ⟨g, off + j, none⟩) hgr).trans c0
            have d1 := (B0.cell (p := ⟨g, off + (j + 1), none⟩) hgr).trans c1
            have HG : Hid (∀ W, Below w.heap.size w W → W.cell? ⟨g, off + j, none⟩ = some (.int .i64 x) ∧ W.cell? ⟨g, off + (j + 1), none⟩ = some (.int .i64 y)) := fun W hW => ⟨(hW.cell (p := ⟨g, off + j, none⟩) hg).trans HC.out.1, (hW.cell (p := ⟨g, off + (j + 1), none⟩) hg).trans HC.out.2⟩
            have i0 : (0 : Int) ≤ (j : Int) := by omega
            have i1 : (j : Int) < (n : Int) := by omega
            have i2 : j < n := by omega
            have i3 : (0 : Int) ≤ (j : Int) + 1 := by omega
            have i4 : IntKind.i64.wrap ((j : Int) + 1) = (j : Int) + 1 := IntWalk.i64_in _ (by omega)
            clear c0 c1 c2 hW0 HC
            go_region_held3 (fun W => W.cell? ⟨g, off + j, none⟩ = some (.int .i64 x) ∧ W.cell? ⟨g, off + (j + 1), none⟩ = some (.int .i64 y)) (first | exact ⟨d0, d1⟩ | exact hkk | go_keep)
              ((refine step_append_e2 (by rfl) _ _ 31 (by rfl) (.slice o 0 co) (.slice (some ⟨W0.heap.size, 0, none⟩) 1 1) (by rfl) (by rfl) (HAP2.out W0.drew ⟨B0.os, B0.tape, B0.output, B0.size, B0.block⟩) ?_; rintro v' w' ⟨a'', co'', rfl, ho'', hb''⟩; have hkk := HG.out _ hb''))
            go_wp2_with fail
            go_roundw
            case rel => exact ⟨j + 1, a'', _, co'', .inr (by omega), by omega, by go_num, rfl, HJ2.out ▸ ho'', hb''⟩
            case measure => simp [RowKit.intOf]; omega
          · rw [List.concat_eq_append] at hl
            subst hl
            simp only [List.length_append, List.length_cons, List.length_nil] at hlen
            obtain ⟨g3, rfl, hBg, hg3, hfz⟩ := own_ptr ho (by omega)
            have hf1 := hfz (l0.length * 2 + 1)
            obtain ⟨g', off', hga, _, hc0, hc1⟩ := ho.rng.cells l0.length (by omega)
            cases hga
            rw [getD_snoc, Nat.zero_add] at hc0 hc1
            simp only at hc0 hc1
            subst hlen
            have hqx : q ≤ x := hlast (p, q) (by simp)
            by_cases h2 : q = x
            · subst h2
              have HJ2 : Hid (joinedL cuts bs (j + 1) = l0 ++ [(p, y)]) := HJ.out.trans (by
                unfold addedL; rw [if_neg h1]; simp; omega)
              have HO2 : Hid (∀ m, Own ((wr.drewN m).setCell ⟨g3, l0.length * 2 + 1, none⟩ (.int .i64 y)) w.heap.size (.slice (some ⟨g3, 0, none⟩) (l0.length + 1) co) (l0 ++ [(p, y)])) := fun m => own_set (ho.below (below_drewN (Below.refl _ _) m)) y
              clear HJ hlast h1 hxy HAP hfz
              go_wp2_with fail
              go_quiet (fail)
              go_wp2_with fail
              go_quiet (fail)
              go_wp2_with fail
              go_roundw
              case rel => exact ⟨j + 1, _, _, _, .inr (by omega), by omega, by go_num, rfl, HJ2.out ▸ HO2.out _, (below_drewN hb _).setCell (p := ⟨g3, l0.length * 2 + 1, none⟩) hBg _⟩
              case measure => simp [RowKit.intOf]; omega
            · have dqx : (q == x) = false := by simp [h2]
              have HJ2 : Hid (joinedL cuts bs (j + 1) = l0 ++ [(p, q)] ++ [(x, y)]) := HJ.out.trans (by
                unfold addedL; rw [if_neg h1]; simp; omega)
              clear HJ hlast h1 hxy h2 hfz
              have HAP2 : Hid _ := HAP
              clear HAP
              go_wp2_with fail
              go_quiet (fail)
              go_wp2_with fail
              go_quiet (fail)
              go_wp2_with fail
              rename_i nq0
              generalize hW0 : (wr.drewN nq0).drewN nq = W0
              have B0 : Below wr.heap.size wr W0 := by rw [← hW0]; exact below_drewN (below_drewN (Below.refl _ _) _) _
              have hgr : g < wr.heap.size := by omega
              have d0 := (B0.cell (p := ⟨g, off + j, none⟩) hgr).trans c0
              have d1 := (B0.cell (p := ⟨g, off + (j + 1), none⟩) hgr).trans c1
              have HG : Hid (∀ W, Below w.heap.size w W → W.cell? ⟨g, off + j, none⟩ = some (.int .i64 x) ∧ W.cell? ⟨g, off + (j + 1), none⟩ = some (.int .i64 y)) := fun W hW => ⟨(hW.cell (p := ⟨g, off + j, none⟩) hg).trans HC.out.1, (hW.cell (p := ⟨g, off + (j + 1), none⟩) hg).trans HC.out.2⟩
              have i0 : (0 : Int) ≤ (j : Int) := by omega
              have i1 : (j : Int) < (n : Int) := by omega
              have i2 : j < n := by omega
              have i3 : (0 : Int) ≤ (j : Int) + 1 := by omega
              have i4 : IntKind.i64.wrap ((j : Int) + 1) = (j : Int) + 1 := IntWalk.i64_in _ (by omega)
              clear c0 c1 c2 hW0 HC
              go_region_held3 (fun W => W.cell? ⟨g, off + j, none⟩ = some (.int .i64 x) ∧ W.cell? ⟨g, off + (j + 1), none⟩ = some (.int .i64 y)) (first | exact ⟨d0, d1⟩ | exact hkk | go_keep)
                ((refine step_append_e2 (by rfl) _ _ 31 (by rfl) (.slice (some ⟨g3, 0, none⟩) (l0.length + 1) co) (.slice (some ⟨W0.heap.size, 0, none⟩) 1 1) (by rfl) (by rfl) (HAP2.out W0.drew ⟨B0.os, B0.tape, B0.output, B0.size, B0.block⟩) ?_; rintro v' w' ⟨a'', co'', rfl, ho'', hb''⟩; have hkk := HG.out _ hb''))
              go_wp2_with fail
              go_roundw
              case rel => exact ⟨j + 1, a'', _, co'', .inr (by omega), by omega, by go_num, rfl, HJ2.out ▸ ho'', hb''⟩
              case measure => simp [RowKit.intOf]; omega
    · have e : n - 1 = j := by omega
      go_wp2_with fail
      go_ret
      exact ⟨_, _, _, rfl, by rw [e]; exact ho, hb⟩
end Go.Proofs.Ytohfckcikincoac
