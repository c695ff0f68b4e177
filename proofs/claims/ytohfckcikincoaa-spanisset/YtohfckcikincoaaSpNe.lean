import Derived.Test.YtohfckcikincoaaSpInt
import Derived.Test.YtohfckcikincoaaSpIn
import Derived.Deep.RegionHeld3
namespace Go.Proofs.Ytohfckcikincoaa
open Go.RowKit Go.Lib
set_option maxRecDepth 100000

/-- An append as one step of a region that draws, told by what it leaves. -/
theorem step_append_ex {P : Program} {ops : Array Oper} {o : Oper} {a : Act} {w : World} {K : Act → World → Prop} {Q : Exit → Act → World → Prop} {E : Prop} {R : Value → World → Prop} (hgd : o.guard = none) (s x : Operand) (t : TypeId)
    (ho : o.op = .call { callee := .builtin .append, args := #[s, x], argTypes := #[t, t] }) (v u : Value) (hs : a.eval s = v) (hx : a.eval x = u)
    (hex : ∃ v' w', (Builtin.append_ #[t, t] o.type #[v, u]).run P w = .ok v' w' ∧ R v' w') (h : ∀ v' w', R v' w' → K (a.put o.dst v') w') :
    if Region.wanted o (yielded ops a.tmps) = true then Oper.wp P o a w K Q else E := by
  obtain ⟨v', w', hr, hR⟩ := hex
  have hw : Region.wanted o (yielded ops a.tmps) = true := by simp [Region.wanted, hgd]
  rw [if_pos hw]
  unfold Oper.wp execOp
  simp only [ho, resolve, invoke, builtin, Sem.run_bind, Sem.run_pure, Result.andThen_ok, List.map_toArray, List.map_cons, List.map_nil, hs, hx, hr]
  exact h v' w' hR

theorem RowI.rng {W : World} {a : Option Addr} {n cap : Nat} {zs : List Int} (h : RowI W (.slice a n cap) zs) (hnc : n ≤ cap) : RngI W a n cap zs := by
  rcases h with ⟨a', cap', e, hc, rfl⟩ | ⟨b, off, len, cap', e, hc, hl, hb, hcl⟩
  · simp only [Value.slice.injEq] at e
    obtain ⟨rfl, rfl, rfl⟩ := e
    exact ⟨rfl, ⟨hnc, hc⟩, fun j hj => absurd hj (Nat.not_lt_zero _)⟩
  · simp only [Value.slice.injEq] at e
    obtain ⟨rfl, rfl, rfl⟩ := e
    exact ⟨hl, hc, fun j hj => ⟨b, off, rfl, hb, hcl j hj⟩⟩
set_option maxHeartbeats 400000 in
theorem copiedInts_any {w : World} {a : Option Addr} {n cap : Nat} {zs : List Int} (h : RngI w a n cap zs) (hn : n * 8 ≤ 140737488355328) :
    Calls Try.prog 31 #[.slice a n cap] w fun e w' => ∃ a' cap', e = .returned (.slice a' n cap') ∧ OwnI w' w.heap.size (.slice a' n cap') zs ∧ Below w.heap.size w w' := by
  obtain ⟨a', cap', w', hr, ho, hb⟩ := appendI (ownI_nil w w.heap.size) (Nat.le_refl _) h (by omega) 23
  simp only [Nat.zero_add, List.nil_append] at hr ho
  go_enter Try.func31, Try.ntmps31
  go_wp2_with (at_builtin; refine wpList_append_hr rfl _ _ 23 rfl _ _ rfl rfl hr ?_)
  go_ret
  exact ⟨_, _, rfl, ho, hb⟩

theorem OwnI.heap {w w' : World} {B : Nat} {v : Value} {l : List Int} (h : OwnI w B v l) (hw : w'.heap = w.heap) : OwnI w' B v l := by
  unfold OwnI World.ownsRow at *
  rw [hw]
  exact h
/-- What 'near' gives: some numbers, not many more. -/
def NearP (w : World) (m : Nat) (e : Ending) (w' : World) : Prop := ∃ o no co zs, e = .returned (.slice o no co) ∧ OwnI w' w.heap.size (.slice o no co) zs ∧ Below w.heap.size w w' ∧ no ≤ m + 246
set_option maxHeartbeats 4000000 in
theorem near_any {w : World} {a : Option Addr} {n cap : Nat} {p : List (Int × Int)} (h : Rng w a n cap p) (hp : Parts p) (hn : (n : Int) ≤ 32768) {b : Option Addr} {m capb : Nat} {ys : List Int} (hy : RngI w b m capb ys) (hm : (m + 246) * 8 ≤ 140737488355328) :
    Calls Try.prog 30 #[.slice a n cap, .slice b m capb] w fun e w' => NearP w m e w' := by
  have hlen := h.len
  have HP : Hid (Parts p) := hp
  clear hp
  go_enter Try.func30, Try.ntmps30
  go_wp2_with fail
  go_loopw [5, 6] (fun vo vi w' => ∃ (j : Nat) (o : Option Addr) (no co : Nat) (out : List Int), j ≤ n ∧ vi = .int .i64 j ∧ vo = .slice o no co ∧ no ≤ 6 * j ∧ (no ≤ 240 ∨ (j = n ∧ no ≤ 246)) ∧ OwnI w' w.heap.size (.slice o no co) out ∧ Below w.heap.size w w') (fun _ i _ => n - (RowKit.intOf i).toNat)
  case atStart => exact ⟨0, none, 0, 0, [], Nat.zero_le _, rfl, rfl, by omega, .inl (by omega), ownI_nil _ _, Below.refl _ _⟩
  case round =>
    obtain ⟨j, o, no, co, out, hjn, rfl, rfl, hb1, hb2, ho, hb⟩ := hrel
    have hsz := hb.size
    by_cases hj : j < n
    · obtain ⟨g, off, rfl, hg, hc, hd⟩ := h.cells j hj
      have hpp := HP.out _ (getD_mem' (show j < p.length by omega))
      have hno : no ≤ 240 := by omega
      have hcs : (j : Int) < 40 ∨ (40 ≤ (j : Int) ∧ ((j : Int) == (n : Int) - 1) = true ∧ j + 1 = n) ∨ (40 ≤ (j : Int) ∧ ((j : Int) == (n : Int) - 1) = false) := by
        by_cases h1 : (j : Int) < 40
        · exact .inl h1
        · cases h2 : ((j : Int) == (n : Int) - 1)
          · exact .inr (.inr ⟨by omega, rfl⟩)
          · refine .inr (.inl ⟨by omega, rfl, ?_⟩)
            simp at h2
            omega
      generalize (p.getD j (0, 0)).1 = x at *
      generalize (p.getD j (0, 0)).2 = y at *
      rcases hcs with k1 | ⟨k1, k2, k3⟩ | ⟨k1, k2⟩
      · go_wp2_with fail
        go_loopw [5, 7] (fun vo vd w' => ∃ (d : Int) (o' : Option Addr) (no' co' : Nat) (out' : List Int), -1 ≤ d ∧ d ≤ 2 ∧ vd = .int .i64 d ∧ vo = .slice o' no' co' ∧ (no' : Int) ≤ no + 2 * (d + 1) ∧ OwnI w' w.heap.size (.slice o' no' co') out' ∧ Below w.heap.size w w') (fun _ d _ => (2 - RowKit.intOf d).toNat)
        case atStart => exact ⟨-1, o, no, co, out, by omega, by omega, rfl, rfl, by omega, ho, hb⟩
        case round =>
          clear ho hb hsz
          obtain ⟨d, o', no', co', out', d1, d2, rfl, rfl, hnn, ho, hb⟩ := hrel
          have hsz := hb.size
          by_cases hd1 : d ≤ 1
          · have c0 := (hb.cell (p := ⟨g, off + j * 2, none⟩) hg).trans hc
            have c1 := (hb.cell (p := ⟨g, off + j * 2 + 1, none⟩) hg).trans hd
            have HAP : ∀ W : World, W.heap = wr.heap → Below w.heap.size w W → ∃ v' w', (Builtin.append_ #[23, 23] 23 #[.slice o' no' co', .slice (some ⟨W.heap.size, 0, none⟩) 2 2]).run Try.prog (W.alloc (.cells #[.int .i64 (x + d), .int .i64 (y + d)] 3)) = .ok v' w' ∧ (∃ a'' co'', v' = .slice a'' (no' + 2) co'' ∧ OwnI w' w.heap.size (.slice a'' (no' + 2) co'') (out' ++ [x + d, y + d]) ∧ Below w.heap.size w w') := fun W hW hBW => by
              obtain ⟨a'', co'', w', hr, ho', hb'⟩ := appendI_two (w := W) (B := w.heap.size) (ho.heap hW) hBW.size (x + d) (y + d) (by omega) 23
              exact ⟨_, w', hr, a'', co'', rfl, ho', hBW.trans hb'⟩
            obtain ⟨p1, p2, p3⟩ := hpp
            have u1 : IntKind.i64.wrap (x + d) = x + d := IntWalk.i64_in _ (by omega)
            have u2 : IntKind.i64.wrap (y + d) = y + d := IntWalk.i64_in _ (by omega)
            go_wp2_with fail
            go_region_held3 (fun W => W.cell? ⟨g, off + j * 2, none⟩ = some (.int .i64 x) ∧ W.cell? ⟨g, off + j * 2 + 1, none⟩ = some (.int .i64 y)) (first | exact ⟨c0, c1⟩ | exact ⟨k0, k1⟩ | go_keep)
              ((refine step_append_ex (by rfl) _ _ 23 (by rfl) (.slice o' no' co') (.slice (some ⟨wr.heap.size, 0, none⟩) 2 2) (by rfl) (by rfl) (HAP wr.drew rfl ⟨hb.os, hb.tape, hb.output, hb.size, hb.block⟩) ?_; rintro v' w' ⟨a'', co'', rfl, ho'', hb''⟩; have k0 := (hb''.cell (p := ⟨g, off + j * 2, none⟩) hg).trans hc; have k1 := (hb''.cell (p := ⟨g, off + j * 2 + 1, none⟩) hg).trans hd))
            go_wp2_with fail
            go_roundw
            case rel => exact ⟨d + 1, a'', no' + 2, co'', _, by omega, by omega, by go_num, rfl, by omega, ho'', hb''⟩
            case measure => simp [RowKit.intOf]; omega
          · have dd : decide (d ≤ 1) = false := decide_eq_false hd1
            go_wp2_with fail
            go_roundw
            case rel => exact ⟨j + 1, o', no', co', out', by omega, by go_num, rfl, by omega, by omega, ho, hb⟩
            case measure => simp [RowKit.intOf]; omega
      · go_wp2_with fail
        go_loopw [5, 7] (fun vo vd w' => ∃ (d : Int) (o' : Option Addr) (no' co' : Nat) (out' : List Int), -1 ≤ d ∧ d ≤ 2 ∧ vd = .int .i64 d ∧ vo = .slice o' no' co' ∧ (no' : Int) ≤ no + 2 * (d + 1) ∧ OwnI w' w.heap.size (.slice o' no' co') out' ∧ Below w.heap.size w w') (fun _ d _ => (2 - RowKit.intOf d).toNat)
        case atStart => exact ⟨-1, o, no, co, out, by omega, by omega, rfl, rfl, by omega, ho, hb⟩
        case round =>
          clear ho hb hsz
          obtain ⟨d, o', no', co', out', d1, d2, rfl, rfl, hnn, ho, hb⟩ := hrel
          have hsz := hb.size
          by_cases hd1 : d ≤ 1
          · have c0 := (hb.cell (p := ⟨g, off + j * 2, none⟩) hg).trans hc
            have c1 := (hb.cell (p := ⟨g, off + j * 2 + 1, none⟩) hg).trans hd
            have HAP : ∀ W : World, W.heap = wr.heap → Below w.heap.size w W → ∃ v' w', (Builtin.append_ #[23, 23] 23 #[.slice o' no' co', .slice (some ⟨W.heap.size, 0, none⟩) 2 2]).run Try.prog (W.alloc (.cells #[.int .i64 (x + d), .int .i64 (y + d)] 3)) = .ok v' w' ∧ (∃ a'' co'', v' = .slice a'' (no' + 2) co'' ∧ OwnI w' w.heap.size (.slice a'' (no' + 2) co'') (out' ++ [x + d, y + d]) ∧ Below w.heap.size w w') := fun W hW hBW => by
              obtain ⟨a'', co'', w', hr, ho', hb'⟩ := appendI_two (w := W) (B := w.heap.size) (ho.heap hW) hBW.size (x + d) (y + d) (by omega) 23
              exact ⟨_, w', hr, a'', co'', rfl, ho', hBW.trans hb'⟩
            obtain ⟨p1, p2, p3⟩ := hpp
            have u1 : IntKind.i64.wrap (x + d) = x + d := IntWalk.i64_in _ (by omega)
            have u2 : IntKind.i64.wrap (y + d) = y + d := IntWalk.i64_in _ (by omega)
            go_wp2_with fail
            go_region_held3 (fun W => W.cell? ⟨g, off + j * 2, none⟩ = some (.int .i64 x) ∧ W.cell? ⟨g, off + j * 2 + 1, none⟩ = some (.int .i64 y)) (first | exact ⟨c0, c1⟩ | exact ⟨k0, k1⟩ | go_keep)
              ((refine step_append_ex (by rfl) _ _ 23 (by rfl) (.slice o' no' co') (.slice (some ⟨wr.heap.size, 0, none⟩) 2 2) (by rfl) (by rfl) (HAP wr.drew rfl ⟨hb.os, hb.tape, hb.output, hb.size, hb.block⟩) ?_; rintro v' w' ⟨a'', co'', rfl, ho'', hb''⟩; have k0 := (hb''.cell (p := ⟨g, off + j * 2, none⟩) hg).trans hc; have k1 := (hb''.cell (p := ⟨g, off + j * 2 + 1, none⟩) hg).trans hd))
            go_wp2_with fail
            go_roundw
            case rel => exact ⟨d + 1, a'', no' + 2, co'', _, by omega, by omega, by go_num, rfl, by omega, ho'', hb''⟩
            case measure => simp [RowKit.intOf]; omega
          · have dd : decide (d ≤ 1) = false := decide_eq_false hd1
            go_wp2_with fail
            go_roundw
            case rel => exact ⟨j + 1, o', no', co', out', by omega, by go_num, rfl, by omega, by omega, ho, hb⟩
            case measure => simp [RowKit.intOf]; omega
      · go_wp2_with fail
        go_loopw [5, 7] (fun vo vd w' => vd = .int .i64 (-1) ∧ vo = .slice o no co ∧ OwnI w' w.heap.size (.slice o no co) out ∧ Below w.heap.size w w') (fun _ _ _ => 0)
        case atStart => exact ⟨rfl, rfl, ho, hb⟩
        case round =>
          clear ho hb hsz
          obtain ⟨rfl, rfl, ho, hb⟩ := hrel
          have k0 : decide ((j : Int) < 40) = false := decide_eq_false (by omega)
          go_wp2_with fail
          go_roundw
          case rel => exact ⟨j + 1, o, no, co, out, by omega, by go_num, rfl, by omega, by omega, ho, hb⟩
          case measure => simp [RowKit.intOf]; omega
    · obtain ⟨a', cap', w', hr, ho', hb'⟩ := appendI ho hsz (hy.below hb) (by omega) 23
      have hB' := hb.trans hb'
      go_wp2_with (at_builtin; refine wpList_append_hr rfl _ _ 23 rfl _ _ rfl rfl hr ?_)
      go_ret
      exact ⟨_, _, _, _, rfl, ho', hB', by omega⟩
end Go.Proofs.Ytohfckcikincoaa
