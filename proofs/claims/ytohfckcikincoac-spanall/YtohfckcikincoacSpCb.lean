import Derived.Test.YtohfckcikincoacSpCo
namespace Go.Proofs.Ytohfckcikincoac
open Go.RowKit Go.Lib
set_option maxRecDepth 100000

def BoolIs (r : Bool) (p : Prop) : Prop := r = true ↔ p
theorem combZ (how : Int) (z rx ry : Bool) (p q : Prop) (hp : BoolIs rx p) (hq : BoolIs ry q) (hz : z = ((how == 1 && (rx || ry)) || (how == 2 && rx && ry) || (how == 3 && rx && !ry))) : z = true ↔ combP how p q := by
  subst hz
  unfold BoolIs at hp hq
  unfold combP
  rw [← hp, ← hq]
  cases rx <;> cases ry <;> simp
set_option maxHeartbeats 8000000 in
theorem refComb_ok {w : World} {a : Option Addr} {n cap : Nat} {l : List (Int × Int)} (h : Rng w a n cap l) {b : Option Addr} {m capb : Nat} {k : List (Int × Int)} (hk : Rng w b m capb k) (how : Int) (hhow : how = 1 ∨ how = 2 ∨ how = 3) (hl : Lst l) (hkl : Lst k) :
    Calls Try.prog 51 #[.slice a n cap, .slice b m capb, .int .i64 how] w fun e w' => ∃ c U, SpecS 0 (fun q => combP how (Lies l q) (Lies k q)) c U ∧ Res w e w' c U := by
  have HA := refCheck_any h
  have HB : Hid (∀ W, Below w.heap.size w W → Calls Try.prog 20 #[.slice b m capb] W fun e w' => e = .returned (.tuple #[.int .i64 0, .int .i64 0]) ∧ Below W.heap.size W w') := fun W hb => by
    have := refCheck_any (hk.below hb)
    rwa [hkl.check] at this
  rw [hl.check] at HA
  have hln := h.len
  have hlm := hk.len
  have hfn := hl.few
  have hfm := hkl.few
  have HL : Hid (Lst l) := hl
  have HK : Hid (Lst k) := hkl
  have hw := hhow
  clear hl hkl hhow
  go_enter Try.func51, Try.ntmps51
  go_wp2_with fail
  refine HA.mono ?_
  rintro e w1 ⟨rfl, hb1⟩
  go_wp2_with fail
  refine (HB.out _ hb1).mono ?_
  rintro e w2 ⟨rfl, hb2⟩
  have hB2 := hb1.trans (hb2.mono hb1.size)
  clear HA HB hb1 hb2
  go_wp2_with fail
  go_loopw [10, 11] (fun v vi w' => ∃ (j : Nat) (o : Option Addr) (co : Nat), j ≤ n ∧ vi = .int .i64 j ∧ v = .slice o (2 * j) co ∧ OwnI w' w.heap.size (.slice o (2 * j) co) (ends (l.take j)) ∧ Below w.heap.size w w') (fun _ i _ => n - (RowKit.intOf i).toNat)
  case atStart => exact ⟨0, none, 0, Nat.zero_le _, rfl, rfl, ownI_nil _ _, hB2⟩
  case round =>
    obtain ⟨j, o, co, hjn, rfl, rfl, ho, hb⟩ := hrel
    have hsz := hb.size
    by_cases hj : j < n
    · obtain ⟨g, off, rfl, hg, hc, hd⟩ := h.cells j hj
      have hsn := ends_snoc l j (by omega)
      generalize (l.getD j (0, 0)).1 = x at *
      generalize (l.getD j (0, 0)).2 = y at *
      have c0 := (hb.cell (p := ⟨g, off + j * 2, none⟩) hg).trans hc
      have c1 := (hb.cell (p := ⟨g, off + j * 2 + 1, none⟩) hg).trans hd
      have HAP : ∀ W : World, W.heap = wr.heap → Below w.heap.size w W → ∃ v' w', (Builtin.append_ #[62, 62] 62 #[.slice o (2 * j) co, .slice (some ⟨W.heap.size, 0, none⟩) 2 2]).run Try.prog (W.alloc (.cells #[.int .i64 x, .int .i64 y] 3)) = .ok v' w' ∧ (∃ a'' co'', v' = .slice a'' (2 * j + 2) co'' ∧ OwnI w' w.heap.size (.slice a'' (2 * j + 2) co'') (ends (l.take (j + 1))) ∧ Below w.heap.size w w') := fun W hW hBW => by
        obtain ⟨a'', co'', w', hr, ho', hb'⟩ := appendI_two (w := W) (B := w.heap.size) (ho.heap2 hW) hBW.size x y (by omega) 62
        exact ⟨_, w', hr, a'', co'', rfl, by rw [hsn]; exact ho', hBW.trans hb'⟩
      go_wp2_with fail
      go_region_held3 (fun W => W.cell? ⟨g, off + j * 2, none⟩ = some (.int .i64 x) ∧ W.cell? ⟨g, off + j * 2 + 1, none⟩ = some (.int .i64 y)) (first | exact ⟨c0, c1⟩ | exact ⟨k0, k1⟩ | go_keep)
        ((refine step_append_e2 (by rfl) _ _ 62 (by rfl) (.slice o (2 * j) co) (.slice (some ⟨wr.heap.size, 0, none⟩) 2 2) (by rfl) (by rfl) (HAP wr.drew rfl ⟨hb.os, hb.tape, hb.output, hb.size, hb.block⟩) ?_; rintro v' w' ⟨a'', co'', rfl, ho'', hb''⟩; have k0 := (hb''.cell (p := ⟨g, off + j * 2, none⟩) hg).trans hc; have k1 := (hb''.cell (p := ⟨g, off + j * 2 + 1, none⟩) hg).trans hd))
      go_wp2_with fail
      go_roundw
      case rel => exact ⟨j + 1, a'', co'', by omega, by go_num, rfl, ho'', hb''⟩
      case measure => simp [RowKit.intOf]; omega
    · obtain rfl : j = n := by omega
      have e1 : l.take j = l := by rw [← hln]; exact List.take_length
      rw [e1] at ho
      clear e1
      go_wp2_with fail
      go_loopw [10, 12] (fun v vi w' => ∃ (i : Nat) (o : Option Addr) (co : Nat), i ≤ m ∧ vi = .int .i64 i ∧ v = .slice o (2 * j + 2 * i) co ∧ OwnI w' w.heap.size (.slice o (2 * j + 2 * i) co) (ends l ++ ends (k.take i)) ∧ Below w.heap.size w w') (fun _ i _ => m - (RowKit.intOf i).toNat)
      case atStart => exact ⟨0, o, co, Nat.zero_le _, rfl, rfl, by simpa [ends] using ho, hb⟩
      case round =>
        clear ho hb hsz hB2
        obtain ⟨i, o, co, hin, rfl, rfl, ho, hb⟩ := hrel
        have hsz := hb.size
        by_cases hi : i < m
        · obtain ⟨g, off, rfl, hg, hc, hd⟩ := hk.cells i hi
          have hsn := ends_snoc k i (by omega)
          generalize (k.getD i (0, 0)).1 = x at *
          generalize (k.getD i (0, 0)).2 = y at *
          have c0 := (hb.cell (p := ⟨g, off + i * 2, none⟩) hg).trans hc
          have c1 := (hb.cell (p := ⟨g, off + i * 2 + 1, none⟩) hg).trans hd
          have HAP : ∀ W : World, W.heap = wr.heap → Below w.heap.size w W → ∃ v' w', (Builtin.append_ #[62, 62] 62 #[.slice o (2 * j + 2 * i) co, .slice (some ⟨W.heap.size, 0, none⟩) 2 2]).run Try.prog (W.alloc (.cells #[.int .i64 x, .int .i64 y] 3)) = .ok v' w' ∧ (∃ a'' co'', v' = .slice a'' (2 * j + 2 * i + 2) co'' ∧ OwnI w' w.heap.size (.slice a'' (2 * j + 2 * i + 2) co'') (ends l ++ ends (k.take (i + 1))) ∧ Below w.heap.size w w') := fun W hW hBW => by
            obtain ⟨a'', co'', w', hr, ho', hb'⟩ := appendI_two (w := W) (B := w.heap.size) (ho.heap2 hW) hBW.size x y (by omega) 62
            exact ⟨_, w', hr, a'', co'', rfl, by rw [hsn, ← List.append_assoc]; exact ho', hBW.trans hb'⟩
          go_wp2_with fail
          go_region_held3 (fun W => W.cell? ⟨g, off + i * 2, none⟩ = some (.int .i64 x) ∧ W.cell? ⟨g, off + i * 2 + 1, none⟩ = some (.int .i64 y)) (first | exact ⟨c0, c1⟩ | exact ⟨k0, k1⟩ | go_keep)
            ((refine step_append_e2 (by rfl) _ _ 62 (by rfl) (.slice o (2 * j + 2 * i) co) (.slice (some ⟨wr.heap.size, 0, none⟩) 2 2) (by rfl) (by rfl) (HAP wr.drew rfl ⟨hb.os, hb.tape, hb.output, hb.size, hb.block⟩) ?_; rintro v' w' ⟨a'', co'', rfl, ho'', hb''⟩; have k0 := (hb''.cell (p := ⟨g, off + i * 2, none⟩) hg).trans hc; have k1 := (hb''.cell (p := ⟨g, off + i * 2 + 1, none⟩) hg).trans hd))
          go_wp2_with fail
          go_roundw
          case rel => exact ⟨i + 1, a'', co'', by omega, by go_num, rfl, ho'', hb''⟩
          case measure => simp [RowKit.intOf]; omega
        · obtain rfl : i = m := by omega
          have e1 : k.take i = k := by rw [← hlm]; exact List.take_length
          rw [e1] at ho
          clear e1
          obtain ⟨N, hN⟩ : ∃ N, 2 * j + 2 * i = N := ⟨_, rfl⟩
          have hNb : N ≤ 131072 := by omega
          rw [hN] at ho ⊢
          have S3 := sorted_any _ ho.rng (by omega)
          clear ho
          go_wp2_with fail
          refine S3.mono ?_
          rintro e w6 ⟨b6, d6, y6, rfl, o6, hb6, P3⟩
          clear S3
          have hB6 := hb.trans (hb6.mono hsz)
          have q6 := o6.rng
          have HP : Hid (y6.Perm (ends l ++ ends k)) := P3.out.1
          have HA6 : Hid (Asc y6) := P3.out.2
          clear o6 P3 hb hb6
          obtain ⟨w7, hmk, hob, hb7⟩ := makeB w6 N (by omega)
          have hB7 := hB6.trans (hb7.mono hB6.size)
          have q6u := q6.under
          have q6' := q6.below hb7
          clear q6 hb7
          go_wp2_with fail
          go_loopw [14] (fun vi w' => ∃ (t : Nat) (bs : List Bool), t ≤ N ∧ vi = .int .i64 t ∧ OwnB w' w6.heap.size (.slice (some ⟨w6.heap.size, 0, none⟩) N N) bs ∧ Below w6.heap.size w7 w' ∧ Hid (bs.length = N ∧ ∀ i, i < t → (bs.getD i false = true ↔ combP how (Lies l (y6.getD i 0)) (Lies k (y6.getD i 0))))) (fun i _ => N - (RowKit.intOf i).toNat)
          case atStart => exact ⟨0, _, Nat.zero_le _, rfl, hob, Below.refl _ _, ⟨by simp, fun i hi => by omega⟩⟩
          case round =>
            obtain ⟨t, bs, htn, rfl, hbs, hbl, HBS⟩ := hrel
            have hsl := hbl.size
            have hBr := hB7.trans (hbl.mono hB6.size)
            by_cases ht : t < N
            · obtain ⟨g6, off6, rfl, hg6, hc6⟩ := q6'.cells t ht
              have hl6 := q6u (by omega) g6 off6 rfl
              have c6 := (hbl.cell (p := ⟨g6, off6 + t, none⟩) hl6).trans hc6
              have hlb := hbs.rng.len
              obtain ⟨g7, off7, e7, hg7, hc7⟩ := hbs.rng.cells t ht
              cases e7
              simp only [Nat.zero_add] at hc7
              have hfz := ownB_frozen hbs t
              have HN := HBS.out
              generalize hx : y6.getD t 0 = x at *
              obtain ⟨rx, hrx⟩ := exBool (Lies l x)
              obtain ⟨ry, hry⟩ := exBool (Lies k x)
              have I1 := refIn_any (h.below hBr) HL.out.norm x rx hrx
              have I2 := refIn_any (hk.below hBr) HK.out.norm x ry hry
              have HZ : Hid (∀ z : Bool, (z = true ↔ combP how (Lies l x) (Lies k x)) → Hid ((bs.set t z).length = N ∧ ∀ i, i < t + 1 → ((bs.set t z).getD i false = true ↔ combP how (Lies l (y6.getD i 0)) (Lies k (y6.getD i 0))))) := fun z hz => by
                refine ⟨by rw [List.length_set]; exact HN.1, fun i hi => ?_⟩
                rw [getD_set_lt (by omega)]
                by_cases e : i = t
                · subst e
                  rw [if_pos rfl, hx]
                  exact hz
                · rw [if_neg e]
                  exact HN.2 i (by omega)
              have OS : Hid (∀ z : Bool, OwnB (wr.setCell ⟨w6.heap.size, t, none⟩ (.bool z)) w6.heap.size (.slice (some ⟨w6.heap.size, 0, none⟩) N N) (bs.set t z)) := fun z => ownB_set hbs t z
              have BS : Hid (∀ z : Bool, Below w6.heap.size w7 (wr.setCell ⟨w6.heap.size, t, none⟩ (.bool z))) := fun z => hbl.setCell (p := ⟨w6.heap.size, t, none⟩) (Nat.le_refl _) _
              clear hc6 HBS HN hbs q6' q6u hob hmk HP HA6 HL HK h hk hx hbl hB6 hB7 hsz hBr
              go_wp2_with fail
              refine I1.mono ?_
              rintro e w' ⟨rfl, rfl⟩
              clear I1
              go_wp2_with fail
              refine I2.mono ?_
              rintro e w' ⟨rfl, rfl⟩
              clear I2
              have HX : Hid (BoolIs rx (Lies l x)) := hrx
              have HY : Hid (BoolIs ry (Lies k x)) := hry
              clear hrx hry
              rcases hw with rfl | rfl | rfl <;> cases rx <;> cases ry
              all_goals
                go_upto_region 23 with fail
                refine wp_region_lit ?_
                iterate 14 go_wp21
                go_roundw
                case rel => exact ⟨t + 1, _, by omega, by go_num, OS.out _, BS.out _, HZ.out _ (combZ _ _ _ _ _ _ HX.out HY.out (by decide))⟩
                case measure => simp [RowKit.intOf]; omega
            · have e : t = N := by omega
              subst e
              have J1 := joined_any (q6'.belowB q6u hbl) HA6.out hbs.rng (by omega)
              obtain ⟨n1, n2, n3⟩ := comb_of HL.out HK.out HP.out HA6.out q6'.len HBS.out.2
              have HN1 : Hid (Norm (-1) (joinedL y6 bs (t - 1))) := n1
              have HN2 : Hid (∀ q, Lies (joinedL y6 bs (t - 1)) q ↔ combP how (Lies l q) (Lies k q)) := n2
              clear n1 n2 HP HA6 HBS hbs hob hmk q6' q6u
              generalize joinedL y6 bs (t - 1) = L at *
              go_wp2_with fail
              refine J1.mono ?_
              rintro e w8 ⟨o8, n8, c8, rfl, ho8, hb8⟩
              clear J1
              have hB8 : Below w.heap.size w w8 := hBr.trans (hb8.mono hBr.size)
              have hn8 := ho8.rng.len
              have F := few_res (S := fun q => combP how (Lies l q) (Lies k q)) (ho8.mono hBr.size) hB8 (by omega) HN1.out HN2.out
              clear HN1 HN2 ho8 hb8
              go_wp2_with fail
              refine F.mono ?_
              rintro e w9 ⟨c, V, hS, a3, n3, c3, rfl, ho3, hb3⟩
              go_wp2_with fail
              go_ret2
              exact ⟨c, V, hS, a3, n3, c3, rfl, ho3, hb3⟩
set_option maxHeartbeats 8000000 in
theorem refComb_any {w : World} {a : Option Addr} {n cap : Nat} {l : List (Int × Int)} (h : Rng w a n cap l) {b : Option Addr} {m capb : Nat} {k : List (Int × Int)} (hk : Rng w b m capb k) (how : Int) (hhow : how = 1 ∨ how = 2 ∨ how = 3) :
    Calls Try.prog 51 #[.slice a n cap, .slice b m capb, .int .i64 how] w fun e w' => ∃ c U, SpecS (codeOf l k) (fun q => combP how (Lies l q) (Lies k q)) c U ∧ Res w e w' c U := by
  have HA := refCheck_any h
  have HB : Hid (∀ W, Below w.heap.size w W → Calls Try.prog 20 #[.slice b m capb] W _) := fun W hb => refCheck_any (hk.below hb)
  have hln := h.len
  have hlm := hk.len
  by_cases h1 : (checkL l).2 = 0
  · by_cases h2 : (checkL k).2 = 0
    · have e0 : codeOf l k = 0 := by unfold codeOf; rw [if_pos h1]; exact h2
      rw [e0]
      exact refComb_ok h hk how hhow (checkL_ok h1) (checkL_ok h2)
    · have e0 : codeOf l k = (checkL k).2 := by unfold codeOf; rw [if_pos h1]
      have E0 : Hid (codeOf l k = (checkL k).2) := e0
      rw [h1] at HA
      generalize (checkL k).2 = c at *
      clear h hk e0 h1
      go_enter Try.func51, Try.ntmps51
      go_wp2_with fail
      refine HA.mono ?_
      rintro e w1 ⟨rfl, hb1⟩
      go_wp2_with fail
      refine (HB.out _ hb1).mono ?_
      rintro e w2 ⟨rfl, hb2⟩
      have hB2 := hb1.trans (hb2.mono hb1.size)
      go_wp2_with fail
      all_goals try omega
      go_ret2
      exact ⟨c, [], .inl ⟨by rw [E0.out]; exact h2, E0.out.symm, rfl⟩, Res.nil hB2⟩
  · have e0 : codeOf l k = (checkL l).2 := by unfold codeOf; rw [if_neg h1]
    have E0 : Hid (codeOf l k = (checkL l).2) := e0
    generalize (checkL l).2 = c at *
    clear h hk e0 HB
    go_enter Try.func51, Try.ntmps51
    go_wp2_with fail
    refine HA.mono ?_
    rintro e w1 ⟨rfl, hb1⟩
    go_wp2_with fail
    all_goals try omega
    go_ret2
    exact ⟨c, [], .inl ⟨by rw [E0.out]; exact h1, E0.out.symm, rfl⟩, Res.nil hb1⟩
end Go.Proofs.Ytohfckcikincoac
