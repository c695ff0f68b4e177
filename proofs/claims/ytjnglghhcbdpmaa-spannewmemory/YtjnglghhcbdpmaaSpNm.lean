import Derived.Test.YtjnglghhcbdpmaaSpNd
import Derived.Deep.RegionHeld3
namespace Go.Proofs.Ytjnglghhcbdpmaa
open Go.RowKit Go.Lib Go.Shelf
set_option maxRecDepth 100000

/-- wpAnyH_take, the slot written out. -/
theorem takeD {P : Program} {md : Region.Mode} {ops : Array Oper} {Q : Exit → Act → World → Prop} {S : World → Prop} {i : Nat} {oi : Oper} {d : Option Nat} {v : Value} {fuel : Nat} {listed : Array Bool} {a : Act} {w : World} (hi : ops[i]? = some oi) (hd : oi.dst = d)
    (hs : Region.noSelect ops = true) (hf : Region.free md ops listed i = true) (hr : (Region.ready md ops listed).contains i = true)
    (hQ : ∀ c a w, Q (.panic c) (a.put oi.dst v) w → Q (.panic c) a w) (hy : YieldsIf P ops S oi v a) (hS : S w)
    (h : wpAnyH P md ops Q S fuel (listed.setIfInBounds i true) (a.put d v) w) : wpAnyH P md ops Q S (fuel + 1) listed a w := by
  subst hd
  exact wpAnyH_take hi hs hf hr hQ hy hS h
theorem takeA {P : Program} {md : Region.Mode} {ops : Array Oper} {Q : Exit → Act → World → Prop} {i : Nat} {oi : Oper} {d : Option Nat} {v : Value} {fuel : Nat} {listed : Array Bool} {a : Act} {w : World} (hi : ops[i]? = some oi) (hd : oi.dst = d)
    (hs : Region.noSelect ops = true) (hf : Region.free md ops listed i = true) (hr : (Region.ready md ops listed).contains i = true)
    (hQ : ∀ c a w, Q (.panic c) (a.put oi.dst v) w → Q (.panic c) a w) (hy : Yields P ops oi v a)
    (h : wpAny P md ops Q fuel (listed.setIfInBounds i true) (a.put d v) w) : wpAny P md ops Q (fuel + 1) listed a w := by
  subst hd
  exact wpAny_take hi hs hf hr hQ hy h
theorem consS {P : Program} {md : Region.Mode} {ops : Array Oper} {Q : Exit → Act → World → Prop} {fuel : Nat} {listed : Array Bool} {a : Act} {w : World} {i : Nat} {o : Oper} {rs : List Nat} (ho : ops[i]? = some o)
    (h : ∀ K' : Act → World → Prop, Shut (∀ a w, wpAny P md ops Q fuel (listed.setIfInBounds i true) a w → K' a w) → if Region.wanted o (yielded ops a.tmps) = true then Oper.wp P o a w K' Q else K' (a.put o.dst undef) w)
    (hs : AllReady P md ops Q fuel listed a w rs) : AllReady P md ops Q fuel listed a w (i :: rs) := AllReady.cons ho h hs
theorem wp_append_hr {P : Program} {w : World} {o : Oper} {a : Act} {K : Act → World → Prop} {Q : Exit → Act → World → Prop} (s x : Operand) (t : TypeId) (d : Option Nat) (hd : o.dst = d)
    (ho : o.op = .call { callee := .builtin .append, args := #[s, x], argTypes := #[t, t] }) (v u : Value) (hs : a.eval s = v) (hx : a.eval x = u) {v' : Value} {w' : World}
    (hr : (Builtin.append_ #[t, t] o.type #[v, u]).run P w = .ok v' w') (h : K (a.put d v') w') : Oper.wp P o a w K Q := by
  subst hd
  unfold Oper.wp execOp
  simp only [ho, resolve, invoke, builtin, Sem.run_bind, Sem.run_pure, Result.andThen_ok, List.map_toArray, List.map_cons, List.map_nil, hs, hx, hr]
  exact h
theorem ans_zero {A B : List (Int × Int)} {at_ n : Int} {U : Nat → List (Int × Int)} (h : AnsSpec A B at_ n U) (hA : Lst A) : U 0 = A := by
  have h0 : makeCode A = 0 := by
    have hf := hA.few
    unfold makeCode
    rw [if_neg (by omega), if_pos (show Parts A from fun r hr => by have := hA.nonneg r hr; omega)]
  obtain ⟨c, hs⟩ := h.s0
  rcases hs with ⟨h1, _⟩ | ⟨_, V, hn, hl, h2⟩
  · exact absurd h0 h1
  · have e : V = A := norm_unique hn hA.norm hl
    rcases h2 with ⟨_, _, h3⟩ | ⟨h3, _, _⟩
    · rw [h3, e]
    · rw [e] at h3; have := hA.few; omega
theorem own_of_block {w w' : World} {B : Nat} {u : Value} {l : List (Int × Int)} (h : Own w B u l) (hb : ∀ g, u.ownBlock = some g → w'.heap[g]? = w.heap[g]?) : Own w' B u l := by
  refine ⟨h.1, ?_⟩
  rcases h.2 with h0 | ⟨g, cap, cur, e, h1, hh, rest⟩
  · exact .inl h0
  · exact .inr ⟨g, cap, cur, e, h1, (hb g (by rw [e]; rfl)).trans hh, rest⟩
theorem ownS_of_block {w w' : World} {B : Nat} {u : Value} {l : List Value} (h : OwnS w B u l) (hb : ∀ g, u.ownBlock = some g → w'.heap[g]? = w.heap[g]?) : OwnS w' B u l := by
  refine ⟨h.1, ?_⟩
  rcases h.2 with h0 | ⟨g, cap, cur, e, h1, hh, rest⟩
  · exact .inl h0
  · exact .inr ⟨g, cap, cur, e, h1, (hb g (by rw [e]; rfl)).trans hh, rest⟩
theorem cell_set2 {w : World} {g gk k o p : Nat} {x y : Value} (h : g ≠ gk) : ((w.setCell ⟨gk, o, none⟩ x).setCell ⟨gk, p, none⟩ y).cell? ⟨g, k, none⟩ = w.cell? ⟨g, k, none⟩ := by
  have : ((w.setCell ⟨gk, o, none⟩ x).setCell ⟨gk, p, none⟩ y).heap[g]? = w.heap[g]? := (Below.heap_setCell _ _ _ _ (by simpa using h)).trans (Below.heap_setCell _ _ _ _ (by simpa using h))
  simp only [World.cell?, this]
theorem cell_heapEq {w w' : World} {b o : Nat} (h : w'.heap[b]? = w.heap[b]?) : w'.cell? ⟨b, o, none⟩ = w.cell? ⟨b, o, none⟩ := by simp only [World.cell?, h]
theorem frozen_below {w w' : World} {g o : Nat} (h : Below w.heap.size w.drew w') (hg : g < w.heap.size) : w'.frozen? ⟨g, o, none⟩ = w.frozen? ⟨g, o, none⟩ := by
  have := h.block g hg
  simp only [World.frozen?, this]
  rfl
set_option maxHeartbeats 16000000 in
theorem spanNewMemory_any {w : World} {v : Value} {a : Option Addr} {na ca : Nat} {la : List (Int × Int)} {b : Option Addr} {nb cb : Nat} {lb : List (Int × Int)} {pa : Option Addr} {np cp : Nat} {zs : List Int} {at_ n : Int} (hi : InR w v a na ca la b nb cb lb pa np cp zs at_ n) :
    Calls Try.prog 3 #[v] w fun e w' => e = .returned (.bool true) ∧ Below w.heap.size w w' := by
  have hra := hi.ra
  have hrb := hi.rb
  have hbn := hi.bn
  have hv := hi.val
  subst hv
  clear hi
  have hnum := num_any
  go_enter Try.func3, Try.ntmps3
  go_wp2_with fail
  have hB0 : Below w.heap.size w (w.alloc (.cells #[.slice a na ca, .slice b nb cb, .slice pa np cp, .int .i64 at_, .int .i64 n] 25)) := (Below.refl _ _).alloc (Nat.le_refl _) _
  refine (right_any (hra.below hB0)).mono ?_
  rintro e w1 ⟨o1, no1, co1, p1, rfl, ho1, hb1, HP1, hn1⟩
  go_wp2_with fail
  refine (lawCopied_any ho1.rng (by omega)).mono ?_
  rintro e w2 ⟨a2, cap2, rfl, ho2, hb2⟩
  go_wp2_with fail
  refine (make_parts ho2.rng (by omega) HP1.out).mono ?_
  rintro e w3 ⟨A, a3, cap3, rfl, hoA, hb3, hLA, _⟩
  have hb13 := (hb1.trans (hb2.mono hb1.size)).trans (hb3.mono (hb1.trans (hb2.mono hb1.size)).size)
  have hB3 : Below w.heap.size w w3 := hB0.trans (hb13.mono (by simp))
  have hs3 : w.heap.size < w3.heap.size := by have := hb13.size; simp at this; omega
  have c1 : w3.cell? ⟨w.heap.size, 1, none⟩ = some (.slice b nb cb) := (hb13.cell (p := ⟨w.heap.size, 1, none⟩) (by simp)).trans (World.cell?_alloc_mark _ _ _ _ _)
  have c3 : w3.cell? ⟨w.heap.size, 3, none⟩ = some (.int .i64 at_) := (hb13.cell (p := ⟨w.heap.size, 3, none⟩) (by simp)).trans (World.cell?_alloc_mark _ _ _ _ _)
  have c4 : w3.cell? ⟨w.heap.size, 4, none⟩ = some (.int .i64 n) := (hb13.cell (p := ⟨w.heap.size, 4, none⟩) (by simp)).trans (World.cell?_alloc_mark _ _ _ _ _)
  clear hb1 hb2 hb3 hb13 ho1 ho2 HP1 hB0 hra
  go_wp2_with fail
  refine (right_any (hrb.below hB3)).mono ?_
  rintro e w4 ⟨o4, no4, co4, p4, rfl, ho4, hb4, HP4, hn4⟩
  go_wp2_with fail
  refine (lawCopied_any ho4.rng (by omega)).mono ?_
  rintro e w5 ⟨a5, cap5, rfl, ho5, hb5⟩
  go_wp2_with fail
  refine (make_parts ho5.rng (by omega) HP4.out).mono ?_
  rintro e w6 ⟨B, a6, cap6, rfl, hoB, hb6, hLB, _⟩
  have hb36 := (hb4.trans (hb5.mono hb4.size)).trans (hb6.mono (hb4.trans (hb5.mono hb4.size)).size)
  have hB6 : Below w.heap.size w w6 := hB3.trans (hb36.mono hB3.size)
  replace hoA := hoA.below hb36
  replace c3 := (hb36.cell (p := ⟨w.heap.size, 3, none⟩) hs3).trans c3
  replace c4 := (hb36.cell (p := ⟨w.heap.size, 4, none⟩) hs3).trans c4
  have hs6 : w.heap.size < w6.heap.size := by have := hb36.size; omega
  clear hb4 hb5 hb6 hb36 ho4 ho5 HP4 hrb c1 hB3 hs3
  have hfA := hLA.few
  have hfB := hLB.few
  have HLA : Hid (Lst A) := hLA
  have HLB : Hid (Lst B) := hLB
  clear hLA hLB
  go_wp2_with fail
  refine (hnum _ _).mono ?_
  rintro e w7 ⟨rfl, rfl⟩
  go_wp2_with fail
  refine (hnum _ _).mono ?_
  rintro e w8 ⟨rfl, rfl⟩
  go_wp2_with fail
  refine (awake_any _).mono ?_
  rintro e w9 ⟨rfl, hb9⟩
  have hB9 : Below w.heap.size w w9 := hB6.trans (hb9.mono hB6.size)
  replace hoA := hoA.below hb9
  replace hoB := hoB.below hb9
  replace c3 := (hb9.cell (p := ⟨w.heap.size, 3, none⟩) hs6).trans c3
  replace c4 := (hb9.cell (p := ⟨w.heap.size, 4, none⟩) hs6).trans c4
  have hs9 : w.heap.size < w9.heap.size := by have := hb9.size; omega
  clear hb9 hB6 hs6
  go_wp2_with fail
  refine (roomy_any hoA.rng (by omega)).mono ?_
  rintro e w10 ⟨gA, cA, rfl, hrA, hb10⟩
  go_wp2_with fail
  refine (roomy_any (hoB.below hb10).rng (by omega)).mono ?_
  rintro e w11 ⟨gB, cB, rfl, hrB, hb11⟩
  replace hrA := hrA.below hb11
  go_wp2_with fail
  refine (lawCopied_any hrA.rng (by omega)).mono ?_
  rintro e w12 ⟨kA, kcA, rfl, hkA, hb12⟩
  replace hrA := hrA.below hb12
  replace hrB := hrB.below hb12
  go_wp2_with fail
  refine (lawCopied_any hrB.rng (by omega)).mono ?_
  rintro e w13 ⟨kB, kcB, rfl, hkB, hb13⟩
  replace hrA := hrA.below hb13
  replace hrB := hrB.below hb13
  replace hkA := hkA.below hb13
  have k911 := hb10.trans (hb11.mono hb10.size)
  have k912 := k911.trans (hb12.mono k911.size)
  have k913 := k912.trans (hb13.mono k912.size)
  replace hoA := hoA.below k913
  replace c3 := (k913.cell (p := ⟨w.heap.size, 3, none⟩) hs9).trans c3
  replace c4 := (k913.cell (p := ⟨w.heap.size, 4, none⟩) hs9).trans c4
  have hB13 : Below w.heap.size w w13 := hB9.trans (k913.mono hB9.size)
  have hs13 : w.heap.size < w13.heap.size := by have := k913.size; omega
  clear hb10 hb11 hb12 hb13 k911 k912 k913 hB9 hs9 hoB
  have rA := rng_prefix hrA.rng rfl (by omega)
  have rB := rng_prefix hrB.rng rfl (by omega)
  go_wp2_with fail
  refine (asked_any rA at_ n hbn.2).mono ?_
  rintro e w14 ⟨⟨_, rfl⟩, hb14⟩
  have hmn1 : ∀ ats ty (w : World), (Builtin.min_ ats ty #[.int .i64 at_, .int .i64 1048576]).run Try.prog w = .ok (.int .i64 (min at_ 1048576)) w := fun ats ty w => min_run ats ty at_ 1048576 w
  have hmx1 : ∀ ats ty (w : World), (Builtin.max_ ats ty #[.int .i64 0, .int .i64 (min at_ 1048576)]).run Try.prog w = .ok (.int .i64 (max 0 (min at_ 1048576))) w := fun ats ty w => max_run ats ty 0 _ w
  have hmn2 : ∀ ats ty (w : World), (Builtin.min_ ats ty #[.int .i64 n, .int .i64 9]).run Try.prog w = .ok (.int .i64 (min n 9)) w := fun ats ty w => min_run ats ty n 9 w
  have hmx2 : ∀ ats ty (w : World), (Builtin.max_ ats ty #[.int .i64 0, .int .i64 (min n 9)]).run Try.prog w = .ok (.int .i64 (max 0 (min n 9))) w := fun ats ty w => max_run ats ty 0 _ w
  have c3' := (hb14.cell (p := ⟨w.heap.size, 3, none⟩) hs13).trans c3
  have c4' := (hb14.cell (p := ⟨w.heap.size, 4, none⟩) hs13).trans c4
  go_wp2_with fail
  refine (asked_any (rA.below hb14) (max 0 (min at_ 1048576)) (max 0 (min n 9)) (by omega)).mono ?_
  rintro e w15 ⟨⟨_, rfl⟩, hb15⟩
  have k15 := hb14.trans (hb15.mono hb14.size)
  clear c3' c4' hmn1 hmx1 hmn2 hmx2
  replace c3 := (k15.cell (p := ⟨w.heap.size, 3, none⟩) hs13).trans c3
  replace c4 := (k15.cell (p := ⟨w.heap.size, 4, none⟩) hs13).trans c4
  replace hrA := hrA.below k15
  replace hrB := hrB.below k15
  replace hkA := hkA.below k15
  replace hkB := hkB.below k15
  replace hoA := hoA.below k15
  replace rA := rA.below k15
  replace rB := rB.below k15
  have hB15 : Below w.heap.size w w15 := hB13.trans (k15.mono hB13.size)
  have hs15 : w.heap.size < w15.heap.size := by have := k15.size; omega
  clear hb14 hb15 k15 hB13 hs13
  go_wp2_with fail
  refine (answers_any rA rB at_ n).mono ?_
  rintro e w16 ⟨g, vs, U, rfl, hg16, hgot, HAns, h7, hb16⟩
  have HSA : Hid (∀ W, Below w15.heap.size w15 W → Calls Try.prog 12 #[.slice (some ⟨gA, 0, none⟩) (A.length + 3) cA, .slice kA (A.length + 3) kcA] W fun e w' => e = .returned (.bool true) ∧ Below W.heap.size W w') := fun W hb => by
    have := same_any (hrA.below hb).rng (hkA.below hb).rng
    simpa only [decide_true] using this
  have HSB : Hid (∀ W, Below w15.heap.size w15 W → Calls Try.prog 12 #[.slice (some ⟨gB, 0, none⟩) (B.length + 3) cB, .slice kB (B.length + 3) kcB] W fun e w' => e = .returned (.bool true) ∧ Below W.heap.size W w') := fun W hb => by
    have := same_any (hrB.below hb).rng (hkB.below hb).rng
    simpa only [decide_true] using this
  clear hrA hrB hkA hkB
  go_wp2_with fail
  refine (HSA.out _ hb16).mono ?_
  rintro e w17 ⟨rfl, hb17⟩
  have k17 := hb16.trans (hb17.mono hb16.size)
  go_wp2_with fail
  refine (HSB.out _ k17).mono ?_
  rintro e w18 ⟨rfl, hb18⟩
  have k18 := k17.trans (hb18.mono k17.size)
  have k168 := hb17.trans (hb18.mono hb17.size)
  have hs16 := hb16.size
  have hs18 := k168.size
  have hg18 : w18.heap[g]? = some (.cells #[vs 0, vs 1, vs 2, vs 3, vs 4, vs 5, vs 6] 22) := (k168.block g (Array.getElem?_eq_some_iff.1 hgot).1).trans hgot
  have hgl : g < w16.heap.size := (Array.getElem?_eq_some_iff.1 hgot).1
  have h718 : Seven w18 w15.heap.size vs U := ⟨fun k hk => (h7.own k hk).below k168, h7.apart⟩
  have HUB : Hid (∀ k, k < 7 → (U k).length ≤ 1000000) := fun k hk => ansLen HAns.out HLA.out k hk
  have HVL : Hid (∀ k, k < 7 → ∀ x, (vs k).ownBlock = some x → w15.heap.size ≤ x ∧ x < w16.heap.size) := fun k hk x hx => World.ownsRow.lt (h7.own k hk) x hx
  clear hb17 hb18 k17 k168 hgot h7 hb16
  go_wp2_with fail
  go_loopw [14, 15] (fun vw vk w' => ∃ (k : Nat) (ws : List Value), k ≤ 7 ∧ vk = .int .i64 k ∧ ws.length = k ∧ OwnS w' w18.heap.size vw ws ∧ Hid (∀ j, j < k → Own w' w18.heap.size (ws.getD j undef) (U j)) ∧ Below w18.heap.size w18 w') (fun _ i _ => 7 - (RowKit.intOf i).toNat)
  case atStart => exact ⟨0, [], by omega, rfl, rfl, World.ownsRow_nil _ _ _ _, fun j hj => by omega, Below.refl _ _⟩
  case round =>
    obtain ⟨k, ws, hk7, rfl, hwl, hws, HC, hbl⟩ := hrel
    have hsl := hbl.size
    obtain ⟨aw, cw, rfl⟩ := hws.shape
    rw [hwl] at hws ⊢
    by_cases hk : k < 7
    · obtain ⟨ak, ck, hvk⟩ := (h718.own k hk).shape
      have ck0 := cell7 ((hbl.block g (by omega)).trans hg18) k hk
      have rk0 := (h718.own k hk).below hbl
      rw [hvk] at ck0 rk0
      have rk := rk0.rng
      clear rk0
      have hub := HUB.out k hk
      have LC := lawCopied_any rk (by omega)
      clear rk
      generalize hL : (U k).length = L at *
      go_wp2_with fail
      refine LC.mono ?_
      rintro e x2 ⟨a2', c2', rfl, ho2', hb2'⟩
      clear LC
      obtain ⟨gw, cw', x3, r3, o3, b3, kp3⟩ := appendS (hws.below hb2') hwl (by have := hb2'.size; omega) a2' L c2' (by omega) 35
      have HC2 : Hid (∀ j, j < k + 1 → Own x3 w18.heap.size ((ws ++ [Value.slice a2' L c2']).getD j undef) (U j)) := fun j hj => by
        by_cases e : j = k
        · subst e
          rw [← hwl, getD_snoc]
          rw [hwl]
          exact (ho2'.mono hsl).keepB kp3 (apart_types (ho2'.mono hsl) (hws.below hb2'))
        · have e2 : (ws ++ [Value.slice a2' L c2']).getD j undef = ws.getD j undef := by
            rw [List.getD_eq_getElem?_getD, List.getD_eq_getElem?_getD, List.getElem?_append_left (by omega)]
          rw [e2]
          have hj' := (HC.out j (by omega)).below hb2'
          exact hj'.keepB kp3 (apart_types hj' (hws.below hb2'))
      have hbl3 := (hbl.trans (hb2'.mono hsl)).trans b3
      clear HC
      go_wp2_with (at_builtin; refine wpList_append_hr rfl _ _ 35 rfl _ _ rfl rfl r3 ?_)
      go_roundw
      case rel => exact ⟨k + 1, _, by omega, by go_num, by simp [hwl], o3, HC2, hbl3⟩
      case measure => simp [RowKit.intOf]; omega
    · obtain rfl : k = 7 := by omega
      obtain ⟨y0, hy0⟩ : ∃ y0, y0 = wr := ⟨_, rfl⟩
      subst hy0
      have HM0 : Hid (Mk w15.heap.size vs U y0 y0 0 []) := ⟨rfl, rfl, rfl, Nat.le_refl _, fun _ _ _ => rfl, fun j _ hj => (h718.own j hj).below hbl, fun j hj => by omega, fun j hj => by omega, fun j hj => by omega⟩
      have HAP : Hid (∀ j i, j < 7 → i < 7 → j ≠ i → Apart (vs j) (vs i)) := h718.apart
      have HV : Hid (∀ j, j < 7 → ∀ x, (vs j).ownBlock = some x → x < y0.heap.size) := fun j hj x hx => by
        have := HVL.out j hj x hx
        omega
      have hgy : y0.heap[g]? = some (.cells #[vs 0, vs 1, vs 2, vs 3, vs 4, vs 5, vs 6] 22) := (hbl.block g (by omega)).trans hg18
      have HGN : Hid (∀ j, j < 7 → (vs j).ownBlock ≠ some g) := fun j hj e => by
        rcases (h718.own j hj).2 with ⟨e0, _⟩ | ⟨g1, c1, cur1, e1, _, hh1, _⟩
        · rw [e0] at e; simp [Value.ownBlock] at e
        · rw [e1] at e
          have e2 : g1 = g := by simpa [Value.ownBlock] using e
          subst e2
          rw [hg18] at hh1
          simp at hh1
      have HSH : Hid (∀ j, j < 7 → ∃ aj cj, vs j = .slice aj (U j).length cj) := fun j hj => (h718.own j hj).shape
      have HSP : Hid (∀ j, j < 7 → 0 < (U j).length → ∃ gv cj, vs j = .slice (some ⟨gv, 0, none⟩) (U j).length cj) := fun j hj h0 => by
        obtain ⟨a', c', e'⟩ := (h718.own j hj).shape
        have hq := h718.own j hj
        rw [e'] at hq
        obtain ⟨gv, rfl, _⟩ := own_ptr hq h0
        exact ⟨gv, c', e'⟩
      have hgy0 : g < y0.heap.size := by omega
      clear h718 hg18
      go_wp2_with fail
      go_loopw [16, 17] (fun vl vk w' => ∃ (k : Nat) (ls : List Value), k ≤ 7 ∧ vk = .int .i64 k ∧ ls.length = k ∧ OwnS w' y0.heap.size vl ls ∧ Hid (Mk w15.heap.size vs U y0 w' k ls)) (fun _ i _ => 7 - (RowKit.intOf i).toNat)
      case atStart => exact ⟨0, [], by omega, rfl, rfl, World.ownsRow_nil _ _ _ _, HM0⟩
      case round =>
        clear HM0
        obtain ⟨k, ls, hk7, rfl, hll, hls, HM⟩ := hrel
        obtain ⟨al, cl, rfl⟩ := hls.shape
        rw [hll] at hls ⊢
        obtain ⟨x0, hx0⟩ : ∃ x0, x0 = wr := ⟨_, rfl⟩
        subst hx0
        have hg0 : x0.heap[g]? = some (.cells #[vs 0, vs 1, vs 2, vs 3, vs 4, vs 5, vs 6] 22) := (HM.out.block g hgy0 HGN.out).trans hgy
        by_cases hk : k < 7
        · obtain ⟨ak, ck, hvk⟩ := HSH.out k hk
          have ho0 := HM.out.rest k (Nat.le_refl _) hk
          have hub := HUB.out k hk
          have hvb : (vs k).ownBlock ≠ some g := HGN.out k hk
          rw [hvk] at ho0 hvb
          have ck0 := cell7 hg0 k hk
          rw [hvk] at ck0
          have e7 : decide ((k : Int) < 7) = true := decide_eq_true (by omega)
          go_wp2_with fail
          go_loopw [18] (fun vi w' => ∃ i : Nat, i ≤ (U k).length ∧ vi = .int .i64 i ∧ Own w' w15.heap.size (.slice ak (U k).length ck) (mixL k i (U k)) ∧ KB (Value.slice ak (U k).length ck).ownBlock x0 w') (fun i _ => (U k).length - (RowKit.intOf i).toNat)
          case atStart => exact ⟨0, Nat.zero_le _, rfl, by simpa [mixL, markL] using ho0, KB.refl _ _⟩
          case round =>
            obtain ⟨i, hil, rfl, hoi, hkb⟩ := hrel
            have hgl' : g < x0.heap.size := (Array.getElem?_eq_some_iff.1 hg0).1
            have cki := cell7 ((hkb.block g hgl' (fun e => hvb e.symm)).trans hg0) k hk
            rw [hvk] at cki
            generalize hL : (U k).length = L at *
            by_cases hi : i < L
            · obtain ⟨gk, rfl, hgk1, hgk2, hfz⟩ := own_ptr hoi (by omega)
              obtain ⟨g', off', e', hg', hc0, hc1⟩ := hoi.rng.cells i hi
              cases e'
              simp only [Nat.zero_add] at hc0 hc1
              have f0 := hfz (i * 2)
              have f1 := hfz (i * 2 + 1)
              obtain ⟨mx, my, hmm⟩ : ∃ x y, markR k i = (x, y) := ⟨_, _, rfl⟩
              have HMK : Hid (∀ W, Calls Try.prog 13 #[.int .i64 k, .int .i64 i] W fun e w' => e = .returned (.agg #[.int .i64 mx, .int .i64 my]) ∧ Below W.heap.size W w') := fun W => by
                have := marked_any k i (by omega) (by omega) W
                rwa [hmm] at this
              have HOI : Hid (Own wr w15.heap.size (.slice (some ⟨gk, 0, none⟩) L ck) (mixL k i (U k))) := hoi
              have HKB : Hid (KB (Value.slice (some ⟨gk, 0, none⟩) L ck).ownBlock x0 wr) := hkb
              have HMM : Hid (markR k i = (mx, my)) := hmm
              have hgw : g < wr.heap.size := by have := hkb.size; omega
              generalize (mixL k i (U k)).getD i (0, 0) = old at hc0 hc1
              clear hoi hkb hmm hfz
              go_wp2_with fail
              have hne : g ≠ gk := fun e => hvb (by rw [e]; rfl)
              have hkI0 : (k : Int) < 7 := by omega
              have hkO0 : (0 : Int) ≤ (k : Int) := by omega
              go_region_held3 (fun W => W.cell? ⟨g, k, none⟩ = some (.slice (some ⟨gk, 0, none⟩) L ck)) (first | exact cki | exact k6 | exact k1)
                ((go_at_call 13; refine (HMK.out _).mono ?_; rintro e x1 ⟨rfl, hb1⟩; have k1 : x1.cell? ⟨g, k, none⟩ = some (.slice (some ⟨gk, 0, none⟩) L ck) := (hb1.cell (p := ⟨g, k, none⟩) hgw).trans cki; have k2 : x1.cell? ⟨gk, i * 2, none⟩ = some (.int .i64 old.1) := (hb1.cell (p := ⟨gk, i * 2, none⟩) hgk2).trans hc0; have k3 : x1.cell? ⟨gk, i * 2 + 1, none⟩ = some (.int .i64 old.2) := (hb1.cell (p := ⟨gk, i * 2 + 1, none⟩) hgk2).trans hc1; have k4 : x1.frozen? ⟨gk, i * 2, none⟩ = false := (frozen_below hb1 hgk2).trans f0; have k5 : x1.frozen? ⟨gk, i * 2 + 1, none⟩ = false := (frozen_below hb1 hgk2).trans f1; have k6 : ((x1.setCell ⟨gk, i * 2, none⟩ (.int .i64 mx)).setCell ⟨gk, i * 2 + 1, none⟩ (.int .i64 my)).cell? ⟨g, k, none⟩ = some (.slice (some ⟨gk, 0, none⟩) L ck) := (cell_set2 hne).trans k1))
              all_goals
                have hbw : Below wr.heap.size wr x1 := ⟨hb1.os, hb1.tape, hb1.output, hb1.size, hb1.block⟩
                have o1 : Own x1 w15.heap.size (.slice (some ⟨gk, 0, none⟩) L ck) (mixL k i (U k)) := HOI.out.below hbw
                have o2 := own_setAt o1 i mx my
                rw [← HMM.out, mixL_set k i (U k) (by omega)] at o2
                have kb1 : KB (Value.slice (some ⟨gk, 0, none⟩) L ck).ownBlock x0 ((x1.setCell ⟨gk, i * 2, none⟩ (.int .i64 mx)).setCell ⟨gk, i * 2 + 1, none⟩ (.int .i64 my)) := HKB.out.trans ((KB.ofBelow hbw).trans ((KB.set (p := ⟨gk, i * 2, none⟩) _).trans (KB.set (p := ⟨gk, i * 2 + 1, none⟩) _)))
                clear k1 k2 k3 k4 k5 k6 o1 HOI HKB hc0 hc1 f0 f1 HMK cki hb1 hbw
                go_wp2_with fail
                refine ⟨?_, ?_⟩
                · (repeat apply Exists.intro)
                  refine ⟨?rel, rfl⟩
                  case rel => exact ⟨i + 1, by omega, by go_num, o2, kb1⟩
                · simp [RowKit.intOf]; omega
            · have hiL : i = L := by omega
              subst hiL
              rw [← hL, mixL_all] at hoi
              rw [hL] at hoi
              obtain ⟨mx, my, hmm⟩ : ∃ x y, markR k i = (x, y) := ⟨_, _, rfl⟩
              have HMK : Hid (∀ W, Calls Try.prog 13 #[.int .i64 k, .int .i64 i] W fun e w' => e = .returned (.agg #[.int .i64 mx, .int .i64 my]) ∧ Below W.heap.size W w') := fun W => by
                have := marked_any k i (by omega) (by omega) W
                rwa [hmm] at this
              have HOI : Hid (Own wr w15.heap.size (.slice ak i ck) (markL k i)) := hoi
              have HKB : Hid (KB (Value.slice ak i ck).ownBlock x0 wr) := hkb
              have HMM : Hid (markR k i = (mx, my)) := hmm
              have hgw : g < wr.heap.size := by have := hkb.size; omega
              have hsw : w15.heap.size ≤ wr.heap.size := by have := hkb.size; omega
              have hvk2 : ∀ x, (Value.slice ak i ck).ownBlock = some x → x < y0.heap.size := fun x hx => HV.out k hk x (by rw [hvk]; exact hx)
              have hlb : ∀ x, (Value.slice al k cl).ownBlock = some x → y0.heap.size ≤ x := fun x hx => (World.ownsRow.lt hls x hx).1
              have HNE : Hid (∀ x, (Value.slice al k cl).ownBlock = some x → (Value.slice ak i ck).ownBlock ≠ some x) := fun x hx e => by
                have := hvk2 x e
                have := hlb x hx
                omega
              have HLS : Hid (OwnS wr y0.heap.size (.slice al k cl) ls) := hkb.ownS hls HNE.out
              have hsy : y0.heap.size ≤ wr.heap.size := by have := hkb.size; have := HM.out.size; omega
              clear hoi hkb hmm hvk2 hlb hls
              have hkI : (k : Int) < 7 := by omega
              have hkO : (0 : Int) ≤ (k : Int) := by omega
              go_wp2_with fail
              have hub2 : i ≤ 1000000 := by omega
              try clear hnum
              try clear hbn
              try clear c3
              try clear c4
              try clear hB15
              try clear hs15
              try clear hoA
              try clear rA
              try clear rB
              try clear HAns
              try clear HSA
              try clear HSB
              try clear HVL
              try clear HC
              try clear hbl
              try clear hws
              try clear hwl
              try clear k18
              try clear hs16
              try clear hg16
              try clear HLA
              try clear HLB
              try clear hfA
              try clear hfB
              try clear hgy
              try clear ck0
              try clear ho0
              try clear HSH
              try clear HGN
              try clear HUB
              try clear hn1
              try clear hn4
              try clear hk7
              try clear e7
              try clear hkI
              try clear hkO
              try clear hsl
              try clear hs18
              try clear hgl
              try clear hgl'
              try clear hil
              try clear hi
              have hkI2 : (k : Int) < 7 := by omega
              have hkO2 : (0 : Int) ≤ (k : Int) := by omega
              refine wp_region_held_drew (S := (fun W => W.cell? ⟨g, k, none⟩ = some (.slice ak i ck))) (by kernel_rfl) ?hS1 (fun hHeld => ?rest1)
              case hS1 => exact cki
              refine takeD (i := 0) (d := some 136) (v := ?vT2) rfl rfl (by kernel_rfl) (by kernel_rfl) (by kernel_rfl) (fun _ _ _ h => h) (Or.inl ⟨by rfl, ?hyT2⟩) (by assumption) ?rstT2
              case hyT2 => (intro w hSw; (try dsimp only at hSw); go_simp; (try with_reducible rfl))
              try simp only [Act.put, List.setIfInBounds_toArray, List.set_cons_zero, List.set_cons_succ]
              refine takeD (i := 1) (d := some 137) (v := ?vT3) rfl rfl (by kernel_rfl) (by kernel_rfl) (by kernel_rfl) (fun _ _ _ h => h) (Or.inl ⟨by rfl, ?hyT3⟩) (by assumption) ?rstT3
              case hyT3 => (intro w hSw; (try dsimp only at hSw); go_simp; (try with_reducible rfl))
              try simp only [Act.put, List.setIfInBounds_toArray, List.set_cons_zero, List.set_cons_succ]
              refine takeD (i := 2) (d := some 138) (v := ?vT4) rfl rfl (by kernel_rfl) (by kernel_rfl) (by kernel_rfl) (fun _ _ _ h => h) (Or.inl ⟨by rfl, ?hyT4⟩) (by assumption) ?rstT4
              case hyT4 => (intro w hSw; (try dsimp only at hSw); go_simp; (try with_reducible rfl))
              try simp only [Act.put, List.setIfInBounds_toArray, List.set_cons_zero, List.set_cons_succ]
              refine takeD (i := 3) (d := some 139) (v := ?vT5) rfl rfl (by kernel_rfl) (by kernel_rfl) (by kernel_rfl) (fun _ _ _ h => h) (Or.inl ⟨by rfl, ?hyT5⟩) (by assumption) ?rstT5
              case hyT5 => (intro w hSw; (try dsimp only at hSw); go_simp; (try with_reducible rfl))
              try simp only [Act.put, List.setIfInBounds_toArray, List.set_cons_zero, List.set_cons_succ]
              refine takeD (i := 4) (d := some 140) (v := ?vT6) rfl rfl (by kernel_rfl) (by kernel_rfl) (by kernel_rfl) (fun _ _ _ h => h) (Or.inl ⟨by rfl, ?hyT6⟩) (by assumption) ?rstT6
              case hyT6 => (intro w hSw; (try dsimp only at hSw); go_simp; (try with_reducible rfl))
              try simp only [Act.put, List.setIfInBounds_toArray, List.set_cons_zero, List.set_cons_succ]
              refine takeD (i := 5) (d := some 141) (v := ?vT7) rfl rfl (by kernel_rfl) (by kernel_rfl) (by kernel_rfl) (fun _ _ _ h => h) (Or.inl ⟨by rfl, ?hyT7⟩) (by assumption) ?rstT7
              case hyT7 => (intro w hSw; (try dsimp only at hSw); go_simp; (try with_reducible rfl))
              try simp only [Act.put, List.setIfInBounds_toArray, List.set_cons_zero, List.set_cons_succ]
              refine takeD (i := 6) (d := some 142) (v := ?vT8) rfl rfl (by kernel_rfl) (by kernel_rfl) (by kernel_rfl) (fun _ _ _ h => h) (Or.inl ⟨by rfl, ?hyT8⟩) (by assumption) ?rstT8
              case hyT8 => (intro w hSw; (try dsimp only at hSw); go_simp; (try with_reducible rfl))
              try simp only [Act.put, List.setIfInBounds_toArray, List.set_cons_zero, List.set_cons_succ]
              refine takeD (i := 7) (d := some 143) (v := ?vT9) rfl rfl (by kernel_rfl) (by kernel_rfl) (by kernel_rfl) (fun _ _ _ h => h) (Or.inl ⟨by rfl, ?hyT9⟩) (by assumption) ?rstT9
              case hyT9 => (intro w hSw; (try dsimp only at hSw); go_simp; (try with_reducible rfl))
              try simp only [Act.put, List.setIfInBounds_toArray, List.set_cons_zero, List.set_cons_succ]
              refine takeD (i := 8) (d := some 144) (v := ?vT10) rfl rfl (by kernel_rfl) (by kernel_rfl) (by kernel_rfl) (fun _ _ _ h => h) (Or.inl ⟨by rfl, ?hyT10⟩) (by assumption) ?rstT10
              case hyT10 => (intro w hSw; (try dsimp only at hSw); go_simp; (try with_reducible rfl))
              try simp only [Act.put, List.setIfInBounds_toArray, List.set_cons_zero, List.set_cons_succ]
              refine takeD (i := 9) (d := some 145) (v := ?vT11) rfl rfl (by kernel_rfl) (by kernel_rfl) (by kernel_rfl) (fun _ _ _ h => h) (Or.inl ⟨by rfl, ?hyT11⟩) (by assumption) ?rstT11
              case hyT11 => (intro w hSw; (try dsimp only at hSw); go_simp; (try with_reducible rfl))
              try simp only [Act.put, List.setIfInBounds_toArray, List.set_cons_zero, List.set_cons_succ]
              refine takeD (i := 10) (d := some 146) (v := ?vT12) rfl rfl (by kernel_rfl) (by kernel_rfl) (by kernel_rfl) (fun _ _ _ h => h) (Or.inl ⟨by rfl, ?hyT12⟩) (by assumption) ?rstT12
              case hyT12 => (intro w hSw; (try dsimp only at hSw); go_simp; (try with_reducible rfl))
              try simp only [Act.put, List.setIfInBounds_toArray, List.set_cons_zero, List.set_cons_succ]
              refine wpAnyH_ready (rs := [11]) (by kernel_rfl) (by simp) ?_
              refine AllReadyH.cons rfl (fun K hK => ?_) AllReadyH.nil
              go_simp
              refine (HMK.out _).mono ?_
              rintro e x1 ⟨rfl, hb1⟩
              have hbw : Below wr.heap.size wr x1 := ⟨hb1.os, hb1.tape, hb1.output, hb1.size, hb1.block⟩
              have k1 : x1.cell? ⟨g, k, none⟩ = some (.slice ak i ck) := (hbw.cell (p := ⟨g, k, none⟩) hgw).trans cki
              have hs1 := hbw.size
              obtain ⟨g1, c1, x2, r1, o1, b1, kp1, l1, t1, rd1⟩ := appendR_old (HOI.out.below hbw) (by omega) mx my (by omega) 22
              have kb1 := KB.ofKeeps b1 kp1
              have os2 := kb1.ownS (HLS.out.below hbw) HNE.out
              have hs2 := b1.size
              obtain ⟨g2, c2, x3, r2, o2, b2, kp2⟩ := appendS os2 hll (by omega) (some ⟨g1, 0, none⟩) (i + 1) c1 (by omega) 35
              have k2 : x2.cell? ⟨g, k, none⟩ = some (.slice ak i ck) := (cell_heapEq (kb1.block g (by omega) (fun e => hvb e.symm))).trans k1
              have k1a : (x1.alloc (.cells #[.int .i64 mx, .int .i64 my] 39)).cell? ⟨g, k, none⟩ = some (.slice ak i ck) := (cell_heapEq (Below.heap_alloc x1 _ g (by omega))).trans k1
              have k2a : (x2.alloc (.cells #[.slice (some ⟨g1, 0, none⟩) (i + 1) c1] 22)).cell? ⟨g, k, none⟩ = some (.slice ak i ck) := (cell_heapEq (Below.heap_alloc x2 _ g (by omega))).trans k2
              have kb2 := KB.ofKeeps b2 kp2
              have k3 : x3.cell? ⟨g, k, none⟩ = some (.slice ak i ck) := (cell_heapEq (kb2.block g (by omega) (fun e => absurd (World.ownsRow.lt os2 g e.symm).1 (by omega)))).trans k2
              clear hHeld
              refine hK.out _ _ ?hS13 (fun hHeld => ?rest13)
              case hS13 => exact k1
              clear hK K
              try simp only [Act.put, List.setIfInBounds_toArray, List.set_cons_zero, List.set_cons_succ]
              refine wpAnyH_ready (rs := [12]) (by kernel_rfl) (by simp) ?_
              refine AllReadyH.cons rfl (fun K hK => ?_) AllReadyH.nil
              go_simp
              clear hHeld
              refine hK.out _ _ ?hS14 (fun hHeld => ?rest14)
              case hS14 => exact k1a
              clear hK K
              try simp only [Act.put, List.setIfInBounds_toArray, List.set_cons_zero, List.set_cons_succ]
              refine wpAnyH_ready (rs := [13]) (by kernel_rfl) (by simp) ?_
              refine AllReadyH.cons rfl (fun K hK => ?_) AllReadyH.nil
              rw [if_pos (by rfl)]
              refine wp_append_hr (.tmp 140) (.tmp 148) 22 (some 149) rfl rfl _ _ rfl rfl r1 ?_
              clear hHeld
              refine hK.out _ _ ?hS15 (fun hHeld => ?rest15)
              case hS15 => exact k2
              clear hK K
              try simp only [Act.put, List.setIfInBounds_toArray, List.set_cons_zero, List.set_cons_succ]
              refine wpAnyH_ready (rs := [14]) (by kernel_rfl) (by simp) ?_
              refine AllReadyH.cons rfl (fun K hK => ?_) AllReadyH.nil
              go_simp
              clear hHeld
              refine hK.out _ _ ?hS16 (fun hHeld => ?rest16)
              case hS16 => exact k2a
              clear hK K
              try simp only [Act.put, List.setIfInBounds_toArray, List.set_cons_zero, List.set_cons_succ]
              refine wpAnyH_ready (rs := [15]) (by kernel_rfl) (by simp) ?_
              refine AllReadyH.cons rfl (fun K hK => ?_) AllReadyH.nil
              rw [if_pos (by rfl)]
              refine wp_append_hr (.tmp 136) (.tmp 150) 35 (some 151) rfl rfl _ _ rfl rfl r2 ?_
              clear hHeld
              refine hK.out _ _ ?hS17 (fun hHeld => ?rest17)
              case hS17 => exact k3
              clear hK K
              try simp only [Act.put, List.setIfInBounds_toArray, List.set_cons_zero, List.set_cons_succ]
              refine takeD (i := 16) (d := some 16) (v := ?vT18) rfl rfl (by kernel_rfl) (by kernel_rfl) (by kernel_rfl) (fun _ _ _ h => h) (Or.inl ⟨by rfl, ?hyT18⟩) (by assumption) ?rstT18
              case hyT18 => (intro w hSw; (try dsimp only at hSw); go_simp; (try with_reducible rfl))
              try simp only [Act.put, List.setIfInBounds_toArray, List.set_cons_zero, List.set_cons_succ]
              refine wpAnyH_done (by kernel_rfl) ?_ _
              have o1' : Own x2 w15.heap.size (.slice (some ⟨g1, 0, none⟩) (i + 1) c1) (markL k (i + 1)) := by rw [markL_succ, HMM.out]; exact o1
              have HNEW : Hid (Mk w15.heap.size vs U y0 x3 (k + 1) (ls ++ [.slice (some ⟨g1, 0, none⟩) (i + 1) c1])) := by
                have hUk : (U k).length = i := hL
                refine HM.out.step (vl := .slice al k cl) hk hll HAP.out HV.out ?_ ?_ ?_ ?_ os2 kb2
                · rw [hvk]; exact HKB.out.trans ((KB.ofBelow hbw).trans kb1)
                · rw [hvk, hUk]; exact ⟨ak, ck, by rw [markL_length], by rw [markL_length]; exact rd1⟩
                · rw [hUk]; exact o1'
                · intro x hx
                  have e1 : g1 = x := by simpa [Value.ownBlock] using hx
                  subst e1
                  rcases l1 with q | q
                  · left; rw [hvk]; exact q
                  · right; omega
              clear k1 k1a k2 k2a k3 HM HKB HOI HLS o1 o1' b1 kp1 rd1 os2 b2 kp2 kb1 kb2 HMK r1 r2
              go_wp2_with fail
              refine ⟨?_, ?_⟩
              · (repeat apply Exists.intro)
                refine ⟨?rel, rfl⟩
                case rel => exact ⟨k + 1, _, by omega, by go_num, by simp [hll], o2, HNEW⟩
              · simp [RowKit.intOf]; omega
        · obtain rfl : k = 7 := by omega
          have hM := HM.out
          have KY : Below w15.heap.size w15 y0 := k18.trans (hbl.mono k18.size)
          have KX : Below w15.heap.size w15 x0 := by
            refine ⟨hM.os.trans KY.os, hM.tape.trans KY.tape, hM.output.trans KY.output, Nat.le_trans KY.size hM.size, fun q hq => ?_⟩
            exact (hM.block q (by have := KY.size; omega) (fun j hj e => by have := (HVL.out j hj q e).1; omega)).trans (KY.block q hq)
          have hQ : ∀ q, w18.heap.size ≤ q → q < y0.heap.size → x0.heap[q]? = y0.heap[q]? := fun q h1 h2 => hM.block q h2 (fun j hj e => by have := (HVL.out j hj q e).2; omega)
          have HWX : Hid (OwnS x0 w18.heap.size (.slice aw 7 cw) ws) := ownS_of_block hws (fun q hq => by have := World.ownsRow.lt hws q hq; exact hQ q this.1 this.2)
          have HWO : Hid (∀ j, j < 7 → Own x0 w18.heap.size (ws.getD j undef) (U j)) := fun j hj => own_of_block (HC.out j hj) (fun q hq => by have := World.ownsRow.lt (HC.out j hj) q hq; exact hQ q this.1 this.2)
          have HLO : Hid (∀ j, j < 7 → Own x0 w15.heap.size (ls.getD j undef) (markL j ((U j).length + 1))) := hM.own
          have HRV : Hid (∀ j, j < 7 → Rd x0 (vs j) (markL j (U j).length)) := hM.rdv
          have HKX : Hid (Below w15.heap.size w15 x0) := KX
          obtain ⟨gL, eL, _, hgL, _⟩ := hls.cell 0 (by omega)
          subst eL
          have HLC : Hid (∀ j, j < 7 → x0.cell? ⟨gL, j, none⟩ = some (ls.getD j undef)) := fun j hj => by
            obtain ⟨g', e', _, _, hc⟩ := hls.cell j (by omega)
            cases e'
            exact hc
          have hgx : g < x0.heap.size := (Array.getElem?_eq_some_iff.1 hg0).1
          have HG7 : Hid (x0.heap[g]? = some (.cells #[vs 0, vs 1, vs 2, vs 3, vs 4, vs 5, vs 6] 22)) := hg0
          clear hM KY KX hQ HM hls hg0 hws HC hbl
          rw [show ((7 : Nat) : Int) = 7 from rfl]
          go_wp2_with fail
          go_loopw [19, 20] (fun vk vi w' => ∃ k : Nat, k ≤ 7 ∧ vk = .int .i64 k ∧ Below x0.heap.size x0 w') (fun i _ _ => 7 - (RowKit.intOf i).toNat)
          case atStart => exact ⟨0, by omega, rfl, Below.refl _ _⟩
          case round =>
            obtain ⟨k, hk7, rfl, hbk⟩ := hrel
            obtain ⟨x4, hx4⟩ : ∃ x4, x4 = wr := ⟨_, rfl⟩
            subst hx4
            by_cases hk : k < 7
            · obtain ⟨ak, ck, hlk⟩ := (HLO.out k hk).shape
              rw [markL_length] at hlk
              have hok := HLO.out k hk
              rw [hlk] at hok
              obtain ⟨gk, rfl, _, hgk, _⟩ := own_ptr hok (by omega)
              have hub := HUB.out k hk
              have HCE : Hid (∀ i, i < (U k).length + 1 → x0.cell? ⟨gk, i * 2, none⟩ = some (.int .i64 (markR k i).1) ∧ x0.cell? ⟨gk, i * 2 + 1, none⟩ = some (.int .i64 (markR k i).2)) := fun i hi => by
                obtain ⟨g', off', e', _, h0, h1⟩ := hok.rng.cells i hi
                cases e'
                rw [markL_get _ _ _ hi] at h0 h1
                simp only [Nat.zero_add] at h0 h1
                exact ⟨h0, h1⟩
              obtain ⟨av, cv, hvk⟩ := HSH.out k hk
              have hcL := HLC.out k hk
              rw [hlk] at hcL
              have hcG := cell7 HG7.out k hk
              rw [hvk] at hcG
              have HCV : Hid (∀ i, i < (U k).length → ∃ gv, av = some ⟨gv, 0, none⟩ ∧ gv < x0.heap.size ∧ x0.cell? ⟨gv, i * 2, none⟩ = some (.int .i64 (markR k i).1) ∧ x0.cell? ⟨gv, i * 2 + 1, none⟩ = some (.int .i64 (markR k i).2)) := fun i hi => by
                obtain ⟨gv, cj, ev⟩ := HSP.out k hk (by omega)
                rw [hvk] at ev
                simp only [Value.slice.injEq, true_and] at ev
                obtain ⟨rfl, rfl⟩ := ev
                obtain ⟨a'', c'', e'', hr⟩ := HRV.out k hk
                rw [hvk, markL_length] at e''
                simp only [Value.slice.injEq, true_and] at e''
                obtain ⟨rfl, rfl⟩ := e''
                rw [markL_length] at hr
                obtain ⟨g', off', e', hg', h0, h1⟩ := hr.cells i hi
                cases e'
                rw [markL_get _ _ _ hi] at h0 h1
                simp only [Nat.zero_add] at h0 h1
                exact ⟨gv, rfl, hg', h0, h1⟩
              clear hok
              generalize hL : (U k).length = L at *
              have e7 : decide ((k : Int) < 7) = true := decide_eq_true (by omega)
              have hkI : (k : Int) < 7 := by omega
              go_wp2_with fail
              go_loopw [20] (fun vi w' => ∃ i : Nat, i ≤ L + 1 ∧ vi = .int .i64 i ∧ Below x0.heap.size x0 w') (fun i _ => L + 1 - (RowKit.intOf i).toNat)
              case atStart => exact ⟨0, by omega, rfl, hbk⟩
              case round =>
                obtain ⟨i, hiL, rfl, hbi⟩ := hrel
                have dL := (hbi.cell (p := ⟨gL, k, none⟩) hgL).trans hcL
                have lL : gL < wr.heap.size := Nat.lt_of_lt_of_le hgL hbi.size
                by_cases hi : i < L + 1
                · have hiI : (i : Int) < (L : Int) + 1 := by omega
                  have dG := (hbi.cell (p := ⟨g, k, none⟩) hgx).trans hcG
                  have lG : g < wr.heap.size := Nat.lt_of_lt_of_le hgx hbi.size
                  have dE0 := (hbi.cell (p := ⟨gk, i * 2, none⟩) hgk).trans (HCE.out i hi).1
                  have dE1 := (hbi.cell (p := ⟨gk, i * 2 + 1, none⟩) hgk).trans (HCE.out i hi).2
                  have lK : gk < wr.heap.size := Nat.lt_of_lt_of_le hgk hbi.size
                  have HMK : Hid (∀ W, Calls Try.prog 13 #[.int .i64 k, .int .i64 i] W fun e w' => e = .returned (.agg #[.int .i64 (markR k i).1, .int .i64 (markR k i).2]) ∧ Below W.heap.size W w') := fun W => marked_any k i (by omega) (by omega) W
                  have HCV' := HCV.out i
                  generalize (markR k i).1 = mx at *
                  generalize (markR k i).2 = my at *
                  by_cases hiv : i < L
                  · obtain ⟨gv, rfl, hgv, v0, v1⟩ := HCV' hiv
                    have dV0 := (hbi.cell (p := ⟨gv, i * 2, none⟩) hgv).trans v0
                    have dV1 := (hbi.cell (p := ⟨gv, i * 2 + 1, none⟩) hgv).trans v1
                    have lV : gv < wr.heap.size := Nat.lt_of_lt_of_le hgv hbi.size
                    have hivI : (i : Int) < (L : Int) := by omega
                    clear v0 v1 HCV' hcL hcG
                    go_wp2_with fail
                    refine wp_region_held_drew (S := (fun W => ∀ p : Addr, p.block < wr.heap.size → W.cell? p = wr.cell? p)) (by kernel_rfl) ?hS19 (fun hHeld => ?rest19)
                    case hS19 => (intro p hp; rfl)
                    refine takeD (i := 0) (d := some 167) (v := ?vT20) rfl rfl (by kernel_rfl) (by kernel_rfl) (by kernel_rfl) (fun _ _ _ h => h) (Or.inl ⟨by rfl, ?hyT20⟩) (by assumption) ?rstT20
                    case hyT20 => (intro w hSw; (try dsimp only at hSw); go_simp; (try with_reducible rfl))
                    try simp only [Act.put, List.setIfInBounds_toArray, List.set_cons_zero, List.set_cons_succ]
                    refine takeD (i := 1) (d := some 168) (v := ?vT21) rfl rfl (by kernel_rfl) (by kernel_rfl) (by kernel_rfl) (fun _ _ _ h => h) (Or.inl ⟨by rfl, ?hyT21⟩) (by assumption) ?rstT21
                    case hyT21 => (intro w hSw; (try dsimp only at hSw); go_simp; (try with_reducible rfl))
                    try simp only [Act.put, List.setIfInBounds_toArray, List.set_cons_zero, List.set_cons_succ]
                    refine takeD (i := 2) (d := some 169) (v := ?vT22) rfl rfl (by kernel_rfl) (by kernel_rfl) (by kernel_rfl) (fun _ _ _ h => h) (Or.inl ⟨by rfl, ?hyT22⟩) (by assumption) ?rstT22
                    case hyT22 => (intro w hSw; (try dsimp only at hSw); go_simp; (try with_reducible rfl))
                    try simp only [Act.put, List.setIfInBounds_toArray, List.set_cons_zero, List.set_cons_succ]
                    refine takeD (i := 3) (d := some 170) (v := ?vT23) rfl rfl (by kernel_rfl) (by kernel_rfl) (by kernel_rfl) (fun _ _ _ h => h) (Or.inl ⟨by rfl, ?hyT23⟩) (by assumption) ?rstT23
                    case hyT23 => (intro w hSw; (try dsimp only at hSw); go_simp; (try with_reducible rfl))
                    try simp only [Act.put, List.setIfInBounds_toArray, List.set_cons_zero, List.set_cons_succ]
                    refine takeD (i := 4) (d := some 171) (v := ?vT24) rfl rfl (by kernel_rfl) (by kernel_rfl) (by kernel_rfl) (fun _ _ _ h => h) (Or.inl ⟨by rfl, ?hyT24⟩) (by assumption) ?rstT24
                    case hyT24 => (intro w hSw; (try dsimp only at hSw); go_simp; (try with_reducible rfl))
                    try simp only [Act.put, List.setIfInBounds_toArray, List.set_cons_zero, List.set_cons_succ]
                    refine takeD (i := 5) (d := some 172) (v := ?vT25) rfl rfl (by kernel_rfl) (by kernel_rfl) (by kernel_rfl) (fun _ _ _ h => h) (Or.inl ⟨by rfl, ?hyT25⟩) (by assumption) ?rstT25
                    case hyT25 => (intro w hSw; (try dsimp only at hSw); go_simp; (try with_reducible rfl))
                    try simp only [Act.put, List.setIfInBounds_toArray, List.set_cons_zero, List.set_cons_succ]
                    refine takeD (i := 6) (d := some 173) (v := ?vT26) rfl rfl (by kernel_rfl) (by kernel_rfl) (by kernel_rfl) (fun _ _ _ h => h) (Or.inl ⟨by rfl, ?hyT26⟩) (by assumption) ?rstT26
                    case hyT26 => (intro w hSw; (try dsimp only at hSw); go_simp; (try with_reducible rfl))
                    try simp only [Act.put, List.setIfInBounds_toArray, List.set_cons_zero, List.set_cons_succ]
                    refine takeD (i := 7) (d := some 174) (v := ?vT27) rfl rfl (by kernel_rfl) (by kernel_rfl) (by kernel_rfl) (fun _ _ _ h => h) (Or.inl ⟨by rfl, ?hyT27⟩) (by assumption) ?rstT27
                    case hyT27 => (intro w hSw; (try dsimp only at hSw); go_simp; (try with_reducible rfl))
                    try simp only [Act.put, List.setIfInBounds_toArray, List.set_cons_zero, List.set_cons_succ]
                    refine takeD (i := 8) (d := some 175) (v := ?vT28) rfl rfl (by kernel_rfl) (by kernel_rfl) (by kernel_rfl) (fun _ _ _ h => h) (Or.inl ⟨by rfl, ?hyT28⟩) (by assumption) ?rstT28
                    case hyT28 => (intro w hSw; (try dsimp only at hSw); go_simp; (try with_reducible rfl))
                    try simp only [Act.put, List.setIfInBounds_toArray, List.set_cons_zero, List.set_cons_succ]
                    refine wpAnyH_ready (rs := [9]) (by kernel_rfl) (by simp) ?_
                    refine AllReadyH.cons rfl (fun K hK => ?_) AllReadyH.nil
                    go_simp
                    refine (HMK.out _).mono ?_
                    rintro e x1 ⟨rfl, hb1⟩
                    have hb1' : Below wr.heap.size wr x1 := ⟨hb1.os, hb1.tape, hb1.output, hb1.size, hb1.block⟩
                    clear hHeld
                    refine hK.out _ _ ?hS29 (fun hHeld => ?rest29)
                    case hS29 => (intro p hp; exact hb1'.cell hp)
                    clear hK K
                    try simp only [Act.put, List.setIfInBounds_toArray, List.set_cons_zero, List.set_cons_succ]
                    refine takeD (i := 10) (d := some 177) (v := ?vT30) rfl rfl (by kernel_rfl) (by kernel_rfl) (by kernel_rfl) (fun _ _ _ h => h) (Or.inl ⟨by rfl, ?hyT30⟩) (by assumption) ?rstT30
                    case hyT30 => (intro w hSw; (try dsimp only at hSw); go_simp; (try with_reducible rfl))
                    try simp only [Act.put, List.setIfInBounds_toArray, List.set_cons_zero, List.set_cons_succ]
                    refine takeD (i := 11) (d := some 178) (v := ?vT31) rfl rfl (by kernel_rfl) (by kernel_rfl) (by kernel_rfl) (fun _ _ _ h => h) (Or.inl ⟨by rfl, ?hyT31⟩) (by assumption) ?rstT31
                    case hyT31 => (intro w hSw; (try dsimp only at hSw); go_simp; (try with_reducible rfl))
                    try simp only [Act.put, List.setIfInBounds_toArray, List.set_cons_zero, List.set_cons_succ]
                    refine takeD (i := 12) (d := some 179) (v := ?vT32) rfl rfl (by kernel_rfl) (by kernel_rfl) (by kernel_rfl) (fun _ _ _ h => h) (Or.inl ⟨by rfl, ?hyT32⟩) (by assumption) ?rstT32
                    case hyT32 => (intro w hSw; (try dsimp only at hSw); go_simp; (try with_reducible rfl))
                    try simp only [Act.put, List.setIfInBounds_toArray, List.set_cons_zero, List.set_cons_succ]
                    refine takeD (i := 13) (d := some 180) (v := ?vT33) rfl rfl (by kernel_rfl) (by kernel_rfl) (by kernel_rfl) (fun _ _ _ h => h) (Or.inl ⟨by rfl, ?hyT33⟩) (by assumption) ?rstT33
                    case hyT33 => (intro w hSw; (try dsimp only at hSw); go_simp; (try with_reducible rfl))
                    try simp only [Act.put, List.setIfInBounds_toArray, List.set_cons_zero, List.set_cons_succ]
                    refine takeD (i := 14) (d := some 181) (v := ?vT34) rfl rfl (by kernel_rfl) (by kernel_rfl) (by kernel_rfl) (fun _ _ _ h => h) (Or.inl ⟨by rfl, ?hyT34⟩) (by assumption) ?rstT34
                    case hyT34 => (intro w hSw; (try dsimp only at hSw); go_simp; (try with_reducible rfl))
                    try simp only [Act.put, List.setIfInBounds_toArray, List.set_cons_zero, List.set_cons_succ]
                    refine takeD (i := 15) (d := some 182) (v := ?vT35) rfl rfl (by kernel_rfl) (by kernel_rfl) (by kernel_rfl) (fun _ _ _ h => h) (Or.inl ⟨by rfl, ?hyT35⟩) (by assumption) ?rstT35
                    case hyT35 => (intro w hSw; (try dsimp only at hSw); go_simp; (try with_reducible rfl))
                    try simp only [Act.put, List.setIfInBounds_toArray, List.set_cons_zero, List.set_cons_succ]
                    refine takeD (i := 16) (d := some 183) (v := ?vT36) rfl rfl (by kernel_rfl) (by kernel_rfl) (by kernel_rfl) (fun _ _ _ h => h) (Or.inl ⟨by rfl, ?hyT36⟩) (by assumption) ?rstT36
                    case hyT36 => (intro w hSw; (try dsimp only at hSw); go_simp; (try with_reducible rfl))
                    try simp only [Act.put, List.setIfInBounds_toArray, List.set_cons_zero, List.set_cons_succ]
                    refine takeD (i := 17) (d := some 184) (v := ?vT37) rfl rfl (by kernel_rfl) (by kernel_rfl) (by kernel_rfl) (fun _ _ _ h => h) (Or.inl ⟨by rfl, ?hyT37⟩) (by assumption) ?rstT37
                    case hyT37 => (intro w hSw; (try dsimp only at hSw); go_simp; (try with_reducible rfl))
                    try simp only [Act.put, List.setIfInBounds_toArray, List.set_cons_zero, List.set_cons_succ]
                    refine takeD (i := 18) (d := some 185) (v := ?vT38) rfl rfl (by kernel_rfl) (by kernel_rfl) (by kernel_rfl) (fun _ _ _ h => h) (Or.inl ⟨by rfl, ?hyT38⟩) (by assumption) ?rstT38
                    case hyT38 => (intro w hSw; (try dsimp only at hSw); go_simp; (try with_reducible rfl))
                    try simp only [Act.put, List.setIfInBounds_toArray, List.set_cons_zero, List.set_cons_succ]
                    refine takeD (i := 19) (d := some 186) (v := ?vT39) rfl rfl (by kernel_rfl) (by kernel_rfl) (by kernel_rfl) (fun _ _ _ h => h) (Or.inl ⟨by rfl, ?hyT39⟩) (by assumption) ?rstT39
                    case hyT39 => (intro w hSw; (try dsimp only at hSw); go_simp; (try with_reducible rfl))
                    try simp only [Act.put, List.setIfInBounds_toArray, List.set_cons_zero, List.set_cons_succ]
                    refine takeD (i := 20) (d := some 187) (v := ?vT40) rfl rfl (by kernel_rfl) (by kernel_rfl) (by kernel_rfl) (fun _ _ _ h => h) (Or.inl ⟨by rfl, ?hyT40⟩) (by assumption) ?rstT40
                    case hyT40 => (intro w hSw; (try dsimp only at hSw); go_simp; (try with_reducible rfl))
                    try simp only [Act.put, List.setIfInBounds_toArray, List.set_cons_zero, List.set_cons_succ]
                    refine takeD (i := 21) (d := some 188) (v := ?vT41) rfl rfl (by kernel_rfl) (by kernel_rfl) (by kernel_rfl) (fun _ _ _ h => h) (Or.inl ⟨by rfl, ?hyT41⟩) (by assumption) ?rstT41
                    case hyT41 => (intro w hSw; (try dsimp only at hSw); go_simp; (try with_reducible rfl))
                    try simp only [Act.put, List.setIfInBounds_toArray, List.set_cons_zero, List.set_cons_succ]
                    refine takeD (i := 22) (d := some 189) (v := ?vT42) rfl rfl (by kernel_rfl) (by kernel_rfl) (by kernel_rfl) (fun _ _ _ h => h) (Or.inl ⟨by rfl, ?hyT42⟩) (by assumption) ?rstT42
                    case hyT42 => (intro w hSw; (try dsimp only at hSw); go_simp; (try with_reducible rfl))
                    try simp only [Act.put, List.setIfInBounds_toArray, List.set_cons_zero, List.set_cons_succ]
                    refine takeD (i := 23) (d := some 190) (v := ?vT43) rfl rfl (by kernel_rfl) (by kernel_rfl) (by kernel_rfl) (fun _ _ _ h => h) (Or.inl ⟨by rfl, ?hyT43⟩) (by assumption) ?rstT43
                    case hyT43 => (intro w hSw; (try dsimp only at hSw); go_simp; (try with_reducible rfl))
                    try simp only [Act.put, List.setIfInBounds_toArray, List.set_cons_zero, List.set_cons_succ]
                    refine takeD (i := 24) (d := some 191) (v := ?vT44) rfl rfl (by kernel_rfl) (by kernel_rfl) (by kernel_rfl) (fun _ _ _ h => h) (Or.inl ⟨by rfl, ?hyT44⟩) (by assumption) ?rstT44
                    case hyT44 => (intro w hSw; (try dsimp only at hSw); go_simp; (try with_reducible rfl))
                    try simp only [Act.put, List.setIfInBounds_toArray, List.set_cons_zero, List.set_cons_succ]
                    refine takeD (i := 25) (d := some 192) (v := ?vT45) rfl rfl (by kernel_rfl) (by kernel_rfl) (by kernel_rfl) (fun _ _ _ h => h) (Or.inl ⟨by rfl, ?hyT45⟩) (by assumption) ?rstT45
                    case hyT45 => (intro w hSw; (try dsimp only at hSw); go_simp; (try with_reducible rfl))
                    try simp only [Act.put, List.setIfInBounds_toArray, List.set_cons_zero, List.set_cons_succ]
                    refine takeD (i := 26) (d := some 193) (v := ?vT46) rfl rfl (by kernel_rfl) (by kernel_rfl) (by kernel_rfl) (fun _ _ _ h => h) (Or.inl ⟨by rfl, ?hyT46⟩) (by assumption) ?rstT46
                    case hyT46 => (intro w hSw; (try dsimp only at hSw); go_simp; (try with_reducible rfl))
                    try simp only [Act.put, List.setIfInBounds_toArray, List.set_cons_zero, List.set_cons_succ]
                    refine takeD (i := 27) (d := some 194) (v := ?vT47) rfl rfl (by kernel_rfl) (by kernel_rfl) (by kernel_rfl) (fun _ _ _ h => h) (Or.inl ⟨by rfl, ?hyT47⟩) (by assumption) ?rstT47
                    case hyT47 => (intro w hSw; (try dsimp only at hSw); go_simp; (try with_reducible rfl))
                    try simp only [Act.put, List.setIfInBounds_toArray, List.set_cons_zero, List.set_cons_succ]
                    refine takeD (i := 28) (d := some 195) (v := ?vT48) rfl rfl (by kernel_rfl) (by kernel_rfl) (by kernel_rfl) (fun _ _ _ h => h) (Or.inl ⟨by rfl, ?hyT48⟩) (by assumption) ?rstT48
                    case hyT48 => (intro w hSw; (try dsimp only at hSw); go_simp; (try with_reducible rfl))
                    try simp only [Act.put, List.setIfInBounds_toArray, List.set_cons_zero, List.set_cons_succ]
                    refine wpAnyH_ready (rs := [29]) (by kernel_rfl) (by simp) ?_
                    refine AllReadyH.cons rfl (fun K hK => ?_) AllReadyH.nil
                    go_simp
                    refine (HMK.out _).mono ?_
                    rintro e x2 ⟨rfl, hb2⟩
                    clear hHeld
                    refine hK.out _ _ ?hS49 (fun hHeld => ?rest49)
                    case hS49 => (intro p hp; exact (hb2.cell (Nat.lt_of_lt_of_le hp hb1'.size)).trans (hb1'.cell hp))
                    clear hK K
                    try simp only [Act.put, List.setIfInBounds_toArray, List.set_cons_zero, List.set_cons_succ]
                    refine takeD (i := 30) (d := some 197) (v := ?vT50) rfl rfl (by kernel_rfl) (by kernel_rfl) (by kernel_rfl) (fun _ _ _ h => h) (Or.inl ⟨by rfl, ?hyT50⟩) (by assumption) ?rstT50
                    case hyT50 => (intro w hSw; (try dsimp only at hSw); go_simp; (try with_reducible rfl))
                    try simp only [Act.put, List.setIfInBounds_toArray, List.set_cons_zero, List.set_cons_succ]
                    refine takeD (i := 31) (d := some 198) (v := ?vT51) rfl rfl (by kernel_rfl) (by kernel_rfl) (by kernel_rfl) (fun _ _ _ h => h) (Or.inl ⟨by rfl, ?hyT51⟩) (by assumption) ?rstT51
                    case hyT51 => (intro w hSw; (try dsimp only at hSw); go_simp; (try with_reducible rfl))
                    try simp only [Act.put, List.setIfInBounds_toArray, List.set_cons_zero, List.set_cons_succ]
                    refine takeD (i := 32) (d := some 199) (v := ?vT52) rfl rfl (by kernel_rfl) (by kernel_rfl) (by kernel_rfl) (fun _ _ _ h => h) (Or.inl ⟨by rfl, ?hyT52⟩) (by assumption) ?rstT52
                    case hyT52 => (intro w hSw; (try dsimp only at hSw); go_simp; (try with_reducible rfl))
                    try simp only [Act.put, List.setIfInBounds_toArray, List.set_cons_zero, List.set_cons_succ]
                    refine wpAnyH_done (by kernel_rfl) ?_ _
                    have hbz := hbi.trans ((hb1'.trans (hb2.mono hb1'.size)).mono hbi.size)
                    clear hb1 hb2 hb1' dL dG dE0 dE1 dV0 dV1 HMK
                    go_wp2_with fail
                    go_roundw
                    case rel => exact ⟨i + 1, by omega, by go_num, hbz⟩
                    case measure => simp [RowKit.intOf]; omega
                  · obtain rfl : i = L := by omega
                    clear HCV' hcL hcG
                    go_wp2_with fail
                    refine wp_region_held_drew (S := (fun W => ∀ p : Addr, p.block < wr.heap.size → W.cell? p = wr.cell? p)) (by kernel_rfl) ?hS53 (fun hHeld => ?rest53)
                    case hS53 => (intro p hp; rfl)
                    refine takeD (i := 0) (d := some 167) (v := ?vT54) rfl rfl (by kernel_rfl) (by kernel_rfl) (by kernel_rfl) (fun _ _ _ h => h) (Or.inl ⟨by rfl, ?hyT54⟩) (by assumption) ?rstT54
                    case hyT54 => (intro w hSw; (try dsimp only at hSw); go_simp; (try with_reducible rfl))
                    try simp only [Act.put, List.setIfInBounds_toArray, List.set_cons_zero, List.set_cons_succ]
                    refine takeD (i := 1) (d := some 168) (v := ?vT55) rfl rfl (by kernel_rfl) (by kernel_rfl) (by kernel_rfl) (fun _ _ _ h => h) (Or.inl ⟨by rfl, ?hyT55⟩) (by assumption) ?rstT55
                    case hyT55 => (intro w hSw; (try dsimp only at hSw); go_simp; (try with_reducible rfl))
                    try simp only [Act.put, List.setIfInBounds_toArray, List.set_cons_zero, List.set_cons_succ]
                    refine takeD (i := 2) (d := some 169) (v := ?vT56) rfl rfl (by kernel_rfl) (by kernel_rfl) (by kernel_rfl) (fun _ _ _ h => h) (Or.inl ⟨by rfl, ?hyT56⟩) (by assumption) ?rstT56
                    case hyT56 => (intro w hSw; (try dsimp only at hSw); go_simp; (try with_reducible rfl))
                    try simp only [Act.put, List.setIfInBounds_toArray, List.set_cons_zero, List.set_cons_succ]
                    refine takeD (i := 3) (d := some 170) (v := ?vT57) rfl rfl (by kernel_rfl) (by kernel_rfl) (by kernel_rfl) (fun _ _ _ h => h) (Or.inl ⟨by rfl, ?hyT57⟩) (by assumption) ?rstT57
                    case hyT57 => (intro w hSw; (try dsimp only at hSw); go_simp; (try with_reducible rfl))
                    try simp only [Act.put, List.setIfInBounds_toArray, List.set_cons_zero, List.set_cons_succ]
                    refine takeD (i := 4) (d := some 171) (v := ?vT58) rfl rfl (by kernel_rfl) (by kernel_rfl) (by kernel_rfl) (fun _ _ _ h => h) (Or.inl ⟨by rfl, ?hyT58⟩) (by assumption) ?rstT58
                    case hyT58 => (intro w hSw; (try dsimp only at hSw); go_simp; (try with_reducible rfl))
                    try simp only [Act.put, List.setIfInBounds_toArray, List.set_cons_zero, List.set_cons_succ]
                    refine takeD (i := 5) (d := some 172) (v := ?vT59) rfl rfl (by kernel_rfl) (by kernel_rfl) (by kernel_rfl) (fun _ _ _ h => h) (Or.inl ⟨by rfl, ?hyT59⟩) (by assumption) ?rstT59
                    case hyT59 => (intro w hSw; (try dsimp only at hSw); go_simp; (try with_reducible rfl))
                    try simp only [Act.put, List.setIfInBounds_toArray, List.set_cons_zero, List.set_cons_succ]
                    refine takeD (i := 6) (d := some 173) (v := ?vT60) rfl rfl (by kernel_rfl) (by kernel_rfl) (by kernel_rfl) (fun _ _ _ h => h) (Or.inl ⟨by rfl, ?hyT60⟩) (by assumption) ?rstT60
                    case hyT60 => (intro w hSw; (try dsimp only at hSw); go_simp; (try with_reducible rfl))
                    try simp only [Act.put, List.setIfInBounds_toArray, List.set_cons_zero, List.set_cons_succ]
                    refine takeD (i := 7) (d := some 174) (v := ?vT61) rfl rfl (by kernel_rfl) (by kernel_rfl) (by kernel_rfl) (fun _ _ _ h => h) (Or.inl ⟨by rfl, ?hyT61⟩) (by assumption) ?rstT61
                    case hyT61 => (intro w hSw; (try dsimp only at hSw); go_simp; (try with_reducible rfl))
                    try simp only [Act.put, List.setIfInBounds_toArray, List.set_cons_zero, List.set_cons_succ]
                    refine takeD (i := 8) (d := some 175) (v := ?vT62) rfl rfl (by kernel_rfl) (by kernel_rfl) (by kernel_rfl) (fun _ _ _ h => h) (Or.inl ⟨by rfl, ?hyT62⟩) (by assumption) ?rstT62
                    case hyT62 => (intro w hSw; (try dsimp only at hSw); go_simp; (try with_reducible rfl))
                    try simp only [Act.put, List.setIfInBounds_toArray, List.set_cons_zero, List.set_cons_succ]
                    refine wpAnyH_ready (rs := [9]) (by kernel_rfl) (by simp) ?_
                    refine AllReadyH.cons rfl (fun K hK => ?_) AllReadyH.nil
                    go_simp
                    refine (HMK.out _).mono ?_
                    rintro e x1 ⟨rfl, hb1⟩
                    have hb1' : Below wr.heap.size wr x1 := ⟨hb1.os, hb1.tape, hb1.output, hb1.size, hb1.block⟩
                    clear hHeld
                    refine hK.out _ _ ?hS63 (fun hHeld => ?rest63)
                    case hS63 => (intro p hp; exact hb1'.cell hp)
                    clear hK K
                    try simp only [Act.put, List.setIfInBounds_toArray, List.set_cons_zero, List.set_cons_succ]
                    refine takeD (i := 10) (d := some 177) (v := ?vT64) rfl rfl (by kernel_rfl) (by kernel_rfl) (by kernel_rfl) (fun _ _ _ h => h) (Or.inl ⟨by rfl, ?hyT64⟩) (by assumption) ?rstT64
                    case hyT64 => (intro w hSw; (try dsimp only at hSw); go_simp; (try with_reducible rfl))
                    try simp only [Act.put, List.setIfInBounds_toArray, List.set_cons_zero, List.set_cons_succ]
                    refine takeD (i := 11) (d := some 178) (v := ?vT65) rfl rfl (by kernel_rfl) (by kernel_rfl) (by kernel_rfl) (fun _ _ _ h => h) (Or.inl ⟨by rfl, ?hyT65⟩) (by assumption) ?rstT65
                    case hyT65 => (intro w hSw; (try dsimp only at hSw); go_simp; (try with_reducible rfl))
                    try simp only [Act.put, List.setIfInBounds_toArray, List.set_cons_zero, List.set_cons_succ]
                    refine takeD (i := 12) (d := some 179) (v := ?vT66) rfl rfl (by kernel_rfl) (by kernel_rfl) (by kernel_rfl) (fun _ _ _ h => h) (Or.inl ⟨by rfl, ?hyT66⟩) (by assumption) ?rstT66
                    case hyT66 => (intro w hSw; (try dsimp only at hSw); go_simp; (try with_reducible rfl))
                    try simp only [Act.put, List.setIfInBounds_toArray, List.set_cons_zero, List.set_cons_succ]
                    refine takeD (i := 13) (d := some 180) (v := ?vT67) rfl rfl (by kernel_rfl) (by kernel_rfl) (by kernel_rfl) (fun _ _ _ h => h) (Or.inl ⟨by rfl, ?hyT67⟩) (by assumption) ?rstT67
                    case hyT67 => (intro w hSw; (try dsimp only at hSw); go_simp; (try with_reducible rfl))
                    try simp only [Act.put, List.setIfInBounds_toArray, List.set_cons_zero, List.set_cons_succ]
                    refine takeD (i := 14) (d := some 181) (v := ?vT68) rfl rfl (by kernel_rfl) (by kernel_rfl) (by kernel_rfl) (fun _ _ _ h => h) (Or.inl ⟨by rfl, ?hyT68⟩) (by assumption) ?rstT68
                    case hyT68 => (intro w hSw; (try dsimp only at hSw); go_simp; (try with_reducible rfl))
                    try simp only [Act.put, List.setIfInBounds_toArray, List.set_cons_zero, List.set_cons_succ]
                    refine takeD (i := 15) (d := some 182) (v := ?vT69) rfl rfl (by kernel_rfl) (by kernel_rfl) (by kernel_rfl) (fun _ _ _ h => h) (Or.inl ⟨by rfl, ?hyT69⟩) (by assumption) ?rstT69
                    case hyT69 => (intro w hSw; (try dsimp only at hSw); go_simp; (try with_reducible rfl))
                    try simp only [Act.put, List.setIfInBounds_toArray, List.set_cons_zero, List.set_cons_succ]
                    refine takeD (i := 16) (d := some 183) (v := ?vT70) rfl rfl (by kernel_rfl) (by kernel_rfl) (by kernel_rfl) (fun _ _ _ h => h) (Or.inl ⟨by rfl, ?hyT70⟩) (by assumption) ?rstT70
                    case hyT70 => (intro w hSw; (try dsimp only at hSw); go_simp; (try with_reducible rfl))
                    try simp only [Act.put, List.setIfInBounds_toArray, List.set_cons_zero, List.set_cons_succ]
                    refine takeD (i := 17) (d := some 184) (v := ?vT71) rfl rfl (by kernel_rfl) (by kernel_rfl) (by kernel_rfl) (fun _ _ _ h => h) (Or.inl ⟨by rfl, ?hyT71⟩) (by assumption) ?rstT71
                    case hyT71 => (intro w hSw; (try dsimp only at hSw); go_simp; (try with_reducible rfl))
                    try simp only [Act.put, List.setIfInBounds_toArray, List.set_cons_zero, List.set_cons_succ]
                    refine takeD (i := 18) (d := some 185) (v := ?vT72) rfl rfl (by kernel_rfl) (by kernel_rfl) (by kernel_rfl) (fun _ _ _ h => h) (Or.inl ⟨by rfl, ?hyT72⟩) (by assumption) ?rstT72
                    case hyT72 => (intro w hSw; (try dsimp only at hSw); go_simp; (try with_reducible rfl))
                    try simp only [Act.put, List.setIfInBounds_toArray, List.set_cons_zero, List.set_cons_succ]
                    refine takeD (i := 19) (d := some 186) (v := ?vT73) rfl rfl (by kernel_rfl) (by kernel_rfl) (by kernel_rfl) (fun _ _ _ h => h) (Or.inl ⟨by rfl, ?hyT73⟩) (by assumption) ?rstT73
                    case hyT73 => (intro w hSw; (try dsimp only at hSw); go_simp; (try with_reducible rfl))
                    try simp only [Act.put, List.setIfInBounds_toArray, List.set_cons_zero, List.set_cons_succ]
                    refine takeD (i := 20) (d := some 187) (v := undef) rfl rfl (by kernel_rfl) (by kernel_rfl) (by kernel_rfl) (fun _ _ _ h => h) (Or.inr ⟨by rfl, rfl⟩) (by assumption) ?_
                    try simp only [Act.put, List.setIfInBounds_toArray, List.set_cons_zero, List.set_cons_succ]
                    refine takeD (i := 21) (d := some 188) (v := undef) rfl rfl (by kernel_rfl) (by kernel_rfl) (by kernel_rfl) (fun _ _ _ h => h) (Or.inr ⟨by rfl, rfl⟩) (by assumption) ?_
                    try simp only [Act.put, List.setIfInBounds_toArray, List.set_cons_zero, List.set_cons_succ]
                    refine takeD (i := 22) (d := some 189) (v := undef) rfl rfl (by kernel_rfl) (by kernel_rfl) (by kernel_rfl) (fun _ _ _ h => h) (Or.inr ⟨by rfl, rfl⟩) (by assumption) ?_
                    try simp only [Act.put, List.setIfInBounds_toArray, List.set_cons_zero, List.set_cons_succ]
                    refine takeD (i := 23) (d := some 190) (v := undef) rfl rfl (by kernel_rfl) (by kernel_rfl) (by kernel_rfl) (fun _ _ _ h => h) (Or.inr ⟨by rfl, rfl⟩) (by assumption) ?_
                    try simp only [Act.put, List.setIfInBounds_toArray, List.set_cons_zero, List.set_cons_succ]
                    refine takeD (i := 24) (d := some 191) (v := undef) rfl rfl (by kernel_rfl) (by kernel_rfl) (by kernel_rfl) (fun _ _ _ h => h) (Or.inr ⟨by rfl, rfl⟩) (by assumption) ?_
                    try simp only [Act.put, List.setIfInBounds_toArray, List.set_cons_zero, List.set_cons_succ]
                    refine takeD (i := 25) (d := some 192) (v := undef) rfl rfl (by kernel_rfl) (by kernel_rfl) (by kernel_rfl) (fun _ _ _ h => h) (Or.inr ⟨by rfl, rfl⟩) (by assumption) ?_
                    try simp only [Act.put, List.setIfInBounds_toArray, List.set_cons_zero, List.set_cons_succ]
                    refine takeD (i := 26) (d := some 193) (v := undef) rfl rfl (by kernel_rfl) (by kernel_rfl) (by kernel_rfl) (fun _ _ _ h => h) (Or.inr ⟨by rfl, rfl⟩) (by assumption) ?_
                    try simp only [Act.put, List.setIfInBounds_toArray, List.set_cons_zero, List.set_cons_succ]
                    refine takeD (i := 27) (d := some 194) (v := undef) rfl rfl (by kernel_rfl) (by kernel_rfl) (by kernel_rfl) (fun _ _ _ h => h) (Or.inr ⟨by rfl, rfl⟩) (by assumption) ?_
                    try simp only [Act.put, List.setIfInBounds_toArray, List.set_cons_zero, List.set_cons_succ]
                    refine takeD (i := 28) (d := some 195) (v := undef) rfl rfl (by kernel_rfl) (by kernel_rfl) (by kernel_rfl) (fun _ _ _ h => h) (Or.inr ⟨by rfl, rfl⟩) (by assumption) ?_
                    try simp only [Act.put, List.setIfInBounds_toArray, List.set_cons_zero, List.set_cons_succ]
                    refine takeD (i := 29) (d := some 196) (v := undef) rfl rfl (by kernel_rfl) (by kernel_rfl) (by kernel_rfl) (fun _ _ _ h => h) (Or.inr ⟨by rfl, rfl⟩) (by assumption) ?_
                    try simp only [Act.put, List.setIfInBounds_toArray, List.set_cons_zero, List.set_cons_succ]
                    refine takeD (i := 30) (d := some 197) (v := undef) rfl rfl (by kernel_rfl) (by kernel_rfl) (by kernel_rfl) (fun _ _ _ h => h) (Or.inr ⟨by rfl, rfl⟩) (by assumption) ?_
                    try simp only [Act.put, List.setIfInBounds_toArray, List.set_cons_zero, List.set_cons_succ]
                    refine takeD (i := 31) (d := some 198) (v := ?vT74) rfl rfl (by kernel_rfl) (by kernel_rfl) (by kernel_rfl) (fun _ _ _ h => h) (Or.inl ⟨by rfl, ?hyT74⟩) (by assumption) ?rstT74
                    case hyT74 => (intro w hSw; (try dsimp only at hSw); go_simp; (try with_reducible rfl))
                    try simp only [Act.put, List.setIfInBounds_toArray, List.set_cons_zero, List.set_cons_succ]
                    refine takeD (i := 32) (d := some 199) (v := ?vT75) rfl rfl (by kernel_rfl) (by kernel_rfl) (by kernel_rfl) (fun _ _ _ h => h) (Or.inl ⟨by rfl, ?hyT75⟩) (by assumption) ?rstT75
                    case hyT75 => (intro w hSw; (try dsimp only at hSw); go_simp; (try with_reducible rfl))
                    try simp only [Act.put, List.setIfInBounds_toArray, List.set_cons_zero, List.set_cons_succ]
                    refine wpAnyH_done (by kernel_rfl) ?_ _
                    have hbz := hbi.trans (hb1'.mono hbi.size)
                    clear hb1 hb1' dL dG dE0 dE1 HMK
                    go_wp2_with fail
                    go_roundw
                    case rel => exact ⟨i + 1, by omega, by go_num, hbz⟩
                    case measure => simp [RowKit.intOf]
                · obtain rfl : i = L + 1 := by omega
                  clear hcL hcG
                  go_wp2_with fail
                  go_roundw
                  case rel => exact ⟨k + 1, by omega, by go_num, hbi⟩
                  case measure => simp [RowKit.intOf]; omega
            · obtain rfl : k = 7 := by omega
              have K4 : Below w15.heap.size w15 x4 := HKX.out.trans (hbk.mono HKX.out.size)
              rw [show ((7 : Nat) : Int) = 7 from rfl]
              go_wp2_with fail
              refine (HSA.out _ K4).mono ?_
              rintro e x5 ⟨rfl, hb5⟩
              have K5 := K4.trans (hb5.mono K4.size)
              go_wp2_with fail
              refine (HSB.out _ K5).mono ?_
              rintro e x6 ⟨rfl, hb6⟩
              have K6 := K5.trans (hb6.mono K5.size)
              have c3' := (K6.cell (p := ⟨w.heap.size, 3, none⟩) hs15).trans c3
              have c4' := (K6.cell (p := ⟨w.heap.size, 4, none⟩) hs15).trans c4
              go_wp2_with fail
              refine (answers_any (rA.below K6) (rB.below K6) at_ n).mono ?_
              rintro e x7 ⟨g7, vs7, U7, rfl, hg7, hgot7, HAns7, h77, hb7⟩
              have HU0 : Hid (U 0 = A) := ans_zero HAns.out HLA.out
              have K46 := hb5.trans (hb6.mono hb5.size)
              have K47 := K46.trans (hb7.mono K46.size)
              have KX7 : Below x0.heap.size x0 x7 := hbk.trans (K47.mono hbk.size)
              have HO7 : Hid (∀ j, j < 7 → Own x7 x6.heap.size (vs7 j) (U j)) := fun j hj => by
                have := h77.own j hj
                rwa [HAns7.out.unique HAns.out j hj] at this
              have HW7 : Hid (∀ j, j < 7 → Own x7 w18.heap.size (ws.getD j undef) (U j)) := fun j hj => (HWO.out j hj).below KX7
              obtain ⟨gw, ew, _, hgw, _⟩ := HWX.out.cell 0 (by omega)
              subst ew
              have HWC : Hid (∀ j, j < 7 → x7.cell? ⟨gw, j, none⟩ = some (ws.getD j undef)) := fun j hj => by
                obtain ⟨g', e', _, hg', hc⟩ := HWX.out.cell j (by omega)
                cases e'
                exact (KX7.cell (p := ⟨gw, j, none⟩) hg').trans hc
              have hgw7 : gw < x7.heap.size := Nat.lt_of_lt_of_le hgw KX7.size
              have hg77 : g7 < x7.heap.size := (Array.getElem?_eq_some_iff.1 hgot7).1
              have HBw7 : Hid (Below w.heap.size w x7) := hB15.trans ((K6.trans (hb7.mono K6.size)).mono hB15.size)
              have HoA7 : Hid (Own x7 _ _ A) := hoA.below (K6.trans (hb7.mono K6.size))
              clear c3' c4' K4 K5 K6 K46 K47 hb5 hb6 hb7 hbk h77 HSA HSB
              go_wp2_with fail
              go_loopw [22] (fun vk w' => ∃ k : Nat, k ≤ 7 ∧ vk = .int .i64 k ∧ Below x7.heap.size x7 w') (fun i _ => 7 - (RowKit.intOf i).toNat)
              case atStart => exact ⟨0, by omega, rfl, Below.refl _ _⟩
              case round =>
                obtain ⟨k, hk7, rfl, hbk⟩ := hrel
                by_cases hk : k < 7
                · have hkI : (k : Int) < 7 := by omega
                  obtain ⟨a1', c1', e1⟩ := (HO7.out k hk).shape
                  obtain ⟨a2', c2', e2⟩ := (HW7.out k hk).shape
                  have d1 := (hbk.cell (p := ⟨g7, k, none⟩) hg77).trans (cell7 hgot7 k hk)
                  have d2 := (hbk.cell (p := ⟨gw, k, none⟩) hgw7).trans (HWC.out k hk)
                  have o1 := (HO7.out k hk).below hbk
                  have o2 := (HW7.out k hk).below hbk
                  rw [e1] at d1 o1
                  rw [e2] at d2 o2
                  have l1 : g7 < wr.heap.size := Nat.lt_of_lt_of_le hg77 hbk.size
                  have l2 : gw < wr.heap.size := Nat.lt_of_lt_of_le hgw7 hbk.size
                  have HSM : Hid (∀ W, Below wr.heap.size wr W → Calls Try.prog 12 #[.slice a1' (U k).length c1', .slice a2' (U k).length c2'] W fun e w' => e = .returned (.bool true) ∧ Below W.heap.size W w') := fun W hb => by
                    have := same_any (o1.below hb).rng (o2.below hb).rng
                    simpa only [decide_true] using this
                  clear o1 o2 e1 e2
                  generalize (U k).length = L at *
                  go_wp2_with fail
                  refine wp_region_held_drew (S := (fun W => ∀ p : Addr, p.block < wr.heap.size → W.cell? p = wr.cell? p)) (by kernel_rfl) ?hS76 (fun hHeld => ?rest76)
                  case hS76 => (intro p hp; rfl)
                  refine takeD (i := 0) (d := some 223) (v := ?vT77) rfl rfl (by kernel_rfl) (by kernel_rfl) (by kernel_rfl) (fun _ _ _ h => h) (Or.inl ⟨by rfl, ?hyT77⟩) (by assumption) ?rstT77
                  case hyT77 => (intro w hSw; (try dsimp only at hSw); go_simp; (try with_reducible rfl))
                  try simp only [Act.put, List.setIfInBounds_toArray, List.set_cons_zero, List.set_cons_succ]
                  refine takeD (i := 1) (d := some 224) (v := ?vT78) rfl rfl (by kernel_rfl) (by kernel_rfl) (by kernel_rfl) (fun _ _ _ h => h) (Or.inl ⟨by rfl, ?hyT78⟩) (by assumption) ?rstT78
                  case hyT78 => (intro w hSw; (try dsimp only at hSw); go_simp; (try with_reducible rfl))
                  try simp only [Act.put, List.setIfInBounds_toArray, List.set_cons_zero, List.set_cons_succ]
                  refine takeD (i := 2) (d := some 225) (v := ?vT79) rfl rfl (by kernel_rfl) (by kernel_rfl) (by kernel_rfl) (fun _ _ _ h => h) (Or.inl ⟨by rfl, ?hyT79⟩) (by assumption) ?rstT79
                  case hyT79 => (intro w hSw; (try dsimp only at hSw); go_simp; (try with_reducible rfl))
                  try simp only [Act.put, List.setIfInBounds_toArray, List.set_cons_zero, List.set_cons_succ]
                  refine takeD (i := 3) (d := some 226) (v := ?vT80) rfl rfl (by kernel_rfl) (by kernel_rfl) (by kernel_rfl) (fun _ _ _ h => h) (Or.inl ⟨by rfl, ?hyT80⟩) (by assumption) ?rstT80
                  case hyT80 => (intro w hSw; (try dsimp only at hSw); go_simp; (try with_reducible rfl))
                  try simp only [Act.put, List.setIfInBounds_toArray, List.set_cons_zero, List.set_cons_succ]
                  refine takeD (i := 4) (d := some 227) (v := ?vT81) rfl rfl (by kernel_rfl) (by kernel_rfl) (by kernel_rfl) (fun _ _ _ h => h) (Or.inl ⟨by rfl, ?hyT81⟩) (by assumption) ?rstT81
                  case hyT81 => (intro w hSw; (try dsimp only at hSw); go_simp; (try with_reducible rfl))
                  try simp only [Act.put, List.setIfInBounds_toArray, List.set_cons_zero, List.set_cons_succ]
                  refine takeD (i := 5) (d := some 228) (v := ?vT82) rfl rfl (by kernel_rfl) (by kernel_rfl) (by kernel_rfl) (fun _ _ _ h => h) (Or.inl ⟨by rfl, ?hyT82⟩) (by assumption) ?rstT82
                  case hyT82 => (intro w hSw; (try dsimp only at hSw); go_simp; (try with_reducible rfl))
                  try simp only [Act.put, List.setIfInBounds_toArray, List.set_cons_zero, List.set_cons_succ]
                  refine takeD (i := 6) (d := some 229) (v := ?vT83) rfl rfl (by kernel_rfl) (by kernel_rfl) (by kernel_rfl) (fun _ _ _ h => h) (Or.inl ⟨by rfl, ?hyT83⟩) (by assumption) ?rstT83
                  case hyT83 => (intro w hSw; (try dsimp only at hSw); go_simp; (try with_reducible rfl))
                  try simp only [Act.put, List.setIfInBounds_toArray, List.set_cons_zero, List.set_cons_succ]
                  refine takeD (i := 7) (d := some 230) (v := ?vT84) rfl rfl (by kernel_rfl) (by kernel_rfl) (by kernel_rfl) (fun _ _ _ h => h) (Or.inl ⟨by rfl, ?hyT84⟩) (by assumption) ?rstT84
                  case hyT84 => (intro w hSw; (try dsimp only at hSw); go_simp; (try with_reducible rfl))
                  try simp only [Act.put, List.setIfInBounds_toArray, List.set_cons_zero, List.set_cons_succ]
                  refine wpAnyH_ready (rs := [8]) (by kernel_rfl) (by simp) ?_
                  refine AllReadyH.cons rfl (fun K hK => ?_) AllReadyH.nil
                  go_simp
                  refine (HSM.out _ ?_).mono ?_
                  · exact (Below.refl _ _).drew
                  rintro e x8 ⟨rfl, hb1⟩
                  have hb1' : Below wr.heap.size wr x8 := ⟨hb1.os, hb1.tape, hb1.output, hb1.size, hb1.block⟩
                  clear hHeld
                  refine hK.out _ _ ?hS85 (fun hHeld => ?rest85)
                  case hS85 => (intro p hp; exact hb1'.cell hp)
                  clear hK K
                  try simp only [Act.put, List.setIfInBounds_toArray, List.set_cons_zero, List.set_cons_succ]
                  refine takeD (i := 9) (d := some 232) (v := ?vT86) rfl rfl (by kernel_rfl) (by kernel_rfl) (by kernel_rfl) (fun _ _ _ h => h) (Or.inl ⟨by rfl, ?hyT86⟩) (by assumption) ?rstT86
                  case hyT86 => (intro w hSw; (try dsimp only at hSw); go_simp; (try with_reducible rfl))
                  try simp only [Act.put, List.setIfInBounds_toArray, List.set_cons_zero, List.set_cons_succ]
                  refine wpAnyH_done (by kernel_rfl) ?_ _
                  have hbz := hbk.trans (hb1'.mono hbk.size)
                  clear hb1 hb1' d1 d2 HSM
                  go_wp2_with fail
                  go_roundw
                  case rel => exact ⟨k + 1, by omega, by go_num, hbz⟩
                  case measure => simp [RowKit.intOf]; omega
                · obtain rfl : k = 7 := by omega
                  obtain ⟨a2', c2', e2⟩ := (HW7.out 0 (by omega)).shape
                  have d2 := (hbk.cell (p := ⟨gw, 0, none⟩) hgw7).trans (HWC.out 0 (by omega))
                  have o2 := (HW7.out 0 (by omega)).below hbk
                  rw [e2] at d2 o2
                  rw [HU0.out] at d2 o2
                  have HSM : Hid (∀ W, Below wr.heap.size wr W → Calls Try.prog 12 #[.slice a2' A.length c2', _] W fun e w' => e = .returned (.bool true) ∧ Below W.heap.size W w') := fun W hb => by
                    have := same_any (o2.below hb).rng ((HoA7.out.below hbk).below hb).rng
                    simpa only [decide_true] using this
                  have HBf := HBw7.out.trans (hbk.mono HBw7.out.size)
                  clear o2 e2 hbk
                  go_wp2_with fail
                  refine (HSM.out _ (Below.refl _ _)).mono ?_
                  rintro e x9 ⟨rfl, hb9⟩
                  have HBg := HBf.trans (hb9.mono HBf.size)
                  clear d2 hb9 HSM HBf
                  go_wp2_with fail
                  go_ret
                  exact ⟨rfl, HBg⟩
end Go.Proofs.Ytjnglghhcbdpmaa
