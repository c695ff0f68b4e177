import Derived.Test.YtohfckcikincoaaSpQr
namespace Go.Proofs.Ytohfckcikincoaa
open Go.RowKit Go.Lib Go.Shelf
set_option maxRecDepth 100000
attribute [local go_sem] Oper.semAt_some

/-- A store of a number into a box keeps the blocks of ranges. -/
theorem keepsR_set {W : World} {b : Nat} {u v : Value} {t : TypeId} (hb : Boxed W b t u) (ht : t ≠ 38) : KeepsR W (W.setCell ⟨b, 0, none⟩ v) := fun g cs z hg => Below.heap_setCell _ _ _ _ (fun e => by
  simp only at e
  subst e
  rw [show W.heap[g]? = _ from hb] at hg
  simp only [Option.some.injEq, Obj.cells.injEq] at hg
  exact ht hg.2.1)
theorem box_keep {X Y : World} {row : Option Nat} {B b : Nat} {t : TypeId} {v : Value} (h : Boxed X b t v) (hg : X.grownBy Y row) (hr : ∀ r, row = some r → B ≤ r ∧ ∃ o : Obj, X.heap[r]? = some o ∧ o.isCells = false) : Boxed Y b t v :=
  boxed_own b t (fun (_ : Unit) => v) () X Y row h hg (fun r e => (hr r e).2)
/-- The contract of an iterator over L, wherever its box and row lie. -/
theorem iter_stops (n : Nat) (hn : 1 ≤ n) (Bs B : Nat) (a : Option Addr) (len cap : Nat) (L : List (Int × Int)) (hL : Lst L) (w : World) (hbl : Bs < w.heap.size) (hc : w.cell? ⟨Bs, 0, none⟩ = some (.slice a len cap)) (hO : Own w B (.slice a len cap) L) :
    SeqStopsK Fence.wide n Try.prog 49 #[.pointer (some ⟨Bs, 0, none⟩)] (fun x : Int => #[Value.int .i64 x]) KeepsR (fun ys => ys = allPl L) (fun pre => pre <+: allPl L) (allPl L).length w := by
  have := each_stops n hn Bs B a len cap L w hbl hc (by rw [heldL_ok hL]; exact hO)
  rw [heldL_ok hL] at this
  exact this
set_option maxHeartbeats 8000000 in
theorem whole_any {w : World} {a : Option Addr} {n cap : Nat} {L : List (Int × Int)} (h : Rng w a n cap L) (hL : Lst L) {Bs B : Nat} {a3 : Option Addr} {n3 cap3 : Nat} (hbl : Bs < w.heap.size) (hc3 : w.cell? ⟨Bs, 0, none⟩ = some (.slice a3 n3 cap3)) (hO : Own w B (.slice a3 n3 cap3) L) :
    Calls Try.prog 29 #[.func (.func 49) #[] #[.pointer (some ⟨Bs, 0, none⟩)], .slice a n cap] w fun e w' => e = .returned (.bool true) ∧ Below w.heap.size w w' := by
  refine (callsIn_wide (n := 6)).1 ?_
  have hln := h.len
  have hfew := hL.few
  have bA := (((Boxed.new w 22 (.slice a n cap)).alloc (.cells #[.bool false] 4)).alloc (.cells #[.int .i64 0] 3)).alloc (.cells #[.int .i64 0] 3)
  have bR := ((Boxed.new (w.alloc (.cells #[.slice a n cap] 22)) 4 (.bool false)).alloc (.cells #[.int .i64 0] 3)).alloc (.cells #[.int .i64 0] 3)
  have b5 := (Boxed.new ((w.alloc (.cells #[.slice a n cap] 22)).alloc (.cells #[.bool false] 4)) 3 (.int .i64 0)).alloc (.cells #[.int .i64 0] 3)
  have b6 := Boxed.new (((w.alloc (.cells #[.slice a n cap] 22)).alloc (.cells #[.bool false] 4)).alloc (.cells #[.int .i64 0] 3)) 3 (.int .i64 0)
  have hB0 : Below w.heap.size w ((((w.alloc (.cells #[.slice a n cap] 22)).alloc (.cells #[.bool false] 4)).alloc (.cells #[.int .i64 0] 3)).alloc (.cells #[.int .i64 0] 3)) := ((((Below.refl _ w).alloc (Nat.le_refl _) _).alloc (by simp) _).alloc (by simp; omega) _).alloc (by simp; omega) _
  have hsz : ((((w.alloc (.cells #[.slice a n cap] 22)).alloc (.cells #[.bool false] 4)).alloc (.cells #[.int .i64 0] 3)).alloc (.cells #[.int .i64 0] 3)).heap.size = w.heap.size + 4 := by simp
  simp only [World.size_alloc] at bR b5 b6
  refine callsIn_of_wp_marks Try.func29 rfl trivial ?_ rfl
  simp only [Try.ntmps29, List.size_toArray, List.length_cons, List.length_nil, Nat.reduceAdd, Nat.reduceSub, Array.replicate_succ, Array.replicate_zero, List.push_toArray, List.append_toArray, List.nil_append, List.cons_append]
  gi_wp2
  obtain ⟨W0, hW0⟩ : ∃ W0, (((w.alloc (.cells #[.slice a n cap] 22)).alloc (.cells #[.bool false] 4)).alloc (.cells #[.int .i64 0] 3)).alloc (.cells #[.int .i64 0] 3) = W0 := ⟨_, rfl⟩
  rw [hW0] at bA bR b5 b6 hB0 hsz ⊢
  clear hW0
  have HPS : Hid (∀ r ∈ L, 0 ≤ r.1 ∧ r.1 < r.2 ∧ r.2 ≤ 1048576) := hL.nonneg
  have HLT : Hid (∀ r ∈ L, r.1 < r.2) := fun r hr => (hL.nonneg r hr).2.1
  have hBs0 : W0.cell? ⟨Bs, 0, none⟩ = some (.slice a3 n3 cap3) := (hB0.cell (p := ⟨Bs, 0, none⟩) hbl).trans hc3
  refine wpIn_rangeFunc_ownG rfl (by decide) (gf := 49) (lb := #[.pointer (some ⟨Bs, 0, none⟩)]) rfl trivial (enters_of Try.func49 (by kernel_rfl) rfl)
    (iter_stops 5 (by decide) Bs B a3 n3 cap3 L hL W0 (by omega) hBs0 (hO.below hB0)) KeepsR.trans keepsR_b (Below.refl _ _) (fun _ => rfl)
    (fun (pre : List Int) W => (Boxed W w.heap.size 22 (.slice a n cap) ∧ Boxed W (w.heap.size + 1) 4 (.bool false)) ∧ (∃ i m : Nat, Boxed W (w.heap.size + 1 + 1) 3 (.int .i64 i) ∧ Boxed W (w.heap.size + 1 + 1 + 1) 3 (.int .i64 m) ∧ Pos L pre i m) ∧ Below w.heap.size w W)
    (fun c (pre : List Int) _ => c = .ret ∧ ¬ pre <+: allPl L)
    (fun s X Y row hs hg hr => by
      obtain ⟨⟨h1, h2⟩, ⟨i, m, h3, h4, h5⟩, h6⟩ := hs
      exact ⟨⟨box_keep h1 hg hr, box_keep h2 hg hr⟩, ⟨i, m, box_keep h3 hg hr, box_keep h4 hg hr, h5⟩, ownFrom_below (β := Unit) (Nat.le_refl _) hB0.size () X Y row h6 hg hr⟩)
    (fun c => ownFrom_pure _ _)
    ⟨⟨bA, bR⟩, ⟨0, 0, b5, b6, Pos.start HLT.out⟩, hB0⟩
    (fun x => { tmps := #[Value.func (Fn.func 49) #[] #[Value.pointer (some { block := Bs, off := 0 })], Value.slice a n cap, undef,
          Value.pointer (some { block := w.heap.size, off := 0 }),
          Value.pointer (some { block := w.heap.size + 1, off := 0 }),
          Value.pointer (some { block := w.heap.size + 1 + 1, off := 0 }),
          Value.pointer (some { block := w.heap.size + 1 + 1 + 1, off := 0 }), .int .i64 x,
          Value.func (Fn.func 49) #[] #[Value.pointer (some { block := Bs, off := 0 })], .int .i64 x, undef, undef, undef,
          undef, undef, undef, undef, undef, undef, undef, undef, undef, undef, undef, undef, undef, undef, undef,
          undef, undef, undef, undef, undef, undef, undef, undef, undef, undef, undef, undef, undef, undef, undef,
          undef, undef, undef], defers := [] }) ?assign ?body ?done ?stop
  case assign =>
    intro lp x W K hK
    gi_wp2
    exact hK
  case body =>
    rintro lp pre x W ⟨⟨bA1, bR1⟩, ⟨i, m, b51, b61, hp⟩, hB⟩ hN
    have cA := bA1.cell
    have c5 := b51.cell
    have f5 := b51.frozen
    have c6 := b61.cell
    have f6 := b61.frozen
    have cR := bR1.cell
    have fR := bR1.frozen
    by_cases hi : i < n
    · obtain ⟨g, off, rfl, hg, hc, hd⟩ := h.cells i hi
      have hmem := HPS.out _ (show L.getD i (0, 0) ∈ L by rw [List.getD_eq_getElem?_getD, List.getElem?_eq_getElem (by omega)]; exact List.getElem_mem _)
      have HPW : Hid (x ≠ (L.getD i (0, 0)).1 + (m : Int) → ¬ pre ++ [x] <+: allPl L) := fun hx => hp.wrong (fun _ => hx)
      have HPT : Hid ((L.getD i (0, 0)).1 + ((m : Int) + 1) ≠ (L.getD i (0, 0)).2 → Pos L (pre ++ [(L.getD i (0, 0)).1 + (m : Int)]) i (m + 1)) := fun hm => hp.stay (by omega) hm
      have HPG : Hid ((L.getD i (0, 0)).1 + ((m : Int) + 1) = (L.getD i (0, 0)).2 → Pos L (pre ++ [(L.getD i (0, 0)).1 + (m : Int)]) (i + 1) 0) := fun hm => hp.go HLT.out (by omega) hm
      have hlt := hp.lt (by omega)
      generalize (L.getD i (0, 0)).1 = lo at *
      generalize (L.getD i (0, 0)).2 = hi' at *
      have c0 := (hB.cell (p := ⟨g, off + i * 2, none⟩) hg).trans hc
      have hc0 := hc
      obtain ⟨m1, m2, m3⟩ := hmem
      have e1 : decide (n ≤ i) = false := decide_eq_false (by omega)
      have u1 : IntKind.i64.wrap (lo + (m : Int)) = lo + (m : Int) := IntWalk.i64_in _ (by omega)
      have u2 : IntKind.i64.wrap (lo + ((m : Int) + 1)) = lo + ((m : Int) + 1) := IntWalk.i64_in _ (by omega)
      clear hp hc
      by_cases hx : x = lo + (m : Int)
      · subst hx
        gi_wp2
        refine region_quiet_round (by kernel_rfl) (by kernel_rfl) (by kernel_rfl) ?_
        repeat (gi_big_quiet_step (fail))
        refine wpQuietIn_nil ?_
        intro _ hw'
        obtain ⟨nq, hw''⟩ := hw'
        subst hw''
        have bA2 : Boxed (W.drewN nq) _ _ _ := bA1
        have bR2 : Boxed (W.drewN nq) _ _ _ := bR1
        have b52 : Boxed (W.drewN nq) _ _ _ := b51
        have b62 : Boxed (W.drewN nq) _ _ _ := b61
        have hB2 : Below w.heap.size w (W.drewN nq) := below_drewN hB _
        have kr2 : KeepsR W (W.drewN nq) := fun _ _ _ _ => rfl
        have kf2 : KeepsFrom W0.heap.size W (W.drewN nq) := ⟨Nat.le_refl _, fun _ _ _ hk _ => hk⟩
        obtain ⟨W2, hW2⟩ : ∃ W2, W.drewN nq = W2 := ⟨_, rfl⟩
        rw [hW2] at bA2 bR2 b52 b62 hB2 kr2 kf2 ⊢
        clear cA c5 f5 c6 f6 cR fR c0
        have c6 := b62.cell
        have f6 := b62.frozen
        have bA3 := bA2.other (show w.heap.size ≠ w.heap.size + 1 + 1 + 1 by omega) (.int .i64 ((m : Int) + 1))
        have bR3 := bR2.other (show w.heap.size + 1 ≠ w.heap.size + 1 + 1 + 1 by omega) (.int .i64 ((m : Int) + 1))
        have b53 := b52.other (show w.heap.size + 1 + 1 ≠ w.heap.size + 1 + 1 + 1 by omega) (.int .i64 ((m : Int) + 1))
        have b63 := b62.set (.int .i64 ((m : Int) + 1))
        have hB3 := hB2.setCell (p := ⟨w.heap.size + 1 + 1 + 1, 0, none⟩) (by simp; omega) (.int .i64 ((m : Int) + 1))
        have kr3 := kr2.trans (keepsR_set (v := .int .i64 ((m : Int) + 1)) b62 (by decide))
        have kf3 := kf2.trans ((KeepsOthers.setCell W2 ⟨w.heap.size + 1 + 1 + 1, 0, none⟩ (.int .i64 ((m : Int) + 1))).from W0.heap.size)
        have cA3 := bA3.cell
        have c53 := b53.cell
        have c63 := b63.cell
        have c03 := (hB3.cell (p := ⟨g, off + i * 2, none⟩) hg).trans hc0
        have c13 := (hB3.cell (p := ⟨g, off + i * 2 + 1, none⟩) hg).trans hd
        gi_wp2
        refine region_quiet_round (by kernel_rfl) (by kernel_rfl) (by kernel_rfl) ?_
        repeat (gi_big_quiet_step (fail))
        refine wpQuietIn_nil ?_
        intro _ hw'
        obtain ⟨nq2, hw''⟩ := hw'
        subst hw''
        have bA4 : Boxed ((W2.setCell ⟨w.heap.size + 1 + 1 + 1, 0, none⟩ (.int .i64 ((m : Int) + 1))).drewN nq2) _ _ _ := bA3
        have bR4 : Boxed ((W2.setCell ⟨w.heap.size + 1 + 1 + 1, 0, none⟩ (.int .i64 ((m : Int) + 1))).drewN nq2) _ _ _ := bR3
        have b54 : Boxed ((W2.setCell ⟨w.heap.size + 1 + 1 + 1, 0, none⟩ (.int .i64 ((m : Int) + 1))).drewN nq2) _ _ _ := b53
        have b64 : Boxed ((W2.setCell ⟨w.heap.size + 1 + 1 + 1, 0, none⟩ (.int .i64 ((m : Int) + 1))).drewN nq2) _ _ _ := b63
        have hB4 : Below w.heap.size w ((W2.setCell ⟨w.heap.size + 1 + 1 + 1, 0, none⟩ (.int .i64 ((m : Int) + 1))).drewN nq2) := below_drewN hB3 _
        have kr4 : KeepsR W ((W2.setCell ⟨w.heap.size + 1 + 1 + 1, 0, none⟩ (.int .i64 ((m : Int) + 1))).drewN nq2) := kr3
        have kf4 : KeepsFrom W0.heap.size W ((W2.setCell ⟨w.heap.size + 1 + 1 + 1, 0, none⟩ (.int .i64 ((m : Int) + 1))).drewN nq2) := ⟨kf3.size, kf3.same⟩
        obtain ⟨W4, hW4⟩ : ∃ W4, (W2.setCell ⟨w.heap.size + 1 + 1 + 1, 0, none⟩ (.int .i64 ((m : Int) + 1))).drewN nq2 = W4 := ⟨_, rfl⟩
        rw [hW4] at bA4 bR4 b54 b64 hB4 kr4 kf4 ⊢
        clear hW4 hW2 bA3 bR3 b53 b63 hB3 kr3 kf3 cA3 c53 c63 c03 c13 c6 f6 bA2 bR2 b52 b62 hB2 kr2 kf2
        have c5 := b54.cell
        have f5 := b54.frozen
        by_cases hm : lo + ((m : Int) + 1) = hi'
        · have hp2 := HPG.out hm
          have bA5 := bA4.other (show w.heap.size ≠ w.heap.size + 1 + 1 by omega) (.int .i64 ((i : Int) + 1))
          have bR5 := bR4.other (show w.heap.size + 1 ≠ w.heap.size + 1 + 1 by omega) (.int .i64 ((i : Int) + 1))
          have b55 := b54.set (.int .i64 ((i : Int) + 1))
          have b65 := b64.other (show w.heap.size + 1 + 1 + 1 ≠ w.heap.size + 1 + 1 by omega) (.int .i64 ((i : Int) + 1))
          have c65 := b65.cell
          have f65 := b65.frozen
          have bA6 := bA5.other (show w.heap.size ≠ w.heap.size + 1 + 1 + 1 by omega) (.int .i64 0)
          have bR6 := bR5.other (show w.heap.size + 1 ≠ w.heap.size + 1 + 1 + 1 by omega) (.int .i64 0)
          have b56 := b55.other (show w.heap.size + 1 + 1 ≠ w.heap.size + 1 + 1 + 1 by omega) (.int .i64 0)
          have b66 := b65.set (.int .i64 0)
          have hB6 := (hB4.setCell (p := ⟨w.heap.size + 1 + 1, 0, none⟩) (by simp; omega) (.int .i64 ((i : Int) + 1))).setCell (p := ⟨w.heap.size + 1 + 1 + 1, 0, none⟩) (by simp; omega) (.int .i64 0)
          have kr6 := kr4.trans ((keepsR_set (v := .int .i64 ((i : Int) + 1)) b54 (by decide)).trans (keepsR_set (v := .int .i64 0) b65 (by decide)))
          have kf6 := kf4.trans (((KeepsOthers.setCell W4 ⟨w.heap.size + 1 + 1, 0, none⟩ (.int .i64 ((i : Int) + 1))).from W0.heap.size).trans ((KeepsOthers.setCell _ ⟨w.heap.size + 1 + 1 + 1, 0, none⟩ (.int .i64 0)).from W0.heap.size))
          have e2 : (lo + ((m : Int) + 1) == hi') = true := by simp [hm]
          clear HPW HPT HPG hm
          gi_wp2
          exact ⟨kf6, kr6, ⟨bA6, bR6⟩, ⟨i + 1, 0, b56, b66, hp2⟩, hB6⟩
        · have hp2 := HPT.out hm
          have e2 : (lo + ((m : Int) + 1) == hi') = false := by simp [hm]
          clear HPW HPT HPG hm
          gi_wp2
          exact ⟨kf4, kr4, ⟨bA4, bR4⟩, ⟨i, m + 1, b54, b64, hp2⟩, hB4⟩
      · have hno := HPW.out hx
        have e3 : (x == lo + (m : Int)) = false := by simp [hx]
        clear HPW HPT HPG
        gi_wp2
        refine region_quiet_round (by kernel_rfl) (by kernel_rfl) (by kernel_rfl) ?_
        repeat (gi_big_quiet_step (fail))
        refine wpQuietIn_nil ?_
        intro _ hw'
        obtain ⟨nq, hw''⟩ := hw'
        subst hw''
        have bR2 : Boxed (W.drewN nq) _ _ _ := bR1
        have c9 := bR2.cell
        have f9 := bR2.frozen
        gi_wp2
        exact ⟨(show KeepsFrom W0.heap.size W (W.drewN nq) from ⟨Nat.le_refl _, fun _ _ _ hk _ => hk⟩).trans ((KeepsOthers.setCell _ _ _).from _), rfl, hno⟩
    · have e1 : decide (n ≤ i) = true := decide_eq_true (by omega)
      have hno := hp.wrong (x := x) (fun h => absurd h (by omega))
      gi_wp2
      refine region_quiet_round (by kernel_rfl) (by kernel_rfl) (by kernel_rfl) ?_
      repeat (gi_big_quiet_step (fail))
      refine wpQuietIn_nil ?_
      intro _ hw'
      obtain ⟨nq, hw''⟩ := hw'
      subst hw''
      have bR2 : Boxed (W.drewN nq) _ _ _ := bR1
      have c9 := bR2.cell
      have f9 := bR2.frozen
      gi_wp2
      exact ⟨(show KeepsFrom W0.heap.size W (W.drewN nq) from ⟨Nat.le_refl _, fun _ _ _ hk _ => hk⟩).trans ((KeepsOthers.setCell _ _ _).from _), rfl, hno⟩
  case done =>
    rintro D xs W hD rfl ⟨⟨bA1, bR1⟩, ⟨i, m, b51, b61, hp⟩, hB⟩ hKd
    have hi := hp.fin
    have cA := bA1.cell
    have c5 := b51.cell
    have cR := bR1.cell
    have fR := bR1.frozen
    have e1 : ((i : Int) == (n : Int)) = true := by simp; omega
    have hin : i = n := by omega
    subst hin
    clear hi hp e1 HPS HLT h hL hfew
    gi_wp2
    have hK' := (KeepsOthers.setCell W ⟨w.heap.size + 1, 0, none⟩ (.bool true)).same D _ hKd rfl
    refine ⟨by simp, .inl ⟨_, _, rfl, run_takeDeferred hK', ?_⟩⟩
    have hc5 := cell_kept (bR1.set (.bool true)).cell (grownBy_putObj' _ D (.deferred none)) (fun r e => by cases e; exact ⟨_, hK', rfl⟩)
    refine ⟨.bool true, ?_, rfl, (hB.setCell (p := ⟨w.heap.size + 1, 0, none⟩) (by simp) _).trans (belowK_b (w := w) (Nat.le_refl _) _ D _ _ (by have := hB0.size; omega) hK' rfl rfl)⟩
    simp [results, Try.f29, go_sem, hc5]
  case stop =>
    rintro D c pre W hD hSp ⟨rfl, hno⟩ hKd
    exact absurd hSp hno
end Go.Proofs.Ytohfckcikincoaa
