import Derived.Test.YtchkeckblpmehaaWxO
/-! The sentences' loops. -/
namespace Go.Proofs.Ytchkeckblpmehaa
open Go.RowKit Go.Lib
set_option maxRecDepth 100000
attribute [local go_sem] Oper.semAt_some
theorem box4 {W : World} {b : Nat} {T : TypeId} {v0 v1 v2 v3 : Value} (h : W.heap[b]? = some (.cells #[v0, v1, v2, v3] T)) : W.cell? ⟨b, 0, none⟩ = some v0 ∧ W.cell? ⟨b, 1, none⟩ = some v1 ∧ W.cell? ⟨b, 2, none⟩ = some v2 ∧ W.cell? ⟨b, 3, none⟩ = some v3 := by
  simp only [Lib.cell_of_heap h]
  exact ⟨rfl, rfl, rfl, rfl⟩
/-- Where the loop stands: k rounds at most are left. -/
def LpI (E B q b r : Nat) (v0 : Value) (st : Array Value) (N K0 D0 : Int) (w7 : World) (k : Nat) (s : Wn Int) (W : World) : Prop := ∃ v d, LS E B q b r v0 st w7 W s s v false d ∧ k = mu N s ∧ s.nx + (k : Int) = K0 ∧ d + (k : Int) = D0
def LpP (E B q b r : Nat) (v0 : Value) (st : Array Value) (N K0 D0 : Int) (w7 : World) (k : Nat) (s : Wn Int) (x : Int × Int) (s' : Wn Int) (W : World) : Prop := ∃ v d, LS E B q b r v0 st w7 W (passS s) s v false d ∧ s' = passS s ∧ x.1 = s.nx ∧ getN s.L s.nx = some x.2 ∧ hasN s.L s.nx = true ∧ (s.L.map (·.1)).Nodup ∧ s.L.length ≤ 1048576 ∧ 0 ≤ s.nx ∧ k = mu N s ∧ s.nx + (k : Int) = K0 ∧ d + (k : Int) = D0
def LpX (E B q b r : Nat) (v0 : Value) (st : Array Value) (K0 : Int) (w7 : World) (c : Code) (W : World) : Prop := c = .ret ∧ ∃ s v d, LS E B q b r v0 st w7 W s s v true d ∧ s.nx + (s.L.length : Int) ≤ K0
set_option maxHeartbeats 4000000 in
theorem loops_ok {w : World} {B q b r : Nat} {v : Value} {S : Wn Int} (hw : WinI w q b S) (hr : RfW w B r v S) (hM : S.nx + (S.L.length : Int) ≤ 1099511627776) (kd wh N xv : Int) (hN : N ≤ 9223372036854775807) :
    Calls Try.prog 18 #[.pointer (some ⟨q, 0, none⟩), .pointer (some ⟨r, 0, none⟩), .agg #[.int .i64 kd, .int .i64 wh, .int .i64 N, .int .i64 xv]] w fun e w' => e = .returned (.bool true) ∧ ∃ S' v', PI B q b r v w w' S' S' v' ∧ S'.nx + (S'.L.length : Int) ≤ S.nx + (S.L.length : Int) + 1 := by
  refine (callsIn_wide (n := 6)).1 ?_
  obtain ⟨E, hE⟩ : ∃ E, w.heap.size = E := ⟨_, rfl⟩
  have HH : Hid (WinI w q b S ∧ RfW w B r v S ∧ S.nx + (S.L.length : Int) ≤ 1099511627776 ∧ N ≤ 9223372036854775807 ∧ w.heap.size = E) := ⟨hw, hr, hM, hN, hE⟩
  clear hw hr hM hN
  refine callsIn_of_wp_marks Try.func18 rfl trivial ?_ rfl
  simp only [Try.ntmps18, List.size_toArray, List.length_cons, List.length_nil, Nat.reduceAdd, Nat.reduceSub, Array.replicate_succ, Array.replicate_zero, List.push_toArray, List.append_toArray, List.nil_append, List.cons_append]
  gi_wp2
  refine ⟨trivial, (callsIn_wide.2 (readyI q _)).mono ?_⟩
  rintro e w7 ⟨rfl, hw7⟩
  have H7 : Hid (LS E B q b r v #[.int .i64 kd, .int .i64 wh, .int .i64 N, .int .i64 xv] w7 w7 S S v false 0 ∧ w7.heap.size = E + 6 ∧ Below E w w7) := by
    obtain ⟨hw, hr, hM, hN, _⟩ := HH.out
    subst hE
    generalize hA1 : w.alloc (.cells #[.pointer (some ⟨q, 0, none⟩)] 29) = A1 at hw7
    have s1 : A1.heap.size = w.heap.size + 1 := by rw [← hA1]; simp
    have n1 : A1.heap[w.heap.size]? = some (.cells #[.pointer (some ⟨q, 0, none⟩)] 29) := by rw [← hA1]; exact heap_alloc_new _ _
    generalize hA2 : A1.alloc (.cells #[.pointer (some ⟨r, 0, none⟩)] 30) = A2 at hw7
    have s2 : A2.heap.size = w.heap.size + 2 := by rw [← hA2]; simp [s1]
    have n2 : A2.heap[w.heap.size + 1]? = some (.cells #[.pointer (some ⟨r, 0, none⟩)] 30) := by rw [← hA2, ← s1]; exact heap_alloc_new _ _
    generalize hA3 : A2.alloc (.cells #[.int .i64 kd, .int .i64 wh, .int .i64 N, .int .i64 xv] 34) = A3 at hw7
    have s3 : A3.heap.size = w.heap.size + 3 := by rw [← hA3]; simp [s2]
    have n3 : A3.heap[w.heap.size + 2]? = some (.cells #[.int .i64 kd, .int .i64 wh, .int .i64 N, .int .i64 xv] 34) := by rw [← hA3, ← s2]; exact heap_alloc_new _ _
    generalize hA4 : A3.alloc (.cells #[.bool false] 4) = A4 at hw7
    have s4 : A4.heap.size = w.heap.size + 4 := by rw [← hA4]; simp [s3]
    have n4 : A4.heap[w.heap.size + 3]? = some (.cells #[.bool false] 4) := by rw [← hA4, ← s3]; exact heap_alloc_new _ _
    generalize hA5 : A4.alloc (.cells #[.int .i64 0] 3) = A5 at hw7
    have s5 : A5.heap.size = w.heap.size + 5 := by rw [← hA5]; simp [s4]
    have n5 : A5.heap[w.heap.size + 4]? = some (.cells #[.int .i64 0] 3) := by rw [← hA5, ← s4]; exact heap_alloc_new _ _
    have n6 : w7.heap[w.heap.size + 5]? = some (.cells #[.pointer (some ⟨q, 0, none⟩)] 29) := by rw [hw7, ← s5]; exact heap_alloc_new _ _
    have b1 : Below w.heap.size w A1 := by rw [← hA1]; exact (Below.refl _ _).alloc (Nat.le_refl _) _
    have b2 : Below A1.heap.size A1 A2 := by rw [← hA2]; exact (Below.refl _ _).alloc (Nat.le_refl _) _
    have b3 : Below A2.heap.size A2 A3 := by rw [← hA3]; exact (Below.refl _ _).alloc (Nat.le_refl _) _
    have b4 : Below A3.heap.size A3 A4 := by rw [← hA4]; exact (Below.refl _ _).alloc (Nat.le_refl _) _
    have b5 : Below A4.heap.size A4 A5 := by rw [← hA5]; exact (Below.refl _ _).alloc (Nat.le_refl _) _
    have b6 : Below A5.heap.size A5 w7 := by rw [hw7]; exact (Below.refl _ _).alloc (Nat.le_refl _) _
    have c5 : Below A4.heap.size A4 w7 := b5.trans (b6.mono (by omega))
    have c4 : Below A3.heap.size A3 w7 := b4.trans (c5.mono (by omega))
    have c3 : Below A2.heap.size A2 w7 := b3.trans (c4.mono (by omega))
    have c2 : Below A1.heap.size A1 w7 := b2.trans (c3.mono (by omega))
    have c1 : Below w.heap.size w w7 := b1.trans (c2.mono (by omega))
    refine ⟨⟨hw.below c1, hr.below c1, ⟨(c2.block _ (by omega)).trans n1, (c3.block _ (by omega)).trans n2, (c4.block _ (by omega)).trans n3, (c5.block _ (by omega)).trans n4, (b6.block _ (by omega)).trans n5, n6⟩, Chg.refl _ _, fun _ h => .inl h⟩, by rw [hw7]; simp [s5], c1⟩
  have HS : Hid (b < E) := by have := HH.out.1.lt.2; have := HH.out.2.2.2.2; show b < E; omega
  simp only [World.size_alloc, hE, Nat.add_assoc, Nat.reduceAdd]
  clear hw7 hE
  have HEQ := fun bx W => run_eql_func_nil (P := Try.prog) W 70 _ _ _ (.func 30) #[] #[.pointer (some ⟨bx, 0, none⟩)] Try.underlying70
  gi_wp2
  clear HEQ
  obtain ⟨K0, hK0⟩ : ∃ K0 : Int, K0 = S.nx + (mu N S : Int) := ⟨_, rfl⟩
  obtain ⟨D0, hD0⟩ : ∃ D0 : Int, D0 = (mu N S : Int) := ⟨_, rfl⟩
  have HK : Hid (K0 ≤ S.nx + (S.L.length : Int) + 1 ∧ K0 ≤ 2199023255552 ∧ D0 ≤ 2097152 ∧ K0 = S.nx + (mu N S : Int) ∧ D0 = (mu N S : Int)) := by
    have h1 := (mu_le N S).2
    have h2 := HH.out.2.2.1
    have h3 := win_few HH.out.1
    refine ⟨by omega, by omega, by omega, hK0, hD0⟩
  clear hK0 hD0
  have FINL : Hid (∀ (De : Nat) (Z W' : World) (s : Wn Int) (v' : Value) (d : Int), LS E B q b r v #[.int .i64 kd, .int .i64 wh, .int .i64 N, .int .i64 xv] w7 Z s s v' true d → s.nx + (s.L.length : Int) ≤ K0 → Z.heap[De]? = some (.deferred (some [])) → w7.heap.size ≤ De → Chg (fun g => g ∈ [De]) Z W' → ∃ S' v', PI B q b r v w W' S' S' v' ∧ S'.nx + (S'.L.length : Int) ≤ S.nx + (S.L.length : Int) + 1) := by
    intro De Z W' s v' d h1 h2 h3 h4 hC
    have h5 := H7.out.2.1
    have h6 := HH.out.2.2.2.2
    have hb := H7.out.2.2
    have h7 := h1.turn hC (fun g hg => by
      simp only [List.mem_cons, List.not_mem_nil, or_false] at hg
      subst hg
      exact ⟨by omega, _, h3, rfl⟩) HS.out (by omega)
    refine ⟨s, v', ⟨h7.win, h7.ref, (Chg.of_below (by rw [h6]; exact hb)).then h7.chg (fun g hg => ?_), fun g hg => ?_⟩, by have := HK.out.1; omega⟩
    · rcases hg with hg | hg
      · exact .inl hg
      · exact .inr (by omega)
    · rcases h7.own g hg with h8 | h8
      · exact .inl h8
      · exact .inr (by omega)
  refine rangeM (α := Int × Int) (σ := Wn Int) rfl rfl (by decide) (gf := 30) (lb := #[.pointer (some ⟨E + 5, 0, none⟩)]) rfl trivial (enters_of Try.func30 (by kernel_rfl) rfl) (seqI (E + 5) q b 5)
    (fun g hg => by have h1 := HH.out.1.lt; have h2 := H7.out.2.1; have h3 := HH.out.2.2.2.2; simp only [Wb] at hg; omega) (fun _ => rfl)
    (LpI E B q b r v #[.int .i64 kd, .int .i64 wh, .int .i64 N, .int .i64 xv] N K0 D0 w7) (LpP E B q b r v #[.int .i64 kd, .int .i64 wh, .int .i64 N, .int .i64 xv] N K0 D0 w7) (LpX E B q b r v #[.int .i64 kd, .int .i64 wh, .int .i64 N, .int .i64 xv] K0 w7)
    ?hI ?hIx ?hPre ?hAt ?hStep (mu N S) S ⟨v, 0, H7.out.1, rfl, HK.out.2.2.2.1.symm, by rw [HK.out.2.2.2.2]; omega⟩
    (fun x => { tmps := #[.pointer (some ⟨q, 0, none⟩), .pointer (some ⟨r, 0, none⟩), .agg #[.int .i64 kd, .int .i64 wh, .int .i64 N, .int .i64 xv], .pointer (some ⟨E, 0, none⟩), .pointer (some ⟨E + 1, 0, none⟩), .pointer (some ⟨E + 2, 0, none⟩), .pointer (some ⟨E + 3, 0, none⟩), .pointer (some ⟨E + 4, 0, none⟩), .func (.func 30) #[] #[.pointer (some ⟨E + 5, 0, none⟩)], .int .i64 x.1, .int .i64 x.2, undef, undef, undef, undef, undef, undef, .pointer (some ⟨q, 0, none⟩), .func (.func 30) #[] #[.pointer (some ⟨E + 5, 0, none⟩)], .func (.func 30) #[] #[.pointer (some ⟨E + 5, 0, none⟩)], .bool false, .func (.func 30) #[] #[.pointer (some ⟨E + 5, 0, none⟩)], .int .i64 x.1, .int .i64 x.2, undef, undef, undef, undef, undef, undef, undef, undef, undef, undef, undef, undef, undef, undef, undef, undef, undef, undef, undef, undef, undef, undef, undef, undef, undef, undef, undef, undef, undef, undef, undef, undef, undef, undef, undef, undef, undef, undef, undef, undef, undef, undef, undef, undef, undef, undef, undef, undef, undef, undef, undef, undef, undef, undef, undef, undef, undef, undef, undef, undef, undef], defers := [] }) ?assign ?body ?done ?stop
  case hI =>
    intro k s
    refine ownW_of2 fun W W' D ⟨v', d, h1, h2⟩ hC hD => ⟨v', d, h1.turn hC (fun g hg => by rw [← H7.out.2.1]; exact hD g hg) HS.out (Nat.le_of_eq H7.out.2.1), h2⟩
  case hIx =>
    intro c
    refine ownW_of2 fun W W' D ⟨h0, s, v', d, h1, h2⟩ hC hD => ⟨h0, s, v', d, h1.turn hC (fun g hg => by rw [← H7.out.2.1]; exact hD g hg) HS.out (Nat.le_of_eq H7.out.2.1), h2⟩
  case hPre =>
    intro k s x s'
    refine ownW_of2 fun W W' D ⟨v', d, h1, h2⟩ hC hD => ⟨v', d, h1.turn hC (fun g hg => by rw [← H7.out.2.1]; exact hD g hg) HS.out (Nat.le_of_eq H7.out.2.1), h2⟩
  case hAt =>
    rintro k s W ⟨v', d, h1, h2, h3, h4⟩
    have h5 := (mu_le N s).1
    have h6 := HK.out.2.1
    exact h1.at_ (by omega)
  case hStep =>
    rintro k s x s' W1 W2 ⟨v', d, h1, h2, h3, h4⟩ hn hA hC
    obtain ⟨n1, n2, n3, n4⟩ := nxtW_inv hn
    exact ⟨v', d, h1.winS (by have := hA.1; rw [n3] at this; exact this) hC, n3, n1, n2, n4, h1.win.nodup, win_few h1.win, h1.win.nx0, h2, h3, h4⟩
  case assign =>
    intro lp x W K hK
    simp only [encI]
    gi_wp2
    exact hK
  case body =>
    rintro lp k s ⟨x1, x2⟩ s' W hlp hrec ⟨v1, d, hL, hs', hx1, hx2, hhas, hnd, hlen, h0, hk, hK0, hD0⟩
    simp only at hx1 hx2
    subst hx1
    dsimp only
    obtain ⟨hmu, hnx⟩ := mu_pass N hnd hhas
    have HB : Hid (LS E B q b r v1 #[.int .i64 kd, .int .i64 wh, .int .i64 N, .int .i64 xv] W W (passS s) s v1 false d ∧ LS E B q b r v #[.int .i64 kd, .int .i64 wh, .int .i64 N, .int .i64 xv] w7 W (passS s) s v1 false d ∧ (s.L.map (·.1)).Nodup ∧ s.L.length ≤ 1048576 ∧ mu N (passS s) + 1 = mu N s ∧ (passS s).nx = s.nx + 1 ∧ k = mu N s ∧ s.nx + (k : Int) = K0 ∧ d + (k : Int) = D0) := ⟨hL.base, hL, hnd, hlen, hmu, hnx, hk, hK0, hD0⟩
    have HPK : Hid (Calls Try.prog 13 #[.pointer (some ⟨r, 0, none⟩)] W fun e w' => e = .returned (.tuple #[.int .i64 x2, .int .i64 0]) ∧ w' = W) := by
      have h := rPeek hL.ref hnd (by omega)
      rw [hx2, hhas] at h
      exact h
    have HNX : Hid (Calls Try.prog 23 #[.pointer (some ⟨r, 0, none⟩)] W fun e w' => e = .returned (.int .i64 s.nx) ∧ w' = W) := rNext hL.ref
    obtain ⟨nx, hnxe⟩ : ∃ nx, s.nx = nx := ⟨_, rfl⟩
    have hb1 := (mu_le N s).1
    have HP : Hid (Calls Try.prog 15 #[.pointer (some ⟨r, 0, none⟩)] W fun e w' => (∃ y, e = .returned (.int .i64 y)) ∧ RNw W w' B r v1 (passS s)) := by
      exact Calls.mono (rPass hL.ref hnd (by omega) h0 (by have := HK.out.2.1; omega)) fun e w' h => ⟨⟨_, h.1⟩, h.2⟩
    have HX : Hid (s.nx = nx) := hnxe
    rw [hnxe] at HNX
    rw [hnxe]
    have cr : W.cell? ⟨E + 1, 0, none⟩ = some (.pointer (some ⟨r, 0, none⟩)) := box1 hL.bx.br
    clear hL hs' hx2 hhas hnd hlen h0 hk hK0 hD0 hmu hnx hnxe hb1 hrec hlp
    gi_wp2
    refine ⟨trivial, CallsIn.inRound _ ((callsIn_wide.2 HPK.out).mono ?_)⟩
    rintro e w6 ⟨rfl, hw6⟩
    obtain rfl := hw6.symm
    clear hw6
    gi_wp2
    refine ⟨trivial, CallsIn.inRound _ ((callsIn_wide.2 HNX.out).mono ?_)⟩
    rintro e w6 ⟨rfl, hw6⟩
    obtain rfl := hw6.symm
    clear hw6
    gi_wp2
    refine ⟨trivial, CallsIn.inRound _ ((callsIn_wide.2 HP.out).mono ?_)⟩
    rintro e W1 ⟨⟨y, rfl⟩, hR1⟩
    obtain ⟨v2, hL1⟩ := HB.out.1.refS hR1
    obtain ⟨W1d, hW1d⟩ : ∃ W1d, W1.drew = W1d := ⟨_, rfl⟩
    have hLd : LS E B q b r v1 #[.int .i64 kd, .int .i64 wh, .int .i64 N, .int .i64 xv] W W1d (passS s) (passS s) v2 false d := by rw [← hW1d]; exact hL1.drewN 1
    have HL1 : Hid (LS E B q b r v1 #[.int .i64 kd, .int .i64 wh, .int .i64 N, .int .i64 xv] W W1d (passS s) (passS s) v2 false d) := hLd
    obtain ⟨nx1, hnx1⟩ : ∃ nx1, (passS s).nx = nx1 := ⟨_, rfl⟩
    have HX1 : Hid ((passS s).nx = nx1) := hnx1
    have HN1 : Hid (Calls Try.prog 22 #[.pointer (some ⟨q, 0, none⟩)] W1d fun e w' => e = .returned (.int .i64 nx1) ∧ w' = W1d) := by rw [← hnx1]; exact nextI hLd.win
    have HN2 : Hid (Calls Try.prog 23 #[.pointer (some ⟨r, 0, none⟩)] W1d fun e w' => e = .returned (.int .i64 nx1) ∧ w' = W1d) := by rw [← hnx1]; exact rNext hLd.ref
    have cw1 : W1d.cell? ⟨E, 0, none⟩ = some (.pointer (some ⟨q, 0, none⟩)) := box1 hLd.bx.bw
    have cr1 : W1d.cell? ⟨E + 1, 0, none⟩ = some (.pointer (some ⟨r, 0, none⟩)) := box1 hLd.bx.br
    have cd1 : W1d.cell? ⟨E + 4, 0, none⟩ = some (.int .i64 d) := box1 hLd.bx.bd
    have fd1 := Lib.frozen_of_heap hLd.bx.bd 0
    clear hL1 hLd hR1 hnx1 cr
    gi_wp2
    refine wpIn_region_any (by kernel_rfl) ?_
    change wpAnyIn _ _ _ _ _ _ _ _ _ W1.drew
    rw [hW1d]
    refine wpAnyIn_ready (rs := [0, 2]) (by kernel_rfl) (by simp) (AllReadyIn.cons rfl (fun K hK => ?b13) (AllReadyIn.cons rfl (fun K hK => ?b14) AllReadyIn.nil))
    case b13 =>
      go_simp
      refine hK _ _ ?_
      clear hK K
      try simp only [Act.put, List.setIfInBounds_toArray, List.set_cons_zero, List.set_cons_succ]
      refine wpAnyIn_ready (rs := [1, 2]) (by kernel_rfl) (by simp) (AllReadyIn.cons rfl (fun K hK => ?b7) (AllReadyIn.cons rfl (fun K hK => ?b8) AllReadyIn.nil))
      case b7 =>
        go_simp
        refine ⟨trivial, CallsIn.inRound _ ((callsIn_wide.2 HN1.out).mono ?_)⟩
        rintro e w6 ⟨rfl, hw6⟩
        obtain rfl := hw6.symm
        clear hw6
        refine hK _ _ ?_
        clear hK K
        try simp only [Act.put, List.setIfInBounds_toArray, List.set_cons_zero, List.set_cons_succ]
        refine wpAnyIn_ready (rs := [2]) (by kernel_rfl) (by simp) (AllReadyIn.cons rfl (fun K hK => ?b3) AllReadyIn.nil)
        case b3 =>
          go_simp
          refine hK _ _ ?_
          clear hK K
          try simp only [Act.put, List.setIfInBounds_toArray, List.set_cons_zero, List.set_cons_succ]
          refine wpAnyIn_ready (rs := [3]) (by kernel_rfl) (by simp) (AllReadyIn.cons rfl (fun K hK => ?b2) AllReadyIn.nil)
          case b2 =>
            go_simp
            refine ⟨trivial, CallsIn.inRound _ ((callsIn_wide.2 HN2.out).mono ?_)⟩
            rintro e w6 ⟨rfl, hw6⟩
            obtain rfl := hw6.symm
            clear hw6
            refine hK _ _ ?_
            clear hK K
            try simp only [Act.put, List.setIfInBounds_toArray, List.set_cons_zero, List.set_cons_succ]
            refine wpAnyIn_ready (rs := [4]) (by kernel_rfl) (by simp) (AllReadyIn.cons rfl (fun K hK => ?b1) AllReadyIn.nil)
            case b1 =>
              go_simp
              refine hK _ _ ?_
              clear hK K
              try simp only [Act.put, List.setIfInBounds_toArray, List.set_cons_zero, List.set_cons_succ]
              refine wpAnyIn_done (by kernel_rfl) ?_ _
              obtain ⟨d1, hd1⟩ : ∃ d1 : Int, d1 = d + 1 := ⟨_, rfl⟩
              have HD1 : Hid (d1 = d + 1) := hd1
              have g1 : IntKind.i64.wrap (d + 1) = d1 := by
                obtain ⟨_, _, _, h1, _, _, h2, h3, h4⟩ := HB.out
                obtain ⟨_, _, h5, _, h6⟩ := HK.out
                have h7 := (mu_le N s).2
                rw [hd1]
                exact IntWalk.i64_in _ (by omega)
              have HFIN : Hid (∀ W' S2 v3, LS E B q b r v1 #[.int .i64 kd, .int .i64 wh, .int .i64 N, .int .i64 xv] W W' S2 S2 v3 false d1 → mu N S2 + 1 = mu N s → S2.nx = s.nx + 1 → KeepsFrom w7.heap.size W W' ∧ ∃ k' s2, k' < k ∧ LpI E B q b r v #[.int .i64 kd, .int .i64 wh, .int .i64 N, .int .i64 xv] N K0 D0 w7 k' s2 W') := by
                intro W' S2 v3 h1 h2 h3
                obtain ⟨k1, k2, _, _, _, _, k3, k4, k5⟩ := HB.out
                have h4 := HD1.out
                refine ⟨by rw [H7.out.2.1]; exact k1.keeps h1 HS.out, mu N S2, S2, by omega, v3, d1, k2.of h1, rfl, by omega, by omega⟩
              have HRET : Hid (∀ W' S2 v3, LS E B q b r v1 #[.int .i64 kd, .int .i64 wh, .int .i64 N, .int .i64 xv] W W' S2 S2 v3 true d1 → mu N S2 + 1 = mu N s → S2.nx = s.nx + 1 → KeepsFrom w7.heap.size W W' ∧ LpX E B q b r v #[.int .i64 kd, .int .i64 wh, .int .i64 N, .int .i64 xv] K0 w7 .ret W') := by
                intro W' S2 v3 h1 h2 h3
                obtain ⟨k1, k2, _, _, _, _, k3, k4, k5⟩ := HB.out
                have h4 := (mu_le N S2).1
                refine ⟨by rw [H7.out.2.1]; exact k1.keeps h1 HS.out, rfl, S2, v3, d1, k2.of h1, by omega⟩
              obtain ⟨W2, hW2⟩ : ∃ W2, W1d.setCell ⟨E + 4, 0, none⟩ (.int .i64 d1) = W2 := ⟨_, rfl⟩
              have hL2 := HL1.out.setD d1
              rw [hW2] at hL2
              have cw2 : W2.cell? ⟨E, 0, none⟩ = some (.pointer (some ⟨q, 0, none⟩)) := box1 hL2.bx.bw
              obtain ⟨_, _, s22, s23⟩ := box4 hL2.bx.bs
              have cd2 : W2.cell? ⟨E + 4, 0, none⟩ = some (.int .i64 d1) := box1 hL2.bx.bd
              have HL2 : Hid (LS E B q b r v1 #[.int .i64 kd, .int .i64 wh, .int .i64 N, .int .i64 xv] W W2 (passS s) (passS s) v2 false d1) := hL2
              clear hd1 hL2
              cases hp : (nx.tmod 2 == 0) with
              | true =>
                gi_wp2
                refine ⟨trivial, CallsIn.inRound _ ((callsIn_wide.2 (putI HL2.out.win N xv HH.out.2.2.2.1)).mono ?_)⟩
                rintro e W3 ⟨rfl, k1, k2, k3⟩
                have hL3 := HL2.out.winS k1 k2
                have cr3 : W3.cell? ⟨E + 1, 0, none⟩ = some (.pointer (some ⟨r, 0, none⟩)) := box1 hL3.bx.br
                obtain ⟨_, _, s32, s33⟩ := box4 hL3.bx.bs
                have HL3 : Hid (LS E B q b r v1 #[.int .i64 kd, .int .i64 wh, .int .i64 N, .int .i64 xv] W W3 (putS (passS s) N xv) (passS s) v2 false d1) := hL3
                obtain ⟨pe, hpe⟩ : ∃ pe, putE (passS s) N = pe := ⟨_, rfl⟩
                rw [hpe]
                have HPT : Hid (Calls Try.prog 11 #[.pointer (some ⟨r, 0, none⟩), .int .i64 N, .int .i64 xv] W3 fun e w' => e = .returned (.int .i64 pe) ∧ RNw W3 w' B r v2 (putS (passS s) N xv)) := by
                  have h1 := HL2.out.win
                  have h2 := win_few h1
                  rw [← hpe]
                  exact rPut hL3.ref h1.nodup (by omega) h1.nx0 N xv HH.out.2.2.2.1
                clear k1 k2 k3 hL3 hpe cw2 s22 s23 cd2
                gi_wp2
                refine ⟨trivial, CallsIn.inRound _ ((callsIn_wide.2 HPT.out).mono ?_)⟩
                rintro e W4 ⟨rfl, hR4⟩
                obtain ⟨v4, hL4⟩ := HL3.out.refS hR4
                obtain ⟨_, _, s42, s43⟩ := box4 hL4.bx.bs
                have cd4 : W4.cell? ⟨E + 4, 0, none⟩ = some (.int .i64 d1) := box1 hL4.bx.bd
                have HL4 : Hid (LS E B q b r v1 #[.int .i64 kd, .int .i64 wh, .int .i64 N, .int .i64 xv] W W4 (putS (passS s) N xv) (putS (passS s) N xv) v4 false d1) := hL4
                clear hL4 hR4 cr3 s32 s33
                have fW4 := Lib.frozen_of_heap HL4.out.bx.bo 0
                have coW4 : W4.cell? ⟨E + 3, 0, none⟩ = some (.bool false) := box1 HL4.out.bx.bo
                have HE0 : Hid _ := HFIN.out W4 _ _ HL4.out (by have h1 := (mu_put N xv (passS s)).1; have h2 := HB.out.2.2.2.2.1; omega) (by have h1 := (mu_put N xv (passS s)).2; have h2 := HB.out.2.2.2.2.2.1; omega)
                have HE1 : Hid _ := HRET.out (W4.setCell ⟨E + 3, 0, none⟩ (.bool true)) _ _ (HL4.out.setR true) (by have h1 := (mu_put N xv (passS s)).1; have h2 := HB.out.2.2.2.2.1; omega) (by have h1 := (mu_put N xv (passS s)).2; have h2 := HB.out.2.2.2.2.2.1; omega)
                by_cases hv : 1 ≤ xv
                · by_cases hd : xv ≤ d1
                  · gi_wp2
                    exact HE1.out
                  · gi_wp2
                    exact HE0.out
                · gi_wp2
                  exact HE0.out
              | false =>
                have fW2 := Lib.frozen_of_heap HL2.out.bx.bo 0
                have coW2 : W2.cell? ⟨E + 3, 0, none⟩ = some (.bool false) := box1 HL2.out.bx.bo
                have HE0 : Hid _ := HFIN.out W2 _ _ HL2.out HB.out.2.2.2.2.1 HB.out.2.2.2.2.2.1
                have HE1 : Hid _ := HRET.out (W2.setCell ⟨E + 3, 0, none⟩ (.bool true)) _ _ (HL2.out.setR true) HB.out.2.2.2.2.1 HB.out.2.2.2.2.2.1
                by_cases hv : 1 ≤ xv
                · by_cases hd : xv ≤ d1
                  · gi_wp2
                    exact HE1.out
                  · gi_wp2
                    exact HE0.out
                · gi_wp2
                  exact HE0.out
      case b8 =>
        go_simp
        refine hK _ _ ?_
        clear hK K
        try simp only [Act.put, List.setIfInBounds_toArray, List.set_cons_zero, List.set_cons_succ]
        refine wpAnyIn_ready (rs := [1]) (by kernel_rfl) (by simp) (AllReadyIn.cons rfl (fun K hK => ?b6) AllReadyIn.nil)
        case b6 =>
          go_simp
          refine ⟨trivial, CallsIn.inRound _ ((callsIn_wide.2 HN1.out).mono ?_)⟩
          rintro e w6 ⟨rfl, hw6⟩
          obtain rfl := hw6.symm
          clear hw6
          refine hK _ _ ?_
          clear hK K
          try simp only [Act.put, List.setIfInBounds_toArray, List.set_cons_zero, List.set_cons_succ]
          refine wpAnyIn_ready (rs := [3]) (by kernel_rfl) (by simp) (AllReadyIn.cons rfl (fun K hK => ?b5) AllReadyIn.nil)
          case b5 =>
            go_simp
            refine ⟨trivial, CallsIn.inRound _ ((callsIn_wide.2 HN2.out).mono ?_)⟩
            rintro e w6 ⟨rfl, hw6⟩
            obtain rfl := hw6.symm
            clear hw6
            refine hK _ _ ?_
            clear hK K
            try simp only [Act.put, List.setIfInBounds_toArray, List.set_cons_zero, List.set_cons_succ]
            refine wpAnyIn_ready (rs := [4]) (by kernel_rfl) (by simp) (AllReadyIn.cons rfl (fun K hK => ?b4) AllReadyIn.nil)
            case b4 =>
              go_simp
              refine hK _ _ ?_
              clear hK K
              try simp only [Act.put, List.setIfInBounds_toArray, List.set_cons_zero, List.set_cons_succ]
              refine wpAnyIn_done (by kernel_rfl) ?_ _
              obtain ⟨d1, hd1⟩ : ∃ d1 : Int, d1 = d + 1 := ⟨_, rfl⟩
              have HD1 : Hid (d1 = d + 1) := hd1
              have g1 : IntKind.i64.wrap (d + 1) = d1 := by
                obtain ⟨_, _, _, h1, _, _, h2, h3, h4⟩ := HB.out
                obtain ⟨_, _, h5, _, h6⟩ := HK.out
                have h7 := (mu_le N s).2
                rw [hd1]
                exact IntWalk.i64_in _ (by omega)
              have HFIN : Hid (∀ W' S2 v3, LS E B q b r v1 #[.int .i64 kd, .int .i64 wh, .int .i64 N, .int .i64 xv] W W' S2 S2 v3 false d1 → mu N S2 + 1 = mu N s → S2.nx = s.nx + 1 → KeepsFrom w7.heap.size W W' ∧ ∃ k' s2, k' < k ∧ LpI E B q b r v #[.int .i64 kd, .int .i64 wh, .int .i64 N, .int .i64 xv] N K0 D0 w7 k' s2 W') := by
                intro W' S2 v3 h1 h2 h3
                obtain ⟨k1, k2, _, _, _, _, k3, k4, k5⟩ := HB.out
                have h4 := HD1.out
                refine ⟨by rw [H7.out.2.1]; exact k1.keeps h1 HS.out, mu N S2, S2, by omega, v3, d1, k2.of h1, rfl, by omega, by omega⟩
              have HRET : Hid (∀ W' S2 v3, LS E B q b r v1 #[.int .i64 kd, .int .i64 wh, .int .i64 N, .int .i64 xv] W W' S2 S2 v3 true d1 → mu N S2 + 1 = mu N s → S2.nx = s.nx + 1 → KeepsFrom w7.heap.size W W' ∧ LpX E B q b r v #[.int .i64 kd, .int .i64 wh, .int .i64 N, .int .i64 xv] K0 w7 .ret W') := by
                intro W' S2 v3 h1 h2 h3
                obtain ⟨k1, k2, _, _, _, _, k3, k4, k5⟩ := HB.out
                have h4 := (mu_le N S2).1
                refine ⟨by rw [H7.out.2.1]; exact k1.keeps h1 HS.out, rfl, S2, v3, d1, k2.of h1, by omega⟩
              obtain ⟨W2, hW2⟩ : ∃ W2, W1d.setCell ⟨E + 4, 0, none⟩ (.int .i64 d1) = W2 := ⟨_, rfl⟩
              have hL2 := HL1.out.setD d1
              rw [hW2] at hL2
              have cw2 : W2.cell? ⟨E, 0, none⟩ = some (.pointer (some ⟨q, 0, none⟩)) := box1 hL2.bx.bw
              obtain ⟨_, _, s22, s23⟩ := box4 hL2.bx.bs
              have cd2 : W2.cell? ⟨E + 4, 0, none⟩ = some (.int .i64 d1) := box1 hL2.bx.bd
              have HL2 : Hid (LS E B q b r v1 #[.int .i64 kd, .int .i64 wh, .int .i64 N, .int .i64 xv] W W2 (passS s) (passS s) v2 false d1) := hL2
              clear hd1 hL2
              cases hp : (nx.tmod 2 == 0) with
              | true =>
                gi_wp2
                refine ⟨trivial, CallsIn.inRound _ ((callsIn_wide.2 (putI HL2.out.win N xv HH.out.2.2.2.1)).mono ?_)⟩
                rintro e W3 ⟨rfl, k1, k2, k3⟩
                have hL3 := HL2.out.winS k1 k2
                have cr3 : W3.cell? ⟨E + 1, 0, none⟩ = some (.pointer (some ⟨r, 0, none⟩)) := box1 hL3.bx.br
                obtain ⟨_, _, s32, s33⟩ := box4 hL3.bx.bs
                have HL3 : Hid (LS E B q b r v1 #[.int .i64 kd, .int .i64 wh, .int .i64 N, .int .i64 xv] W W3 (putS (passS s) N xv) (passS s) v2 false d1) := hL3
                obtain ⟨pe, hpe⟩ : ∃ pe, putE (passS s) N = pe := ⟨_, rfl⟩
                rw [hpe]
                have HPT : Hid (Calls Try.prog 11 #[.pointer (some ⟨r, 0, none⟩), .int .i64 N, .int .i64 xv] W3 fun e w' => e = .returned (.int .i64 pe) ∧ RNw W3 w' B r v2 (putS (passS s) N xv)) := by
                  have h1 := HL2.out.win
                  have h2 := win_few h1
                  rw [← hpe]
                  exact rPut hL3.ref h1.nodup (by omega) h1.nx0 N xv HH.out.2.2.2.1
                clear k1 k2 k3 hL3 hpe cw2 s22 s23 cd2
                gi_wp2
                refine ⟨trivial, CallsIn.inRound _ ((callsIn_wide.2 HPT.out).mono ?_)⟩
                rintro e W4 ⟨rfl, hR4⟩
                obtain ⟨v4, hL4⟩ := HL3.out.refS hR4
                obtain ⟨_, _, s42, s43⟩ := box4 hL4.bx.bs
                have cd4 : W4.cell? ⟨E + 4, 0, none⟩ = some (.int .i64 d1) := box1 hL4.bx.bd
                have HL4 : Hid (LS E B q b r v1 #[.int .i64 kd, .int .i64 wh, .int .i64 N, .int .i64 xv] W W4 (putS (passS s) N xv) (putS (passS s) N xv) v4 false d1) := hL4
                clear hL4 hR4 cr3 s32 s33
                have fW4 := Lib.frozen_of_heap HL4.out.bx.bo 0
                have coW4 : W4.cell? ⟨E + 3, 0, none⟩ = some (.bool false) := box1 HL4.out.bx.bo
                have HE0 : Hid _ := HFIN.out W4 _ _ HL4.out (by have h1 := (mu_put N xv (passS s)).1; have h2 := HB.out.2.2.2.2.1; omega) (by have h1 := (mu_put N xv (passS s)).2; have h2 := HB.out.2.2.2.2.2.1; omega)
                have HE1 : Hid _ := HRET.out (W4.setCell ⟨E + 3, 0, none⟩ (.bool true)) _ _ (HL4.out.setR true) (by have h1 := (mu_put N xv (passS s)).1; have h2 := HB.out.2.2.2.2.1; omega) (by have h1 := (mu_put N xv (passS s)).2; have h2 := HB.out.2.2.2.2.2.1; omega)
                by_cases hv : 1 ≤ xv
                · by_cases hd : xv ≤ d1
                  · gi_wp2
                    exact HE1.out
                  · gi_wp2
                    exact HE0.out
                · gi_wp2
                  exact HE0.out
              | false =>
                have fW2 := Lib.frozen_of_heap HL2.out.bx.bo 0
                have coW2 : W2.cell? ⟨E + 3, 0, none⟩ = some (.bool false) := box1 HL2.out.bx.bo
                have HE0 : Hid _ := HFIN.out W2 _ _ HL2.out HB.out.2.2.2.2.1 HB.out.2.2.2.2.2.1
                have HE1 : Hid _ := HRET.out (W2.setCell ⟨E + 3, 0, none⟩ (.bool true)) _ _ (HL2.out.setR true) HB.out.2.2.2.2.1 HB.out.2.2.2.2.2.1
                by_cases hv : 1 ≤ xv
                · by_cases hd : xv ≤ d1
                  · gi_wp2
                    exact HE1.out
                  · gi_wp2
                    exact HE0.out
                · gi_wp2
                  exact HE0.out
    case b14 =>
      go_simp
      refine hK _ _ ?_
      clear hK K
      try simp only [Act.put, List.setIfInBounds_toArray, List.set_cons_zero, List.set_cons_succ]
      refine wpAnyIn_ready (rs := [0]) (by kernel_rfl) (by simp) (AllReadyIn.cons rfl (fun K hK => ?b12) AllReadyIn.nil)
      case b12 =>
        go_simp
        refine hK _ _ ?_
        clear hK K
        try simp only [Act.put, List.setIfInBounds_toArray, List.set_cons_zero, List.set_cons_succ]
        refine wpAnyIn_ready (rs := [1]) (by kernel_rfl) (by simp) (AllReadyIn.cons rfl (fun K hK => ?b11) AllReadyIn.nil)
        case b11 =>
          go_simp
          refine ⟨trivial, CallsIn.inRound _ ((callsIn_wide.2 HN1.out).mono ?_)⟩
          rintro e w6 ⟨rfl, hw6⟩
          obtain rfl := hw6.symm
          clear hw6
          refine hK _ _ ?_
          clear hK K
          try simp only [Act.put, List.setIfInBounds_toArray, List.set_cons_zero, List.set_cons_succ]
          refine wpAnyIn_ready (rs := [3]) (by kernel_rfl) (by simp) (AllReadyIn.cons rfl (fun K hK => ?b10) AllReadyIn.nil)
          case b10 =>
            go_simp
            refine ⟨trivial, CallsIn.inRound _ ((callsIn_wide.2 HN2.out).mono ?_)⟩
            rintro e w6 ⟨rfl, hw6⟩
            obtain rfl := hw6.symm
            clear hw6
            refine hK _ _ ?_
            clear hK K
            try simp only [Act.put, List.setIfInBounds_toArray, List.set_cons_zero, List.set_cons_succ]
            refine wpAnyIn_ready (rs := [4]) (by kernel_rfl) (by simp) (AllReadyIn.cons rfl (fun K hK => ?b9) AllReadyIn.nil)
            case b9 =>
              go_simp
              refine hK _ _ ?_
              clear hK K
              try simp only [Act.put, List.setIfInBounds_toArray, List.set_cons_zero, List.set_cons_succ]
              refine wpAnyIn_done (by kernel_rfl) ?_ _
              obtain ⟨d1, hd1⟩ : ∃ d1 : Int, d1 = d + 1 := ⟨_, rfl⟩
              have HD1 : Hid (d1 = d + 1) := hd1
              have g1 : IntKind.i64.wrap (d + 1) = d1 := by
                obtain ⟨_, _, _, h1, _, _, h2, h3, h4⟩ := HB.out
                obtain ⟨_, _, h5, _, h6⟩ := HK.out
                have h7 := (mu_le N s).2
                rw [hd1]
                exact IntWalk.i64_in _ (by omega)
              have HFIN : Hid (∀ W' S2 v3, LS E B q b r v1 #[.int .i64 kd, .int .i64 wh, .int .i64 N, .int .i64 xv] W W' S2 S2 v3 false d1 → mu N S2 + 1 = mu N s → S2.nx = s.nx + 1 → KeepsFrom w7.heap.size W W' ∧ ∃ k' s2, k' < k ∧ LpI E B q b r v #[.int .i64 kd, .int .i64 wh, .int .i64 N, .int .i64 xv] N K0 D0 w7 k' s2 W') := by
                intro W' S2 v3 h1 h2 h3
                obtain ⟨k1, k2, _, _, _, _, k3, k4, k5⟩ := HB.out
                have h4 := HD1.out
                refine ⟨by rw [H7.out.2.1]; exact k1.keeps h1 HS.out, mu N S2, S2, by omega, v3, d1, k2.of h1, rfl, by omega, by omega⟩
              have HRET : Hid (∀ W' S2 v3, LS E B q b r v1 #[.int .i64 kd, .int .i64 wh, .int .i64 N, .int .i64 xv] W W' S2 S2 v3 true d1 → mu N S2 + 1 = mu N s → S2.nx = s.nx + 1 → KeepsFrom w7.heap.size W W' ∧ LpX E B q b r v #[.int .i64 kd, .int .i64 wh, .int .i64 N, .int .i64 xv] K0 w7 .ret W') := by
                intro W' S2 v3 h1 h2 h3
                obtain ⟨k1, k2, _, _, _, _, k3, k4, k5⟩ := HB.out
                have h4 := (mu_le N S2).1
                refine ⟨by rw [H7.out.2.1]; exact k1.keeps h1 HS.out, rfl, S2, v3, d1, k2.of h1, by omega⟩
              obtain ⟨W2, hW2⟩ : ∃ W2, W1d.setCell ⟨E + 4, 0, none⟩ (.int .i64 d1) = W2 := ⟨_, rfl⟩
              have hL2 := HL1.out.setD d1
              rw [hW2] at hL2
              have cw2 : W2.cell? ⟨E, 0, none⟩ = some (.pointer (some ⟨q, 0, none⟩)) := box1 hL2.bx.bw
              obtain ⟨_, _, s22, s23⟩ := box4 hL2.bx.bs
              have cd2 : W2.cell? ⟨E + 4, 0, none⟩ = some (.int .i64 d1) := box1 hL2.bx.bd
              have HL2 : Hid (LS E B q b r v1 #[.int .i64 kd, .int .i64 wh, .int .i64 N, .int .i64 xv] W W2 (passS s) (passS s) v2 false d1) := hL2
              clear hd1 hL2
              cases hp : (nx.tmod 2 == 0) with
              | true =>
                gi_wp2
                refine ⟨trivial, CallsIn.inRound _ ((callsIn_wide.2 (putI HL2.out.win N xv HH.out.2.2.2.1)).mono ?_)⟩
                rintro e W3 ⟨rfl, k1, k2, k3⟩
                have hL3 := HL2.out.winS k1 k2
                have cr3 : W3.cell? ⟨E + 1, 0, none⟩ = some (.pointer (some ⟨r, 0, none⟩)) := box1 hL3.bx.br
                obtain ⟨_, _, s32, s33⟩ := box4 hL3.bx.bs
                have HL3 : Hid (LS E B q b r v1 #[.int .i64 kd, .int .i64 wh, .int .i64 N, .int .i64 xv] W W3 (putS (passS s) N xv) (passS s) v2 false d1) := hL3
                obtain ⟨pe, hpe⟩ : ∃ pe, putE (passS s) N = pe := ⟨_, rfl⟩
                rw [hpe]
                have HPT : Hid (Calls Try.prog 11 #[.pointer (some ⟨r, 0, none⟩), .int .i64 N, .int .i64 xv] W3 fun e w' => e = .returned (.int .i64 pe) ∧ RNw W3 w' B r v2 (putS (passS s) N xv)) := by
                  have h1 := HL2.out.win
                  have h2 := win_few h1
                  rw [← hpe]
                  exact rPut hL3.ref h1.nodup (by omega) h1.nx0 N xv HH.out.2.2.2.1
                clear k1 k2 k3 hL3 hpe cw2 s22 s23 cd2
                gi_wp2
                refine ⟨trivial, CallsIn.inRound _ ((callsIn_wide.2 HPT.out).mono ?_)⟩
                rintro e W4 ⟨rfl, hR4⟩
                obtain ⟨v4, hL4⟩ := HL3.out.refS hR4
                obtain ⟨_, _, s42, s43⟩ := box4 hL4.bx.bs
                have cd4 : W4.cell? ⟨E + 4, 0, none⟩ = some (.int .i64 d1) := box1 hL4.bx.bd
                have HL4 : Hid (LS E B q b r v1 #[.int .i64 kd, .int .i64 wh, .int .i64 N, .int .i64 xv] W W4 (putS (passS s) N xv) (putS (passS s) N xv) v4 false d1) := hL4
                clear hL4 hR4 cr3 s32 s33
                have fW4 := Lib.frozen_of_heap HL4.out.bx.bo 0
                have coW4 : W4.cell? ⟨E + 3, 0, none⟩ = some (.bool false) := box1 HL4.out.bx.bo
                have HE0 : Hid _ := HFIN.out W4 _ _ HL4.out (by have h1 := (mu_put N xv (passS s)).1; have h2 := HB.out.2.2.2.2.1; omega) (by have h1 := (mu_put N xv (passS s)).2; have h2 := HB.out.2.2.2.2.2.1; omega)
                have HE1 : Hid _ := HRET.out (W4.setCell ⟨E + 3, 0, none⟩ (.bool true)) _ _ (HL4.out.setR true) (by have h1 := (mu_put N xv (passS s)).1; have h2 := HB.out.2.2.2.2.1; omega) (by have h1 := (mu_put N xv (passS s)).2; have h2 := HB.out.2.2.2.2.2.1; omega)
                by_cases hv : 1 ≤ xv
                · by_cases hd : xv ≤ d1
                  · gi_wp2
                    exact HE1.out
                  · gi_wp2
                    exact HE0.out
                · gi_wp2
                  exact HE0.out
              | false =>
                have fW2 := Lib.frozen_of_heap HL2.out.bx.bo 0
                have coW2 : W2.cell? ⟨E + 3, 0, none⟩ = some (.bool false) := box1 HL2.out.bx.bo
                have HE0 : Hid _ := HFIN.out W2 _ _ HL2.out HB.out.2.2.2.2.1 HB.out.2.2.2.2.2.1
                have HE1 : Hid _ := HRET.out (W2.setCell ⟨E + 3, 0, none⟩ (.bool true)) _ _ (HL2.out.setR true) HB.out.2.2.2.2.1 HB.out.2.2.2.2.2.1
                by_cases hv : 1 ≤ xv
                · by_cases hd : xv ≤ d1
                  · gi_wp2
                    exact HE1.out
                  · gi_wp2
                    exact HE0.out
                · gi_wp2
                  exact HE0.out
  case done =>
    rintro De k s Z hDe ⟨v', d, h1, h2, h3, h4⟩ hnn hKd
    have hno := nxtW_none hnn
    have HPK : Hid (Calls Try.prog 13 #[.pointer (some ⟨r, 0, none⟩)] Z fun e w' => (∃ y, e = .returned (.tuple #[.int .i64 y, .int .i64 15])) ∧ w' = Z) := by
      have hf := win_few h1.win
      have h := rPeek h1.ref h1.win.nodup (by omega)
      rw [hno] at h
      exact Calls.mono h fun e w' hh => ⟨⟨_, hh.1⟩, hh.2⟩
    have cr : Z.cell? ⟨E + 1, 0, none⟩ = some (.pointer (some ⟨r, 0, none⟩)) := box1 h1.bx.br
    have co : Z.cell? ⟨E + 3, 0, none⟩ = some (.bool false) := box1 h1.bx.bo
    have fo := Lib.frozen_of_heap h1.bx.bo 0
    have hm := (mu_le N s).1
    have HZ : Hid (LS E B q b r v #[.int .i64 kd, .int .i64 wh, .int .i64 N, .int .i64 xv] w7 Z s s v' false d ∧ s.nx + (s.L.length : Int) ≤ K0 ∧ Z.heap[De]? = some (.deferred (some [])) ∧ w7.heap.size ≤ De) := ⟨h1, by omega, hKd, hDe⟩
    clear h1 h2 h3 h4 hnn hno hDe hKd hm
    gi_wp2
    refine ⟨trivial, (callsIn_wide.2 HPK.out).mono ?_⟩
    rintro e w6 ⟨⟨y, rfl⟩, hw6⟩
    obtain rfl := hw6.symm
    clear hw6
    gi_wp2
    have hq1 := HZ.out.1.setR true
    have hq3 := HZ.out.2.1
    have hq4 := HZ.out.2.2.2
    have hq2 : (Z.setCell ⟨E + 3, 0, none⟩ (.bool true)).heap[De]? = some (.deferred (some [])) := (Chg.set (D := fun g => g = E + 3) (q := E + 3) 0 _ _ rfl).block HZ.out.2.2.1 (by have h6 := H7.out.2.1; omega)
    generalize Z.setCell ⟨E + 3, 0, none⟩ (.bool true) = ZZ at *
    refine leave_marks [De] ZZ (by simp) (fun r' hr => ?_) (fun W' hC' => ?_)
    · simp only [List.mem_cons, List.not_mem_nil, or_false] at hr
      rw [hr]
      exact hq2
    · have hr2 := box1 (hC'.block hq1.bx.bo (by have h5 := hq4; have h6 := H7.out.2.1; simp; omega))
      refine ⟨.bool true, ?_, rfl, ?_⟩
      · rw [results_cells1 rfl]
        go_simp
      · exact FINL.out De _ W' s v' d hq1 hq3 hq2 hq4 hC'
  case stop =>
    rintro De c W hDe ⟨rfl, s, v', d, h1, h2⟩ hKd
    gi_wp2
    have hq1 := h1
    have hq2 := hKd
    have hq3 := h2
    have hq4 := hDe
    clear h1 h2 hKd hDe
    refine leave_marks [De] W (by simp) (fun r' hr => ?_) (fun W' hC' => ?_)
    · simp only [List.mem_cons, List.not_mem_nil, or_false] at hr
      rw [hr]
      exact hq2
    · have hr2 := box1 (hC'.block hq1.bx.bo (by have h5 := hq4; have h6 := H7.out.2.1; simp; omega))
      refine ⟨.bool true, ?_, rfl, ?_⟩
      · rw [results_cells1 rfl]
        go_simp
      · exact FINL.out De _ W' s v' d hq1 hq3 hq2 hq4 hC'
end Go.Proofs.Ytchkeckblpmehaa
