import Derived.Test.YtdmhajlhpieedaaLdB
/-! The reference's Send. -/
namespace Go.Proofs.Ytdmhajlhpieedaa
open Go.RowKit Go.Lib Go.Shelf
set_option maxRecDepth 100000

/-- As Away, where there is something. -/
def AwN (W : World) (D : Nat → Prop) (n : Nat) (a : Option Addr) : Prop := 0 < n → ∀ g, a = some g → g.block < W.heap.size ∧ ¬ D g.block
theorem Rw.chgN {α : Type} {f : α → List Value} {k : Nat} {D : Nat → Prop} {W W' : World} {a : Option Addr} {n cap : Nat} {l : List α} (h : Rw f k W a n cap l) (hC : Chg D W W') (hd : 0 < n → ∀ g, a = some g → ¬ D g.block) : Rw f k W' a n cap l := by
  by_cases h0 : 0 < n
  · exact h.chg hC (hd h0)
  · exact ⟨h.len, h.room, fun h1 => absurd h1 h0⟩
theorem PsAt.chgN {W W' : World} {D : Nat → Prop} {a : Option Addr} {n c : Nat} {ps : List Pk} (h : PsAt W a n c ps) (hC : Chg D W W') (ha : 0 < n → ∀ g, a = some g → ¬ D g.block) (hp : ∀ p ∈ ps, 0 < p.bs.length → ∀ g, p.a = some g → ¬ D g.block) : PsAt W' a n c ps :=
  ⟨h.row.chgN hC ha, fun p hpp => ⟨(h.bytes p hpp).1.chgN hC (hp p hpp), (h.bytes p hpp).2⟩⟩
theorem rnx_step {W W1 W2 : World} {r : Nat} {S2 : Lk} {rv rv1 : Value} {ys ys1 : List X} (hC1 : Chg (RBk r rv ys) W W1) (hb1 : ∀ g, RBk r rv1 ys1 g → RBk r rv ys g ∨ W.heap.size ≤ g) (h2 : RNx W1 W2 r rv1 ys1 S2) : RNx W W2 r rv ys S2 := by
  obtain ⟨rv2, ys2, h3, hC2, hb2⟩ := h2
  have := hC1.size
  refine ⟨rv2, ys2, h3, hC1.then hC2 hb1, fun g hg => ?_⟩
  rcases hb2 g hg with h | h
  · exact hb1 g h
  · exact .inr (by omega)
def RSendP (W : World) (r : Nat) (S : Lk) (rv : Value) (ys : List X) (ps : List Pk) (W' : World) : Prop := (sendE S ps ≠ 0 → Below W.heap.size W W') ∧ (sendE S ps = 0 → RNx W W' r rv ys (sendS S ps))
set_option maxHeartbeats 8000000 in
theorem rsend_any {W : World} {r : Nat} {S : Lk} {rv : Value} {ys : List X} (h : RefAt W r S rv ys) (hO : S.Ok) {a : Option Addr} {n c : Nat} {ps : List Pk} (hP : PsAt W a n c ps) (ha : AwN W (RBk r rv ys) n a) (hp : ∀ p ∈ ps, AwN W (RBk r rv ys) p.bs.length p.a ∧ p.bs.length ≤ 140737488355328) (hn : n ≤ 140737488355328) (hN : S.next + n ≤ 1152921504606846976) :
    Calls Try.prog 50 #[.pointer (some ⟨r, 0, none⟩), .slice a n c] W fun e W' => e = .returned (sendV S ps) ∧ RSendP W r S rv ys ps W' := by
  obtain ⟨z, hz⟩ : ∃ z, sendV S ps = z := ⟨_, rfl⟩
  obtain ⟨R, hR⟩ : ∃ R, RSendP W r S rv ys ps = R := ⟨_, rfl⟩
  have HZ : Hid (sendV S ps = z ∧ RSendP W r S rv ys ps = R) := ⟨hz, hR⟩
  rw [hz, hR]
  have HL : Hid (RefAt W r S rv ys ∧ S.Ok ∧ PsAt W a n c ps ∧ AwN W (RBk r rv ys) n a ∧ (∀ p ∈ ps, AwN W (RBk r rv ys) p.bs.length p.a ∧ p.bs.length ≤ 140737488355328) ∧ S.next + n ≤ 1152921504606846976) := ⟨h, hO, hP, ha, hp, hN⟩
  have HI : Hid (∀ k, Calls Try.prog 57 #[.pointer (some ⟨r, 0, none⟩), .int .i64 k] W fun e w' => e = .returned (.bool (nodeB S k)) ∧ w' = W) := fun k => rnode_any h k
  obtain ⟨ra, rc, erv, _, _⟩ := h.row.shape
  obtain ⟨q0, q1, q2, q3⟩ := box4 h.box
  rw [erv] at q3
  obtain ⟨mo, hmo⟩ : ∃ mo : Int, (S.most : Int) = mo := ⟨_, rfl⟩
  obtain ⟨rn, hrn⟩ : ∃ rn : Nat, ys.length = rn := ⟨_, rfl⟩
  have hle := h.le hO
  have hmm := hO.most
  rw [hmo] at q1
  rw [hrn] at q3 hle
  have HD : Hid ((S.most : Int) = mo ∧ ys.length = rn) := ⟨hmo, hrn⟩
  have HSS : Hid ((fun w => w.cell? ⟨r, 1, none⟩ = some (.int .i64 mo) ∧ w.cell? ⟨r, 3, none⟩ = some (.slice ra rn rc)) W.drew) := ⟨q1, q3⟩
  have HSZ : Hid (rn ≤ 1048576 ∧ mo ≤ 1048576 ∧ 0 ≤ mo) := ⟨hle, by omega, by omega⟩
  obtain ⟨nx, hnx⟩ : ∃ nx : Int, (S.next : Int) = nx := ⟨_, rfl⟩
  have HNX : Hid ((S.next : Int) = nx) := hnx
  rw [hnx] at q2
  have q2' : W.drew.cell? ⟨r, 2, none⟩ = some (.int .i64 nx) := q2
  have ed : IntKind.i64.wrap (mo - (rn : Int)) = mo - (rn : Int) := IntWalk.i64_in _ (by omega)
  clear h hO hP ha hp hN hz hR erv hmo hrn hle hmm hnx q0 q1 q2 q3
  go_enter Try.func50, Try.ntmps50
  go_wp2_with fail
  go_loopw [6, 7, 8] (fun vi _ _ wr => ∃ k : Nat, k ≤ n ∧ vi = .int .i64 (k : Int) ∧ wr = W ∧ Hid ((ps.take k).all (goodP S) = true)) (fun vi _ _ _ => n - (RowKit.intOf vi).toNat)
  case atStart => exact ⟨0, Nat.zero_le _, rfl, rfl, show _ = true by simp⟩
  case round =>
    obtain ⟨k, hk, rfl, hw, hS⟩ := hrel
    obtain rfl := hw.symm
    clear hw
    by_cases hlt : k < n
    · have hlt2 : (k : Int) < (n : Int) := by omega
      obtain ⟨g, off, p, hpa, hg, hpk, hcell⟩ := HL.out.2.2.1.row.at k hlt
      subst hpa
      have c0 := hcell 0 _ rfl
      have c1 := hcell 1 _ rfl
      simp only [Nat.add_zero] at c0
      have I1 := HI.out p.fr
      have I2 := HI.out p.tt
      have HPK : Hid (ps[k]? = some p) := hpk
      have e1 : IntKind.i64.wrap ((k : Int) + 1) = (k : Int) + 1 := IntWalk.i64_in _ (by omega)
      clear hcell hg hpk
      obtain ⟨bf, hf⟩ : ∃ bf, nodeB S p.fr = bf := ⟨_, rfl⟩
      obtain ⟨bt, ht⟩ : ∃ bt, nodeB S p.tt = bt := ⟨_, rfl⟩
      have HF : Hid (nodeB S p.fr = bf ∧ nodeB S p.tt = bt) := ⟨hf, ht⟩
      rw [hf] at I1
      rw [ht] at I2
      clear hf ht
      go_wp2_with fail
      refine I1.mono ?_
      rintro e w1 ⟨rfl, hw⟩
      obtain rfl := hw.symm
      clear hw
      go_wp2_with fail
      refine I2.mono ?_
      rintro e w1 ⟨rfl, hw⟩
      obtain rfl := hw.symm
      clear hw
      have hbad : bf = false ∨ bt = false → Hid (sendE S ps = 170) := fun hb => by
        show _ = _
        unfold sendE; rw [if_neg]; intro hall
        have := List.all_eq_true.1 hall p (List.mem_of_getElem? HPK.out)
        have h3 := HF.out
        rcases hb with rfl | rfl
        · simp [goodP, h3.1] at this
        · simp [goodP, h3.2] at this
      cases bf with
      | false =>
        have E0 := hbad (.inl rfl)
        clear hbad
        go_wp2_with fail
        go_ret2
        refine ⟨by rw [← HZ.out.1]; simp [sendV, E0.out], ?_⟩
        rw [← HZ.out.2]
        exact ⟨fun _ => Below.refl _ _, fun h => by rw [E0.out] at h; simp at h⟩
      | true =>
        cases bt with
        | false =>
          have E0 := hbad (.inr rfl)
          clear hbad
          go_wp2_with fail
          go_ret2
          refine ⟨by rw [← HZ.out.1]; simp [sendV, E0.out], ?_⟩
          rw [← HZ.out.2]
          exact ⟨fun _ => Below.refl _ _, fun h => by rw [E0.out] at h; simp at h⟩
        | true =>
          clear hbad
          go_wp2_with fail
          exact ⟨⟨k + 1, by omega, by simp, trivial, all_take hS.out HPK.out (by simp [goodP, HF.out.1, HF.out.2])⟩, by simp [RowKit.intOf]; omega⟩
    · have hlt2 : ¬ (k : Int) < (n : Int) := by omega
      obtain rfl : k = n := by omega
      have hall : ps.all (goodP S) = true := by
        have := hS.out
        rw [List.take_of_length_le (by rw [HL.out.2.2.1.row.len]; exact Nat.le_refl _)] at this
        exact this
      have HA : Hid (ps.all (goodP S) = true) := hall
      clear hall
      go_wp2_with fail
      refine wp_region_held_drew (S := (fun w => w.cell? ⟨r, 1, none⟩ = some (.int .i64 mo) ∧ w.cell? ⟨r, 3, none⟩ = some (.slice ra rn rc))) (by kernel_rfl) ?hSx (fun hHeld => ?restx)
      case hSx => exact HSS.out
      refine takeD (i := 0) (d := some 37) (v := ?vT1) rfl rfl (by kernel_rfl) (by kernel_rfl) (by kernel_rfl) (fun _ _ _ h => h) (Or.inl ⟨by rfl, ?hyT1⟩) (by assumption) ?rstT1
      case hyT1 => (intro w hSw; (try dsimp only at hSw); obtain ⟨s0, s1⟩ := hSw; go_simp; (try with_reducible rfl))
      try simp only [Act.put, List.setIfInBounds_toArray, List.set_cons_zero, List.set_cons_succ]
      refine takeD (i := 1) (d := some 38) (v := ?vT2) rfl rfl (by kernel_rfl) (by kernel_rfl) (by kernel_rfl) (fun _ _ _ h => h) (Or.inl ⟨by rfl, ?hyT2⟩) (by assumption) ?rstT2
      case hyT2 => (intro w hSw; (try dsimp only at hSw); obtain ⟨s0, s1⟩ := hSw; go_simp; (try with_reducible rfl))
      try simp only [Act.put, List.setIfInBounds_toArray, List.set_cons_zero, List.set_cons_succ]
      refine takeD (i := 2) (d := some 39) (v := ?vT3) rfl rfl (by kernel_rfl) (by kernel_rfl) (by kernel_rfl) (fun _ _ _ h => h) (Or.inl ⟨by rfl, ?hyT3⟩) (by assumption) ?rstT3
      case hyT3 => (intro w hSw; (try dsimp only at hSw); obtain ⟨s0, s1⟩ := hSw; go_simp; (try with_reducible rfl))
      try simp only [Act.put, List.setIfInBounds_toArray, List.set_cons_zero, List.set_cons_succ]
      refine takeD (i := 3) (d := some 40) (v := ?vT4) rfl rfl (by kernel_rfl) (by kernel_rfl) (by kernel_rfl) (fun _ _ _ h => h) (Or.inl ⟨by rfl, ?hyT4⟩) (by assumption) ?rstT4
      case hyT4 => (intro w hSw; (try dsimp only at hSw); obtain ⟨s0, s1⟩ := hSw; go_simp; (try with_reducible rfl))
      try simp only [Act.put, List.setIfInBounds_toArray, List.set_cons_zero, List.set_cons_succ]
      refine takeD (i := 4) (d := some 41) (v := ?vT5) rfl rfl (by kernel_rfl) (by kernel_rfl) (by kernel_rfl) (fun _ _ _ h => h) (Or.inl ⟨by rfl, ?hyT5⟩) (by assumption) ?rstT5
      case hyT5 => (intro w hSw; (try dsimp only at hSw); obtain ⟨s0, s1⟩ := hSw; go_simp; (try with_reducible rfl))
      try simp only [Act.put, List.setIfInBounds_toArray, List.set_cons_zero, List.set_cons_succ]
      refine takeD (i := 5) (d := some 42) (v := ?vT6) rfl rfl (by kernel_rfl) (by kernel_rfl) (by kernel_rfl) (fun _ _ _ h => h) (Or.inl ⟨by rfl, ?hyT6⟩) (by assumption) ?rstT6
      case hyT6 => (intro w hSw; (try dsimp only at hSw); obtain ⟨s0, s1⟩ := hSw; go_simp; (try with_reducible rfl))
      try simp only [Act.put, List.setIfInBounds_toArray, List.set_cons_zero, List.set_cons_succ]
      refine takeD (i := 6) (d := some 43) (v := ?vT7) rfl rfl (by kernel_rfl) (by kernel_rfl) (by kernel_rfl) (fun _ _ _ h => h) (Or.inl ⟨by rfl, ?hyT7⟩) (by assumption) ?rstT7
      case hyT7 => (intro w hSw; (try dsimp only at hSw); obtain ⟨s0, s1⟩ := hSw; go_simp; (try with_reducible rfl))
      try simp only [Act.put, List.setIfInBounds_toArray, List.set_cons_zero, List.set_cons_succ]
      refine takeD (i := 7) (d := some 44) (v := ?vT8) rfl rfl (by kernel_rfl) (by kernel_rfl) (by kernel_rfl) (fun _ _ _ h => h) (Or.inl ⟨by rfl, ?hyT8⟩) (by assumption) ?rstT8
      case hyT8 => (intro w hSw; (try dsimp only at hSw); obtain ⟨s0, s1⟩ := hSw; go_simp; (try with_reducible rfl))
      try simp only [Act.put, List.setIfInBounds_toArray, List.set_cons_zero, List.set_cons_succ]
      refine takeD (i := 8) (d := some 45) (v := ?vT9) rfl rfl (by kernel_rfl) (by kernel_rfl) (by kernel_rfl) (fun _ _ _ h => h) (Or.inl ⟨by rfl, ?hyT9⟩) (by assumption) ?rstT9
      case hyT9 => (intro w hSw; (try dsimp only at hSw); obtain ⟨s0, s1⟩ := hSw; go_simp; (try with_reducible rfl))
      try simp only [Act.put, List.setIfInBounds_toArray, List.set_cons_zero, List.set_cons_succ]
      refine takeD (i := 9) (d := some 46) (v := ?vT10) rfl rfl (by kernel_rfl) (by kernel_rfl) (by kernel_rfl) (fun _ _ _ h => h) (Or.inl ⟨by rfl, ?hyT10⟩) (by assumption) ?rstT10
      case hyT10 => (intro w hSw; (try dsimp only at hSw); obtain ⟨s0, s1⟩ := hSw; go_simp; (try with_reducible rfl))
      try simp only [Act.put, List.setIfInBounds_toArray, List.set_cons_zero, List.set_cons_succ]
      refine takeD (i := 10) (d := some 47) (v := ?vT11) rfl rfl (by kernel_rfl) (by kernel_rfl) (by kernel_rfl) (fun _ _ _ h => h) (Or.inl ⟨by rfl, ?hyT11⟩) (by assumption) ?rstT11
      case hyT11 => (intro w hSw; (try dsimp only at hSw); obtain ⟨s0, s1⟩ := hSw; go_simp; (try with_reducible rfl))
      try simp only [Act.put, List.setIfInBounds_toArray, List.set_cons_zero, List.set_cons_succ]
      refine takeD (i := 11) (d := some 48) (v := ?vT12) rfl rfl (by kernel_rfl) (by kernel_rfl) (by kernel_rfl) (fun _ _ _ h => h) (Or.inl ⟨by rfl, ?hyT12⟩) (by assumption) ?rstT12
      case hyT12 => (intro w hSw; (try dsimp only at hSw); obtain ⟨s0, s1⟩ := hSw; go_simp; (try with_reducible rfl))
      try simp only [Act.put, List.setIfInBounds_toArray, List.set_cons_zero, List.set_cons_succ]
      refine takeD (i := 12) (d := some 49) (v := ?vT13) rfl rfl (by kernel_rfl) (by kernel_rfl) (by kernel_rfl) (fun _ _ _ h => h) (Or.inl ⟨by rfl, ?hyT13⟩) (by assumption) ?rstT13
      case hyT13 => (intro w hSw; (try dsimp only at hSw); obtain ⟨s0, s1⟩ := hSw; go_simp; (try with_reducible rfl))
      try simp only [Act.put, List.setIfInBounds_toArray, List.set_cons_zero, List.set_cons_succ]
      refine wpAnyH_done (by kernel_rfl) ?_ _
      have hBd : Hid (Below W.heap.size W W.drew) := (Below.refl _ _).drew
      by_cases hroom : mo - (rn : Int) < (k : Int)
      · go_wp2_with fail
        go_ret2
        have e0 : sendE S ps = 161 := by
          unfold sendE; rw [if_pos HA.out, if_neg]
          have := HD.out
          have := HL.out.1.len
          have := HL.out.2.2.1.row.len
          omega
        refine ⟨by rw [← HZ.out.1]; simp [sendV, e0], ?_⟩
        rw [← HZ.out.2]
        exact ⟨fun _ => hBd.out, fun h => by rw [e0] at h; simp at h⟩
      · have hfit : Hid (S.fl.length + ps.length ≤ S.most) := by
          have := HD.out
          have := HL.out.1.len
          have := HL.out.2.2.1.row.len
          show _ ≤ _
          omega
        have e0 : Hid (sendE S ps = 0) := by
          show _ = _
          unfold sendE; rw [if_pos HA.out, if_pos hfit.out]
        go_wp2_with fail
        go_loopw [10] (fun vi wr => ∃ j : Nat, j ≤ k ∧ vi = .int .i64 (j : Int) ∧ Hid (RNx W wr r rv ys (sendS S (ps.take j)))) (fun vi _ => k - (RowKit.intOf vi).toNat)
        case atStart => exact ⟨0, Nat.zero_le _, rfl, HL.out.1.nx hBd.out⟩
        case round =>
          obtain ⟨j, hj, rfl, hS2⟩ := hrel
          by_cases hjl : j < k
          · have hjl2 : (j : Int) < (k : Int) := by omega
            obtain ⟨rv1, ys1, hL1, hC1, hB1⟩ := hS2.out
            have hPs := HL.out.2.2.1.chgN hC1 (fun h0 g hg => (HL.out.2.2.2.1 h0 g hg).2) (fun p hpp h0 g hg => ((HL.out.2.2.2.2.1 p hpp).1 h0 g hg).2)
            obtain ⟨g, off, p, hpa, hg, hpk, hcell⟩ := hPs.row.at j hjl
            have hpm := List.mem_of_getElem? hpk
            subst hpa
            have c0 := hcell 0 _ rfl
            have c1 := hcell 1 _ rfl
            have c2 := hcell 2 _ rfl
            simp only [Nat.add_zero] at c0
            have hlen := HL.out.2.2.1.row.len
            have htk : (ps.take j).length = j := by rw [List.length_take]; omega
            have hok : (sendS S (ps.take j)).Ok := sendS_ok _ S HL.out.2.1 (by have := hfit.out; omega) (by have := HL.out.2.2.2.2.2; omega)
            have hx1 : ys1.length + 1 ≤ 1048576 := by
              have := hL1.len
              rw [sendS_len, htk] at this
              have := hfit.out
              have := HL.out.2.1.most
              omega
            have G1 := radd_any hL1 hok hx1 p.fr p.tt (hPs.bytes p hpm).1 (HL.out.2.2.2.2.1 p hpm).2 false
            have HN : Hid (∀ w2, RNx wr w2 r rv1 ys1 (begS (sendS S (ps.take j)) ⟨(sendS S (ps.take j)).next, p.fr, p.tt, p.bs, false⟩) → RNx W w2 r rv ys (sendS S (ps.take (j + 1)))) := fun w2 h2 => by
              rw [List.take_add_one, hpk]
              simp only [Option.toList]
              rw [sendS_append]
              exact rnx_step hC1 hB1 h2
            obtain ⟨bl, hbl⟩ : ∃ bl, p.bs.length = bl := ⟨_, rfl⟩
            rw [hbl] at c2 G1
            have e1 : IntKind.i64.wrap ((j : Int) + 1) = (j : Int) + 1 := IntWalk.i64_in _ (by omega)
            clear hcell hg hpk hpm hPs hL1 hC1 hB1 hlen htk hok hx1 hbl
            go_wp2_with fail
            refine G1.mono ?_
            rintro e w2 ⟨rfl, hN2⟩
            have hN3 := HN.out w2 hN2
            clear hN2 HN
            have HN3 : Hid (RNx W w2 r rv ys (sendS S (ps.take (j + 1)))) := hN3
            clear hN3
            go_wp2_with fail
            exact ⟨⟨j + 1, by omega, by simp, HN3.out⟩, by simp [RowKit.intOf]; omega⟩
          · have hjl2 : ¬ (j : Int) < (k : Int) := by omega
            obtain rfl : j = k := by omega
            go_wp2_with fail
            go_ret2
            refine ⟨by rw [← HZ.out.1]; simp [sendV, e0.out, HNX.out], ?_⟩
            rw [← HZ.out.2]
            refine ⟨fun h => absurd e0.out h, fun _ => ?_⟩
            have := hS2.out
            rw [List.take_of_length_le (by rw [HL.out.2.2.1.row.len]; exact Nat.le_refl _)] at this
            exact this
end Go.Proofs.Ytdmhajlhpieedaa
