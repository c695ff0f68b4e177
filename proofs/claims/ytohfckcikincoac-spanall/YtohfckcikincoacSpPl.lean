import Derived.Test.YtohfckcikincoacSpPo
namespace Go.Proofs.Ytohfckcikincoac
open Go.RowKit Go.Lib
set_option maxRecDepth 100000

/-- Two rows that share no block. -/
def Apart (u v : Value) : Prop := ∀ g, u.ownBlock = some g → v.ownBlock ≠ some g
set_option maxHeartbeats 4000000 in
theorem places_any {w : World} {a : Option Addr} {n cap : Nat} {l : List (Int × Int)} (h : Rng w a n cap l) (hn : n ≤ 262144) (HL : Hid (∀ r ∈ l, 0 ≤ r.1 ∧ r.1 ≤ r.2 ∧ r.2 ≤ 1048576)) :
    Calls Try.prog 50 #[.slice a n cap] w fun e w' => ∃ o no co L, e = .returned (.slice o no co) ∧ Own w' w.heap.size (.slice o no co) L ∧ Below w.heap.size w w' ∧ Hid (PlOf l L) := by
  have hln := h.len
  go_enter Try.func50, Try.ntmps50
  go_wp2_with fail
  go_loopw [3, 4, 5] (fun v1 v2 vi w' => ∃ (j : Nat), j ≤ n ∧ vi = .int .i64 j ∧ OwnI w' w.heap.size v1 ((l.take j).map (·.1)) ∧ OwnI w' w.heap.size v2 ((l.take j).map (·.2)) ∧ Apart v1 v2 ∧ Below w.heap.size w w') (fun _ _ i _ => n - (RowKit.intOf i).toNat)
  case atStart => exact ⟨0, Nat.zero_le _, rfl, ownI_nil _ _, ownI_nil _ _, fun g hg => by (try simp [Value.ownBlock] at hg), Below.refl _ _⟩
  case round =>
    obtain ⟨j, hjn, rfl, h1, h2, hap, hb⟩ := hrel
    have hsz := hb.size
    by_cases hj : j < n
    · obtain ⟨g, off, rfl, hg, hc, hd⟩ := h.cells j hj
      have c0 := (hb.cell (p := ⟨g, off + j * 2, none⟩) hg).trans hc
      obtain ⟨g1, k1, w1, r1, o1, b1, kp1, l1, t1⟩ := appendI_lie h1 (n := j) (by simp; omega) hsz (l.getD j (0, 0)).1 (by omega) 62
      have h2' := h2.keep kp1 (fun g hg e => hap g e hg)
      have hb1 := hb.trans b1
      have c1 := (hb1.cell (p := ⟨g, off + j * 2 + 1, none⟩) hg).trans hd
      obtain ⟨g2, k2, w2, r2, o2, b2, kp2, l2, t2⟩ := appendI_lie h2' (n := j) (by simp; omega) hb1.size (l.getD j (0, 0)).2 (by omega) 62
      have hb2 := hb1.trans b2
      have hn1 : ∀ e, u4.ownBlock = some e → e ≠ g1 := fun e he eq => by
        subst eq
        rcases l1 with q | q
        · exact hap _ q he
        · have := (World.ownsRow.lt h2 _ he).2
          omega
      have o1' := o1.keep kp2 (fun e he e2 => hn1 e e2 (by simpa [Value.ownBlock] using he.symm))
      have hap2 : Apart (.slice (some ⟨g1, 0, none⟩) (j + 1) k1) (.slice (some ⟨g2, 0, none⟩) (j + 1) k2) := fun e he e2 => by
        have e1 : g1 = e := by simpa [Value.ownBlock] using he
        have e3 : g2 = e := by simpa [Value.ownBlock] using e2
        rcases l2 with q | q
        · exact hn1 _ q (by omega)
        · omega
      rw [← take_snoc_map l (·.1) j (by omega)] at o1'
      rw [← take_snoc_map l (·.2) j (by omega)] at o2
      clear l1 l2 hn1
      generalize hx : (l.getD j (0, 0)).1 = x at *
      generalize hy : (l.getD j (0, 0)).2 = y at *
      clear hc hd
      go_wp2_with (at_builtin; first | refine wpList_append_hr rfl _ _ 62 rfl _ _ rfl rfl r1 ?_ | refine wpList_append_hr rfl _ _ 62 rfl _ _ rfl rfl r2 ?_)
      go_roundw
      case rel => exact ⟨j + 1, by omega, by go_num, o1', o2, hap2, hb2⟩
      case measure => simp [RowKit.intOf]; omega
    · have e : j = n := by omega
      subst e
      have e1 : l.take j = l := by rw [← hln]; exact List.take_length
      rw [e1] at h1 h2
      clear e1
      obtain ⟨a1, c1, rfl⟩ := h1.shape
      obtain ⟨a2, c2, rfl⟩ := h2.shape
      simp only [List.length_map, hln] at h1 h2 ⊢
      have S1 := sorted_any _ h1.rng (by omega)
      clear hap h1
      go_wp2_with fail
      refine S1.mono ?_
      rintro e w2 ⟨b1, d1, y1, rfl, o1, hb2, P1⟩
      clear S1
      have h2' := h2.below hb2
      have hB2 := hb.trans (hb2.mono hsz)
      have S2 := sorted_any _ h2'.rng (by omega)
      clear h2 h2' hb2
      go_wp2_with fail
      refine S2.mono ?_
      rintro e w3 ⟨b2, d2, y2, rfl, o2, hb3, P2⟩
      clear S2
      have o1' := o1.below hb3
      have hB3 := hB2.trans (hb3.mono hB2.size)
      have hsz3 := hB3.size
      clear o1 hb3 hB2
      obtain ⟨b4, d4, w4, r4, o4, hb4⟩ := appendI (ownI_nil w3 w3.heap.size) (Nat.le_refl _) o1'.rng (by omega) 62
      obtain ⟨b5, d5, w5, r5, o5, hb5⟩ := appendI o4 hb4.size (o2.below hb4).rng (by omega) 62
      have hb35 := hb4.trans hb5
      simp only [Nat.zero_add] at r4 r5 o5
      have S3 := sorted_any _ o5.rng (by omega)
      go_wp2_with (at_builtin; first | refine wpList_append_hr rfl _ _ 62 rfl _ _ rfl rfl r4 ?_ | refine wpList_append_hr rfl _ _ 62 rfl _ _ rfl rfl r5 ?_)
      refine S3.mono ?_
      rintro e w6 ⟨b6, d6, y6, rfl, o6, hb6, P3⟩
      have hb36 := hb35.trans (hb6.mono hb35.size)
      have hB6 := hB3.trans (hb36.mono hB3.size)
      have q1 := (o1'.below hb36).rng
      have q2 := (o2.below hb36).rng
      have q6 := o6.rng
      have HP : Hid (y1.Perm (l.map (·.1)) ∧ y2.Perm (l.map (·.2)) ∧ y6.Perm (y1 ++ y2)) := ⟨P1.out.1, P2.out.1, P3.out.1⟩
      have HA1 : Hid (Asc y1) := P1.out.2
      have HA2 : Hid (Asc y2) := P2.out.2
      have HA6 : Hid (Asc y6) := P3.out.2
      clear S3 r4 r5 o4 o5 hb4 hb5 hb35 hb6 hb36 o1' o2 o6 P1 P2 P3 hB3 hsz3
      obtain ⟨w7, hmk, hob, hb7⟩ := makeB w6 (j + j) (by omega)
      have hB7 := hB6.trans (hb7.mono hB6.size)
      have q1' := q1.below hb7
      have q2' := q2.below hb7
      have q6' := q6.below hb7
      have hmk' := hmk
      simp only [Int.natCast_add] at hmk'
      have q1u := q1.under
      have q2u := q2.under
      have q6u := q6.under
      clear q1 q2 q6 hb7
      go_wp2_with fail
      go_loopw [8] (fun vi w' => ∃ (k : Nat) (bs : List Bool), k ≤ j + j ∧ vi = .int .i64 k ∧ OwnB w' w6.heap.size (.slice (some ⟨w6.heap.size, 0, none⟩) (j + j) (j + j)) bs ∧ Below w6.heap.size w7 w' ∧ Hid (bs.length = j + j ∧ ∀ i, i < k → bs.getD i false = decide (atMost y2 (y6.getD i 0) < atMost y1 (y6.getD i 0)))) (fun i _ => (j + j) - (RowKit.intOf i).toNat)
      case atStart => exact ⟨0, _, Nat.zero_le _, rfl, hob, Below.refl _ _, ⟨by simp, fun i hi => by omega⟩⟩
      case round =>
        obtain ⟨k, bs, hkn, rfl, hbs, hbl, HBS⟩ := hrel
        have hsl := hbl.size
        by_cases hk : k < j + j
        · obtain ⟨g6, off6, rfl, hg6, hc6⟩ := q6'.cells k hk
          have hl6 := q6u (by omega) g6 off6 rfl
          have c6 := (hbl.cell (p := ⟨g6, off6 + k, none⟩) hl6).trans hc6
          have hlb := hbs.rng.len
          obtain ⟨g7, off7, e7, hg7, hc7⟩ := hbs.rng.cells k hk
          cases e7
          simp only [Nat.zero_add] at hc7
          have hfz := ownB_frozen hbs k
          have HN := HBS.out
          generalize hx : y6.getD k 0 = x at *
          have U1 := refUpTo_any (q1'.belowB q1u hbl) HA1.out x
          have U2 := refUpTo_any (q2'.belowB q2u hbl) HA2.out x
          obtain ⟨m1, hm1⟩ : ∃ m1, atMost y1 x = m1 := ⟨_, rfl⟩
          obtain ⟨m2, hm2⟩ : ∃ m2, atMost y2 x = m2 := ⟨_, rfl⟩
          rw [hm1] at U1
          rw [hm2] at U2
          have HS : Hid ((bs.set k (decide (m2 < m1))).length = j + j ∧ ∀ i, i < k + 1 → (bs.set k (decide (m2 < m1))).getD i false = decide (atMost y2 (y6.getD i 0) < atMost y1 (y6.getD i 0))) := by
            refine ⟨by rw [List.length_set]; exact HN.1, fun i hi => ?_⟩
            rw [getD_set_lt (by omega)]
            by_cases e : i = k
            · subst e
              rw [if_pos rfl, hx, hm1, hm2]
            · rw [if_neg e]
              exact HN.2 i (by omega)
          have OS := ownB_set hbs k (decide (m2 < m1))
          have BS := hbl.setCell (p := ⟨w6.heap.size, k, none⟩) (Nat.le_refl _) (.bool (decide (m2 < m1)))
          clear hc6 HBS HN hbs q1' q2' q6' q1u q2u q6u hob hmk hmk' HP HA1 HA2 HA6 HL h hm1 hm2 hx hbl hB6 hB7 hb hsz
          go_wp2_with fail
          refine U1.mono ?_
          rintro e w' ⟨rfl, rfl⟩
          clear U1
          go_wp2_with fail
          refine U2.mono ?_
          rintro e w' ⟨rfl, rfl⟩
          clear U2
          go_wp2_with fail
          go_roundw
          case rel => exact ⟨k + 1, _, by omega, by go_num, OS, BS, HS⟩
          case measure => simp [RowKit.intOf]; omega
        · have e : k = j + j := by omega
          subst e
          have J1 := joined_any (q6'.belowB q6u hbl) HA6.out hbs.rng (by omega)
          go_wp2_with fail
          refine J1.mono ?_
          rintro e w8 ⟨o8, n8, c8, rfl, ho8, hb8⟩
          clear J1
          go_wp2_with fail
          go_ret
          refine ⟨o8, n8, c8, _, rfl, ho8.mono ?_, ?_, ?_⟩
          · have := hB7.size
            omega
          · have h6 := hB6.size
            have h7 := hB7.size
            exact hB7.trans ((hbl.mono h6).trans (hb8.mono (by omega)))
          · exact pl_of HL.out HP.out.1 HP.out.2.1 HP.out.2.2 HA6.out q6'.len HBS.out.2
end Go.Proofs.Ytohfckcikincoac
