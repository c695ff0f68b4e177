import Derived.Test.YtmeciikfnbbllaaGreatDoorOgC
namespace Go.Proofs.YtmeciikfnbbllaaGreatDoor
open Go.RowKit Go.Lib Sp
set_option maxRecDepth 100000
set_option maxHeartbeats 4000000 in
theorem gCheck_any {o : OpV} {total : Int} {w : World} {a : Option Addr} {m cap : Nat} (h : Rng w a m cap o.l) (hs : o.s.size ≤ 2097152) :
    Calls Tryz.prog 85 #[opVal o (.slice a m cap), .int .i64 total] w fun e w' => e = .returned (.int .i64 (opCheck o total)) ∧ Below w.heap.size w w' := by
  obtain ⟨c, n, k, p, s, l, tc, tn, on⟩ := o
  simp only at h hs
  have hlen := h.len
  have hroom := h.room
  have hmb : m ≤ 9223372036854775807 := by simp only [maxLen] at hroom; omega
  have hw2 : Below w.heap.size w (w.alloc (Obj.cells #[.int .i64 c, .int .i64 n, .int .i64 k, .int .i64 p, .string s, .slice a m cap, .int .i64 tc, .int .i64 tn, .bool on] 33)) := (Below.refl w.heap.size w).alloc (Nat.le_refl _) _
  obtain ⟨r, hr⟩ : ∃ r, opCheck ⟨c, n, k, p, s, l, tc, tn, on⟩ total = r := ⟨_, rfl⟩
  rw [hr]
  simp only [opCheck] at hr
  by_cases hT0 : total < 0
  · rw [if_pos (.inl hT0)] at hr; subst hr
    simp only [opVal]
    go_enter Tryz.func85, Tryz.ntmps85
    go_wp2_with fail
    go_ret
    exact ⟨rfl, hw2⟩
  by_cases hT1 : 1048576 < total
  · rw [if_pos (.inr hT1)] at hr; subst hr
    simp only [opVal]
    go_enter Tryz.func85, Tryz.ntmps85
    go_wp2_with fail
    go_ret
    exact ⟨rfl, hw2⟩
  rw [if_neg (by omega)] at hr
  have g0 : 0 ≤ total := by omega
  have g1 : total ≤ 1048576 := by omega
  clear hT0 hT1
  by_cases hK0 : k < 1
  · rw [if_pos (.inl hK0)] at hr; subst hr
    simp only [opVal]
    go_enter Tryz.func85, Tryz.ntmps85
    go_wp2_with fail
    go_ret
    exact ⟨rfl, hw2⟩
  by_cases hK1 : 4 < k
  · rw [if_pos (.inr hK1)] at hr; subst hr
    simp only [opVal]
    go_enter Tryz.func85, Tryz.ntmps85
    go_wp2_with fail
    go_ret
    exact ⟨rfl, hw2⟩
  rw [if_neg (by omega)] at hr
  have k0 : 1 ≤ k := by omega
  have k1 : k ≤ 4 := by omega
  clear hK0 hK1
  obtain ⟨b, hb⟩ : ∃ b, isIdP c n = b := ⟨_, rfl⟩
  obtain ⟨nn, hnn⟩ : ∃ nn, decide (c = 0 ∧ n = 0) = nn := ⟨_, rfl⟩
  obtain ⟨ex, hex⟩ : ∃ ex, extra ⟨c, n, k, p, s, l, tc, tn, on⟩ = ex := ⟨_, rfl⟩
  obtain ⟨tb, htb⟩ : ∃ tb, isIdP tc tn = tb := ⟨_, rfl⟩
  obtain ⟨x, z, hc⟩ : ∃ x z, checkL l = (x, z) := ⟨_, _, rfl⟩
  rw [hex] at hr
  have HD : Hid (∀ w' : World, Calls Tryz.prog 99 #[.agg #[.int .i64 c, .int .i64 n]] w' fun e w'' => e = .returned (.bool b) ∧ Below w'.heap.size w' w'') := fun w' => hb ▸ gIsID_any c n w'
  have HT : Hid (∀ w' : World, Calls Tryz.prog 99 #[.agg #[.int .i64 tc, .int .i64 tn]] w' fun e w'' => e = .returned (.bool tb) ∧ Below w'.heap.size w' w'') := fun w' => htb ▸ gIsID_any tc tn w'
  have HN : Hid (∀ w' : World, Calls Tryz.prog 100 #[.agg #[.int .i64 c, .int .i64 n]] w' fun e w'' => e = .returned (.bool nn) ∧ Below w'.heap.size w' w'') := fun w' => hnn ▸ gNone_any c n w'
  have HX : Hid (∀ w' : World, Calls Tryz.prog 101 #[.agg #[.int .i64 c, .int .i64 n, .int .i64 k, .int .i64 p, .string s, .slice a m cap, .int .i64 tc, .int .i64 tn, .bool on]] w' fun e w'' => e = .returned (.bool ex) ∧ Below w'.heap.size w' w'') := fun w' => hex ▸ gExtra_any (o := ⟨c, n, k, p, s, l, tc, tn, on⟩) (w := w') hlen
  have HIN : Hid (∀ w' : World, Calls Tryz.prog 102 #[.agg #[.int .i64 c, .int .i64 n, .int .i64 k, .int .i64 p, .string s, .slice a m cap, .int .i64 tc, .int .i64 tn, .bool on], .int .i64 total] w' fun e w'' => e = .returned (.int .i64 (insP ⟨c, n, k, p, s, l, tc, tn, on⟩ total)) ∧ Below w'.heap.size w' w'') := fun w' => gInsert_any (o := ⟨c, n, k, p, s, l, tc, tn, on⟩) g0 g1 hs w'
  have HRC : Hid (∀ w' : World, Below w.heap.size w w' → Calls Tryz.prog 103 #[.slice a m cap] w' fun e w'' => e = .returned (.tuple #[.int .i64 x, .int .i64 z]) ∧ Below w'.heap.size w' w'') := fun w' hbb => by have q := Sp.refCheck_any (h.below hbb); rw [hc] at q; exact q
  have CELL : Hid (∀ w' : World, Below (w.alloc (Obj.cells #[.int .i64 c, .int .i64 n, .int .i64 k, .int .i64 p, .string s, .slice a m cap, .int .i64 tc, .int .i64 tn, .bool on] 33)).heap.size (w.alloc (Obj.cells #[.int .i64 c, .int .i64 n, .int .i64 k, .int .i64 p, .string s, .slice a m cap, .int .i64 tc, .int .i64 tn, .bool on] 33)) w' → w'.cell? ⟨w.heap.size, 0, none⟩ = some (.int .i64 c) ∧ w'.cell? ⟨w.heap.size, 1, none⟩ = some (.int .i64 n) ∧ w'.cell? ⟨w.heap.size, 2, none⟩ = some (.int .i64 k) ∧ w'.cell? ⟨w.heap.size, 3, none⟩ = some (.int .i64 p) ∧ w'.cell? ⟨w.heap.size, 4, none⟩ = some (.string s) ∧ w'.cell? ⟨w.heap.size, 5, none⟩ = some (.slice a m cap) ∧ w'.cell? ⟨w.heap.size, 6, none⟩ = some (.int .i64 tc) ∧ w'.cell? ⟨w.heap.size, 7, none⟩ = some (.int .i64 tn) ∧ w'.cell? ⟨w.heap.size, 8, none⟩ = some (.bool on)) := fun w' hbb => ⟨(hbb.cell (p := ⟨w.heap.size, 0, none⟩) (by simp)).trans (World.cell?_alloc_mark ..), (hbb.cell (p := ⟨w.heap.size, 1, none⟩) (by simp)).trans (World.cell?_alloc_mark ..), (hbb.cell (p := ⟨w.heap.size, 2, none⟩) (by simp)).trans (World.cell?_alloc_mark ..), (hbb.cell (p := ⟨w.heap.size, 3, none⟩) (by simp)).trans (World.cell?_alloc_mark ..), (hbb.cell (p := ⟨w.heap.size, 4, none⟩) (by simp)).trans (World.cell?_alloc_mark ..), (hbb.cell (p := ⟨w.heap.size, 5, none⟩) (by simp)).trans (World.cell?_alloc_mark ..), (hbb.cell (p := ⟨w.heap.size, 6, none⟩) (by simp)).trans (World.cell?_alloc_mark ..), (hbb.cell (p := ⟨w.heap.size, 7, none⟩) (by simp)).trans (World.cell?_alloc_mark ..), (hbb.cell (p := ⟨w.heap.size, 8, none⟩) (by simp)).trans (World.cell?_alloc_mark ..)⟩
  have HS0 : Hid (tgtP ⟨c, n, k, p, s, l, tc, tn, on⟩ = if tb = false ∨ (tc = c ∧ tn = n) then 63 else 0) := by show tgtP ⟨c, n, k, p, s, l, tc, tn, on⟩ = _; simp only [tgtP, htb]
  have HS1 : Hid (rngP ⟨c, n, k, p, s, l, tc, tn, on⟩ total = if l = [] then 43 else if z ≠ 0 then z else if total < lastHi l then 12 else 0) := by show rngP ⟨c, n, k, p, s, l, tc, tn, on⟩ total = _; simp only [rngP, hc]
  have HQ : Hid (b = true ∨ (b = false ∧ nn = true) ∨ (b = false ∧ nn = false)) := by show b = true ∨ _; cases b <;> cases nn <;> simp
  have HR : Hid ((if nn = false ∧ b = false then 41 else if ex = true then 42 else if k = 1 then insP ⟨c, n, k, p, s, l, tc, tn, on⟩ total else if k = 4 then tgtP ⟨c, n, k, p, s, l, tc, tn, on⟩ else rngP ⟨c, n, k, p, s, l, tc, tn, on⟩ total) = r) := by
    show _ = r
    rw [← hr, ← hnn, hb]
    simp only [decide_eq_false_iff_not]
  clear hr hb hnn hex htb hc hs
  have HRN : Hid (Rng w a m cap l) := h
  clear h
  simp only [opVal]
  go_enter Tryz.func85, Tryz.ntmps85
  go_wp2_with fail
  refine (HD.out _).mono ?_
  rintro e w1 ⟨rfl, hb1⟩
  have hW1 := hb1
  have hB1 := hw2.trans (hW1.mono hw2.size)
  obtain ⟨d0, d1, d2, d3, d4, d5, d6, d7, d8⟩ := CELL.out _ hW1
  clear hb1 HD
  go_wp2_with fail
  refine (HN.out _).mono ?_
  rintro e w2 ⟨rfl, hb2⟩
  have hW2 := hW1.trans (hb2.mono hW1.size)
  have hB2 := hw2.trans (hW2.mono hw2.size)
  clear d0 d1 d2 d3 d4 d5 d6 d7 d8 hb2 HN hW1 hB1
  obtain ⟨d0, d1, d2, d3, d4, d5, d6, d7, d8⟩ := CELL.out _ hW2
  rcases HQ.out with e0 | ⟨e0, e1⟩ | ⟨e0, e1⟩
  · subst e0
    rw [if_neg (by simp)] at HR
    clear HQ
    go_wp2_with fail
    refine (HX.out _).mono ?_
    rintro e w3 ⟨rfl, hb3⟩
    have hW3 := hW2.trans (hb3.mono hW2.size)
    have hB3 := hw2.trans (hW3.mono hw2.size)
    clear d0 d1 d2 d3 d4 d5 d6 d7 d8 hb3 HX hW2 hB2
    obtain ⟨d0, d1, d2, d3, d4, d5, d6, d7, d8⟩ := CELL.out _ hW3
    cases ex with
    | true =>
      have hr := HR.out
      rw [if_pos rfl] at hr; subst hr
      clear HR
      go_wp2_with fail
      go_ret
      exact ⟨rfl, hB3⟩
    | false =>
      have hr := HR.out
      rw [if_neg (by simp)] at hr
      clear HR
      by_cases e1 : k = 1
      · rw [if_pos e1] at hr
        subst e1 hr
        go_wp2_with fail
        refine (HIN.out _).mono ?_
        rintro e w4 ⟨rfl, hb4⟩
        have hW4 := hW3.trans (hb4.mono hW3.size)
        have hB4 := hw2.trans (hW4.mono hw2.size)
        clear hb4 hW4 hW3 hB3
        go_wp2_with fail
        go_ret
        exact ⟨rfl, hB4⟩
      · rw [if_neg e1] at hr
        have t1 : (k == 1) = false := beq_eq_false_iff_ne.2 e1
        by_cases e4 : k = 4
        · rw [if_pos e4, HS0.out] at hr
          subst e4
          clear e1 HS0
          go_wp2_with fail
          refine (HT.out _).mono ?_
          rintro e w4 ⟨rfl, hb4⟩
          have hW4 := hW3.trans (hb4.mono hW3.size)
          have hB4 := hw2.trans (hW4.mono hw2.size)
          clear d0 d1 d2 d3 d4 d5 d6 d7 d8 hb4 HT hW3 hB3
          obtain ⟨d0, d1, d2, d3, d4, d5, d6, d7, d8⟩ := CELL.out _ hW4
          cases tb with
          | false =>
            rw [if_pos (.inl rfl)] at hr; subst hr
            go_wp2_with fail
            go_ret
            exact ⟨rfl, hB4⟩
          | true =>
            by_cases f0 : tc = c
            · subst f0
              by_cases f1 : tn = n
              · subst f1
                rw [if_pos (.inr ⟨rfl, rfl⟩)] at hr; subst hr
                go_wp2_with fail
                go_ret
                exact ⟨rfl, hB4⟩
              · rw [if_neg (by simp [f1])] at hr; subst hr
                have t2 : (tn == n) = false := beq_eq_false_iff_ne.2 f1
                clear f1
                go_wp2_with fail
                go_ret
                exact ⟨rfl, hB4⟩
            · rw [if_neg (by simp [f0])] at hr; subst hr
              have t2 : (tc == c) = false := beq_eq_false_iff_ne.2 f0
              clear f0
              go_wp2_with fail
              go_ret
              exact ⟨rfl, hB4⟩
        · rw [if_neg e4, HS1.out] at hr
          have t4 : (k == 4) = false := beq_eq_false_iff_ne.2 e4
          clear e1 e4 HS1
          by_cases hm : m = 0
          · subst hm
            rw [if_pos (List.eq_nil_of_length_eq_zero hlen)] at hr; subst hr
            clear hlen HRC HRN
            go_wp2_with fail
            go_ret
            exact ⟨rfl, hB3⟩
          · rw [if_neg (fun e => hm (by rw [← hlen, e]; rfl))] at hr
            obtain ⟨i, rfl⟩ : ∃ i, m = i + 1 := ⟨m - 1, by omega⟩
            obtain ⟨g, off, rfl, hg, hc0, hc1⟩ := HRN.out.cells i (by omega)
            have hlast : lastHi l = (l.getD i (0, 0)).2 := by unfold lastHi; rw [hlen]; rfl
            rw [hlast] at hr
            obtain ⟨hi, hhi⟩ : ∃ hi, (l.getD i (0, 0)).2 = hi := ⟨_, rfl⟩
            rw [hhi] at hr hc1
            clear hhi hlast hc0 hm hlen HRN
            have t0 : (((i + 1 : Nat) : Int) == 0) = false := beq_eq_false_iff_ne.2 (by omega)
            go_wp2_with fail
            refine (HRC.out _ hB3).mono ?_
            rintro e w4 ⟨rfl, hb4⟩
            have hW4 := hW3.trans (hb4.mono hW3.size)
            have hB4 := hw2.trans (hW4.mono hw2.size)
            clear d0 d1 d2 d3 d4 d5 d6 d7 d8 hb4 HRC hW3 hB3
            obtain ⟨d0, d1, d2, d3, d4, d5, d6, d7, d8⟩ := CELL.out _ hW4
            have dh : w4.cell? ⟨g, off + i * 2 + 1, none⟩ = some (.int .i64 hi) := (hB4.cell (p := ⟨g, off + i * 2 + 1, none⟩) hg).trans hc1
            clear hc1
            by_cases hz : z = 0
            · subst hz
              rw [if_neg (by simp)] at hr
              by_cases ht : total < hi
              · rw [if_pos ht] at hr; subst hr
                go_wp2_with fail
                go_ret
                exact ⟨rfl, hB4⟩
              · rw [if_neg ht] at hr; subst hr
                go_wp2_with fail
                go_ret
                exact ⟨rfl, hB4⟩
            · rw [if_pos hz] at hr; subst hr
              have t2 : (z == 0) = false := beq_eq_false_iff_ne.2 hz
              clear hz
              go_wp2_with fail
              go_ret
              exact ⟨rfl, hB4⟩
  · subst e0 e1
    rw [if_neg (by simp)] at HR
    clear HQ
    go_wp2_with fail
    refine (HX.out _).mono ?_
    rintro e w3 ⟨rfl, hb3⟩
    have hW3 := hW2.trans (hb3.mono hW2.size)
    have hB3 := hw2.trans (hW3.mono hw2.size)
    clear d0 d1 d2 d3 d4 d5 d6 d7 d8 hb3 HX hW2 hB2
    obtain ⟨d0, d1, d2, d3, d4, d5, d6, d7, d8⟩ := CELL.out _ hW3
    cases ex with
    | true =>
      have hr := HR.out
      rw [if_pos rfl] at hr; subst hr
      clear HR
      go_wp2_with fail
      go_ret
      exact ⟨rfl, hB3⟩
    | false =>
      have hr := HR.out
      rw [if_neg (by simp)] at hr
      clear HR
      by_cases e1 : k = 1
      · rw [if_pos e1] at hr
        subst e1 hr
        go_wp2_with fail
        refine (HIN.out _).mono ?_
        rintro e w4 ⟨rfl, hb4⟩
        have hW4 := hW3.trans (hb4.mono hW3.size)
        have hB4 := hw2.trans (hW4.mono hw2.size)
        clear hb4 hW4 hW3 hB3
        go_wp2_with fail
        go_ret
        exact ⟨rfl, hB4⟩
      · rw [if_neg e1] at hr
        have t1 : (k == 1) = false := beq_eq_false_iff_ne.2 e1
        by_cases e4 : k = 4
        · rw [if_pos e4, HS0.out] at hr
          subst e4
          clear e1 HS0
          go_wp2_with fail
          refine (HT.out _).mono ?_
          rintro e w4 ⟨rfl, hb4⟩
          have hW4 := hW3.trans (hb4.mono hW3.size)
          have hB4 := hw2.trans (hW4.mono hw2.size)
          clear d0 d1 d2 d3 d4 d5 d6 d7 d8 hb4 HT hW3 hB3
          obtain ⟨d0, d1, d2, d3, d4, d5, d6, d7, d8⟩ := CELL.out _ hW4
          cases tb with
          | false =>
            rw [if_pos (.inl rfl)] at hr; subst hr
            go_wp2_with fail
            go_ret
            exact ⟨rfl, hB4⟩
          | true =>
            by_cases f0 : tc = c
            · subst f0
              by_cases f1 : tn = n
              · subst f1
                rw [if_pos (.inr ⟨rfl, rfl⟩)] at hr; subst hr
                go_wp2_with fail
                go_ret
                exact ⟨rfl, hB4⟩
              · rw [if_neg (by simp [f1])] at hr; subst hr
                have t2 : (tn == n) = false := beq_eq_false_iff_ne.2 f1
                clear f1
                go_wp2_with fail
                go_ret
                exact ⟨rfl, hB4⟩
            · rw [if_neg (by simp [f0])] at hr; subst hr
              have t2 : (tc == c) = false := beq_eq_false_iff_ne.2 f0
              clear f0
              go_wp2_with fail
              go_ret
              exact ⟨rfl, hB4⟩
        · rw [if_neg e4, HS1.out] at hr
          have t4 : (k == 4) = false := beq_eq_false_iff_ne.2 e4
          clear e1 e4 HS1
          by_cases hm : m = 0
          · subst hm
            rw [if_pos (List.eq_nil_of_length_eq_zero hlen)] at hr; subst hr
            clear hlen HRC HRN
            go_wp2_with fail
            go_ret
            exact ⟨rfl, hB3⟩
          · rw [if_neg (fun e => hm (by rw [← hlen, e]; rfl))] at hr
            obtain ⟨i, rfl⟩ : ∃ i, m = i + 1 := ⟨m - 1, by omega⟩
            obtain ⟨g, off, rfl, hg, hc0, hc1⟩ := HRN.out.cells i (by omega)
            have hlast : lastHi l = (l.getD i (0, 0)).2 := by unfold lastHi; rw [hlen]; rfl
            rw [hlast] at hr
            obtain ⟨hi, hhi⟩ : ∃ hi, (l.getD i (0, 0)).2 = hi := ⟨_, rfl⟩
            rw [hhi] at hr hc1
            clear hhi hlast hc0 hm hlen HRN
            have t0 : (((i + 1 : Nat) : Int) == 0) = false := beq_eq_false_iff_ne.2 (by omega)
            go_wp2_with fail
            refine (HRC.out _ hB3).mono ?_
            rintro e w4 ⟨rfl, hb4⟩
            have hW4 := hW3.trans (hb4.mono hW3.size)
            have hB4 := hw2.trans (hW4.mono hw2.size)
            clear d0 d1 d2 d3 d4 d5 d6 d7 d8 hb4 HRC hW3 hB3
            obtain ⟨d0, d1, d2, d3, d4, d5, d6, d7, d8⟩ := CELL.out _ hW4
            have dh : w4.cell? ⟨g, off + i * 2 + 1, none⟩ = some (.int .i64 hi) := (hB4.cell (p := ⟨g, off + i * 2 + 1, none⟩) hg).trans hc1
            clear hc1
            by_cases hz : z = 0
            · subst hz
              rw [if_neg (by simp)] at hr
              by_cases ht : total < hi
              · rw [if_pos ht] at hr; subst hr
                go_wp2_with fail
                go_ret
                exact ⟨rfl, hB4⟩
              · rw [if_neg ht] at hr; subst hr
                go_wp2_with fail
                go_ret
                exact ⟨rfl, hB4⟩
            · rw [if_pos hz] at hr; subst hr
              have t2 : (z == 0) = false := beq_eq_false_iff_ne.2 hz
              clear hz
              go_wp2_with fail
              go_ret
              exact ⟨rfl, hB4⟩
  · subst e0 e1
    have hr := HR.out
    rw [if_pos ⟨rfl, rfl⟩] at hr; subst hr
    clear HR HQ
    go_wp2_with fail
    go_ret
    exact ⟨rfl, hB2⟩
end Go.Proofs.YtmeciikfnbbllaaGreatDoor
