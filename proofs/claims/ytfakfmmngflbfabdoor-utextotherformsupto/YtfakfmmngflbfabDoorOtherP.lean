import Derived.Test.YtfakfmmngflbfabDoorGivesBack
namespace Go.Proofs.YtfakfmmngflbfabDoor
open Go.RowKit Go.Lib

theorem dec_pos (b : UInt8) (t : List UInt8) : 1 ≤ (dec (b :: t)).2 := by
  have := width_pos ⟨(b :: t).toArray⟩ 0
  rw [decode_dec] at this
  simpa using this
theorem quoL_fuel : ∀ (f g : Nat) (l : List UInt8), l.length ≤ f → l.length ≤ g → quoL f l = quoL g l
  | f, g, [], _, _ => by rw [quoL_end, quoL_end]
  | 0, _, b :: t, h, _ => by simp at h
  | f + 1, 0, b :: t, _, h => by simp at h
  | f + 1, g + 1, b :: t, h1, h2 => by
    have hne : b :: t ≠ [] := by simp
    have hw := dec_pos b t
    rw [quoL_step f _ hne, quoL_step g _ hne]
    rw [quoL_fuel f g ((b :: t).drop (dec (b :: t)).2) (by rw [List.length_drop]; simp at h1 ⊢; omega) (by rw [List.length_drop]; simp at h2 ⊢; omega)]
theorem dec_e9 (l : List UInt8) : dec (195 :: 169 :: l) = (233, 2) := by
  rw [dec1]
  unfold decN
  simp [at0]
theorem brk_e9 (l : List UInt8) : brkL (195 :: 169 :: l) = false := by
  unfold brkL
  rw [dec_e9]
  simp
theorem quoted_e9 (raw : ByteArray) : quoted ⟨(195 :: 169 :: raw.data.toList).toArray⟩ = [34, 92, 117, 123, 101, 57, 125] ++ (quoted raw).drop 1 := by
  have hz : (⟨(195 :: 169 :: raw.data.toList).toArray⟩ : ByteArray).size = raw.size + 1 + 1 := by rw [sizeL, size_data]; rfl
  unfold quoted
  rw [hz]
  have e : (⟨(195 :: 169 :: raw.data.toList).toArray⟩ : ByteArray).data.toList = 195 :: 169 :: raw.data.toList := rfl
  rw [e, quoL_step _ _ (by simp), dec_e9]
  have hp : pieceL (195 :: 169 :: raw.data.toList) = [92, 117, 123, 101, 57, 125] := by
    unfold pieceL
    rw [if_neg (by rw [brk_e9]; decide), dec_e9]
    decide
  rw [hp, quoL_fuel (raw.size + 1) raw.size _ (by show raw.data.toList.length ≤ _; rw [← size_data]; omega) (by show raw.data.toList.length ≤ _; rw [← size_data]; exact Nat.le_refl _)]
  simp
theorem unq_no (s : List UInt8) (h : ∀ x rest, s ≠ quoted x ++ rest) : unqL s = ([], 0, 13) := by
  unfold unqL
  cases readL s with
  | none => rfl
  | some p =>
    obtain ⟨x, n⟩ := p
    simp only
    rw [if_neg (fun hq => h ⟨x.toArray⟩ (s.drop n) (by rw [hq, List.take_append_drop]))]
theorem first_piece (p : List UInt8) (x : ByteArray) (rest : List UInt8) (h : 34 :: p = quoted x ++ rest) : (∃ r, p = 34 :: r) ∨ ∃ l f, l ≠ [] ∧ p = pieceL l ++ (quoL f (l.drop (dec l).2) ++ 34 :: rest) ∧ l.length ≤ f + 1 := by
  have h2 : p = quoL x.size x.data.toList ++ 34 :: rest := by
    unfold quoted at h
    simpa using h
  rw [size_data] at h2
  cases hl : x.data.toList with
  | nil =>
    left
    rw [hl, quoL_end] at h2
    exact ⟨rest, h2⟩
  | cons b t =>
    right
    rw [hl] at h2
    refine ⟨b :: t, t.length, by simp, ?_, by simp⟩
    rw [h2, show (b :: t).length = t.length + 1 from rfl, quoL_step _ _ (by simp), List.append_assoc]
theorem hexd_inj (a b : Nat) (ha : a < 16) (hb : b < 16) (h : hexd a = hexd b) : a = b := by
  have : ∀ m n : Fin 16, hexd m.val = hexd n.val → m = n := by decide
  have := this ⟨a, ha⟩ ⟨b, hb⟩ h
  simpa using this
theorem piece_cases (l : List UInt8) (h0 : l ≠ []) : (∃ b, b = at0 l 0 ∧ 128 ≤ b ∧ b < 256 ∧ brkL l = true ∧ (dec l).2 = 1 ∧ pieceL l = [92, 120, hexd (b / 16), hexd (b % 16)]) ∨
    (∃ c d, pieceL l = [92, c] ++ d ∧ (c = 34 ∨ c = 92 ∨ c = 110 ∨ c = 116) ∧ d = []) ∨ (∃ c, pieceL l = [c] ∧ c ≠ 92 ∧ c ≠ 34) ∨ (∃ r, r ≤ 1114111 ∧ pieceL l = [92, 117, 123] ++ hexL r ++ [125]) := by
  cases hb : brkL l with
  | true =>
    left
    have h1 := brk_one l h0 hb
    have h2 := at0_lt l 0
    refine ⟨at0 l 0, rfl, h1.2, h2, rfl, h1.1, ?_⟩
    unfold pieceL
    rw [if_pos hb]
    have : ndig (at0 l 0) = 2 := by unfold ndig; rw [if_neg (by omega), if_pos (by omega)]
    unfold hexL
    rw [this]
    simp [hexN]
    rw [Nat.mod_eq_of_lt (by omega)]
  | false =>
    right
    have hp : pieceL l = qR (dec l).1 := by unfold pieceL; rw [if_neg (by rw [hb]; decide)]
    obtain ⟨hv, _, _⟩ := enc_dec l h0 hb
    have hle := (valid_le hv).2.1
    rw [hp]
    generalize (dec l).1 = r at *
    unfold qR
    by_cases k1 : r = 34
    · left; exact ⟨34, [], by rw [if_pos k1]; rfl, .inl rfl, rfl⟩
    by_cases k2 : r = 92
    · left; exact ⟨92, [], by rw [if_neg k1, if_pos k2]; rfl, .inr (.inl rfl), rfl⟩
    by_cases k3 : r = 10
    · left; exact ⟨110, [], by rw [if_neg k1, if_neg k2, if_pos k3]; rfl, .inr (.inr (.inl rfl)), rfl⟩
    by_cases k4 : r = 9
    · left; exact ⟨116, [], by rw [if_neg k1, if_neg k2, if_neg k3, if_pos k4]; rfl, .inr (.inr (.inr rfl)), rfl⟩
    by_cases k5 : 32 ≤ r ∧ r ≤ 126
    · right; left
      refine ⟨UInt8.ofNat r, by rw [if_neg k1, if_neg k2, if_neg k3, if_neg k4, if_pos k5], ?_, ?_⟩
      · intro e
        have := congrArg UInt8.toNat e
        rw [ofNat_toNat r (by omega)] at this
        exact k2 this
      · intro e
        have := congrArg UInt8.toNat e
        rw [ofNat_toNat r (by omega)] at this
        exact k1 this
    · right; right
      exact ⟨r, by omega, by rw [if_neg k1, if_neg k2, if_neg k3, if_neg k4, if_neg k5]⟩
theorem no_x (h lo : Nat) (hh : h ≤ 7) (t : List UInt8) : unqL (34 :: 92 :: 120 :: hexd h :: hexd lo :: t) = ([], 0, 13) := by
  refine unq_no _ fun x rest e => ?_
  rcases first_piece _ x rest e with ⟨r, e2⟩ | ⟨l, f, h0, e2, _⟩
  · simp at e2
  · rcases piece_cases l h0 with ⟨b, _, hb1, hb2, _, _, hp⟩ | ⟨c, d, hp, hc, rfl⟩ | ⟨c, hp, hc, _⟩ | ⟨r, _, hp⟩
    · rw [hp] at e2
      simp only [List.cons_append, List.nil_append, List.cons.injEq, true_and] at e2
      have := hexd_inj h (b / 16) (by omega) (by omega) e2.1
      omega
    · rw [hp] at e2
      simp only [List.cons_append, List.nil_append, List.cons.injEq, true_and] at e2
      obtain ⟨e3, _⟩ := e2
      rcases hc with rfl | rfl | rfl | rfl <;> exact absurd e3 (by decide)
    · rw [hp] at e2
      simp only [List.cons_append, List.nil_append, List.cons.injEq] at e2
      exact hc e2.1.symm
    · rw [hp] at e2
      simp only [List.cons_append, List.nil_append, List.append_assoc, List.cons.injEq, true_and] at e2
      exact absurd e2.1 (by decide)
theorem hexL_cons (r : Nat) (hr : r ≤ 1114111) : ∃ d, d < 16 ∧ hexL r = hexd d :: hexN r (ndig r - 1) ∧ (d = 0 → r = 0) := by
  have h1 := ndig_pos r
  refine ⟨r / 16 ^ (ndig r - 1) % 16, Nat.mod_lt _ (by decide), ?_, ?_⟩
  · unfold hexL
    obtain ⟨m, hm⟩ : ∃ m, ndig r = m + 1 := ⟨ndig r - 1, by omega⟩
    rw [hm, hexN]
    rfl
  · unfold ndig
    (repeat' split) <;> simp <;> omega
theorem no_u0 (h lo : Nat) (hh : h < 16) (t : List UInt8) : unqL (34 :: 92 :: 117 :: 123 :: 48 :: hexd h :: hexd lo :: t) = ([], 0, 13) := by
  refine unq_no _ fun x rest e => ?_
  rcases first_piece _ x rest e with ⟨r, e2⟩ | ⟨l, f, h0, e2, _⟩
  · simp at e2
  · rcases piece_cases l h0 with ⟨b, _, hb1, hb2, _, _, hp⟩ | ⟨c, d, hp, hc, rfl⟩ | ⟨c, hp, hc, _⟩ | ⟨r, hr, hp⟩
    · rw [hp] at e2
      simp only [List.cons_append, List.nil_append, List.cons.injEq, true_and] at e2
      exact absurd e2.1 (by decide)
    · rw [hp] at e2
      simp only [List.cons_append, List.nil_append, List.cons.injEq, true_and] at e2
      obtain ⟨e3, _⟩ := e2
      rcases hc with rfl | rfl | rfl | rfl <;> exact absurd e3 (by decide)
    · rw [hp] at e2
      simp only [List.cons_append, List.nil_append, List.cons.injEq] at e2
      exact hc e2.1.symm
    · obtain ⟨d, hd, hx, hz⟩ := hexL_cons r hr
      rw [hp, hx] at e2
      simp only [List.cons_append, List.nil_append, List.append_assoc, List.cons.injEq, true_and] at e2
      have h48 : hexd d = hexd 0 := e2.1.symm
      have hd0 := hexd_inj d 0 hd (by decide) h48
      have hr0 := hz hd0
      subst hr0
      have e3 := e2.2
      rw [show hexN 0 (ndig 0 - 1) = [] from rfl] at e3
      simp only [List.nil_append, List.cons.injEq] at e3
      exact (hexd_ne h hh).1 e3.1
theorem no_cap (t : List UInt8) : unqL (34 :: 92 :: 117 :: 123 :: 69 :: t) = ([], 0, 13) := by
  refine unq_no _ fun x rest e => ?_
  rcases first_piece _ x rest e with ⟨r, e2⟩ | ⟨l, f, h0, e2, _⟩
  · simp at e2
  · rcases piece_cases l h0 with ⟨b, _, hb1, hb2, _, _, hp⟩ | ⟨c, d, hp, hc, rfl⟩ | ⟨c, hp, hc, _⟩ | ⟨r, hr, hp⟩
    · rw [hp] at e2
      simp only [List.cons_append, List.nil_append, List.cons.injEq, true_and] at e2
      exact absurd e2.1 (by decide)
    · rw [hp] at e2
      simp only [List.cons_append, List.nil_append, List.cons.injEq, true_and] at e2
      obtain ⟨e3, _⟩ := e2
      rcases hc with rfl | rfl | rfl | rfl <;> exact absurd e3 (by decide)
    · rw [hp] at e2
      simp only [List.cons_append, List.nil_append, List.cons.injEq] at e2
      exact hc e2.1.symm
    · obtain ⟨d, hd, hx, _⟩ := hexL_cons r hr
      rw [hp, hx] at e2
      simp only [List.cons_append, List.nil_append, List.append_assoc, List.cons.injEq, true_and] at e2
      have : ∀ m : Fin 16, hexd m.val ≠ 69 := by decide
      exact this ⟨d, hd⟩ e2.1.symm
theorem x_piece (l more t : List UInt8) (a b : UInt8) (h0 : l ≠ []) (e2 : 92 :: 120 :: a :: b :: t = pieceL l ++ more) : ∃ c, c = at0 l 0 ∧ c < 256 ∧ brkL l = true ∧ (dec l).2 = 1 ∧ a = hexd (c / 16) ∧ b = hexd (c % 16) ∧ t = more := by
  rcases piece_cases l h0 with ⟨c, hc0, hb1, hb2, hbk, hdl, hp⟩ | ⟨c, d, hp, hc, rfl⟩ | ⟨c, hp, hc, _⟩ | ⟨r, _, hp⟩
  · rw [hp] at e2
    simp only [List.cons_append, List.nil_append, List.cons.injEq, true_and] at e2
    exact ⟨c, hc0, hb2, hbk, hdl, e2.1, e2.2.1, e2.2.2⟩
  · rw [hp] at e2
    simp only [List.cons_append, List.nil_append, List.cons.injEq, true_and] at e2
    obtain ⟨e3, _⟩ := e2
    rcases hc with rfl | rfl | rfl | rfl <;> exact absurd e3 (by decide)
  · rw [hp] at e2
    simp only [List.cons_append, List.nil_append, List.cons.injEq] at e2
    exact absurd e2.1.symm hc
  · rw [hp] at e2
    simp only [List.cons_append, List.nil_append, List.append_assoc, List.cons.injEq, true_and] at e2
    exact absurd e2.1 (by decide)
theorem no_c3 (t : List UInt8) : unqL (34 :: 92 :: 120 :: 99 :: 51 :: 92 :: 120 :: 97 :: 57 :: t) = ([], 0, 13) := by
  refine unq_no _ fun x rest e => ?_
  rcases first_piece _ x rest e with ⟨r, e2⟩ | ⟨l, f, h0, e2, hlf⟩
  · simp at e2
  · obtain ⟨c, hc, hcl, hbk, hdl, ha, hb, ht⟩ := x_piece l _ _ _ _ h0 e2
    have h1 : c / 16 = 12 := hexd_inj _ 12 (by omega) (by decide) ha.symm
    have h2 : c % 16 = 3 := hexd_inj _ 3 (by omega) (by decide) hb.symm
    have hc2 : c = 195 := by omega
    cases l with
    | nil => exact h0 rfl
    | cons b0 l1 =>
      have hb0 : b0 = 195 := (ofNat_of_toNat b0 195 (by rw [← hc2, hc]; rfl)).symm
      subst hb0
      rw [hdl] at ht
      simp only [List.drop_succ_cons, List.drop_zero] at ht
      cases l1 with
      | nil =>
        rw [quoL_end] at ht
        simp at ht
      | cons b1 l2 =>
        obtain ⟨f, rfl⟩ : ∃ f', f = f' + 1 := ⟨f - 1, by simp at hlf; omega⟩
        rw [quoL_step _ _ (by simp), List.append_assoc] at ht
        obtain ⟨c', hc', hcl', _, _, ha', hb', _⟩ := x_piece (b1 :: l2) _ _ _ _ (by simp) ht
        have h3 : c' / 16 = 10 := hexd_inj _ 10 (by omega) (by decide) ha'.symm
        have h4 : c' % 16 = 9 := hexd_inj _ 9 (by omega) (by decide) hb'.symm
        have hc3 : c' = 169 := by omega
        have hb1 : b1 = 169 := (ofNat_of_toNat b1 169 (by rw [← hc3, hc']; rfl)).symm
        subst hb1
        rw [brk_e9] at hbk
        exact absurd hbk (by decide)
theorem rd_open : ∀ (f : Nat) (l : List UInt8) (g : Nat) (acc : List UInt8) (n : Nat), rdL g acc (quoL f l) n = none
  | f, [], g, acc, n => by rw [quoL_end, rdL_end]
  | 0, b :: t, g, acc, n => by rw [quoL, rdL_end]
  | f + 1, b :: t, 0, acc, n => by rfl
  | f + 1, b :: t, g + 1, acc, n => by
    have hne : b :: t ≠ [] := by simp
    rw [quoL_step f _ hne, piece_read _ hne]
    exact rd_open f _ g _ _
theorem no_close (x : ByteArray) : unqL ([34] ++ quoL x.size x.data.toList) = ([], 0, 13) := by
  have : readL ([34] ++ quoL x.size x.data.toList) = none := by
    unfold readL
    rw [if_pos (by rfl)]
    exact rd_open _ _ _ _ _
  unfold unqL
  rw [this]
end Go.Proofs.YtfakfmmngflbfabDoor
