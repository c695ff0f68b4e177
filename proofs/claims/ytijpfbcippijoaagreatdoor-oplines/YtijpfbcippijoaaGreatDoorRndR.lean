import Derived.Test.YtijpfbcippijoaaGreatDoorGr25
import Derived.Test.YtijpfbcippijoaaGreatDoorRefUnq
namespace Go.Proofs.YtijpfbcippijoaaGreatDoor
open Go.RowKit Go.Lib
theorem hexI_hexd (d : Nat) (h : d < 16) : hexI (hexd d).toNat = d := by
  have : ∀ m : Fin 16, hexI (hexd m.val).toNat = (m.val : Int) := by decide
  exact this ⟨d, h⟩
theorem hexN_get (u : Nat) : ∀ n i, i < n → (hexN u n).getD i 0 = hexd (u / 16 ^ (n - 1 - i) % 16)
  | 0, i, h => absurd h (Nat.not_lt_zero _)
  | n + 1, 0, _ => by
    rw [hexN]
    simp
  | n + 1, i + 1, h => by
    rw [hexN, List.getD_cons_succ, hexN_get u n i (by omega)]
    rw [show n - 1 - i = n + 1 - 1 - (i + 1) by omega]
theorem at_digit (u nd i : Nat) (t : List UInt8) (h : i < nd) : at0 ([92, 117, 123] ++ hexN u nd ++ 125 :: t) (3 + i) = (hexd (u / 16 ^ (nd - 1 - i) % 16)).toNat := by
  unfold at0
  have e : ([92, 117, 123] ++ hexN u nd ++ 125 :: t).getD (3 + i) 0 = (hexN u nd).getD i 0 := by
    simp only [List.getD_eq_getElem?_getD]
    rw [List.append_assoc, List.getElem?_append_right (by simp), List.getElem?_append_left (by rw [hexN_length]; simp; omega)]
    simp
  rw [e, hexN_get u nd i h]
theorem at_close (u nd : Nat) (t : List UInt8) : at0 ([92, 117, 123] ++ hexN u nd ++ 125 :: t) (3 + nd) = 125 := by
  unfold at0
  have e : ([92, 117, 123] ++ hexN u nd ++ 125 :: t).getD (3 + nd) 0 = 125 := by
    simp only [List.getD_eq_getElem?_getD]
    have h0 : 3 + nd - ([92, 117, 123] ++ hexN u nd).length = 0 := by rw [List.length_append, hexN_length]; simp
    rw [List.getElem?_append_right (by rw [List.length_append, hexN_length]; simp), h0]
    rfl
  rw [e]
  rfl
theorem rr_read (u nd : Nat) (t : List UInt8) (hu : u ≤ 1114111) (h1 : 1 ≤ nd) (h6 : nd ≤ 6) : ∀ j f, j ≤ nd → j + 1 ≤ f → rrL ([92, 117, 123] ++ hexN u nd ++ 125 :: t) f (u / 16 ^ j) (3 + (nd - j)) = (rawB u, 3 + nd + 1)
  | 0, f, hj, hf => by
    obtain ⟨f, rfl⟩ : ∃ f', f = f' + 1 := ⟨f - 1, by omega⟩
    rw [rrL, Nat.sub_zero, at_close, if_pos ⟨by simp [hexN_length]; omega, by omega⟩, if_pos rfl, if_neg (by simp; omega)]
    simp
  | j + 1, f, hj, hf => by
    obtain ⟨f, rfl⟩ : ∃ f', f = f' + 1 := ⟨f - 1, by omega⟩
    have hm : u / 16 ^ j % 16 < 16 := Nat.mod_lt _ (by decide)
    have ha := at_digit u nd (nd - (j + 1)) t (by omega)
    rw [show nd - 1 - (nd - (j + 1)) = j by omega] at ha
    have hne : (hexd (u / 16 ^ j % 16)).toNat ≠ 125 := by
      intro e
      exact (hexd_ne _ hm).1 (ofNat_of_toNat (hexd (u / 16 ^ j % 16)) 125 e.symm).symm
    rw [rrL, ha, if_pos ⟨by simp [hexN_length]; omega, by omega⟩, if_neg hne, hexI_hexd _ hm, if_neg (by omega)]
    have e : 16 * (u / 16 ^ (j + 1)) + ((u / 16 ^ j % 16 : Nat) : Int).toNat = u / 16 ^ j := by
      rw [Nat.pow_succ, ← Nat.div_div_eq_div_mul]
      omega
    rw [e, show 3 + (nd - (j + 1)) + 1 = 3 + (nd - j) by omega]
    exact rr_read u nd t hu h1 h6 j f (by omega) (by omega)
theorem pcR_rune (r : Nat) (h : r ≤ 1114111) (hv : Utf8.valid (r : Int) = true) (t : List UInt8) : pcR ([92, 117, 123] ++ hexL r ++ [125] ++ t) = (encB r, ([92, 117, 123] ++ hexL r ++ [125]).length) := by
  have hl : [92, 117, 123] ++ hexL r ++ [125] ++ t = [92, 117, 123] ++ hexN r (ndig r) ++ 125 :: t := by unfold hexL; simp
  have h3 := rr_read r (ndig r) t h (ndig_pos r) (ndig_le r) (ndig r) 8 (Nat.le_refl _) (by have := ndig_le r; omega)
  rw [ndig_zero r h, Nat.sub_self, Nat.add_zero] at h3
  have e1 : at0 ([92, 117, 123] ++ hexN r (ndig r) ++ 125 :: t) 0 = 92 := rfl
  have e2 : at0 ([92, 117, 123] ++ hexN r (ndig r) ++ 125 :: t) 1 = 117 := rfl
  have e3 : at0 ([92, 117, 123] ++ hexN r (ndig r) ++ 125 :: t) 2 = 123 := rfl
  have hr : rawB r = encB r := by unfold rawB; rw [if_pos hv]
  rw [hl]
  unfold pcR
  rw [e1, e2, e3, if_neg (by decide), if_neg (by simp), if_neg (by decide), if_neg (by decide), if_neg (by decide), if_neg (by decide), if_neg (by decide), if_pos rfl, if_pos ⟨by simp, rfl⟩, h3, hr]
  unfold hexL
  simp [hexN_length]
  omega
theorem pcR_byte (b : Nat) (h1 : 16 ≤ b) (h2 : b ≤ 255) (t : List UInt8) : pcR ([92, 120] ++ hexL b ++ t) = ([UInt8.ofNat b], ([92, 120] ++ hexL b).length) := by
  have hn : hexL b = [hexd (b / 16 % 16), hexd (b % 16)] := by
    have : ndig b = 2 := by unfold ndig; rw [if_neg (by omega), if_pos (by omega)]
    unfold hexL
    rw [this]
    simp [hexN]
  rw [hn]
  have e1 : at0 ([92, 120] ++ [hexd (b / 16 % 16), hexd (b % 16)] ++ t) 0 = 92 := rfl
  have e2 : at0 ([92, 120] ++ [hexd (b / 16 % 16), hexd (b % 16)] ++ t) 1 = 120 := rfl
  have e3 : at0 ([92, 120] ++ [hexd (b / 16 % 16), hexd (b % 16)] ++ t) 2 = (hexd (b / 16 % 16)).toNat := rfl
  have e4 : at0 ([92, 120] ++ [hexd (b / 16 % 16), hexd (b % 16)] ++ t) 3 = (hexd (b % 16)).toNat := rfl
  unfold pcR
  rw [e1, e2, e3, e4, hexI_hexd _ (Nat.mod_lt _ (by decide)), hexI_hexd _ (Nat.mod_lt _ (by decide)), if_neg (by decide), if_neg (by simp), if_neg (by decide), if_neg (by decide), if_neg (by decide), if_neg (by decide), if_pos rfl, if_pos ⟨by simp, by omega, by omega⟩]
  have e5 : (16 * ((b / 16 % 16 : Nat) : Int) + ((b % 16 : Nat) : Int)).toNat = b := by omega
  rw [e5]
  rfl
theorem rd_escR (p t bs : List UInt8) (g : Nat) (acc : List UInt8) (n : Nat) (h0 : at0 (p ++ t) 0 ≠ 34) (hp : 1 ≤ p.length) (he : pcR (p ++ t) = (bs, p.length)) : rdR (g + 1) acc (p ++ t) n = rdR g (acc ++ bs) t (n + p.length) := by
  have hne : p ++ t ≠ [] := by
    intro e
    have := congrArg List.length e
    rw [List.length_append, List.length_nil] at this
    omega
  rw [rdR, if_neg hne, if_neg h0, he]
  simp only
  rw [if_neg (by omega), List.drop_left]
theorem piece_readR (l : List UInt8) (h0 : l ≠ []) (g : Nat) (acc t : List UInt8) (n : Nat) : rdR (g + 1) acc (pieceL l ++ t) n = rdR g (acc ++ l.take (dec l).2) t (n + (pieceL l).length) := by
  cases hb : brkL l with
  | true =>
    have h1 := brk_one l h0 hb
    have h2 := at0_lt l 0
    have hp : pieceL l = [92, 120] ++ hexL (at0 l 0) := by unfold pieceL; rw [if_pos hb]
    have ht : l.take (dec l).2 = [UInt8.ofNat (at0 l 0)] := by
      rw [h1.1]
      cases l with
      | nil => exact absurd rfl h0
      | cons b u => simp [at0]
    rw [hp, ht]
    exact rd_escR _ t _ g acc n (show (92 : Nat) ≠ 34 by decide) (by simp) (pcR_byte _ (by omega) (by omega) t)
  | false =>
    obtain ⟨hv, hw, rest, hl⟩ := enc_dec l h0 hb
    have hp : pieceL l = qR (dec l).1 := by unfold pieceL; rw [if_neg (by rw [hb]; decide)]
    have ht : l.take (dec l).2 = encB (dec l).1 := by
      rw [hw]
      generalize encB (dec l).1 = e at *
      rw [hl, List.take_left]
    have hle := (valid_le hv).2.1
    rw [hp, ht]
    generalize (dec l).1 = r at *
    clear hl hw hp ht hb
    by_cases k1 : r = 34
    · subst k1
      have e : encB ((34 : Nat) : Int) = [34] := encB1 34 (by decide)
      rw [e]
      exact rd_escR [92, 34] t [34] g acc n (show (92 : Nat) ≠ 34 by decide) (by decide) (by unfold pcR; rw [show at0 ([92, 34] ++ t) 0 = 92 from rfl, show at0 ([92, 34] ++ t) 1 = 34 from rfl, if_neg (by decide), if_neg (by simp), if_pos rfl]; rfl)
    by_cases k2 : r = 92
    · subst k2
      have e : encB ((92 : Nat) : Int) = [92] := encB1 92 (by decide)
      rw [e]
      exact rd_escR [92, 92] t [92] g acc n (show (92 : Nat) ≠ 34 by decide) (by decide) (by unfold pcR; rw [show at0 ([92, 92] ++ t) 0 = 92 from rfl, show at0 ([92, 92] ++ t) 1 = 92 from rfl, if_neg (by decide), if_neg (by simp), if_neg (by decide), if_pos rfl]; rfl)
    by_cases k3 : r = 10
    · subst k3
      have e : encB ((10 : Nat) : Int) = [10] := encB1 10 (by decide)
      rw [e]
      exact rd_escR [92, 110] t [10] g acc n (show (92 : Nat) ≠ 34 by decide) (by decide) (by unfold pcR; rw [show at0 ([92, 110] ++ t) 0 = 92 from rfl, show at0 ([92, 110] ++ t) 1 = 110 from rfl, if_neg (by decide), if_neg (by simp), if_neg (by decide), if_neg (by decide), if_pos rfl]; rfl)
    by_cases k4 : r = 9
    · subst k4
      have e : encB ((9 : Nat) : Int) = [9] := encB1 9 (by decide)
      rw [e]
      exact rd_escR [92, 116] t [9] g acc n (show (92 : Nat) ≠ 34 by decide) (by decide) (by unfold pcR; rw [show at0 ([92, 116] ++ t) 0 = 92 from rfl, show at0 ([92, 116] ++ t) 1 = 116 from rfl, if_neg (by decide), if_neg (by simp), if_neg (by decide), if_neg (by decide), if_neg (by decide), if_pos rfl]; rfl)
    by_cases k5 : 32 ≤ r ∧ r ≤ 126
    · have hq : qR r = [UInt8.ofNat r] := by
        unfold qR
        rw [if_neg k1, if_neg k2, if_neg k3, if_neg k4, if_pos k5]
      rw [hq, encB1 r (by omega)]
      have ha : at0 ([UInt8.ofNat r] ++ t) 0 = r := by
        show (UInt8.ofNat r).toNat = r
        exact ofNat_toNat r (by omega)
      exact rd_escR [UInt8.ofNat r] t [UInt8.ofNat r] g acc n (by rw [ha]; exact k1) (by simp) (by unfold pcR; rw [ha, if_pos k2]; rfl)
    · have hq : qR r = [92, 117, 123] ++ hexL r ++ [125] := by
        unfold qR
        rw [if_neg k1, if_neg k2, if_neg k3, if_neg k4, if_neg k5]
      rw [hq]
      exact rd_escR _ t _ g acc n (show (92 : Nat) ≠ 34 by decide) (by simp) (pcR_rune r (by omega) hv t)
theorem rd_quoR : ∀ (f : Nat) (l : List UInt8), l.length ≤ f → ∀ (g : Nat) (acc : List UInt8) (n : Nat) (rest : List UInt8), (quoL f l).length + 1 ≤ g → rdR g acc (quoL f l ++ 34 :: rest) n = some (acc ++ l, n + (quoL f l).length + 1)
  | f, [], _, g, acc, n, rest, hg => by
    rw [quoL_end] at hg ⊢
    obtain ⟨g, rfl⟩ : ∃ g', g = g' + 1 := ⟨g - 1, by omega⟩
    rw [rdR, if_neg (by simp), if_pos (by rfl)]
    simp
  | 0, b :: t, h, _, _, _, _, _ => by simp at h
  | f + 1, b :: t, h, g, acc, n, rest, hg => by
    have hne : b :: t ≠ [] := by simp
    rw [quoL_step f _ hne] at hg ⊢
    have hpl := pieceL_len (b :: t)
    have hw : 1 ≤ (dec (b :: t)).2 := by
      have := width_pos ⟨(b :: t).toArray⟩ 0
      rw [decode_dec] at this
      simpa using this
    rw [List.length_append] at hg ⊢
    obtain ⟨g, rfl⟩ : ∃ g', g = g' + 1 := ⟨g - 1, by omega⟩
    rw [List.append_assoc, piece_readR _ hne]
    have ih := rd_quoR f ((b :: t).drop (dec (b :: t)).2) (by rw [List.length_drop]; simp at h ⊢; omega) g (acc ++ (b :: t).take (dec (b :: t)).2) (n + (pieceL (b :: t)).length) rest (by omega)
    rw [ih, List.append_assoc, List.take_append_drop]
    simp only [Option.some.injEq, Prod.mk.injEq, true_and]
    omega
theorem read_quotedR (x : ByteArray) (rest : List UInt8) : readR (quoted x ++ rest) = some (x.data.toList, (quoted x).length) := by
  unfold readR quoted
  rw [if_pos (by rfl)]
  have e : List.drop 1 ([34] ++ quoL x.size x.data.toList ++ [34] ++ rest) = quoL x.size x.data.toList ++ 34 :: rest := by simp
  rw [e, rd_quoR x.size x.data.toList (by rw [← size_data]; exact Nat.le_refl _) _ [] 1 rest (by simp)]
  simp
  omega
end Go.Proofs.YtijpfbcippijoaaGreatDoor
