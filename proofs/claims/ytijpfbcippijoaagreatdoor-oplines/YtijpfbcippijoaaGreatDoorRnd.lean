import Derived.Test.YtijpfbcippijoaaGreatDoorBrk
import Derived.Test.YtijpfbcippijoaaGreatDoorEscU
namespace Go.Proofs.YtijpfbcippijoaaGreatDoor
open Go.RowKit Go.Lib
theorem hexV_hexd (d : Nat) (h : d < 16) : hexV (hexd d).toNat = some d := by
  have : ∀ m : Fin 16, hexV (hexd m.val).toNat = some m.val := by decide
  exact this ⟨d, h⟩
theorem hexd_ne (d : Nat) (h : d < 16) : hexd d ≠ 125 ∧ hexd d ≠ 34 := by
  have : ∀ m : Fin 16, hexd m.val ≠ 125 ∧ hexd m.val ≠ 34 := by decide
  exact this ⟨d, h⟩
theorem pu_hexN (mx u : Nat) (hu : u ≤ mx) : ∀ j, pu mx (u / 16 ^ j) (hexN u j) = some u
  | 0 => by simp [hexN, pu]
  | j + 1 => by
    rw [hexN, pu, hexV_hexd _ (Nat.mod_lt _ (by decide))]
    have e : 16 * (u / 16 ^ (j + 1)) + u / 16 ^ j % 16 = u / 16 ^ j := by
      rw [Nat.pow_succ, ← Nat.div_div_eq_div_mul]
      omega
    simp only [e]
    rw [if_pos (Nat.le_trans (Nat.div_le_self _ _) hu)]
    exact pu_hexN mx u hu j
theorem ndig_zero (u : Nat) (hu : u ≤ 1114111) : u / 16 ^ ndig u = 0 := by
  unfold ndig
  (repeat' split) <;> simp <;> omega
theorem pu_hexL (mx u : Nat) (hu : u ≤ mx) (h2 : u ≤ 1114111) : pu mx 0 (hexL u) = some u := by
  have := pu_hexN mx u hu (ndig u)
  rw [ndig_zero u h2] at this
  exact this
theorem hexN_mem (u : Nat) : ∀ j c, c ∈ hexN u j → c ≠ 125 ∧ c ≠ 34
  | 0, c, h => by simp [hexN] at h
  | j + 1, c, h => by
    rw [hexN] at h
    cases List.mem_cons.1 h with
    | inl e => subst e; exact hexd_ne _ (Nat.mod_lt _ (by decide))
    | inr e => exact hexN_mem u j c e
theorem index_close (l t : List UInt8) (h : ∀ c ∈ l, c ≠ 125) : Lib.indexByte (l ++ 125 :: t) 125 = l.length := by
  induction l with
  | nil => rfl
  | cons b l ih =>
    have h1 : (b == 125) = false := beq_eq_false_iff_ne.2 (h b (List.mem_cons_self ..))
    have h2 := ih (fun c hc => h c (List.mem_cons_of_mem _ hc))
    rw [List.cons_append, Lib.indexByte, h1, h2]
    have h3 : (((l.length : Nat) : Int) == -1) = false := beq_eq_false_iff_ne.2 (by omega)
    rw [h3]
    simp
theorem ndig_pos (u : Nat) : 1 ≤ ndig u := by unfold ndig; (repeat' split) <;> omega
theorem esc_rune (r : Nat) (h : r ≤ 1114111) (hv : okV (r : Int) = true) (t : List UInt8) : escL ([92, 117, 123] ++ hexL r ++ [125] ++ t) = (encB r, ([92, 117, 123] ++ hexL r ++ [125]).length) := by
  have hl : [92, 117, 123] ++ hexL r ++ [125] ++ t = ([92, 117, 123] ++ hexL r) ++ 125 :: t := by simp
  have hi : Lib.indexByte ([92, 117, 123] ++ hexL r ++ [125] ++ t) 125 = ((3 + (hexL r).length : Nat) : Int) := by
    rw [hl, index_close]
    · simp; omega
    · intro c hc
      rcases List.mem_append.1 hc with h1 | h1
      · simp at h1
        rcases h1 with rfl | rfl | rfl <;> decide
      · exact (hexN_mem r _ c h1).1
  have hlen : 1 ≤ (hexL r).length := by unfold hexL; rw [hexN_length]; exact ndig_pos r
  have e1 : at0 ([92, 117, 123] ++ hexL r ++ [125] ++ t) 1 = 117 := rfl
  unfold escL
  rw [if_neg (by simp), e1, if_neg (by decide), if_neg (by decide), if_neg (by decide), if_neg (by decide), if_neg (by decide), if_pos rfl]
  unfold runeL2
  rw [hi, if_neg (by omega), if_neg (by simp), if_neg (by omega)]
  have e2 : ((3 + (hexL r).length : Nat) : Int).toNat = 3 + (hexL r).length := by omega
  have e3 : (([92, 117, 123] ++ hexL r ++ [125] ++ t).take (3 + (hexL r).length)).drop 3 = hexL r := by
    rw [hl, List.take_append_of_le_length (by simp; omega), List.take_of_length_le (by simp; omega)]
    rfl
  rw [e2, e3, pu_hexL _ _ (by omega) h]
  simp only
  rw [if_pos hv]
  simp
  omega
theorem esc_byte (b : Nat) (h1 : 16 ≤ b) (h2 : b ≤ 255) (t : List UInt8) : escL ([92, 120] ++ hexL b ++ t) = ([UInt8.ofNat b], ([92, 120] ++ hexL b).length) := by
  have hn : hexL b = [hexd (b / 16 % 16), hexd (b % 16)] := by
    have : ndig b = 2 := by unfold ndig; rw [if_neg (by omega), if_pos (by omega)]
    unfold hexL
    rw [this]
    simp [hexN]
  have hp := pu_hexL 255 b h2 (by omega)
  rw [hn] at hp ⊢
  have e1 : at0 ([92, 120] ++ [hexd (b / 16 % 16), hexd (b % 16)] ++ t) 1 = 120 := rfl
  unfold escL
  rw [if_neg (by simp), e1, if_neg (by decide), if_neg (by decide), if_neg (by decide), if_neg (by decide), if_pos rfl]
  unfold byteL2
  rw [if_neg (by simp)]
  have e3 : (([92, 120] ++ [hexd (b / 16 % 16), hexd (b % 16)] ++ t).take 4).drop 2 = [hexd (b / 16 % 16), hexd (b % 16)] := rfl
  rw [e3, hp]
  rfl
theorem okV_valid {r : Nat} (h : Utf8.valid (r : Int) = true) : okV (r : Int) = true := by
  have := valid_le h
  unfold okV
  exact decide_eq_true (by omega)
theorem rd_esc (p t bs : List UInt8) (g : Nat) (acc : List UInt8) (n : Nat) (h0 : at0 (p ++ t) 0 = 92) (hp : 1 ≤ p.length) (he : escL (p ++ t) = (bs, p.length)) : rdL (g + 1) acc (p ++ t) n = rdL g (acc ++ bs) t (n + p.length) := by
  have hne : p ++ t ≠ [] := by
    intro e
    have := congrArg List.length e
    rw [List.length_append, List.length_nil] at this
    omega
  rw [rdL, if_neg hne, h0, if_neg (by decide), if_pos rfl, he]
  simp only
  rw [if_neg (by omega), List.drop_left]
theorem piece_read (l : List UInt8) (h0 : l ≠ []) (g : Nat) (acc t : List UInt8) (n : Nat) : rdL (g + 1) acc (pieceL l ++ t) n = rdL g (acc ++ l.take (dec l).2) t (n + (pieceL l).length) := by
  cases hb : brkL l with
  | true =>
    have h1 := brk_one l h0 hb
    have h2 := at0_lt l 0
    have hp : pieceL l = [92, 120] ++ hexL (at0 l 0) := by unfold pieceL; rw [if_pos hb]
    have ht : l.take (dec l).2 = [UInt8.ofNat (at0 l 0)] := by
      rw [h1.1]
      cases l with
      | nil => exact absurd rfl h0
      | cons b u => simp [at0]
    rw [hp, ht]
    exact rd_esc _ t _ g acc n rfl (by simp) (esc_byte _ (by omega) (by omega) t)
  | false =>
    obtain ⟨hv, hw, rest, hl⟩ := enc_dec l h0 hb
    have hp : pieceL l = qR (dec l).1 := by unfold pieceL; rw [if_neg (by rw [hb]; decide)]
    have ht : l.take (dec l).2 = encB (dec l).1 := by
      rw [hw]
      generalize encB (dec l).1 = e at *
      rw [hl, List.take_left]
    have hle := (valid_le hv).2.1
    rw [hp, ht]
    generalize (dec l).1 = r at *
    clear hl hw hp ht hb
    by_cases k1 : r = 34
    · subst k1
      have e : encB ((34 : Nat) : Int) = [34] := encB1 34 (by decide)
      rw [e]
      exact rd_esc [92, 34] t [34] g acc n rfl (by decide) (by unfold escL; rw [if_neg (by simp), show at0 ([92, 34] ++ t) 1 = 34 from rfl, if_pos rfl]; rfl)
    by_cases k2 : r = 92
    · subst k2
      have e : encB ((92 : Nat) : Int) = [92] := encB1 92 (by decide)
      rw [e]
      exact rd_esc [92, 92] t [92] g acc n rfl (by decide) (by unfold escL; rw [if_neg (by simp), show at0 ([92, 92] ++ t) 1 = 92 from rfl, if_neg (by decide), if_pos rfl]; rfl)
    by_cases k3 : r = 10
    · subst k3
      have e : encB ((10 : Nat) : Int) = [10] := encB1 10 (by decide)
      rw [e]
      exact rd_esc [92, 110] t [10] g acc n rfl (by decide) (by unfold escL; rw [if_neg (by simp), show at0 ([92, 110] ++ t) 1 = 110 from rfl, if_neg (by decide), if_neg (by decide), if_pos rfl]; rfl)
    by_cases k4 : r = 9
    · subst k4
      have e : encB ((9 : Nat) : Int) = [9] := encB1 9 (by decide)
      rw [e]
      exact rd_esc [92, 116] t [9] g acc n rfl (by decide) (by unfold escL; rw [if_neg (by simp), show at0 ([92, 116] ++ t) 1 = 116 from rfl, if_neg (by decide), if_neg (by decide), if_neg (by decide), if_pos rfl]; rfl)
    by_cases k5 : 32 ≤ r ∧ r ≤ 126
    · have hq : qR r = [UInt8.ofNat r] := by
        unfold qR
        rw [if_neg k1, if_neg k2, if_neg k3, if_neg k4, if_pos k5]
      rw [hq, encB1 r (by omega)]
      have ha : at0 ([UInt8.ofNat r] ++ t) 0 = r := by
        show (UInt8.ofNat r).toNat = r
        exact ofNat_toNat r (by omega)
      rw [rdL, if_neg (by simp), ha, if_neg k1, if_neg k2]
      rfl
    · have hq : qR r = [92, 117, 123] ++ hexL r ++ [125] := by
        unfold qR
        rw [if_neg k1, if_neg k2, if_neg k3, if_neg k4, if_neg k5]
      rw [hq]
      exact rd_esc _ t _ g acc n rfl (by simp) (esc_rune r (by omega) (okV_valid hv) t)
theorem rd_quo : ∀ (f : Nat) (l : List UInt8), l.length ≤ f → ∀ (g : Nat) (acc : List UInt8) (n : Nat) (rest : List UInt8), (quoL f l).length + 1 ≤ g → rdL g acc (quoL f l ++ 34 :: rest) n = some (acc ++ l, n + (quoL f l).length + 1)
  | f, [], _, g, acc, n, rest, hg => by
    rw [quoL_end] at hg ⊢
    obtain ⟨g, rfl⟩ : ∃ g', g = g' + 1 := ⟨g - 1, by omega⟩
    rw [rdL, if_neg (by simp), if_pos (by rfl)]
    simp
  | 0, b :: t, h, _, _, _, _, _ => by simp at h
  | f + 1, b :: t, h, g, acc, n, rest, hg => by
    have hne : b :: t ≠ [] := by simp
    rw [quoL_step f _ hne] at hg ⊢
    have hpl := pieceL_len (b :: t)
    have hw : 1 ≤ (dec (b :: t)).2 := by
      have := width_pos ⟨(b :: t).toArray⟩ 0
      rw [decode_dec] at this
      simpa using this
    rw [List.length_append] at hg ⊢
    obtain ⟨g, rfl⟩ : ∃ g', g = g' + 1 := ⟨g - 1, by omega⟩
    rw [List.append_assoc, piece_read _ hne]
    have ih := rd_quo f ((b :: t).drop (dec (b :: t)).2) (by rw [List.length_drop]; simp at h ⊢; omega) g (acc ++ (b :: t).take (dec (b :: t)).2) (n + (pieceL (b :: t)).length) rest (by omega)
    rw [ih, List.append_assoc, List.take_append_drop]
    simp only [Option.some.injEq, Prod.mk.injEq, true_and]
    omega
theorem read_quoted (x : ByteArray) (rest : List UInt8) : readL (quoted x ++ rest) = some (x.data.toList, (quoted x).length) := by
  unfold readL quoted
  rw [if_pos (by rfl)]
  have e : List.drop 1 ([34] ++ quoL x.size x.data.toList ++ [34] ++ rest) = quoL x.size x.data.toList ++ 34 :: rest := by simp
  rw [e, rd_quo x.size x.data.toList (by rw [← size_data]; exact Nat.le_refl _) _ [] 1 rest (by simp)]
  simp
  omega
end Go.Proofs.YtijpfbcippijoaaGreatDoor
