import Derived.Test.YtijpfbcippijoaaGreatDoorGr28
import Derived.Test.YtijpfbcippijoaaGreatDoorGr25
import Derived.Test.YtijpfbcippijoaaGreatDoorGr23
import Derived.Test.YtijpfbcippijoaaGreatDoorQlI
import Derived.Test.YtijpfbcippijoaaGreatDoorQlJ
import Derived.Test.YtijpfbcippijoaaGreatDoorQlK
import Derived.Test.YtijpfbcippijoaaGreatDoorQlM
import Derived.Test.YtijpfbcippijoaaGreatDoorQlD
namespace Go.Proofs.YtijpfbcippijoaaGreatDoor
open Go.RowKit Go.Lib Sp
set_option maxRecDepth 100000
theorem piece_ge (l : List UInt8) (h0 : l ≠ []) : (dec l).2 ≤ (pieceL l).length := by
  cases hb : brkL l with
  | true =>
    rw [(brk_one l h0 hb).1]
    exact (pieceL_len l).1
  | false =>
    obtain ⟨hv, hw, rest, hl⟩ := enc_dec l h0 hb
    have hp : pieceL l = qR (dec l).1 := by unfold pieceL; rw [if_neg (by rw [hb]; decide)]
    rw [hp, hw]
    generalize (dec l).1 = r at *
    by_cases h1 : r < 128
    · rw [encB1 r (by omega)]
      exact (qR_len r).1
    · have h4 := encB_most r
      unfold qR
      rw [if_neg (by omega), if_neg (by omega), if_neg (by omega), if_neg (by omega), if_neg (by omega)]
      have h5 : 1 ≤ (hexL r).length := by unfold hexL; rw [hexN_length]; exact ndig_pos r
      simp only [List.length_append, List.length_cons, List.length_nil]
      omega
theorem dec_posk (l : List UInt8) (h : l ≠ []) : 1 ≤ (dec l).2 := by
  cases l with
  | nil => exact absurd rfl h
  | cons b t =>
    have := width_pos ⟨(b :: t).toArray⟩ 0
    rw [decode_dec] at this
    simpa using this
theorem quoL_ge : ∀ (f : Nat) (l : List UInt8), l.length ≤ f → l.length ≤ (quoL f l).length
  | 0, l, h => by simp at h; simp [h]
  | f + 1, l, h => by
    by_cases h0 : l = []
    · simp [h0]
    · have h1 := piece_ge l h0
      have h2 := dec_posk l h0
      have h3 := quoL_ge f (l.drop (dec l).2) (by rw [List.length_drop]; omega)
      rw [quoL_step f l h0, List.length_append]
      rw [List.length_drop] at h3
      omega
theorem quoted_ge (s : ByteArray) : s.size ≤ (quoted s).length := by
  have := quoL_ge s.size s.data.toList (by rw [size_data]; exact Nat.le_refl _)
  unfold quoted
  rw [size_data] at this ⊢
  simp only [List.length_append, List.length_cons, List.length_nil]
  omega
theorem unqR_size (l : List UInt8) : (unqR l).1.length ≤ l.length := by
  unfold unqR
  split
  · rename_i x n _
    split
    · rename_i h
      have h1 := quoted_ge ⟨x.toArray⟩
      rw [h, List.length_take, sizeL] at h1
      simp only
      omega
    · simp
  · simp
theorem textG_size (r : List UInt8) (k : Nat) : (textG r k).size ≤ r.length := by
  unfold textG
  split
  · rw [bs_size]
    have := unqR_size (r.drop (k + 1))
    rw [List.length_drop] at this
    omega
  · exact Nat.zero_le _
def guessG (l : List UInt8) : OpV :=
  if (wordG 32 l ((wordG 32 l 0).2 + 1)).1 = [105, 110, 115] then ⟨(idG (wordG 32 l 0).1).1, (idG (wordG 32 l 0).1).2, 1, numG (wordG 32 (restG l (wordG 32 l ((wordG 32 l 0).2 + 1)).2) 0).1, textG (restG l (wordG 32 l ((wordG 32 l 0).2 + 1)).2) (wordG 32 (restG l (wordG 32 l ((wordG 32 l 0).2 + 1)).2) 0).2, [], 0, 0, false⟩
  else if (wordG 32 l ((wordG 32 l 0).2 + 1)).1 = [104, 105, 100, 101] then ⟨(idG (wordG 32 l 0).1).1, (idG (wordG 32 l 0).1).2, 2, 0, ⟨#[]⟩, rngsG (restG l (wordG 32 l ((wordG 32 l 0).2 + 1)).2), 0, 0, false⟩
  else if (wordG 32 l ((wordG 32 l 0).2 + 1)).1 = [115, 104, 111, 119] then ⟨(idG (wordG 32 l 0).1).1, (idG (wordG 32 l 0).1).2, 3, 0, ⟨#[]⟩, rngsG (restG l (wordG 32 l ((wordG 32 l 0).2 + 1)).2), 0, 0, false⟩
  else if (wordG 32 l ((wordG 32 l 0).2 + 1)).1 = [111, 110] then ⟨(idG (wordG 32 l 0).1).1, (idG (wordG 32 l 0).1).2, 4, 0, ⟨#[]⟩, [], (pairG 46 (restG l (wordG 32 l ((wordG 32 l 0).2 + 1)).2)).1, (pairG 46 (restG l (wordG 32 l ((wordG 32 l 0).2 + 1)).2)).2, true⟩
  else if (wordG 32 l ((wordG 32 l 0).2 + 1)).1 = [111, 102, 102] then ⟨(idG (wordG 32 l 0).1).1, (idG (wordG 32 l 0).1).2, 4, 0, ⟨#[]⟩, [], (pairG 46 (restG l (wordG 32 l ((wordG 32 l 0).2 + 1)).2)).1, (pairG 46 (restG l (wordG 32 l ((wordG 32 l 0).2 + 1)).2)).2, false⟩
  else ⟨(idG (wordG 32 l 0).1).1, (idG (wordG 32 l 0).1).2, 0, 0, ⟨#[]⟩, [], 0, 0, false⟩
theorem guessG_size (l : List UInt8) : (guessG l).s.size ≤ l.length := by
  unfold guessG
  repeat' split
  · refine Nat.le_trans (textG_size _ _) ?_
    unfold restG
    rw [List.length_drop]
    omega
  all_goals exact Nat.zero_le _
theorem rng_nilk (w : World) : Rng w none 0 0 [] := rng_of_rw (rw_nil w)
theorem gGuess_any (l : List UInt8) (hl : l.length ≤ 2097152) (w : World) :
    Calls Tryz.prog 83 #[.string (bs l)] w fun e w' => ∃ a m cap, e = .returned (opVal (guessG l) (.slice a m cap)) ∧ Rng w' a m cap (guessG l).l ∧ (∀ g off, a = some ⟨g, off, none⟩ → w.heap.size ≤ g) ∧ Below w.heap.size w w' := by
  unfold guessG
  by_cases h1 : (wordG 32 l ((wordG 32 l 0).2 + 1)).1 = [105, 110, 115]
  · rw [if_pos h1]
    refine (gGuess_ins l hl w h1).mono ?_
    rintro e w' ⟨rfl, hb⟩
    exact ⟨none, 0, 0, rfl, rng_nilk w', fun g off ha => (by cases ha), hb⟩
  rw [if_neg h1]
  by_cases h2 : (wordG 32 l ((wordG 32 l 0).2 + 1)).1 = [104, 105, 100, 101]
  · rw [if_pos h2]
    exact gGuess_hide l hl w h2
  rw [if_neg h2]
  by_cases h3 : (wordG 32 l ((wordG 32 l 0).2 + 1)).1 = [115, 104, 111, 119]
  · rw [if_pos h3]
    exact gGuess_show l hl w h3
  rw [if_neg h3]
  by_cases h4 : (wordG 32 l ((wordG 32 l 0).2 + 1)).1 = [111, 110]
  · rw [if_pos h4]
    refine (gGuess_on l hl w h4).mono ?_
    rintro e w' ⟨rfl, hb⟩
    exact ⟨none, 0, 0, rfl, rng_nilk w', fun g off ha => (by cases ha), hb⟩
  rw [if_neg h4]
  by_cases h5 : (wordG 32 l ((wordG 32 l 0).2 + 1)).1 = [111, 102, 102]
  · rw [if_pos h5]
    refine (gGuess_off l hl w h5).mono ?_
    rintro e w' ⟨rfl, hb⟩
    exact ⟨none, 0, 0, rfl, rng_nilk w', fun g off ha => (by cases ha), hb⟩
  rw [if_neg h5]
  refine (gGuess_no l hl w h1 h2 h3 h4 h5).mono ?_
  rintro e w' ⟨rfl, hb⟩
  exact ⟨none, 0, 0, rfl, rng_nilk w', fun g off ha => (by cases ha), hb⟩
theorem gPrint_any {o : OpV} {w : World} {a : Option Addr} {m cap : Nat} (h : Rng w a m cap o.l) (hs : o.s.size ≤ 2097152) :
    Calls Tryz.prog 43 #[opVal o (.slice a m cap)] w fun e w' => e = .returned (.tuple #[.string (if ownP o = 0 then bs (printP o) else ⟨#[]⟩), .int .i64 (ownP o)]) ∧ Below w.heap.size w w' := by
  obtain ⟨c, n, k, p, s, l, tc, tn, on⟩ := o
  by_cases hok : ownP ⟨c, n, k, p, s, l, tc, tn, on⟩ = 0
  · rw [if_pos hok]
    have hk := (right_of hok).kind
    simp only at hk h hs
    have hcs : k = 1 ∨ k = 2 ∨ k = 3 ∨ k = 4 := by omega
    rcases hcs with rfl | rfl | rfl | rfl
    · rw [hok]; exact gPrint_ins h hs hok
    · rw [hok]; exact gPrint_hide h hs hok
    · rw [hok]; exact gPrint_show h hs hok
    · cases on
      · rw [hok]; exact gPrint_off h hs hok
      · rw [hok]; exact gPrint_on h hs hok
  · rw [if_neg hok]
    exact gPrint_wrong h hs hok
theorem numG_itoa {n : Int} (h : 0 ≤ n) (h1 : n ≤ 1048576) : numG (Lib.itoa n) = n := by
  rw [itoa_digits h, numG_dec n.toNat (by omega)]
  omega
theorem idG_idBk {c n : Int} (h0 : 0 ≤ c) (h1 : c ≤ 1048576) (h2 : 0 ≤ n) (h3 : n ≤ 1048576) : idG (idB c n) = (c, n) := by
  obtain ⟨x, rfl⟩ := Int.eq_ofNat_of_zero_le h0
  obtain ⟨y, rfl⟩ := Int.eq_ofNat_of_zero_le h2
  exact idG_idB x y (by omega) (by omega)
theorem pairG_oneB {r : Int × Int} (h : 0 ≤ r.1 ∧ r.1 ≤ 1048576 ∧ 0 ≤ r.2 ∧ r.2 ≤ 1048576) : pairG 45 (oneB r) = r := by
  obtain ⟨h0, h1, h2, h3⟩ := h
  unfold oneB
  rw [List.append_assoc, List.singleton_append, pairG_hit (itoa_not h0 45 (by decide)), numG_itoa h0 h1, numG_itoa h2 h3]
theorem rngsF_rngB : ∀ (l : List (Int × Int)) (p : List UInt8) (f : Nat), l ≠ [] → l.length ≤ f → Places l → rngsF f (p ++ rngB l) p.length = l
  | [], _, _, h, _, _ => absurd rfl h
  | [r], p, f, _, hf, hP => by
    have hr := hP r (by simp)
    obtain ⟨g, rfl⟩ : ∃ g, f = g + 1 := ⟨f - 1, by simp at hf; omega⟩
    have e : rngB [r] = oneB r := by simp [rngB]
    rw [e, rngsF, if_neg (by simp), wordG_at, wordG_miss (oneB_not hr 44 (by decide))]
    simp only [pairG_oneB hr]
    have e2 : rngsF g (p ++ oneB r) (p.length + (oneB r).length + 1) = [] := by
      cases g with
      | zero => rfl
      | succ g => rw [rngsF, if_pos (by simp)]
    rw [e2]
  | r :: x :: t, p, f, _, hf, hP => by
    have hr := hP r (by simp)
    obtain ⟨g, rfl⟩ : ∃ g, f = g + 1 := ⟨f - 1, by simp at hf; omega⟩
    have e : rngB (r :: x :: t) = oneB r ++ 44 :: rngB (x :: t) := by simp [rngB]
    have ih := rngsF_rngB (x :: t) (p ++ (oneB r ++ [44])) g (by simp) (by simp at hf ⊢; omega) (fun y hy => hP y (List.mem_cons_of_mem _ hy))
    rw [e, rngsF, if_neg (by simp), wordG_at, wordG_hit (oneB_not hr 44 (by decide))]
    simp only [pairG_oneB hr]
    have e3 : p ++ (oneB r ++ 44 :: rngB (x :: t)) = p ++ (oneB r ++ [44]) ++ rngB (x :: t) := by simp
    have e4 : p.length + (oneB r).length + 1 = (p ++ (oneB r ++ [44])).length := by simp; omega
    rw [e3, e4, ih]
theorem rngB_ge : ∀ (l : List (Int × Int)), l.length ≤ (rngB l).length + 1
  | [] => by simp
  | [r] => by simp
  | r :: x :: t => by
    have e : rngB (r :: x :: t) = oneB r ++ 44 :: rngB (x :: t) := by simp [rngB]
    have := rngB_ge (x :: t)
    rw [e]
    simp only [List.length_append, List.length_cons] at this ⊢
    omega
theorem rngsG_rngB {l : List (Int × Int)} (h : l ≠ []) (hP : Places l) : rngsG (rngB l) = l := by
  have := rngsF_rngB l [] ((rngB l).length + 1) h (rngB_ge l) hP
  simpa [rngsG] using this
theorem textG_quoted (p : List UInt8) (s : ByteArray) : textG (p ++ 32 :: quoted s) p.length = s := by
  unfold textG
  rw [if_pos (by simp), show p ++ 32 :: quoted s = (p ++ [32]) ++ quoted s from by simp, List.drop_left' (by simp)]
  have h := read_quotedR s []
  rw [List.append_nil] at h
  unfold unqR
  rw [h]
  simp only [List.take_length]
  rw [if_pos trivial]
  rfl
theorem guess_at {a k : List UInt8} (r : List UInt8) (ha : (32 : UInt8) ∉ a) (hk : (32 : UInt8) ∉ k) :
    wordG 32 (a ++ 32 :: (k ++ 32 :: r)) 0 = (a, a.length) ∧ wordG 32 (a ++ 32 :: (k ++ 32 :: r)) (a.length + 1) = (k, a.length + 1 + k.length) ∧ restG (a ++ 32 :: (k ++ 32 :: r)) (a.length + 1 + k.length) = r := by
  refine ⟨wordG_hit ha, ?_, ?_⟩
  · have h := wordG_at (c := 32) (a ++ [32]) (k ++ 32 :: r)
    rw [wordG_hit hk] at h
    simpa using h
  · unfold restG
    rw [show a ++ 32 :: (k ++ 32 :: r) = (a ++ 32 :: (k ++ [32])) ++ r from by simp, List.drop_left' (by simp; omega)]
theorem guess_print {o : OpV} (h : Right o) : guessG (printP o) = o := by
  obtain ⟨c, n, k, p, s, l, tc, tn, on⟩ := o
  have hid := idP_bd h.id
  simp only at hid
  obtain ⟨i0, i1, i2, i3⟩ := hid
  have hk := h.kind
  have hx := h.extra
  simp only at hk
  unfold printP
  simp only
  have e0 : idB c n ++ [32] ++ wordB ⟨c, n, k, p, s, l, tc, tn, on⟩ = idB c n ++ 32 :: wordB ⟨c, n, k, p, s, l, tc, tn, on⟩ := by simp
  have hn := idB_not i0 i2 32 (by decide)
  rw [e0]
  have hcs : k = 1 ∨ k = 2 ∨ k = 3 ∨ k = 4 := by omega
  rcases hcs with rfl | rfl | rfl | rfl
  · obtain ⟨p0, p1, _⟩ := h.ins rfl
    simp only at p0 p1
    have e1 : wordB ⟨c, n, 1, p, s, l, tc, tn, on⟩ = insW ++ 32 :: (Lib.itoa p ++ 32 :: quoted s) := by
      unfold wordB insB insW
      rw [if_pos rfl]
      simp
    obtain ⟨g1, g2, g3⟩ := guess_at (Lib.itoa p ++ 32 :: quoted s) hn (by decide : (32 : UInt8) ∉ insW)
    unfold guessG
    rw [e1, g1]
    simp only
    rw [g2]
    simp only
    rw [g3, if_pos (by decide), idG_idBk i0 i1 i2 i3, wordG_hit (itoa_not p0 32 (by decide))]
    simp only [numG_itoa p0 p1, textG_quoted]
    simp only [Go.Proofs.YtijpfbcippijoaaGreatDoor.extra, if_true, ext0, extT] at hx
    cases l <;> cases on <;> by_cases h1 : tc = 0 <;> by_cases h2 : tn = 0 <;> simp_all
  · obtain ⟨hne, hl⟩ := h.rng (.inl rfl)
    simp only at hne hl
    have e1 : wordB ⟨c, n, 2, p, s, l, tc, tn, on⟩ = hideW ++ 32 :: rngB l := by
      unfold wordB hideW
      rw [if_neg (by simp), if_pos rfl]
      simp
    obtain ⟨g1, g2, g3⟩ := guess_at (rngB l) hn (by decide : (32 : UInt8) ∉ hideW)
    unfold guessG
    rw [e1, g1]
    simp only
    rw [g2]
    simp only
    rw [g3, if_neg (by decide), if_pos (by decide), idG_idBk i0 i1 i2 i3, rngsG_rngB hne (lst_places hl)]
    simp only [Go.Proofs.YtijpfbcippijoaaGreatDoor.extra, extP, extT, ← size_zero_iff] at hx
    by_cases h0 : p = 0 <;> by_cases h3 : s = ⟨#[]⟩ <;> cases on <;> by_cases h1 : tc = 0 <;> by_cases h2 : tn = 0 <;> simp_all
  · obtain ⟨hne, hl⟩ := h.rng (.inr rfl)
    simp only at hne hl
    have e1 : wordB ⟨c, n, 3, p, s, l, tc, tn, on⟩ = showW ++ 32 :: rngB l := by
      unfold wordB showW
      rw [if_neg (by simp), if_neg (by simp), if_pos rfl]
      simp
    obtain ⟨g1, g2, g3⟩ := guess_at (rngB l) hn (by decide : (32 : UInt8) ∉ showW)
    unfold guessG
    rw [e1, g1]
    simp only
    rw [g2]
    simp only
    rw [g3, if_neg (by decide), if_neg (by decide), if_pos (by decide), idG_idBk i0 i1 i2 i3, rngsG_rngB hne (lst_places hl)]
    simp only [Go.Proofs.YtijpfbcippijoaaGreatDoor.extra, extP, extT, ← size_zero_iff] at hx
    by_cases h0 : p = 0 <;> by_cases h3 : s = ⟨#[]⟩ <;> cases on <;> by_cases h1 : tc = 0 <;> by_cases h2 : tn = 0 <;> simp_all
  · have htt := (h.tgt rfl).1
    have ht := idP_bd (.inr htt)
    simp only at ht htt
    obtain ⟨j0, j1, j2, j3⟩ := ht
    simp only [Go.Proofs.YtijpfbcippijoaaGreatDoor.extra, extP, ext0, ← size_zero_iff] at hx
    have hb : idB tc tn = Lib.itoa tc ++ 46 :: Lib.itoa tn := by
      unfold idB
      rw [if_neg (by intro e; rw [e.1, e.2] at htt; revert htt; decide)]
      simp
    have hp : pairG 46 (idB tc tn) = (tc, tn) := by
      rw [hb, pairG_hit (itoa_not j0 46 (by decide)), numG_itoa j0 j1, numG_itoa j2 j3]
    cases on with
    | true =>
      have e1 : wordB ⟨c, n, 4, p, s, l, tc, tn, true⟩ = onW ++ 32 :: idB tc tn := by
        unfold wordB onW
        rw [if_neg (by simp), if_neg (by simp), if_neg (by simp), if_pos rfl]
        simp
      obtain ⟨g1, g2, g3⟩ := guess_at (idB tc tn) hn (by decide : (32 : UInt8) ∉ onW)
      unfold guessG
      rw [e1, g1]
      simp only
      rw [g2]
      simp only
      rw [g3, if_neg (by decide), if_neg (by decide), if_neg (by decide), if_pos (by decide), idG_idBk i0 i1 i2 i3, hp]
      by_cases h0 : p = 0 <;> by_cases h3 : s = ⟨#[]⟩ <;> cases l <;> simp_all
    | false =>
      have e1 : wordB ⟨c, n, 4, p, s, l, tc, tn, false⟩ = offW ++ 32 :: idB tc tn := by
        unfold wordB offW
        rw [if_neg (by simp), if_neg (by simp), if_neg (by simp), if_neg (by simp)]
        simp
      obtain ⟨g1, g2, g3⟩ := guess_at (idB tc tn) hn (by decide : (32 : UInt8) ∉ offW)
      unfold guessG
      rw [e1, g1]
      simp only
      rw [g2]
      simp only
      rw [g3, if_neg (by decide), if_neg (by decide), if_neg (by decide), if_neg (by decide), if_pos (by decide), idG_idBk i0 i1 i2 i3, hp]
      by_cases h0 : p = 0 <;> by_cases h3 : s = ⟨#[]⟩ <;> cases l <;> simp_all
theorem taken_both (l : List UInt8) : Taken l ↔ (ownP (guessG l) = 0 ∧ printP (guessG l) = l) := by
  constructor
  · rintro ⟨h1, h2⟩
    have := guess_print (right_of h1)
    rw [h2] at this
    rw [this]
    exact ⟨h1, h2⟩
  · rintro ⟨h1, h2⟩
    have := read_print (right_of h1)
    rw [h2] at this
    unfold Taken
    rw [this]
    exact ⟨h1, h2⟩
theorem taken_same {l : List UInt8} (h : Taken l) : guessG l = readP l := by
  have := guess_print (right_of h.1)
  rwa [h.2] at this
end Go.Proofs.YtijpfbcippijoaaGreatDoor
