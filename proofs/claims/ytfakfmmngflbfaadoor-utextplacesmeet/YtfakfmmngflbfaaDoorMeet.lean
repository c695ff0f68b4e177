import Derived.Test.YtfakfmmngflbfaaDoorIndex
namespace Go.Proofs.YtfakfmmngflbfaaDoor
open Go.RowKit Go.Lib

theorem own_below {w w' : World} {B e size n : Nat} {v : Value} {xs : List Value} (h : w.ownsRow B e size v n xs) (hb : Below w.heap.size w w') : w'.ownsRow B e size v n xs := by
  refine ⟨h.1, ?_⟩
  rcases h.2 with h0 | ⟨g, cap, cur, hv, hB, hh, rest⟩
  · exact .inl h0
  · exact .inr ⟨g, cap, cur, hv, hB, (hb.block g (Array.getElem?_eq_some_iff.1 hh).1).trans hh, rest⟩

/-- The cells of what 'let' has made. -/
theorem own_cell {W : World} {B n g cap : Nat} {zs : List Int} (h : W.ownsRow B 21 1 (.slice (some ⟨g, 0, none⟩) n cap) n (letV zs)) (j : Nat) (hj : j < n) : W.cell? ⟨g, j, none⟩ = some (.int .i32 ((zs.map letR).getD j 0)) := by
  obtain ⟨hl, hr⟩ := h
  have hlen : zs.length = n := by simpa [letV] using hl
  rcases hr with ⟨e, _⟩ | ⟨g', cap', cur, e, _, hh, hn, _, hsz, htk⟩
  · cases e
  · cases e
    have e1 : cur.toList[j]? = (letV zs)[j]? := by
      rw [← htk, List.getElem?_take, if_pos (by omega)]
    simp only [World.cell?, hh]
    simp only [Array.getElem?_toList] at e1
    rw [e1]
    simp [letV, List.getElem?_eq_getElem (show j < zs.length by omega)]
theorem own_cap {W : World} {B n g cap : Nat} {zs : List Int} (h : W.ownsRow B 21 1 (.slice (some ⟨g, 0, none⟩) n cap) n (letV zs)) : n ≤ cap ∧ cap ≤ maxLen := by
  rcases h.2 with ⟨e, _⟩ | ⟨g', cap', cur, e, _, hh, hn, hm, hsz, htk⟩
  · cases e
  · cases e; exact ⟨hn, hm⟩
theorem conv_take {W : World} {B n g cap : Nat} {zs : List Int} (h : W.ownsRow B 21 1 (.slice (some ⟨g, 0, none⟩) n cap) n (letV zs)) (k : Nat) (hk : k ≤ n) :
    (convert 22 9 (.slice (some ⟨g, 0, none⟩) k cap)).run Tryd.prog W = .ok (.string (runesBytes ((zs.map letR).take k))) W := by
  have hlen : zs.length = n := by simpa [letV] using h.1
  exact run_convert_runes (P := Tryd.prog) W 22 9 21 ⟨g, 0, none⟩ k cap (zs.map letR) (by simp; omega) Tryd.underlying22 Tryd.underlying21 Tryd.underlying9 (fun j hj => by
      rw [show (⟨g, 0, none⟩ : Addr).add j = ⟨g, j, none⟩ by cases j <;> simp [Addr.add]]
      exact own_cell h j (by simpa [hlen] using hj))
theorem take_size (rs : List Int) (k : Nat) : (runesBytes (rs.take k)).size = posOf rs k := by rw [size_data, runesBytes_encs]; rfl

theorem encB_two (r : Int) (hv : Utf8.valid r = true) (h : 128 ≤ r) : 2 ≤ (encB r).length := by
  obtain ⟨c, rfl⟩ := Int.eq_ofNat_of_zero_le (valid_le hv).1
  by_cases b : c < 0x800
  · rw [encB2 c b (by omega)]; simp
  by_cases d : c < 0x10000
  · rw [encB3 c d (by omega) hv]; simp
  · rw [encB4 c (by omega) hv]; simp
theorem not_inside {s : ByteArray} {rs : List Int} (h : IsText s rs) (k : Nat) (hk : k < rs.length) (h2 : 128 ≤ rs[k]) : ∀ j : Nat, j ≤ rs.length → ((posOf rs k : Int) + 1) ≠ posOf rs j := by
  intro j hj e
  have h3 := encB_two _ (h.okAt k hk).1 h2
  have h4 := posOf_succ rs k hk
  rcases Nat.lt_or_ge k j with h5 | h5
  · have := posOf_mono rs (show k + 1 ≤ j by omega); omega
  · have := posOf_mono rs h5; omega
theorem not_behind {s : ByteArray} {rs : List Int} (h : IsText s rs) : ∀ j : Nat, j ≤ rs.length → ((s.size : Int) + 1) ≠ posOf rs j := by
  intro j hj e
  have := posOf_mono rs hj
  rw [h.size] at e
  omega

set_option maxHeartbeats 2000000 in
theorem meet_any (o n : Value) (zo : List Int) (k : Int) (raw : ByteArray) (b : Int) (w : World) (ho : Ints w o zo) (h4 : zo.length * 4 ≤ 140737488351232) (hw : Bar w) (kk : Nat) (hkk : kk ≤ zo.length) (hmod : k % ((zo.length : Int) + 1) = kk) :
    Calls Tryd.prog 6 #[.agg #[o, n, .int .i64 k, .string raw, .int .u8 b]] w fun e w' => e = .returned (.bool true) ∧ Below w.heap.size w w' := by
  have HM : Hid (k % ((zo.length : Int) + 1) = kk) := hmod
  clear hmod
  have hts := txt_size zo
  have hT := isText_txt zo
  have HL : Hid ((zo.map letR).length = zo.length) := List.length_map ..
  have hpk : posOf (zo.map letR) kk ≤ (txt zo).size := by rw [hT.size]; exact posOf_mono _ (by rw [HL.out]; exact hkk)
  go_enter Tryd.func6, Tryd.ntmps6
  go_wp2_with fail
  refine (let_ints o zo _ (ho.mono ((Below.refl _ _).alloc (Nat.le_refl _) _)) h4).mono ?_
  rintro e w2 ⟨a, cap, rfl, hown, hb2⟩
  have hcv := conv_let hown
  have hc2 : w2.cell? ⟨w.heap.size, 2, none⟩ = some (.int .i64 k) := (hb2.cell (p := ⟨w.heap.size, 2, none⟩) (by simp)).trans (World.cell?_alloc_mark _ _ _ _ _)
  have hB2 : Below w.heap.size w w2 := ((Below.refl _ _).alloc (Nat.le_refl _) _).trans (hb2.mono (by simp))
  have hw2 : Bar w2 := (hw.alloc _).below hb2
  clear hb2 ho hw
  generalize txt zo = s at *
  go_wp2_with (go_at_call 11; refine (pick_all _ _ (by omega) (by omega) _).mono ?_; rintro e w' ⟨rfl, rfl⟩; rw [HM.out])
  refine (place_in hT (by omega) kk (by omega) (by rw [HL.out]; omega) _ hw2).mono ?_
  rintro e w3 ⟨rfl, hb3⟩
  rw [Int.toNat_natCast]
  have hown3 := own_below hown hb3
  have hw3 := hw2.below hb3
  have hB3 := hB2.trans (hb3.mono hB2.size)
  clear hown hw2 hB2 hb3 hcv hc2
  rcases hown3.2 with ⟨e, hn0⟩ | ⟨g, cap', cur, e, _⟩
  · simp only [Value.slice.injEq] at e
    obtain ⟨rfl, _, rfl⟩ := e
    clear hown3
    have hk0 : kk = 0 := by omega
    subst hk0
    have hz0 : zo = [] := List.length_eq_zero_iff.1 hn0
    subst hz0
    have hcv := run_convert_runes_nil (P := Tryd.prog) w3 22 9 21 0 0 Tryd.underlying22 Tryd.underlying21 Tryd.underlying9
    simp only [List.map_nil] at hT HL hpk
    go_wp2_with fail
    refine (index_at hT (by omega) _ 0 (by simp) rfl _ hw3).mono ?_
    rintro e w4 ⟨rfl, hb4⟩
    have hw4 := hw3.below hb4
    have hB4 := hB3.trans (hb4.mono hB3.size)
    clear hw3 hB3 hb4
    go_wp2_with fail
    refine (place_out hT (by omega) _ (.inl (by omega)) _ hw4).mono ?_
    rintro e w5 ⟨rfl, hb5⟩
    have hw5 := hw4.below hb5
    have hB5 := hB4.trans (hb5.mono hB4.size)
    clear hw4 hB4 hb5
    go_wp2_with fail
    refine (place_out hT (by omega) _ (.inr (by simp)) _ hw5).mono ?_
    rintro e w6 ⟨rfl, hb6⟩
    have hw6 := hw5.below hb6
    have hB6 := hB5.trans (hb6.mono hB5.size)
    clear hw5 hB5 hb6
    go_wp2_with fail
    refine (index_no hT (by omega) _ (not_behind hT) _ hw6).mono ?_
    rintro e w7 ⟨rfl, hb7⟩
    have hw7 := hw6.below hb7
    have hB7 := hB6.trans (hb7.mono hB6.size)
    clear hw6 hB6 hb7
    go_wp2_with fail
    go_ret
    exact ⟨rfl, hB7⟩
  · obtain ⟨rfl, rfl⟩ : a = some ⟨g, 0, none⟩ ∧ cap = cap' := by cases e; exact ⟨rfl, rfl⟩
    clear e
    have hcp := own_cap hown3
    have hcv := conv_take hown3 kk hkk
    have t1 : ((posOf (zo.map letR) kk : Int) != ((runesBytes ((zo.map letR).take kk)).size : Int)) = false := by rw [take_size]; simp
    go_wp2_with fail
    refine (index_at hT (by omega) _ kk (by rw [HL.out]; omega) rfl _ hw3).mono ?_
    rintro e w4 ⟨rfl, hb4⟩
    have hw4 := hw3.below hb4
    have hB4 := hB3.trans (hb4.mono hB3.size)
    have hown4 := own_below hown3 hb4
    clear hown3
    clear hw3 hB3 hb4
    go_wp2_with fail
    refine (place_out hT (by omega) _ (.inl (by omega)) _ hw4).mono ?_
    rintro e w5 ⟨rfl, hb5⟩
    have hw5 := hw4.below hb5
    have hB5 := hB4.trans (hb5.mono hB4.size)
    have hown5 := own_below hown4 hb5
    clear hown4
    clear hw4 hB4 hb5
    go_wp2_with fail
    refine (place_out hT (by omega) _ (.inr (by rw [HL.out]; omega)) _ hw5).mono ?_
    rintro e w6 ⟨rfl, hb6⟩
    have hw6 := hw5.below hb6
    have hB6 := hB5.trans (hb6.mono hB5.size)
    have hown6 := own_below hown5 hb6
    clear hown5
    clear hw5 hB5 hb6
    go_wp2_with fail
    refine (index_no hT (by omega) _ (not_behind hT) _ hw6).mono ?_
    rintro e w7 ⟨rfl, hb7⟩
    have hw7 := hw6.below hb7
    have hB7 := hB6.trans (hb7.mono hB6.size)
    have hown7 := own_below hown6 hb7
    clear hown6
    clear hw6 hB6 hb7
    by_cases hlt : kk < zo.length
    · have hcl := own_cell hown7 kk hlt
      have hget : (zo.map letR).getD kk 0 = (zo.map letR)[kk]'(by rw [HL.out]; exact hlt) := by
        rw [List.getD_eq_getElem?_getD, List.getElem?_eq_getElem (by rw [HL.out]; exact hlt)]; rfl
      rw [hget] at hcl
      by_cases h128 : 128 ≤ (zo.map letR)[kk]'(by rw [HL.out]; exact hlt)
      · have hni := not_inside hT kk (by rw [HL.out]; exact hlt) h128
        generalize (zo.map letR)[kk]'(by rw [HL.out]; exact hlt) = z at *
        clear hget
        go_wp2_with fail
        refine (index_no hT (by omega) _ hni _ hw7).mono ?_
        rintro e w8 ⟨rfl, hb8⟩
        have hB8 := hB7.trans (hb8.mono hB7.size)
        clear hw7 hB7 hb8 hown7 hcl hni
        go_wp2_with fail
        go_ret
        exact ⟨rfl, hB8⟩
      · generalize (zo.map letR)[kk]'(by rw [HL.out]; exact hlt) = z at *
        clear hget
        go_wp2_with fail
        go_ret
        exact ⟨rfl, hB7⟩
    · have hke : kk = zo.length := by omega
      have HKE : Hid (kk = zo.length) := hke
      clear hke
      go_wp2_with fail
      go_ret
      exact ⟨rfl, hB7⟩
theorem mod_nat (k : Int) (n : Nat) : ∃ kk : Nat, kk ≤ n ∧ k % ((n : Int) + 1) = kk := by
  have h1 := Int.emod_nonneg k (show (n : Int) + 1 ≠ 0 by omega)
  have h2 := Int.emod_lt_of_pos k (show 0 < (n : Int) + 1 by omega)
  exact ⟨(k % ((n : Int) + 1)).toNat, by omega, by omega⟩
theorem meet_all (o n : Value) (zo : List Int) (k : Int) (raw : ByteArray) (b : Int) (w : World) (ho : Ints w o zo) (h4 : zo.length * 4 ≤ 140737488351232) (hw : Bar w) :
    Calls Tryd.prog 6 #[.agg #[o, n, .int .i64 k, .string raw, .int .u8 b]] w fun e w' => e = .returned (.bool true) ∧ Below w.heap.size w w' := by
  obtain ⟨kk, h1, h2⟩ := mod_nat k zo.length
  exact meet_any o n zo k raw b w ho h4 hw kk h1 h2
end Go.Proofs.YtfakfmmngflbfaaDoor
