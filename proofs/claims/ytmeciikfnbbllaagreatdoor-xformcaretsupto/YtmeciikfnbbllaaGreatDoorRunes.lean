import Derived.Test.YtmeciikfnbbllaaGreatDoorRefSeq
import Derived.Test.YtmeciikfnbbllaaGreatDoorRefLet
namespace Go.Proofs.YtmeciikfnbbllaaGreatDoor
open Go.RowKit Go.Lib
theorem infoInt : (Tryz.prog.info? 3).map (fun i => (i.zero, i.size, i.bytes)) = some (some (.int .i64 0), 1, 8) := by kernel_rfl
structure Split (s : ByteArray) (rs : List Int) (rest : List UInt8) : Prop where
  bytes : s.data.toList = encs rs ++ rest
  ok : ∀ r ∈ rs, okR r
  stop : rest = [] ∨ bad rest
theorem split_any (s : ByteArray) : ∃ rs rest, Split s rs rest := by
  obtain ⟨rs, rest, e, ha, hr⟩ := split_text _ s.data.toList (Nat.le_refl _)
  exact ⟨rs, rest, e, ha, hr⟩
theorem Split.check_eq {s : ByteArray} {rs : List Int} {rest : List UInt8} (h : Split s rs rest) : check s = if rest = [] then ((rs.length : Int), 0, 0) else (0, (posOf rs rs.length : Int), faultOf rest) := by
  by_cases h0 : rest = []
  · rw [if_pos h0]
    exact check_text s rs (by rw [h.bytes, h0, List.append_nil]) h.ok
  · rw [if_neg h0, posOf_all]
    exact check_fault s rs rest h.bytes h.ok (h.stop.resolve_left h0)
theorem Split.size {s : ByteArray} {rs : List Int} {rest : List UInt8} (h : Split s rs rest) : s.size = posOf rs rs.length + rest.length := by
  rw [size_data, h.bytes, List.length_append, posOf_all]
theorem Split.drop {s : ByteArray} {rs : List Int} {rest : List UInt8} (h : Split s rs rest) (j : Nat) : s.data.toList.drop (posOf rs j) = encs (rs.drop j) ++ rest := by
  rw [h.bytes, List.drop_append_of_le_length (posOf_le rs j), posOf_drop]
theorem Split.seqAt {s : ByteArray} {rs : List Int} {rest : List UInt8} (h : Split s rs rest) (j : Nat) (hj : j < rs.length) : seq (s.data.toList.drop (posOf rs j)) = (rs[j].toNat, (encB rs[j]).length) := by
  have hv := (h.ok _ (List.getElem_mem hj)).1
  rw [h.drop, List.drop_eq_getElem_cons hj, encs_cons, List.append_assoc]
  have hb := brkL_enc rs[j] hv (encs (rs.drop (j + 1)) ++ rest)
  have hd := dec_enc rs[j] hv (encs (rs.drop (j + 1)) ++ rest)
  have hp := encB_pos rs[j]
  obtain ⟨b0, t, hbt⟩ := List.exists_cons_of_length_pos (l := encB rs[j] ++ (encs (rs.drop (j + 1)) ++ rest)) (by rw [List.length_append]; omega)
  rw [hbt] at hb hd ⊢
  rw [seq_dec, hb, if_neg (by simp), hd]
theorem Split.seqEnd {s : ByteArray} {rs : List Int} {rest : List UInt8} (h : Split s rs rest) : s.data.toList.drop (posOf rs rs.length) = rest := by
  rw [h.drop, List.drop_length]; rfl
def intsV (rs : List Int) : List Value := rs.map fun r => .int .i64 r
theorem intsV_snoc (rs : List Int) (j : Nat) (hj : j < rs.length) : intsV (rs.take j) ++ [Value.int .i64 rs[j]] = intsV (rs.take (j + 1)) := by
  rw [List.take_succ_eq_append_getElem hj]
  simp only [intsV, List.map_append, List.map_cons, List.map_nil]
theorem cell_newI (w : World) (x : Value) (t : TypeId) : ∀ j u, [x][j]? = some u → (w.alloc (.cells #[x] t)).cell? ((⟨w.heap.size, 0, none⟩ : Addr).add j) = some u := by
  intro j u hj
  match j, hj with
  | 0, hj => simp at hj; subst hj; simp [Addr.add]
theorem own_ge {w : World} {B : Nat} {e : TypeId} {size n : Nat} {v : Value} {xs : List Value} (h : w.ownsRow B e size v n xs) {g : Nat} (hg : v.ownBlock = some g) : B ≤ g := by
  rcases h.2 with ⟨rfl, _⟩ | ⟨g', cap, cur, rfl, hB, _⟩
  · simp [Value.ownBlock] at hg
  · simp [Value.ownBlock] at hg
    omega
theorem dec_width (l : List UInt8) : 1 ≤ (dec l).2 := by
  unfold dec decN
  repeat' split
  all_goals simp
set_option maxHeartbeats 2000000 in
set_option maxRecDepth 100000 in
theorem runes_any {s : ByteArray} {rs : List Int} {rest : List UInt8} (h : Split s rs rest) (hs : s.size ≤ 2097152) (w : World) :
    Calls Tryz.prog 104 #[.string s] w fun e w' => ∃ (a : Option Addr) (n cap : Nat) (p c : Int), e = .returned (.tuple #[.slice a n cap, .int .i64 p, .int .i64 c]) ∧ Below w.heap.size w w' ∧
      ((rest = [] ∧ p = 0 ∧ c = 0 ∧ n = rs.length ∧ w'.ownsRow w.heap.size 3 1 (.slice a n cap) n (intsV rs)) ∨ (¬ rest = [] ∧ n = 0 ∧ p = posOf rs rs.length ∧ c = faultOf rest)) := by
  obtain ⟨i0, hi, hz0, hz1, hz2⟩ := info_parts infoInt
  have HSZ : Hid (s.size = posOf rs rs.length + rest.length) := h.size
  have hrl : rs.length ≤ s.size := by have := posOf_ge rs rs.length (Nat.le_refl _); rw [HSZ.out]; omega
  go_enter Tryz.func104, Tryz.ntmps104
  go_wp2_with fail
  go_loopw [5, 6] (fun l i w' => ∃ (j : Nat) (a : Option Addr) (cap : Nat), j ≤ rs.length ∧ l = .slice a j cap ∧ i = .int .i64 (posOf rs j) ∧ w'.ownsRow w.heap.size 3 1 (.slice a j cap) j (intsV (rs.take j)) ∧ Below w.heap.size w w') (fun _ i _ => s.size - (intOf i).toNat)
  case atStart => exact ⟨0, none, 0, Nat.zero_le _, rfl, by rw [posOf_zero]; rfl, World.ownsRow_nil _ _ _ _, Below.refl _ _⟩
  case round =>
    obtain ⟨j, a, cap, hjl, rfl, rfl, hown, hnx⟩ := hrel
    have hsz := hnx.size
    have hple : posOf rs j ≤ s.size := by have := posOf_mono rs hjl; rw [HSZ.out]; omega
    by_cases hj : j < rs.length
    · have hplt : posOf rs j < s.size := by have := posOf_lt rs hj (Nat.le_refl _); rw [HSZ.out]; omega
      have hok := h.ok _ (List.getElem_mem hj)
      have hv := valid_le hok.1
      have HS : Hid (seq (s.data.toList.drop (posOf rs j)) = (rs[j].toNat, (encB rs[j]).length)) := h.seqAt j hj
      have HPS : Hid ((posOf rs (j + 1) : Int) = (posOf rs j : Int) + ((encB rs[j]).length : Int)) := by have := posOf_succ rs j hj; unfold Hid; omega
      have hep := encB_pos rs[j]
      have hle2 : posOf rs j + (encB rs[j]).length ≤ s.size := by
        have h1 := posOf_succ rs j hj
        have h2 := posOf_mono rs (show j + 1 ≤ rs.length by omega)
        rw [HSZ.out]; omega
      have HOK : Hid (okRune rs[j] = true) := hok.2
      have HIV : Hid (intsV (rs.take j) ++ [Value.int .i64 rs[j]] = intsV (rs.take (j + 1))) := intsV_snoc rs j hj
      have ER : Hid (((rs[j].toNat : Nat) : Int) = rs[j]) := by have := hv.1; unfold Hid; omega
      clear hok
      generalize (encB rs[j]).length = wd at *
      have t0 : ((wd : Int) == 0) = false := beq_eq_false_iff_ne.2 (by omega)
      obtain ⟨hv0, hv1, _⟩ := hv
      generalize rs[j] = r at *
      go_wp2_with fail
      refine (seq_any s (by omega) (posOf rs j) hplt _).mono ?_
      rintro e w' ⟨rfl, rfl⟩
      rw [HS.out]
      show _
      simp only
      rw [ER.out]
      go_wp2_with fail
      refine (refLet_any r hv0 hv1 _).mono ?_
      rintro e w' ⟨rfl, rfl⟩
      rw [HOK.out]
      go_wp2_with (at_builtin; refine wpList_append_own _ rfl _ _ 124 rfl w.heap.size 3 i0 (.int .i64 0) 1 8 Tryz.underlying124 hi hz0 hz1 hz2 rfl (by decide) _ _ _ rfl (hown.alloc _) ⟨_, 0, none⟩ 1 1 [.int .i64 r] rfl rfl ?c1 ?c2 ?c3 ?c4 ?c5 ?_)
      case c1 => exact cell_newI _ _ _
      case c2 => first | rfl | (intro u hu; simp at hu; subst hu; rfl)
      case c3 => unfold maxLen; omega
      case c4 => omega
      case c5 => first | omega | (simp; omega)
      intro v' w1 hown' hgrow _
      rw [HIV.out] at hown'
      have hnx' : Below w.heap.size w w1 := (hnx.alloc hsz _).grown hgrow (by simp; omega) (fun g hg => own_ge hown hg)
      obtain ⟨a', cap', rfl⟩ : ∃ a' cap', v' = .slice a' (j + 1) cap' := by
        rcases hown'.2 with ⟨_, h0⟩ | ⟨g, cap', cur, e, _⟩
        · omega
        · exact ⟨_, _, e⟩
      clear hown hgrow hnx HS
      go_wp2_with fail
      go_roundw
      case rel => exact ⟨j + 1, a', cap', by omega, rfl, by rw [HPS.out], hown', hnx'⟩
      case measure => simp [intOf]; omega
    · have hjl2 : j = rs.length := by omega
      subst hjl2
      rw [List.take_length] at hown
      by_cases hr : rest = []
      · have hend : s.size ≤ posOf rs rs.length := by rw [HSZ.out, hr]; simp
        have HR : Hid (rest = []) := hr
        clear hr
        go_wp2_with fail
        go_ret3
        exact ⟨a, _, cap, _, _, rfl, hnx, .inl ⟨HR.out, rfl, rfl, rfl, hown⟩⟩
      · have hbad := h.stop.resolve_left hr
        have hplt : posOf rs rs.length < s.size := by have := List.length_pos_iff.2 hr; rw [HSZ.out]; omega
        obtain ⟨b0, t, hbt⟩ := List.exists_cons_of_length_pos (List.length_pos_iff.2 hr)
        have HD : Hid (s.data.toList.drop (posOf rs rs.length) = rest) := h.seqEnd
        have HNR : Hid (¬ rest = []) := hr
        rcases bad_no hbad with hb | ⟨hb, hb2⟩
        · have HS : Hid (seq (s.data.toList.drop (posOf rs rs.length)) = (0, 0)) := by
            unfold Hid
            rw [HD.out, hbt, seq_dec, ← hbt, hb, if_pos rfl]
          have HF : Hid (faultOf rest = 10) := by unfold Hid faultOf; rw [if_pos hb]
          clear hbad hb hr hbt
          go_wp2_with fail
          refine (seq_any s (by omega) (posOf rs rs.length) hplt _).mono ?_
          rintro e w' ⟨rfl, rfl⟩
          rw [HS.out]
          go_wp2_with fail
          go_ret3
          exact ⟨none, 0, 0, _, _, rfl, hnx, .inr ⟨HNR.out, rfl, rfl, HF.out.symm⟩⟩
        · have hv := (enc_dec rest hr hb).1
          have hdw := dec_width rest
          have HS0 : seq (s.data.toList.drop (posOf rs rs.length)) = dec rest := by
            rw [HD.out, hbt, seq_dec, ← hbt, hb, if_neg (by simp)]
          have HF : Hid (faultOf rest = 11) := by unfold Hid faultOf; rw [hb]; rfl
          obtain ⟨r, wd, hdec⟩ : ∃ r wd, dec rest = (r, wd) := ⟨_, _, rfl⟩
          rw [hdec] at hv hdw HS0 hb2
          have HS : Hid (seq (s.data.toList.drop (posOf rs rs.length)) = (r, wd)) := HS0
          have HB2 : Hid (okRune (r : Int) = false) := hb2
          obtain ⟨hv0, hv1, _⟩ := valid_le hv
          clear hbad hb hb2 hr hbt hv HS0 hdec
          have hdw' : 1 ≤ wd := hdw
          have t0 : ((wd : Int) == 0) = false := beq_eq_false_iff_ne.2 (by omega)
          clear hdw
          go_wp2_with fail
          refine (seq_any s (by omega) (posOf rs rs.length) hplt _).mono ?_
          rintro e w' ⟨rfl, rfl⟩
          rw [HS.out]
          show _
          simp only
          go_wp2_with fail
          refine (refLet_any r hv0 hv1 _).mono ?_
          rintro e w' ⟨rfl, rfl⟩
          rw [HB2.out]
          go_wp2_with fail
          go_ret3
          exact ⟨none, 0, 0, _, _, rfl, hnx, .inr ⟨HNR.out, rfl, rfl, HF.out.symm⟩⟩
set_option maxHeartbeats 400000 in
theorem refCheck_any (s : ByteArray) (hs : s.size ≤ 2097152) (w : World) :
    Calls Tryz.prog 86 #[.string s] w fun e w' => e = .returned (.tuple #[.int .i64 (check s).1, .int .i64 (check s).2.1, .int .i64 (check s).2.2]) ∧ Below w.heap.size w w' := by
  obtain ⟨rs, rest, h⟩ := split_any s
  have HC : Hid (check s = if rest = [] then ((rs.length : Int), 0, 0) else (0, (posOf rs rs.length : Int), faultOf rest)) := h.check_eq
  go_enter Tryz.func86, Tryz.ntmps86
  go_wp2_with fail
  refine (runes_any h hs _).mono ?_
  rintro e w1 ⟨a, n, cap, p, c, rfl, hb1, hpost⟩
  have HP : Hid (check s = ((n : Int), p, c)) := by
    unfold Hid
    rw [HC.out]
    rcases hpost with ⟨h1, rfl, rfl, rfl, _⟩ | ⟨h1, rfl, rfl, rfl⟩
    · rw [if_pos h1]
    · rw [if_neg h1]; rfl
  clear hpost HC
  go_wp2_with fail
  go_ret3
  rw [HP.out]
  exact ⟨rfl, hb1⟩
end Go.Proofs.YtmeciikfnbbllaaGreatDoor
