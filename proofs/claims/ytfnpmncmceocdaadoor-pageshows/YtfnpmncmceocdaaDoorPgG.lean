import Derived.Test.YtfnpmncmceocdaaDoorPgF
/-! put, over plain data. -/
namespace Go.Proofs.YtfnpmncmceocdaaDoor
open Go.RowKit Go.Lib
set_option maxRecDepth 100000

def r6 (rs : List Int) (x : Rv) : R6 := ⟨x.lo, x.hi, (wd rs x.lo x.hi : Nat), x.hard, (posOf rs x.lo : Nat), (posOf rs x.hi : Nat)⟩
/-- A filler in memory, ahead of rune i. -/
structure FilAt (rs : List Int) (W : Nat) (w : World) (b C : Nat) (st : St) (i : Nat) (fv : Value) : Prop where
  box : w.heap[b]? = some (.cells (FiC (W : Int) fv (st.lo : Int) (i : Int) (wd rs st.lo i : Nat) false (posOf rs st.lo : Nat) (posOf rs i : Nat) (st.wlo : Int) (st.whi : Int) (wd rs st.wlo st.whi : Nat) (posOf rs st.wlo : Nat) (posOf rs st.whi : Nat)) 79)
  own : OwnF r6V 6 56 w C fv (st.full.map (r6 rs))
  bC : b < C
  Cle : C ≤ w.heap.size
theorem FilAt.below {rs : List Int} {W : Nat} {w w' : World} {b C : Nat} {st : St} {i : Nat} {fv : Value} (h : FilAt rs W w b C st i fv) (hb : Below w.heap.size w w') : FilAt rs W w' b C st i fv :=
  ⟨(hb.block _ (Array.getElem?_eq_some_iff.1 h.box).1).trans h.box, h.own.below hb, h.bC, Nat.le_trans h.Cle hb.size⟩
/-- The globals stand below b. -/
def Glob (b : Nat) : Prop := 0 < b ∧ 1 < b ∧ 2 < b
theorem PTab.chg {w w' : World} {b C : Nat} (h : PTab w) (hG : Glob b) (hbC : b < C) (hc : Chg (fun g => g = b ∨ C ≤ g) w w') : PTab w' :=
  h.keep fun g hg hl => hc.2 g hl (by obtain ⟨a, c, d⟩ := hG; rcases hg with rfl | rfl | rfl <;> omega)
/-- How many rows stand. -/
theorem ch_len : ∀ {l : List Rv} {a b : Nat}, Ch a l b → (∀ x ∈ l, x.lo ≤ x.hi ∧ (x.hard = false → x.lo < x.hi)) → l.length + a ≤ b
  | [], a, b, h, _ => by have h : a = b := h; simp; omega
  | x :: l, a, b, ⟨h1, h2⟩, hx => by
    have h3 := ch_len h2 (fun y hy => hx y (List.mem_cons_of_mem _ hy))
    obtain ⟨h4, h5⟩ := hx x (List.mem_cons_self ..)
    simp only [List.length_cons]
    cases hh : x.hard with
    | true => rw [hh] at h3; simp at h3; omega
    | false =>
      have := h5 hh
      rw [hh] at h3
      simp at h3
      omega
theorem Inv.few {rs : List Int} {W i : Nat} {st : St} (h : Inv rs W i st) : st.full.length ≤ i := by
  have h1 := ch_len h.chain (fun x hx => ⟨(h.rows x hx).le, fun e => ((h.rows x hx).soft e).1⟩)
  have := h.le
  omega
theorem Inv.more {rs : List Int} {W i : Nat} {st : St} (h : Inv rs W i st) {r : Int} (hr : rs[i]? = some r) (h10 : r ≠ 10) (hf : st.fits rs W i = false) : (st.endRow i).room rs W i = st.room rs W i ∧ st.lo < st.ended i := by
  have h2 := h.endRow hr h10 hf
  constructor
  · unfold St.room
    rw [hf]
    have hf3 : ((st.endRow i).endRow i).fits rs W i = true := by
      unfold St.fits
      rw [endRow_lo h]
      simp
    simp [hf3]
  · have := h2.chain
    have h3 := h.ended
    rcases Nat.lt_or_ge st.lo (st.ended i) with h4 | h4
    · exact h4
    · exfalso
      have h5 := (h2.rows ⟨st.lo, st.ended i, false⟩ (by simp [St.endRow])).soft rfl
      have h6 : st.lo < st.ended i := h5.1
      omega
theorem encB_len4 (r : Int) : (encB r).length ≤ 4 := by
  simp only [encB, Utf8.encode]
  repeat' split
  all_goals simp
theorem posOf_le4 (rs : List Int) (i : Nat) : posOf rs i ≤ 4 * i := by
  unfold posOf
  have h : ∀ l : List Int, (encs l).length ≤ 4 * l.length := by
    intro l
    induction l with
    | nil => simp [encs]
    | cons r l ih =>
      rw [encs_cons, List.length_append, List.length_cons]
      have := encB_len4 r
      omega
  have := h (rs.take i)
  rw [List.length_take] at this
  omega
theorem FilAt.endRow {rs : List Int} {W : Nat} {w : World} {b C : Nat} {st : St} {i : Nat} {fv : Value} (h : FilAt rs W w b C st i fv) (hI : Inv rs W i st) (hi : i ≤ 274877906944) :
    Calls Tryd.prog 50 #[.pointer (some ⟨b, 0, none⟩)] w fun e w' => ∃ fv2, e = .returned (.tuple #[]) ∧ FilAt rs W w' b C (st.endRow i) i fv2 ∧ Chg (fun g => g = b ∨ C ≤ g) w w' := by
  have hwd : ∀ a c, c ≤ i → wd rs a c ≤ 1099511627776 := fun a c hc => by have := wd_le rs a c; omega
  have hfew := hI.few
  have hsub := hI.sub
  by_cases hw : st.lo < st.whi
  · obtain ⟨w1, w2, _⟩ := hI.word hw
    have he : st.ended i = st.whi := by unfold St.ended; rw [if_pos hw]
    rw [he] at hsub
    refine (endRow_word h.box h.own h.bC h.Cle (by rw [List.length_map]; omega) ⟨by omega, by have := hwd st.lo i (Nat.le_refl _); omega, by omega, by have := hwd st.wlo st.whi w2; omega⟩ (by omega)).mono ?_
    rintro e w' ⟨fv2, rfl, h1, h2, h3⟩
    refine ⟨fv2, rfl, ⟨?_, ?_, h.bC, Nat.le_trans h.Cle h3.size⟩, h3⟩
    · rw [h1]
      show _ = some (Obj.cells (FiC (W : Int) fv2 (st.ended i : Int) (i : Int) (wd rs (st.ended i) i : Nat) false (posOf rs (st.ended i) : Nat) (posOf rs i : Nat) (st.wlo : Int) (st.whi : Int) (wd rs st.wlo st.whi : Nat) (posOf rs st.wlo : Nat) (posOf rs st.whi : Nat)) _)
      rw [he, w1, show ((wd rs st.lo i : Nat) : Int) - (wd rs st.lo st.whi : Nat) = (wd rs st.whi i : Nat) by omega]
    · rw [show (st.endRow i).full = st.full ++ [⟨st.lo, st.ended i, false⟩] from rfl, List.map_append, he]
      have : (r6 rs ⟨st.lo, st.whi, false⟩ : R6) = ⟨st.wlo, st.whi, (wd rs st.wlo st.whi : Nat), false, (posOf rs st.wlo : Nat), (posOf rs st.whi : Nat)⟩ := by rw [w1]; rfl
      rw [show List.map (r6 rs) [⟨st.lo, st.whi, false⟩] = [r6 rs ⟨st.lo, st.whi, false⟩] from rfl, this]
      exact h2
  · have he : st.ended i = i := by unfold St.ended; rw [if_neg hw]
    refine (endRow_all h.box h.own h.bC h.Cle (by rw [List.length_map]; omega) (by omega)).mono ?_
    rintro e w' ⟨fv2, rfl, h1, h2, h3⟩
    refine ⟨fv2, rfl, ⟨?_, ?_, h.bC, Nat.le_trans h.Cle h3.size⟩, h3⟩
    · rw [h1]
      show _ = some (Obj.cells (FiC (W : Int) fv2 (st.ended i : Int) (i : Int) (wd rs (st.ended i) i : Nat) false (posOf rs (st.ended i) : Nat) (posOf rs i : Nat) (st.wlo : Int) (st.whi : Int) (wd rs st.wlo st.whi : Nat) (posOf rs st.wlo : Nat) (posOf rs st.whi : Nat)) _)
      rw [he, wd_self]
      rfl
    · rw [show (st.endRow i).full = st.full ++ [⟨st.lo, st.ended i, false⟩] from rfl, List.map_append, he]
      exact h2
theorem FilAt.fits {rs : List Int} {W : Nat} {w : World} {b C : Nat} {st : St} {i : Nat} {fv : Value} (h : FilAt rs W w b C st i fv) (hI : Inv rs W i st) (hi : i ≤ 274877906944) (hP : PTab w) {r : Int} (hr : rs[i]? = some r) :
    Calls Tryd.prog 49 #[.pointer (some ⟨b, 0, none⟩), .int .i32 r] w fun e w' => e = .returned (.bool (st.fits rs W i)) ∧ Below w.heap.size w w' := by
  have h1 := wd_le rs st.lo i
  refine (fits_any hP h.box r (by omega) (by omega)).mono ?_
  rintro e w' ⟨rfl, hb⟩
  refine ⟨?_, hb⟩
  obtain ⟨hl, hrr⟩ := List.getElem?_eq_some_iff.1 hr
  have h2 := wd_succ rs hI.le hl
  rw [hrr] at h2
  unfold St.fits
  rw [h2]
  congr 2
  rw [Bool.eq_iff_iff, decide_eq_true_eq, decide_eq_true_eq]
  simp only [Int.toNat_natCast]
  omega
set_option maxHeartbeats 16000000 in
theorem put_st {rs : List Int} {W : Nat} {w : World} {b C : Nat} {st : St} {i : Nat} {fv : Value} (h : FilAt rs W w b C st i fv) (hI : Inv rs W i st) (hi : i ≤ 274877906944) (hP : PTab w) (hG : Glob b) {r : Int} (hr : rs[i]? = some r) (h10 : r ≠ 10) (hok : okR r) :
    Calls Tryd.prog 36 #[.pointer (some ⟨b, 0, none⟩), .int .i32 r] w fun e w' => ∃ fv2, e = .returned (.tuple #[]) ∧ FilAt rs W w' b C ((st.room rs W i).took r i) (i + 1) fv2 ∧ Chg (fun g => g = b ∨ C ≤ g) w w' := by
  have HP : Hid (∀ V, Chg (fun g => g = b ∨ C ≤ g) w V → PTab V) := fun V hV => hP.chg hG h.bC hV
  have HR : Hid (rs[i]? = some r ∧ r ≠ 10 ∧ okR r ∧ i ≤ 274877906944) := ⟨hr, h10, hok, hi⟩
  have HI : Hid (FilAt rs W w b C st i fv ∧ Inv rs W i st) := ⟨h, hI⟩
  clear hP hG hr h10 hok hi h hI
  go_enter Tryd.func36, Tryd.ntmps36
  go_wp2_with fail
  go_loopw [] (fun wr => ∃ st2 fv2, Hid (FilAt rs W wr b C st2 i fv2 ∧ Inv rs W i st2 ∧ st2.room rs W i = st.room rs W i ∧ Chg (fun g => g = b ∨ C ≤ g) w wr)) (fun wr => i - (intOf ((wr.cell? ⟨b, 2, none⟩).getD undef)).toNat)
  case atStart => exact ⟨st, fv, HI.out.1, HI.out.2, rfl, Chg.refl _ _⟩
  case round =>
    clear HI
    obtain ⟨st2, fv2, HS⟩ := hrel
    have hP := HP.out _ HS.out.2.2.2
    have HFit := HS.out.1.fits HS.out.2.1 HR.out.2.2.2 hP HR.out.1
    obtain ⟨F, hF⟩ : ∃ F, st2.fits rs W i = F := ⟨_, rfl⟩
    rw [hF] at HFit
    have HFF : Hid (st2.fits rs W i = F) := hF
    clear hF hP
    cases F with
    | false =>
      go_wp2_with fail
      refine HFit.mono ?_
      rintro e w1 ⟨rfl, hb1⟩
      have HE := (HS.out.1.below hb1).endRow HS.out.2.1 HR.out.2.2.2
      have HB1 : Hid (Below wr.heap.size wr w1) := hb1
      clear hb1 HFit
      go_wp2_with fail
      refine HE.mono ?_
      rintro e w2 ⟨fv3, rfl, h1, h2⟩
      have hm := HS.out.2.1.more HR.out.1 HR.out.2.1 HFF.out
      have hl := HS.out.2.1.ended
      have HN : Hid ((∃ st2 fv2, Hid (FilAt rs W w2 b C st2 i fv2 ∧ Inv rs W i st2 ∧ st2.room rs W i = st.room rs W i ∧ Chg (fun g => g = b ∨ C ≤ g) w w2)) ∧ i - (intOf ((w2.cell? ⟨b, 2, none⟩).getD undef)).toNat < i - (intOf ((wr.cell? ⟨b, 2, none⟩).getD undef)).toNat) := by
        refine ⟨⟨st2.endRow i, fv3, h1, HS.out.2.1.endRow HR.out.1 HR.out.2.1 HFF.out, hm.1.trans HS.out.2.2.1, (HS.out.2.2.2.trans (Chg.of_below HB1.out)).trans h2⟩, ?_⟩
        rw [(box14 h1.box).2.2.1, (box14 HS.out.1.box).2.2.1]
        have h3 : (st2.endRow i).lo = st2.ended i := rfl
        rw [h3]
        simp [intOf]
        omega
      clear hm hl h1 h2 HE
      go_wp2_with fail
      exact HN.out
    | true =>
      have hroom : st2.room rs W i = st2 := by unfold St.room; rw [if_pos HFF.out]
      have hI2 := HS.out.2.1.took HR.out.1 HR.out.2.1 HFF.out
      obtain ⟨hl, hrr⟩ := List.getElem?_eq_some_iff.1 HR.out.1
      have hws := wd_succ rs HS.out.2.1.le hl
      have hps := posOf_succ rs i hl
      rw [hrr] at hws hps
      have hbd := wd_le rs st2.lo i
      have hpb := posOf_le4 rs i
      have hel : (encB r).length ≤ 4 := encB_le r HR.out.2.2.1
      have hcn := colN_le r (wd rs st2.lo i)
      have hiB := HR.out.2.2.2
      have HYes0 : ∀ V, Mem0 w b C (st2.full.map (r6 rs)) V fv2 (FiC (W : Int) fv2 (st2.lo : Int) ((i : Int) + 1) ((wd rs st2.lo i : Nat) + (colN r (wd rs st2.lo i) : Nat)) false (posOf rs st2.lo : Nat) ((posOf rs i : Nat) + ((encB r).length : Nat)) (st2.lo : Int) ((i : Int) + 1) ((wd rs st2.lo i : Nat) + (colN r (wd rs st2.lo i) : Nat)) (posOf rs st2.lo : Nat) ((posOf rs i : Nat) + ((encB r).length : Nat))) → blankR r = true →
          ∃ fv3, Ending.returned (.tuple #[]) = .returned (.tuple #[]) ∧ FilAt rs W V b C ((st.room rs W i).took r i) (i + 1) fv3 ∧ Chg (fun g => g = b ∨ C ≤ g) w V := fun V M hb => by
        rw [← HS.out.2.2.1, hroom]
        have e : st2.took r i = { st2 with wlo := st2.lo, whi := i + 1 } := by unfold St.took; rw [if_pos hb]
        rw [e]
        refine ⟨fv2, rfl, ⟨?_, M.own, M.bC, M.Cle⟩, M.chg⟩
        rw [M.box]
        simp only [hws, hps]
        rfl
      have HNo0 : ∀ V, Mem0 w b C (st2.full.map (r6 rs)) V fv2 (FiC (W : Int) fv2 (st2.lo : Int) ((i : Int) + 1) ((wd rs st2.lo i : Nat) + (colN r (wd rs st2.lo i) : Nat)) false (posOf rs st2.lo : Nat) ((posOf rs i : Nat) + ((encB r).length : Nat)) (st2.wlo : Int) (st2.whi : Int) (wd rs st2.wlo st2.whi : Nat) (posOf rs st2.wlo : Nat) (posOf rs st2.whi : Nat)) → blankR r = false →
          ∃ fv3, Ending.returned (.tuple #[]) = .returned (.tuple #[]) ∧ FilAt rs W V b C ((st.room rs W i).took r i) (i + 1) fv3 ∧ Chg (fun g => g = b ∨ C ≤ g) w V := fun V M hb => by
        rw [← HS.out.2.2.1, hroom]
        have e : st2.took r i = st2 := by unfold St.took; rw [hb]; rfl
        rw [e]
        refine ⟨fv2, rfl, ⟨?_, M.own, M.bC, M.Cle⟩, M.chg⟩
        rw [M.box]
        simp only [hws, hps]
        rfl
      have HCL0 : ∀ V, Chg (fun g => g = b ∨ C ≤ g) w V → Calls Tryd.prog 11 #[.int .i32 r, .int .i64 (wd rs st2.lo i : Nat)] V fun e w' => e = .returned (.int .i64 (colN r (wd rs st2.lo i) : Nat)) ∧ Below V.heap.size V w' := fun V hV => by
        have := Cols_any (HP.out V hV) r (wd rs st2.lo i : Nat)
        rw [show (max ((wd rs st2.lo i : Nat) : Int) 0).toNat = wd rs st2.lo i by omega] at this
        exact this
      have HRl : Hid (∀ V, Calls Tryd.prog 51 #[.int .i32 r] V fun e w' => e = .returned (.int .i64 ((encB r).length : Nat)) ∧ w' = V) := fun V => runeLen_any HR.out.2.2.1 V
      have hM := HS.out.1
      have hC0 := HS.out.2.2.2
      clear hws hps hrr hl hI2 hroom
      obtain ⟨lo, elo⟩ : ∃ n : Int, (st2.lo : Int) = n := ⟨_, rfl⟩
      obtain ⟨cols, ecols⟩ : ∃ n : Int, ((wd rs st2.lo i : Nat) : Int) = n := ⟨_, rfl⟩
      obtain ⟨cn, ecn⟩ : ∃ n : Int, ((colN r (wd rs st2.lo i) : Nat) : Int) = n := ⟨_, rfl⟩
      obtain ⟨ln, eln⟩ : ∃ n : Int, (((encB r).length : Nat) : Int) = n := ⟨_, rfl⟩
      obtain ⟨fr, efr⟩ : ∃ n : Int, ((posOf rs st2.lo : Nat) : Int) = n := ⟨_, rfl⟩
      obtain ⟨tt, ett⟩ : ∃ n : Int, ((posOf rs i : Nat) : Int) = n := ⟨_, rfl⟩
      obtain ⟨hi, ehi⟩ : ∃ n : Int, (i : Int) = n := ⟨_, rfl⟩
      obtain ⟨WW, eW⟩ : ∃ n : Int, (W : Int) = n := ⟨_, rfl⟩
      obtain ⟨wlo, ewlo⟩ : ∃ n : Int, (st2.wlo : Int) = n := ⟨_, rfl⟩
      obtain ⟨whi, ewhi⟩ : ∃ n : Int, (st2.whi : Int) = n := ⟨_, rfl⟩
      obtain ⟨wcols, ewc⟩ : ∃ n : Int, ((wd rs st2.wlo st2.whi : Nat) : Int) = n := ⟨_, rfl⟩
      obtain ⟨wfr, ewfr⟩ : ∃ n : Int, ((posOf rs st2.wlo : Nat) : Int) = n := ⟨_, rfl⟩
      obtain ⟨wto, ewto⟩ : ∃ n : Int, ((posOf rs st2.whi : Nat) : Int) = n := ⟨_, rfl⟩
      have g1 : IntKind.i64.wrap (cols + cn) = cols + cn := IntWalk.i64_in _ (by omega)
      have g2 : IntKind.i64.wrap (tt + ln) = tt + ln := IntWalk.i64_in _ (by omega)
      have g3 : IntKind.i64.wrap (hi + 1) = hi + 1 := IntWalk.i64_in _ (by omega)
      have m0 : Mem0 w b C (st2.full.map (r6 rs)) wr fv2 (FiC WW fv2 lo hi cols false fr tt wlo whi wcols wfr wto) := by
        refine ⟨?_, hM.own, hC0, hM.bC, hM.Cle⟩
        rw [hM.box, elo, ecols, efr, ett, ehi, eW, ewlo, ewhi, ewc, ewfr, ewto]
      rw [elo, ecols, ecn, eln, efr, ett, ehi, eW] at HYes0
      rw [elo, ecols, ecn, eln, efr, ett, ehi, eW, ewlo, ewhi, ewc, ewfr, ewto] at HNo0
      rw [ecols, ecn] at HCL0
      rw [eln] at HRl
      unfold FiC at m0 HYes0 HNo0
      obtain ⟨L, eL⟩ : ∃ L, st2.full.map (r6 rs) = L := ⟨_, rfl⟩
      rw [eL] at m0 HYes0 HNo0
      have HBl : Hid (∀ V, Calls Tryd.prog 52 #[.int .i32 r] V fun e w' => e = .returned (.bool (blankR r)) ∧ w' = V) := fun V => blank_any r V
      clear elo ecols ecn eln efr ett ehi ewlo ewhi ewc ewfr ewto eL hM hC0 HS HFF hbd hpb hel hcn hiB HR eW
      obtain ⟨W', hW'⟩ : ∃ n : Int, WW = n := ⟨_, rfl⟩
      subst hW'
      go_wp2_with fail
      refine HFit.mono ?_
      rintro e w1 ⟨rfl, hb1⟩
      have m1 := m0.below hb1
      have HCL : Hid (∀ V, Below w1.heap.size w1 V → Calls Tryd.prog 11 #[.int .i32 r, .int .i64 cols] V fun e w' => e = .returned (.int .i64 cn) ∧ Below V.heap.size V w') := fun V hV => HCL0 V (m1.chg.trans (Chg.of_below hV))
      clear HCL0 m0 hb1 HFit HP
      cases hbr : blankR r
      all_goals rw [hbr] at HBl
      · have HYes : Hid True := trivial
        have HNo : Hid (∀ V, Mem0 w b C L V fv2 _ → _) := fun V M => HNo0 V M hbr
        clear HYes0 HNo0 hbr
        go_wp2_with fail
        obtain ⟨w4, hw4⟩ : ∃ V, w1.drew = V := ⟨_, rfl⟩
        have hb4 : Below w1.heap.size w1 w4 := by rw [← hw4]; exact (Below.refl _ _).drew
        have HCol := HCL.out _ hb4
        have m4 := m1.below hb4
        clear m1 hb4
        obtain ⟨c0, c1, c2, c3, c4, c5, c6, c7, c8, c9, c10, c11, c12, c13⟩ := box14 m4.box
        refine wp_region_E (S := (fun v => v.cell? ⟨b, 4, none⟩ = some (.int .i64 cols))) (E := [19]) (by kernel_rfl) ?_
        rw [hw4]
        clear hw4
        refine takeE (i := 0) (d := some 10) (v := ?vT1) rfl rfl (by kernel_rfl) (by kernel_rfl) (by kernel_rfl) (by kernel_rfl) (fun _ _ _ h => h) (Or.inl ⟨by rfl, ?hyT1⟩) c4 ?rstT1
        case hyT1 => (intro w hSw; (try dsimp only at hSw); skip; go_simp; (try with_reducible rfl))
        try simp only [Act.put, List.setIfInBounds_toArray, List.set_cons_zero, List.set_cons_succ]
        refine takeE (i := 1) (d := some 11) (v := ?vT2) rfl rfl (by kernel_rfl) (by kernel_rfl) (by kernel_rfl) (by kernel_rfl) (fun _ _ _ h => h) (Or.inl ⟨by rfl, ?hyT2⟩) c4 ?rstT2
        case hyT2 => (intro w hSw; (try dsimp only at hSw); skip; go_simp; (try with_reducible rfl))
        try simp only [Act.put, List.setIfInBounds_toArray, List.set_cons_zero, List.set_cons_succ]
        refine takeE (i := 2) (d := some 12) (v := ?vT3) rfl rfl (by kernel_rfl) (by kernel_rfl) (by kernel_rfl) (by kernel_rfl) (fun _ _ _ h => h) (Or.inl ⟨by rfl, ?hyT3⟩) c4 ?rstT3
        case hyT3 => (intro w hSw; (try dsimp only at hSw); skip; go_simp; (try with_reducible rfl))
        try simp only [Act.put, List.setIfInBounds_toArray, List.set_cons_zero, List.set_cons_succ]
        refine takeE (i := 3) (d := some 13) (v := ?vT4) rfl rfl (by kernel_rfl) (by kernel_rfl) (by kernel_rfl) (by kernel_rfl) (fun _ _ _ h => h) (Or.inl ⟨by rfl, ?hyT4⟩) c4 ?rstT4
        case hyT4 => (intro w hSw; (try dsimp only at hSw); skip; go_simp; (try with_reducible rfl))
        try simp only [Act.put, List.setIfInBounds_toArray, List.set_cons_zero, List.set_cons_succ]
        refine takeE (i := 4) (d := some 14) (v := ?vT5) rfl rfl (by kernel_rfl) (by kernel_rfl) (by kernel_rfl) (by kernel_rfl) (fun _ _ _ h => h) (Or.inl ⟨by rfl, ?hyT5⟩) c4 ?rstT5
        case hyT5 => (intro w hSw; (try dsimp only at hSw); skip; go_simp; (try with_reducible rfl))
        try simp only [Act.put, List.setIfInBounds_toArray, List.set_cons_zero, List.set_cons_succ]
        refine takeE (i := 5) (d := some 15) (v := ?vT6) rfl rfl (by kernel_rfl) (by kernel_rfl) (by kernel_rfl) (by kernel_rfl) (fun _ _ _ h => h) (Or.inl ⟨by rfl, ?hyT6⟩) c4 ?rstT6
        case hyT6 => (intro w hSw; (try dsimp only at hSw); skip; go_simp; (try with_reducible rfl))
        try simp only [Act.put, List.setIfInBounds_toArray, List.set_cons_zero, List.set_cons_succ]
        refine takeE (i := 6) (d := some 16) (v := ?vT7) rfl rfl (by kernel_rfl) (by kernel_rfl) (by kernel_rfl) (by kernel_rfl) (fun _ _ _ h => h) (Or.inl ⟨by rfl, ?hyT7⟩) c4 ?rstT7
        case hyT7 => (intro w hSw; (try dsimp only at hSw); skip; go_simp; (try with_reducible rfl))
        try simp only [Act.put, List.setIfInBounds_toArray, List.set_cons_zero, List.set_cons_succ]
        refine takeE (i := 7) (d := some 17) (v := ?vT8) rfl rfl (by kernel_rfl) (by kernel_rfl) (by kernel_rfl) (by kernel_rfl) (fun _ _ _ h => h) (Or.inl ⟨by rfl, ?hyT8⟩) c4 ?rstT8
        case hyT8 => (intro w hSw; (try dsimp only at hSw); skip; go_simp; (try with_reducible rfl))
        try simp only [Act.put, List.setIfInBounds_toArray, List.set_cons_zero, List.set_cons_succ]
        refine takeE (i := 8) (d := some 18) (v := ?vT9) rfl rfl (by kernel_rfl) (by kernel_rfl) (by kernel_rfl) (by kernel_rfl) (fun _ _ _ h => h) (Or.inl ⟨by rfl, ?hyT9⟩) c4 ?rstT9
        case hyT9 => (intro w hSw; (try dsimp only at hSw); skip; go_simp; (try with_reducible rfl))
        try simp only [Act.put, List.setIfInBounds_toArray, List.set_cons_zero, List.set_cons_succ]
        refine takeE (i := 9) (d := some 19) (v := ?vT10) rfl rfl (by kernel_rfl) (by kernel_rfl) (by kernel_rfl) (by kernel_rfl) (fun _ _ _ h => h) (Or.inl ⟨by rfl, ?hyT10⟩) c4 ?rstT10
        case hyT10 => (intro w hSw; (try dsimp only at hSw); skip; go_simp; (try with_reducible rfl))
        try simp only [Act.put, List.setIfInBounds_toArray, List.set_cons_zero, List.set_cons_succ]
        refine takeE (i := 10) (d := some 20) (v := ?vT11) rfl rfl (by kernel_rfl) (by kernel_rfl) (by kernel_rfl) (by kernel_rfl) (fun _ _ _ h => h) (Or.inl ⟨by rfl, ?hyT11⟩) c4 ?rstT11
        case hyT11 => (intro w hSw; (try dsimp only at hSw); skip; go_simp; (try with_reducible rfl))
        try simp only [Act.put, List.setIfInBounds_toArray, List.set_cons_zero, List.set_cons_succ]
        refine takeE (i := 11) (d := some 21) (v := ?vT12) rfl rfl (by kernel_rfl) (by kernel_rfl) (by kernel_rfl) (by kernel_rfl) (fun _ _ _ h => h) (Or.inl ⟨by rfl, ?hyT12⟩) c4 ?rstT12
        case hyT12 => (intro w hSw; (try dsimp only at hSw); skip; go_simp; (try with_reducible rfl))
        try simp only [Act.put, List.setIfInBounds_toArray, List.set_cons_zero, List.set_cons_succ]
        refine takeE (i := 12) (d := some 22) (v := ?vT13) rfl rfl (by kernel_rfl) (by kernel_rfl) (by kernel_rfl) (by kernel_rfl) (fun _ _ _ h => h) (Or.inl ⟨by rfl, ?hyT13⟩) c4 ?rstT13
        case hyT13 => (intro w hSw; (try dsimp only at hSw); skip; go_simp; (try with_reducible rfl))
        try simp only [Act.put, List.setIfInBounds_toArray, List.set_cons_zero, List.set_cons_succ]
        refine oneE (i := 13) (by kernel_rfl) rfl (fun K hK => ?_)
        go_simp
        refine HCol.mono ?_
        rintro e w5 ⟨rfl, hb5⟩
        clear HCol
        have m5 := m4.below hb5
        have HB5 : Hid (Below w4.heap.size w4 w5) := hb5
        clear hb5 m4
        obtain ⟨d0, d1, d2, d3, d4, d5, d6, d7, d8, d9, d10, d11, d12, d13⟩ := box14 m5.box
        obtain ⟨z0, z1, z2, z3, z4, z5, z6, z7, z8, z9, z10, z11, z12, z13⟩ := wr14 m5.box
        obtain ⟨w6, hw6, e6, k6⟩ := store1 m5.box 4 (.int .i64 (cols + cn))
        have m6 : Mem0 w b C L w6 fv2 #[.int .i64 WW, fv2, .int .i64 lo, .int .i64 hi, .int .i64 (cols + cn), .bool false, .int .i64 fr, .int .i64 tt, .int .i64 wlo, .int .i64 whi, .int .i64 wcols, .bool false, .int .i64 wfr, .int .i64 wto] := m5.setB k6 e6
        clear e6 k6 m5
        dsimp only
        refine hK.out _ _ ?hS14 ?rest14
        case hS14 => exact fun _ => d4
        clear hK K
        try simp only [Act.put, List.setIfInBounds_toArray, List.set_cons_zero, List.set_cons_succ]
        refine oneE (i := 14) (by kernel_rfl) rfl (fun K hK => ?_)
        go_simp
        refine hK.out _ _ ?hS15 ?rest15
        case hS15 => exact fun _ => d4
        clear hK K
        try simp only [Act.put, List.setIfInBounds_toArray, List.set_cons_zero, List.set_cons_succ]
        refine oneE (i := 15) (by kernel_rfl) rfl (fun K hK => ?_)
        go_simp
        refine hK.out _ _ ?hS16 ?rest16
        case hS16 => exact fun _ => d4
        clear hK K
        try simp only [Act.put, List.setIfInBounds_toArray, List.set_cons_zero, List.set_cons_succ]
        refine oneE (i := 16) (by kernel_rfl) rfl (fun K hK => ?_)
        go_simp
        refine hK.out _ _ ?hS17 ?rest17
        case hS17 => exact fun _ => d4
        clear hK K
        try simp only [Act.put, List.setIfInBounds_toArray, List.set_cons_zero, List.set_cons_succ]
        refine oneE (i := 17) (by kernel_rfl) rfl (fun K hK => ?_)
        go_simp
        refine hK.out _ _ ?hS18 ?rest18
        case hS18 => exact fun _ => d4
        clear hK K
        try simp only [Act.put, List.setIfInBounds_toArray, List.set_cons_zero, List.set_cons_succ]
        refine oneE (i := 18) (by kernel_rfl) rfl (fun K hK => ?_)
        go_simp
        refine hK.out _ _ ?hS19 ?rest19
        case hS19 => exact fun _ => d4
        clear hK K
        try simp only [Act.put, List.setIfInBounds_toArray, List.set_cons_zero, List.set_cons_succ]
        refine oneE (i := 19) (by kernel_rfl) rfl (fun K hK => ?_)
        go_simp
        refine hK.out _ _ ?hS20 ?rest20
        case hS20 => exact fun e => absurd e (by decide)
        clear hK K
        try simp only [Act.put, List.setIfInBounds_toArray, List.set_cons_zero, List.set_cons_succ]
        refine doneE (by kernel_rfl) ?_ _
        try simp only [hw6]
        clear hw6 c0 c1 c2 c3 c4 c5 c6 c7 c8 c9 c10 c11 c12 c13 d0 d1 d2 d3 d4 d5 d6 d7 d8 d9 d10 d11 d12 d13 z0 z1 z2 z3 z4 z5 z6 z7 z8 z9 z10 z11 z12 z13
        clear HB5
        obtain ⟨c0, c1, c2, c3, c4, c5, c6, c7, c8, c9, c10, c11, c12, c13⟩ := box14 m6.box
        obtain ⟨z0, z1, z2, z3, z4, z5, z6, z7, z8, z9, z10, z11, z12, z13⟩ := wr14 m6.box
        obtain ⟨w7, hw7, e7, k7⟩ := store1 m6.box 3 (.int .i64 (hi + 1))
        have m7 : Mem0 w b C L w7 fv2 #[.int .i64 WW, fv2, .int .i64 lo, .int .i64 (hi + 1), .int .i64 (cols + cn), .bool false, .int .i64 fr, .int .i64 tt, .int .i64 wlo, .int .i64 whi, .int .i64 wcols, .bool false, .int .i64 wfr, .int .i64 wto] := m6.setB k7 e7
        clear e7 k7 m6
        go_wp2_with fail
        try simp only [hw7]
        clear hw7 c0 c1 c2 c3 c4 c5 c6 c7 c8 c9 c10 c11 c12 c13 z0 z1 z2 z3 z4 z5 z6 z7 z8 z9 z10 z11 z12 z13
        obtain ⟨w8, hw8⟩ : ∃ V, w7.drew = V := ⟨_, rfl⟩
        have m8 := m7.below (V' := w8) (by rw [← hw8]; exact (Below.refl _ _).drew)
        clear m7
        obtain ⟨c0, c1, c2, c3, c4, c5, c6, c7, c8, c9, c10, c11, c12, c13⟩ := box14 m8.box
        obtain ⟨z0, z1, z2, z3, z4, z5, z6, z7, z8, z9, z10, z11, z12, z13⟩ := wr14 m8.box
        have HRL := HRl.out w8
        obtain ⟨w9, hw9, e9, k9⟩ := store1 m8.box 7 (.int .i64 (tt + ln))
        have m9 : Mem0 w b C L w9 fv2 #[.int .i64 WW, fv2, .int .i64 lo, .int .i64 (hi + 1), .int .i64 (cols + cn), .bool false, .int .i64 fr, .int .i64 (tt + ln), .int .i64 wlo, .int .i64 whi, .int .i64 wcols, .bool false, .int .i64 wfr, .int .i64 wto] := m8.setB k9 e9
        clear e9 k9 m8
        refine wp_region_E (S := (fun v => v.cell? ⟨b, 7, none⟩ = some (.int .i64 tt))) (E := [11]) (by kernel_rfl) ?_
        rw [hw8]
        clear hw8
        refine takeE (i := 0) (d := some 40) (v := ?vT21) rfl rfl (by kernel_rfl) (by kernel_rfl) (by kernel_rfl) (by kernel_rfl) (fun _ _ _ h => h) (Or.inl ⟨by rfl, ?hyT21⟩) c7 ?rstT21
        case hyT21 => (intro w hSw; (try dsimp only at hSw); skip; go_simp; (try with_reducible rfl))
        try simp only [Act.put, List.setIfInBounds_toArray, List.set_cons_zero, List.set_cons_succ]
        refine takeE (i := 1) (d := some 41) (v := ?vT22) rfl rfl (by kernel_rfl) (by kernel_rfl) (by kernel_rfl) (by kernel_rfl) (fun _ _ _ h => h) (Or.inl ⟨by rfl, ?hyT22⟩) c7 ?rstT22
        case hyT22 => (intro w hSw; (try dsimp only at hSw); skip; go_simp; (try with_reducible rfl))
        try simp only [Act.put, List.setIfInBounds_toArray, List.set_cons_zero, List.set_cons_succ]
        refine takeE (i := 2) (d := some 42) (v := ?vT23) rfl rfl (by kernel_rfl) (by kernel_rfl) (by kernel_rfl) (by kernel_rfl) (fun _ _ _ h => h) (Or.inl ⟨by rfl, ?hyT23⟩) c7 ?rstT23
        case hyT23 => (intro w hSw; (try dsimp only at hSw); skip; go_simp; (try with_reducible rfl))
        try simp only [Act.put, List.setIfInBounds_toArray, List.set_cons_zero, List.set_cons_succ]
        refine takeE (i := 3) (d := some 43) (v := ?vT24) rfl rfl (by kernel_rfl) (by kernel_rfl) (by kernel_rfl) (by kernel_rfl) (fun _ _ _ h => h) (Or.inl ⟨by rfl, ?hyT24⟩) c7 ?rstT24
        case hyT24 => (intro w hSw; (try dsimp only at hSw); skip; go_simp; (try with_reducible rfl))
        try simp only [Act.put, List.setIfInBounds_toArray, List.set_cons_zero, List.set_cons_succ]
        refine takeE (i := 4) (d := some 44) (v := ?vT25) rfl rfl (by kernel_rfl) (by kernel_rfl) (by kernel_rfl) (by kernel_rfl) (fun _ _ _ h => h) (Or.inl ⟨by rfl, ?hyT25⟩) c7 ?rstT25
        case hyT25 => (intro w hSw; (try dsimp only at hSw); skip; go_simp; (try with_reducible rfl))
        try simp only [Act.put, List.setIfInBounds_toArray, List.set_cons_zero, List.set_cons_succ]
        refine takeE (i := 5) (d := some 45) (v := ?vT26) rfl rfl (by kernel_rfl) (by kernel_rfl) (by kernel_rfl) (by kernel_rfl) (fun _ _ _ h => h) (Or.inl ⟨by rfl, ?hyT26⟩) c7 ?rstT26
        case hyT26 => (intro w hSw; (try dsimp only at hSw); skip; go_simp; (try with_reducible rfl))
        try simp only [Act.put, List.setIfInBounds_toArray, List.set_cons_zero, List.set_cons_succ]
        refine oneE (i := 6) (by kernel_rfl) rfl (fun K hK => ?_)
        go_simp
        refine HRL.mono ?_
        rintro e w' ⟨rfl, hwe⟩
        obtain rfl := hwe.symm
        clear hwe HRL
        dsimp only
        refine hK.out _ _ ?hS27 ?rest27
        case hS27 => exact fun _ => c7
        clear hK K
        try simp only [Act.put, List.setIfInBounds_toArray, List.set_cons_zero, List.set_cons_succ]
        refine oneE (i := 7) (by kernel_rfl) rfl (fun K hK => ?_)
        go_simp
        refine hK.out _ _ ?hS28 ?rest28
        case hS28 => exact fun _ => c7
        clear hK K
        try simp only [Act.put, List.setIfInBounds_toArray, List.set_cons_zero, List.set_cons_succ]
        refine oneE (i := 8) (by kernel_rfl) rfl (fun K hK => ?_)
        go_simp
        refine hK.out _ _ ?hS29 ?rest29
        case hS29 => exact fun _ => c7
        clear hK K
        try simp only [Act.put, List.setIfInBounds_toArray, List.set_cons_zero, List.set_cons_succ]
        refine oneE (i := 9) (by kernel_rfl) rfl (fun K hK => ?_)
        go_simp
        refine hK.out _ _ ?hS30 ?rest30
        case hS30 => exact fun _ => c7
        clear hK K
        try simp only [Act.put, List.setIfInBounds_toArray, List.set_cons_zero, List.set_cons_succ]
        refine oneE (i := 10) (by kernel_rfl) rfl (fun K hK => ?_)
        go_simp
        refine hK.out _ _ ?hS31 ?rest31
        case hS31 => exact fun _ => c7
        clear hK K
        try simp only [Act.put, List.setIfInBounds_toArray, List.set_cons_zero, List.set_cons_succ]
        refine oneE (i := 11) (by kernel_rfl) rfl (fun K hK => ?_)
        go_simp
        refine hK.out _ _ ?hS32 ?rest32
        case hS32 => exact fun e => absurd e (by decide)
        clear hK K
        try simp only [Act.put, List.setIfInBounds_toArray, List.set_cons_zero, List.set_cons_succ]
        refine doneE (by kernel_rfl) ?_ _
        try simp only [hw9]
        clear hw9 c0 c1 c2 c3 c4 c5 c6 c7 c8 c9 c10 c11 c12 c13 z0 z1 z2 z3 z4 z5 z6 z7 z8 z9 z10 z11 z12 z13
        go_wp2_with fail
        refine (HBl.out w9).mono ?_
        rintro e w' ⟨rfl, hwe⟩
        obtain rfl := hwe.symm
        clear hwe
        clear HYes
        go_wp2_with fail
        refine bodyPost_end (v := .tuple #[]) (by simp [results, Tryd.results36, go_sem]) rfl ?_
        obtain ⟨f3, -, h1, h2⟩ := HNo.out _ m9
        exact ⟨f3, rfl, h1, h2⟩
      · have HNo : Hid True := trivial
        have HYes : Hid (∀ V, Mem0 w b C L V fv2 _ → _) := fun V M => HYes0 V M hbr
        clear HYes0 HNo0 hbr
        go_wp2_with fail
        obtain ⟨w4, hw4⟩ : ∃ V, w1.drew = V := ⟨_, rfl⟩
        have hb4 : Below w1.heap.size w1 w4 := by rw [← hw4]; exact (Below.refl _ _).drew
        have HCol := HCL.out _ hb4
        have m4 := m1.below hb4
        clear m1 hb4
        obtain ⟨c0, c1, c2, c3, c4, c5, c6, c7, c8, c9, c10, c11, c12, c13⟩ := box14 m4.box
        refine wp_region_E (S := (fun v => v.cell? ⟨b, 4, none⟩ = some (.int .i64 cols))) (E := [19]) (by kernel_rfl) ?_
        rw [hw4]
        clear hw4
        refine takeE (i := 0) (d := some 10) (v := ?vT33) rfl rfl (by kernel_rfl) (by kernel_rfl) (by kernel_rfl) (by kernel_rfl) (fun _ _ _ h => h) (Or.inl ⟨by rfl, ?hyT33⟩) c4 ?rstT33
        case hyT33 => (intro w hSw; (try dsimp only at hSw); skip; go_simp; (try with_reducible rfl))
        try simp only [Act.put, List.setIfInBounds_toArray, List.set_cons_zero, List.set_cons_succ]
        refine takeE (i := 1) (d := some 11) (v := ?vT34) rfl rfl (by kernel_rfl) (by kernel_rfl) (by kernel_rfl) (by kernel_rfl) (fun _ _ _ h => h) (Or.inl ⟨by rfl, ?hyT34⟩) c4 ?rstT34
        case hyT34 => (intro w hSw; (try dsimp only at hSw); skip; go_simp; (try with_reducible rfl))
        try simp only [Act.put, List.setIfInBounds_toArray, List.set_cons_zero, List.set_cons_succ]
        refine takeE (i := 2) (d := some 12) (v := ?vT35) rfl rfl (by kernel_rfl) (by kernel_rfl) (by kernel_rfl) (by kernel_rfl) (fun _ _ _ h => h) (Or.inl ⟨by rfl, ?hyT35⟩) c4 ?rstT35
        case hyT35 => (intro w hSw; (try dsimp only at hSw); skip; go_simp; (try with_reducible rfl))
        try simp only [Act.put, List.setIfInBounds_toArray, List.set_cons_zero, List.set_cons_succ]
        refine takeE (i := 3) (d := some 13) (v := ?vT36) rfl rfl (by kernel_rfl) (by kernel_rfl) (by kernel_rfl) (by kernel_rfl) (fun _ _ _ h => h) (Or.inl ⟨by rfl, ?hyT36⟩) c4 ?rstT36
        case hyT36 => (intro w hSw; (try dsimp only at hSw); skip; go_simp; (try with_reducible rfl))
        try simp only [Act.put, List.setIfInBounds_toArray, List.set_cons_zero, List.set_cons_succ]
        refine takeE (i := 4) (d := some 14) (v := ?vT37) rfl rfl (by kernel_rfl) (by kernel_rfl) (by kernel_rfl) (by kernel_rfl) (fun _ _ _ h => h) (Or.inl ⟨by rfl, ?hyT37⟩) c4 ?rstT37
        case hyT37 => (intro w hSw; (try dsimp only at hSw); skip; go_simp; (try with_reducible rfl))
        try simp only [Act.put, List.setIfInBounds_toArray, List.set_cons_zero, List.set_cons_succ]
        refine takeE (i := 5) (d := some 15) (v := ?vT38) rfl rfl (by kernel_rfl) (by kernel_rfl) (by kernel_rfl) (by kernel_rfl) (fun _ _ _ h => h) (Or.inl ⟨by rfl, ?hyT38⟩) c4 ?rstT38
        case hyT38 => (intro w hSw; (try dsimp only at hSw); skip; go_simp; (try with_reducible rfl))
        try simp only [Act.put, List.setIfInBounds_toArray, List.set_cons_zero, List.set_cons_succ]
        refine takeE (i := 6) (d := some 16) (v := ?vT39) rfl rfl (by kernel_rfl) (by kernel_rfl) (by kernel_rfl) (by kernel_rfl) (fun _ _ _ h => h) (Or.inl ⟨by rfl, ?hyT39⟩) c4 ?rstT39
        case hyT39 => (intro w hSw; (try dsimp only at hSw); skip; go_simp; (try with_reducible rfl))
        try simp only [Act.put, List.setIfInBounds_toArray, List.set_cons_zero, List.set_cons_succ]
        refine takeE (i := 7) (d := some 17) (v := ?vT40) rfl rfl (by kernel_rfl) (by kernel_rfl) (by kernel_rfl) (by kernel_rfl) (fun _ _ _ h => h) (Or.inl ⟨by rfl, ?hyT40⟩) c4 ?rstT40
        case hyT40 => (intro w hSw; (try dsimp only at hSw); skip; go_simp; (try with_reducible rfl))
        try simp only [Act.put, List.setIfInBounds_toArray, List.set_cons_zero, List.set_cons_succ]
        refine takeE (i := 8) (d := some 18) (v := ?vT41) rfl rfl (by kernel_rfl) (by kernel_rfl) (by kernel_rfl) (by kernel_rfl) (fun _ _ _ h => h) (Or.inl ⟨by rfl, ?hyT41⟩) c4 ?rstT41
        case hyT41 => (intro w hSw; (try dsimp only at hSw); skip; go_simp; (try with_reducible rfl))
        try simp only [Act.put, List.setIfInBounds_toArray, List.set_cons_zero, List.set_cons_succ]
        refine takeE (i := 9) (d := some 19) (v := ?vT42) rfl rfl (by kernel_rfl) (by kernel_rfl) (by kernel_rfl) (by kernel_rfl) (fun _ _ _ h => h) (Or.inl ⟨by rfl, ?hyT42⟩) c4 ?rstT42
        case hyT42 => (intro w hSw; (try dsimp only at hSw); skip; go_simp; (try with_reducible rfl))
        try simp only [Act.put, List.setIfInBounds_toArray, List.set_cons_zero, List.set_cons_succ]
        refine takeE (i := 10) (d := some 20) (v := ?vT43) rfl rfl (by kernel_rfl) (by kernel_rfl) (by kernel_rfl) (by kernel_rfl) (fun _ _ _ h => h) (Or.inl ⟨by rfl, ?hyT43⟩) c4 ?rstT43
        case hyT43 => (intro w hSw; (try dsimp only at hSw); skip; go_simp; (try with_reducible rfl))
        try simp only [Act.put, List.setIfInBounds_toArray, List.set_cons_zero, List.set_cons_succ]
        refine takeE (i := 11) (d := some 21) (v := ?vT44) rfl rfl (by kernel_rfl) (by kernel_rfl) (by kernel_rfl) (by kernel_rfl) (fun _ _ _ h => h) (Or.inl ⟨by rfl, ?hyT44⟩) c4 ?rstT44
        case hyT44 => (intro w hSw; (try dsimp only at hSw); skip; go_simp; (try with_reducible rfl))
        try simp only [Act.put, List.setIfInBounds_toArray, List.set_cons_zero, List.set_cons_succ]
        refine takeE (i := 12) (d := some 22) (v := ?vT45) rfl rfl (by kernel_rfl) (by kernel_rfl) (by kernel_rfl) (by kernel_rfl) (fun _ _ _ h => h) (Or.inl ⟨by rfl, ?hyT45⟩) c4 ?rstT45
        case hyT45 => (intro w hSw; (try dsimp only at hSw); skip; go_simp; (try with_reducible rfl))
        try simp only [Act.put, List.setIfInBounds_toArray, List.set_cons_zero, List.set_cons_succ]
        refine oneE (i := 13) (by kernel_rfl) rfl (fun K hK => ?_)
        go_simp
        refine HCol.mono ?_
        rintro e w5 ⟨rfl, hb5⟩
        clear HCol
        have m5 := m4.below hb5
        have HB5 : Hid (Below w4.heap.size w4 w5) := hb5
        clear hb5 m4
        obtain ⟨d0, d1, d2, d3, d4, d5, d6, d7, d8, d9, d10, d11, d12, d13⟩ := box14 m5.box
        obtain ⟨z0, z1, z2, z3, z4, z5, z6, z7, z8, z9, z10, z11, z12, z13⟩ := wr14 m5.box
        obtain ⟨w6, hw6, e6, k6⟩ := store1 m5.box 4 (.int .i64 (cols + cn))
        have m6 : Mem0 w b C L w6 fv2 #[.int .i64 WW, fv2, .int .i64 lo, .int .i64 hi, .int .i64 (cols + cn), .bool false, .int .i64 fr, .int .i64 tt, .int .i64 wlo, .int .i64 whi, .int .i64 wcols, .bool false, .int .i64 wfr, .int .i64 wto] := m5.setB k6 e6
        clear e6 k6 m5
        dsimp only
        refine hK.out _ _ ?hS46 ?rest46
        case hS46 => exact fun _ => d4
        clear hK K
        try simp only [Act.put, List.setIfInBounds_toArray, List.set_cons_zero, List.set_cons_succ]
        refine oneE (i := 14) (by kernel_rfl) rfl (fun K hK => ?_)
        go_simp
        refine hK.out _ _ ?hS47 ?rest47
        case hS47 => exact fun _ => d4
        clear hK K
        try simp only [Act.put, List.setIfInBounds_toArray, List.set_cons_zero, List.set_cons_succ]
        refine oneE (i := 15) (by kernel_rfl) rfl (fun K hK => ?_)
        go_simp
        refine hK.out _ _ ?hS48 ?rest48
        case hS48 => exact fun _ => d4
        clear hK K
        try simp only [Act.put, List.setIfInBounds_toArray, List.set_cons_zero, List.set_cons_succ]
        refine oneE (i := 16) (by kernel_rfl) rfl (fun K hK => ?_)
        go_simp
        refine hK.out _ _ ?hS49 ?rest49
        case hS49 => exact fun _ => d4
        clear hK K
        try simp only [Act.put, List.setIfInBounds_toArray, List.set_cons_zero, List.set_cons_succ]
        refine oneE (i := 17) (by kernel_rfl) rfl (fun K hK => ?_)
        go_simp
        refine hK.out _ _ ?hS50 ?rest50
        case hS50 => exact fun _ => d4
        clear hK K
        try simp only [Act.put, List.setIfInBounds_toArray, List.set_cons_zero, List.set_cons_succ]
        refine oneE (i := 18) (by kernel_rfl) rfl (fun K hK => ?_)
        go_simp
        refine hK.out _ _ ?hS51 ?rest51
        case hS51 => exact fun _ => d4
        clear hK K
        try simp only [Act.put, List.setIfInBounds_toArray, List.set_cons_zero, List.set_cons_succ]
        refine oneE (i := 19) (by kernel_rfl) rfl (fun K hK => ?_)
        go_simp
        refine hK.out _ _ ?hS52 ?rest52
        case hS52 => exact fun e => absurd e (by decide)
        clear hK K
        try simp only [Act.put, List.setIfInBounds_toArray, List.set_cons_zero, List.set_cons_succ]
        refine doneE (by kernel_rfl) ?_ _
        try simp only [hw6]
        clear hw6 c0 c1 c2 c3 c4 c5 c6 c7 c8 c9 c10 c11 c12 c13 d0 d1 d2 d3 d4 d5 d6 d7 d8 d9 d10 d11 d12 d13 z0 z1 z2 z3 z4 z5 z6 z7 z8 z9 z10 z11 z12 z13
        clear HB5
        obtain ⟨c0, c1, c2, c3, c4, c5, c6, c7, c8, c9, c10, c11, c12, c13⟩ := box14 m6.box
        obtain ⟨z0, z1, z2, z3, z4, z5, z6, z7, z8, z9, z10, z11, z12, z13⟩ := wr14 m6.box
        obtain ⟨w7, hw7, e7, k7⟩ := store1 m6.box 3 (.int .i64 (hi + 1))
        have m7 : Mem0 w b C L w7 fv2 #[.int .i64 WW, fv2, .int .i64 lo, .int .i64 (hi + 1), .int .i64 (cols + cn), .bool false, .int .i64 fr, .int .i64 tt, .int .i64 wlo, .int .i64 whi, .int .i64 wcols, .bool false, .int .i64 wfr, .int .i64 wto] := m6.setB k7 e7
        clear e7 k7 m6
        go_wp2_with fail
        try simp only [hw7]
        clear hw7 c0 c1 c2 c3 c4 c5 c6 c7 c8 c9 c10 c11 c12 c13 z0 z1 z2 z3 z4 z5 z6 z7 z8 z9 z10 z11 z12 z13
        obtain ⟨w8, hw8⟩ : ∃ V, w7.drew = V := ⟨_, rfl⟩
        have m8 := m7.below (V' := w8) (by rw [← hw8]; exact (Below.refl _ _).drew)
        clear m7
        obtain ⟨c0, c1, c2, c3, c4, c5, c6, c7, c8, c9, c10, c11, c12, c13⟩ := box14 m8.box
        obtain ⟨z0, z1, z2, z3, z4, z5, z6, z7, z8, z9, z10, z11, z12, z13⟩ := wr14 m8.box
        have HRL := HRl.out w8
        obtain ⟨w9, hw9, e9, k9⟩ := store1 m8.box 7 (.int .i64 (tt + ln))
        have m9 : Mem0 w b C L w9 fv2 #[.int .i64 WW, fv2, .int .i64 lo, .int .i64 (hi + 1), .int .i64 (cols + cn), .bool false, .int .i64 fr, .int .i64 (tt + ln), .int .i64 wlo, .int .i64 whi, .int .i64 wcols, .bool false, .int .i64 wfr, .int .i64 wto] := m8.setB k9 e9
        clear e9 k9 m8
        refine wp_region_E (S := (fun v => v.cell? ⟨b, 7, none⟩ = some (.int .i64 tt))) (E := [11]) (by kernel_rfl) ?_
        rw [hw8]
        clear hw8
        refine takeE (i := 0) (d := some 40) (v := ?vT53) rfl rfl (by kernel_rfl) (by kernel_rfl) (by kernel_rfl) (by kernel_rfl) (fun _ _ _ h => h) (Or.inl ⟨by rfl, ?hyT53⟩) c7 ?rstT53
        case hyT53 => (intro w hSw; (try dsimp only at hSw); skip; go_simp; (try with_reducible rfl))
        try simp only [Act.put, List.setIfInBounds_toArray, List.set_cons_zero, List.set_cons_succ]
        refine takeE (i := 1) (d := some 41) (v := ?vT54) rfl rfl (by kernel_rfl) (by kernel_rfl) (by kernel_rfl) (by kernel_rfl) (fun _ _ _ h => h) (Or.inl ⟨by rfl, ?hyT54⟩) c7 ?rstT54
        case hyT54 => (intro w hSw; (try dsimp only at hSw); skip; go_simp; (try with_reducible rfl))
        try simp only [Act.put, List.setIfInBounds_toArray, List.set_cons_zero, List.set_cons_succ]
        refine takeE (i := 2) (d := some 42) (v := ?vT55) rfl rfl (by kernel_rfl) (by kernel_rfl) (by kernel_rfl) (by kernel_rfl) (fun _ _ _ h => h) (Or.inl ⟨by rfl, ?hyT55⟩) c7 ?rstT55
        case hyT55 => (intro w hSw; (try dsimp only at hSw); skip; go_simp; (try with_reducible rfl))
        try simp only [Act.put, List.setIfInBounds_toArray, List.set_cons_zero, List.set_cons_succ]
        refine takeE (i := 3) (d := some 43) (v := ?vT56) rfl rfl (by kernel_rfl) (by kernel_rfl) (by kernel_rfl) (by kernel_rfl) (fun _ _ _ h => h) (Or.inl ⟨by rfl, ?hyT56⟩) c7 ?rstT56
        case hyT56 => (intro w hSw; (try dsimp only at hSw); skip; go_simp; (try with_reducible rfl))
        try simp only [Act.put, List.setIfInBounds_toArray, List.set_cons_zero, List.set_cons_succ]
        refine takeE (i := 4) (d := some 44) (v := ?vT57) rfl rfl (by kernel_rfl) (by kernel_rfl) (by kernel_rfl) (by kernel_rfl) (fun _ _ _ h => h) (Or.inl ⟨by rfl, ?hyT57⟩) c7 ?rstT57
        case hyT57 => (intro w hSw; (try dsimp only at hSw); skip; go_simp; (try with_reducible rfl))
        try simp only [Act.put, List.setIfInBounds_toArray, List.set_cons_zero, List.set_cons_succ]
        refine takeE (i := 5) (d := some 45) (v := ?vT58) rfl rfl (by kernel_rfl) (by kernel_rfl) (by kernel_rfl) (by kernel_rfl) (fun _ _ _ h => h) (Or.inl ⟨by rfl, ?hyT58⟩) c7 ?rstT58
        case hyT58 => (intro w hSw; (try dsimp only at hSw); skip; go_simp; (try with_reducible rfl))
        try simp only [Act.put, List.setIfInBounds_toArray, List.set_cons_zero, List.set_cons_succ]
        refine oneE (i := 6) (by kernel_rfl) rfl (fun K hK => ?_)
        go_simp
        refine HRL.mono ?_
        rintro e w' ⟨rfl, hwe⟩
        obtain rfl := hwe.symm
        clear hwe HRL
        dsimp only
        refine hK.out _ _ ?hS59 ?rest59
        case hS59 => exact fun _ => c7
        clear hK K
        try simp only [Act.put, List.setIfInBounds_toArray, List.set_cons_zero, List.set_cons_succ]
        refine oneE (i := 7) (by kernel_rfl) rfl (fun K hK => ?_)
        go_simp
        refine hK.out _ _ ?hS60 ?rest60
        case hS60 => exact fun _ => c7
        clear hK K
        try simp only [Act.put, List.setIfInBounds_toArray, List.set_cons_zero, List.set_cons_succ]
        refine oneE (i := 8) (by kernel_rfl) rfl (fun K hK => ?_)
        go_simp
        refine hK.out _ _ ?hS61 ?rest61
        case hS61 => exact fun _ => c7
        clear hK K
        try simp only [Act.put, List.setIfInBounds_toArray, List.set_cons_zero, List.set_cons_succ]
        refine oneE (i := 9) (by kernel_rfl) rfl (fun K hK => ?_)
        go_simp
        refine hK.out _ _ ?hS62 ?rest62
        case hS62 => exact fun _ => c7
        clear hK K
        try simp only [Act.put, List.setIfInBounds_toArray, List.set_cons_zero, List.set_cons_succ]
        refine oneE (i := 10) (by kernel_rfl) rfl (fun K hK => ?_)
        go_simp
        refine hK.out _ _ ?hS63 ?rest63
        case hS63 => exact fun _ => c7
        clear hK K
        try simp only [Act.put, List.setIfInBounds_toArray, List.set_cons_zero, List.set_cons_succ]
        refine oneE (i := 11) (by kernel_rfl) rfl (fun K hK => ?_)
        go_simp
        refine hK.out _ _ ?hS64 ?rest64
        case hS64 => exact fun e => absurd e (by decide)
        clear hK K
        try simp only [Act.put, List.setIfInBounds_toArray, List.set_cons_zero, List.set_cons_succ]
        refine doneE (by kernel_rfl) ?_ _
        try simp only [hw9]
        clear hw9 c0 c1 c2 c3 c4 c5 c6 c7 c8 c9 c10 c11 c12 c13 z0 z1 z2 z3 z4 z5 z6 z7 z8 z9 z10 z11 z12 z13
        go_wp2_with fail
        refine (HBl.out w9).mono ?_
        rintro e w' ⟨rfl, hwe⟩
        obtain rfl := hwe.symm
        clear hwe
        clear HNo
        obtain ⟨c0, c1, c2, c3, c4, c5, c6, c7, c8, c9, c10, c11, c12, c13⟩ := box14 m9.box
        obtain ⟨z0, z1, z2, z3, z4, z5, z6, z7, z8, z9, z10, z11, z12, z13⟩ := wr14 m9.box
        obtain ⟨u4, hu4, e4, k4⟩ := store6w m9.box (.int .i64 lo) (.int .i64 (hi + 1)) (.int .i64 (cols + cn)) (.bool false) (.int .i64 fr) (.int .i64 (tt + ln))
        have M := m9.setB k4 e4
        clear m9 e4 k4
        go_wp2_with fail
        try simp only [hu4]
        refine bodyPost_end (v := .tuple #[]) (by simp [results, Tryd.results36, go_sem]) rfl ?_
        obtain ⟨f3, -, h1, h2⟩ := HYes.out _ M
        exact ⟨f3, rfl, h1, h2⟩
end Go.Proofs.YtfnpmncmceocdaaDoor
