import Derived.Test.YtfnpmncmceocdaaDoorPgG
/-! rowsOf. -/
namespace Go.Proofs.YtfnpmncmceocdaaDoor
open Go.RowKit Go.Lib
set_option maxRecDepth 100000

section
variable {α : Type} {f : α → List Value} {k : Nat} {T : TypeId}
theorem OwnF.keep {w w' : World} {B : Nat} {v : Value} {l : List α} (h : OwnF f k T w B v l) (hk : ∀ g, v.ownBlock = some g → w'.heap[g]? = w.heap[g]?) : OwnF f k T w' B v l := by
  refine ⟨h.1, ?_⟩
  rcases h.2 with h0 | ⟨g, cap, cur, e, h1, hh, rest⟩
  · exact .inl h0
  · exact .inr ⟨g, cap, cur, e, h1, (hk g (by rw [e]; rfl)).trans hh, rest⟩
theorem OwnF.notIter {w : World} {B K p : Nat} {s : ByteArray} {v : Value} {l : List α} (h : OwnF f k T w B v l) (hi : w.heap[K]? = some (.stringIter s p)) : v.ownBlock ≠ some K := by
  intro e
  rcases h.2 with ⟨rfl, _⟩ | ⟨g, cap, cur, rfl, h1, hh, rest⟩
  · simp [Value.ownBlock] at e
  · simp only [Value.ownBlock, Option.some.injEq] at e
    subst e
    rw [hi] at hh
    cases hh
end
theorem encB_ten : (encB 10).length = 1 := by decide
theorem PTab.low {w w' : World} {b : Nat} (h : PTab w) (hG : Glob b) (hb : Below b w w') : PTab w' :=
  h.keep fun g hg _ => hb.block g (by obtain ⟨a, c, d⟩ := hG; rcases hg with rfl | rfl | rfl <;> omega)
theorem FilAt.iterAt {rs : List Int} {W : Nat} {w : World} {b : Nat} {st : St} {i : Nat} {fv : Value} (h : FilAt rs W w b (b + 2) st i fv) (s : ByteArray) (p : Nat) : FilAt rs W (w.iterAt (b + 1) s p) b (b + 2) st i fv :=
  ⟨(iterAt_other _ _ _ _ _ (by omega)).trans h.box, h.own.keep (fun g hg => iterAt_other _ _ _ _ _ (by have := h.own.ge hg; omega)), h.bC, by rw [iterAt_size]; exact h.Cle⟩
/-- A line ends. -/
theorem FilAt.endLine {rs : List Int} {W : Nat} {w : World} {b C : Nat} {st : St} {i : Nat} {fv : Value} (h : FilAt rs W w b C st i fv) (hI : Inv rs W i st) (hi : i ≤ 274877906944) :
    Calls Tryd.prog 35 #[.pointer (some ⟨b, 0, none⟩)] w fun e w' => ∃ fv2, e = .returned (.tuple #[]) ∧ w'.heap[b]? = some (.cells (FiC (W : Int) fv2 ((i : Int) + 1) ((i : Int) + 1) 0 false ((posOf rs i : Nat) + 1) ((posOf rs i : Nat) + 1) (st.wlo : Int) (st.whi : Int) (wd rs st.wlo st.whi : Nat) (posOf rs st.wlo : Nat) (posOf rs st.whi : Nat)) 79) ∧ OwnF r6V 6 56 w' C fv2 ((st.endLine i).full.map (r6 rs)) ∧ Chg (fun g => g = b ∨ C ≤ g) w w' := by
  have hfew := hI.few
  have hp := posOf_le4 rs i
  refine (endLine_any h.box h.own h.bC h.Cle (by rw [List.length_map]; omega) ⟨by omega, by omega, by omega, by omega⟩).mono ?_
  rintro e w' ⟨fv2, rfl, h1, h2, h3⟩
  refine ⟨fv2, rfl, h1, ?_, h3⟩
  rw [show (st.endLine i).full = st.full ++ [⟨st.lo, i, true⟩] from rfl, List.map_append]
  exact h2
theorem FilAt.lined {rs : List Int} {W : Nat} {w : World} {b C : Nat} {st : St} {i : Nat} {fv : Value} (h : FilAt rs W w b C st i fv) (hI : Inv rs W i st) (hi : i ≤ 274877906944) (hr : rs[i]? = some 10) :
    Calls Tryd.prog 35 #[.pointer (some ⟨b, 0, none⟩)] w fun e w' => ∃ fv2, e = .returned (.tuple #[]) ∧ FilAt rs W w' b C (st.endLine i) (i + 1) fv2 ∧ Chg (fun g => g = b ∨ C ≤ g) w w' := by
  refine (h.endLine hI hi).mono ?_
  rintro e w' ⟨fv2, rfl, h1, h2, h3⟩
  obtain ⟨hl, hrr⟩ := List.getElem?_eq_some_iff.1 hr
  have hps := posOf_succ rs i hl
  rw [hrr, encB_ten] at hps
  refine ⟨fv2, rfl, ⟨?_, h2, h.bC, Nat.le_trans h.Cle h3.size⟩, h3⟩
  rw [h1]
  show _ = some (Obj.cells (FiC (W : Int) fv2 ((i + 1 : Nat) : Int) ((i + 1 : Nat) : Int) (wd rs (i + 1) (i + 1) : Nat) false (posOf rs (i + 1) : Nat) (posOf rs (i + 1) : Nat) (st.wlo : Int) (st.whi : Int) (wd rs st.wlo st.whi : Nat) (posOf rs st.wlo : Nat) (posOf rs st.whi : Nat)) _)
  rw [wd_self, hps]
  rfl
theorem stAt_succ (rs : List Int) (W : Nat) {i : Nat} {r : Int} (hr : rs[i]? = some r) : stAt rs W (i + 1) = (stAt rs W i).step rs W i r := by
  show (stAt rs W i).step rs W i (rs.getD i 0) = _
  rw [List.getD_eq_getElem?_getD, hr]
  rfl
set_option maxHeartbeats 4000000 in
theorem rowsOf_any {s : ByteArray} {rs : List Int} (ht : IsText s rs) (W : Nat) (hn : rs.length ≤ 274877906944) {w : World} (hP : PTab w) (hG : Glob w.heap.size) :
    Calls Tryd.prog 23 #[.string s, .int .i64 (W : Int)] w fun e w' => ∃ v, e = .returned v ∧ OwnF r6V 6 56 w' w.heap.size v ((rowsP rs W).map (r6 rs)) ∧ Below w.heap.size w w' := by
  have HT : Hid (IsText s rs ∧ PTab w ∧ Glob w.heap.size ∧ rs.length ≤ 274877906944) := ⟨ht, hP, hG, hn⟩
  clear hP hG
  go_enter Tryd.func23, Tryd.ntmps23
  go_wp2_with fail
  go_loopw [] (fun wr => ∃ j fv, Hid (j ≤ rs.length ∧ wr.heap[w.heap.size + 1]? = some (.stringIter s (posOf rs j)) ∧ FilAt rs W wr w.heap.size (w.heap.size + 2) (stAt rs W j) j fv ∧ Below w.heap.size w wr)) (fun wr => s.size - wr.iterPos (w.heap.size + 1))
  case atStart =>
    obtain ⟨w1, hw1⟩ : ∃ V, w.alloc (.cells (FiC (W : Int) (.slice none 0 0) 0 0 0 false 0 0 0 0 0 0 0) 79) = V := ⟨_, rfl⟩
    have hb1 : Below w.heap.size w w1 := by rw [← hw1]; exact (Below.refl _ _).alloc (Nat.le_refl _) _
    have hs1 : w1.heap.size = w.heap.size + 1 := by rw [← hw1]; exact World.size_alloc ..
    have hx1 : w1.heap[w.heap.size]? = some (.cells (FiC (W : Int) (.slice none 0 0) 0 0 0 false 0 0 0 0 0 0 0) 79) := by rw [← hw1]; exact heap_alloc_new _ _
    have hi := World.iter_heap w1 s 0
    rw [hs1] at hi
    have hb2 : Below w1.heap.size w1 (w1.iter s 0) := (Below.refl _ _).alloc (Nat.le_refl _) _
    have hs2 : (w1.iter s 0).heap.size = w1.heap.size + 1 := World.size_alloc ..
    unfold FiC at hw1
    rw [hw1]
    refine ⟨0, .slice none 0 0, Nat.zero_le _, ?_, ⟨?_, ownF_nil _ _, by omega, by omega⟩, hb1.trans (hb2.mono (by omega))⟩
    · rw [posOf_zero]; exact hi
    · rw [hb2.block _ (by omega), hx1]
      show _ = some (Obj.cells (FiC (W : Int) (.slice none 0 0) ((0 : Nat) : Int) ((0 : Nat) : Int) (wd rs 0 0 : Nat) false (posOf rs 0 : Nat) (posOf rs 0 : Nat) ((0 : Nat) : Int) ((0 : Nat) : Int) (wd rs 0 0 : Nat) (posOf rs 0 : Nat) (posOf rs 0 : Nat)) _)
      rw [wd_self, posOf_zero]
      rfl
  case round =>
    obtain ⟨j, fv, HS⟩ := hrel
    obtain ⟨hj, hit, hF, hb⟩ := HS.out
    have hbT := hF.bC
    by_cases hjl : j < rs.length
    · have hnx : ∀ ty, (Instr.next (.pointer (some ⟨w.heap.size + 1, 0, none⟩)) true ty).run Tryd.prog wr = _ := fun ty => run_next_text ht wr (w.heap.size + 1) j ty hit hjl
      have hb2 : Below w.heap.size w (wr.iterAt (w.heap.size + 1) s (posOf rs (j + 1))) := below_iterAt hb (by omega) _ _
      have hit2 := iterAt_heap wr (w.heap.size + 1) s _ (posOf rs (j + 1)) hit
      have hF2 := hF.iterAt s (posOf rs (j + 1))
      have HP : Hid (wr.iterPos (w.heap.size + 1) = posOf rs j) := by simp [Hid, World.iterPos, hit]
      generalize hW : wr.iterAt (w.heap.size + 1) s (posOf rs (j + 1)) = W2 at *
      have hrr : rs[j]? = some rs[j] := List.getElem?_eq_getElem hjl
      have hok : okR rs[j] := ht.ok _ (List.getElem_mem hjl)
      generalize rs[j] = r at *
      have hI := inv_at rs W j hj
      have hP2 : PTab W2 := HT.out.2.1.low HT.out.2.2.1 hb2
      have hsx := stAt_succ rs W hrr
      have HEnd : Hid (∀ w3 fv3, FilAt rs W w3 w.heap.size (w.heap.size + 2) (stAt rs W (j + 1)) (j + 1) fv3 → Chg (fun g => g = w.heap.size ∨ w.heap.size + 2 ≤ g) W2 w3 → (∃ j fv, Hid (j ≤ rs.length ∧ w3.heap[w.heap.size + 1]? = some (.stringIter s (posOf rs j)) ∧ FilAt rs W w3 w.heap.size (w.heap.size + 2) (stAt rs W j) j fv ∧ Below w.heap.size w w3)) ∧ s.size - w3.iterPos (w.heap.size + 1) < s.size - wr.iterPos (w.heap.size + 1)) := fun w3 fv3 h3 hc => by
        have hit3 : w3.heap[w.heap.size + 1]? = some (.stringIter s (posOf rs (j + 1))) := hc.block hit2 (by omega)
        refine ⟨⟨j + 1, fv3, by omega, hit3, h3, hb2.trans (hc.below (fun g hg => by omega) hb2.size)⟩, ?_⟩
        rw [HP.out, iterPos_of' hit3, ht.size]
        have h1 := posOf_lt rs (i := j) (j := j + 1) (by omega) (by omega)
        have h2 := posOf_mono rs (i := j + 1) (j := rs.length) (by omega)
        omega
      by_cases h10 : r = 10
      · have hz : (r == 10) = true := by rw [beq_iff_eq]; exact h10
        have hst : stAt rs W (j + 1) = (stAt rs W j).endLine j := by rw [hsx]; unfold St.step; rw [if_pos h10]
        have HL := hF2.lined hI (by have := HT.out.2.2.2; omega) (by rw [hrr, h10])
        rw [← hst] at HL
        clear hst hsx hI hP2 hF2 hF hit hit2 hb hb2 hW HP HS hrr hok h10
        go_wp2_with fail
        refine HL.mono ?_
        rintro e w3 ⟨fv3, rfl, h3, hc⟩
        have HN := HEnd.out w3 fv3 h3 hc
        clear HL h3 hc HEnd
        go_wp2_with fail
        exact HN
      · have hz : (r == 10) = false := by rw [beq_eq_false_iff_ne]; exact h10
        have hst : stAt rs W (j + 1) = ((stAt rs W j).room rs W j).took r j := by rw [hsx]; unfold St.step; rw [if_neg h10]
        have HL := put_st hF2 hI (by have := HT.out.2.2.2; omega) hP2 HT.out.2.2.1 hrr h10 hok
        rw [← hst] at HL
        clear hst hsx hI hP2 hF2 hF hit hit2 hb hb2 hW HP HS hrr hok h10
        go_wp2_with fail
        refine HL.mono ?_
        rintro e w3 ⟨fv3, rfl, h3, hc⟩
        have HN := HEnd.out w3 fv3 h3 hc
        clear HL h3 hc HEnd
        go_wp2_with fail
        exact HN
    · obtain rfl : j = rs.length := by omega
      have hnx : ∀ ty, (Instr.next (.pointer (some ⟨w.heap.size + 1, 0, none⟩)) true ty).run Tryd.prog wr = _ := fun ty => run_next_done ht wr (w.heap.size + 1) ty hit
      have HL := hF.endLine (inv_at rs W rs.length (Nat.le_refl _)) HT.out.2.2.2
      have HB : Hid (Below w.heap.size w wr) := hb
      clear hit hF hb HS
      go_wp2_with fail
      refine HL.mono ?_
      rintro e w3 ⟨fv3, rfl, h1, h2, h3⟩
      have c1 := (box14 h1).2.1
      have HN : Hid (OwnF r6V 6 56 w3 w.heap.size fv3 ((rowsP rs W).map (r6 rs)) ∧ Below w.heap.size w w3) := ⟨h2.mono (by omega), HB.out.trans (h3.below (fun g hg => by omega) HB.out.size)⟩
      clear h1 h2 h3 HL HB
      go_wp2_with fail
      go_ret
      exact ⟨fv3, rfl, HN.out⟩
end Go.Proofs.YtfnpmncmceocdaaDoor
