import Derived.Test.YtokclnjaglklhaaDoorRpS
namespace Go.Proofs.YtokclnjaglklhaaDoor
open Go.RowKit Go.Lib
set_option maxRecDepth 100000

/-- What 'cut' holds behind j runes. -/
structure CutR (s : ByteArray) (rs : List Int) (hid : Int) (w : World) (vp vr : Value) (w' : World) (j C : Nat) (F : List (List Int)) (cur : List Int) (gs : List Nat) : Prop where
  jle : j ≤ rs.length
  iter : w'.heap[w.heap.size]? = some (.stringIter s (posOf rs j))
  ownP : OwnF ptrV 1 53 w' w.heap.size vp gs
  ownR : OwnF runeV 1 21 w' C vr cur
  trees : AtsD w' (fun b => w.heap.size < b ∧ b < C ∧ vp.ownBlock ≠ some b) (F.map fun x => Tr.leaf x hid 0) gs
  pC : ∀ g, vp.ownBlock = some g → g < C
  C1 : w.heap.size < C
  C2 : C ≤ w'.heap.size
  full : ∀ x ∈ F, x.length = 32
  few : cur.length ≤ 32
  start : cur = [] → j = 0
  all : F.flatten ++ cur = rs.take j
  below : Below w.heap.size w w'
/-- The iterator goes on. -/
theorem CutR.step {s : ByteArray} {rs : List Int} {hid : Int} {w : World} {vp vr : Value} {w' : World} {j C : Nat} {F : List (List Int)} {cur : List Int} {gs : List Nat} (h : CutR s rs hid w vp vr w' j C F cur gs) (p : Nat) :
    OwnF ptrV 1 53 (w'.iterAt w.heap.size s p) w.heap.size vp gs ∧ OwnF runeV 1 21 (w'.iterAt w.heap.size s p) C vr cur ∧ AtsD (w'.iterAt w.heap.size s p) (fun b => w.heap.size < b ∧ b < C ∧ vp.ownBlock ≠ some b) (F.map fun x => Tr.leaf x hid 0) gs ∧ Below w.heap.size w (w'.iterAt w.heap.size s p) ∧ (w'.iterAt w.heap.size s p).heap[w.heap.size]? = some (.stringIter s p) ∧ C ≤ (w'.iterAt w.heap.size s p).heap.size := by
  have n1 := h.ownP.notIter h.iter
  have n2 := h.ownR.notIter h.iter
  refine ⟨h.ownP.keep (fun q hq => iterAt_other _ _ _ _ _ (fun e => n1 (by rw [hq, e]))), h.ownR.keep (fun q hq => iterAt_other _ _ _ _ _ (fun e => n2 (by rw [hq, e]))), h.trees.keep (fun b hb => iterAt_other _ _ _ _ _ (by omega)) (by rw [iterAt_size]; exact Nat.le_refl _), below_iterAt h.below (Nat.le_refl _) _ _, iterAt_heap _ _ _ _ _ h.iter, by rw [iterAt_size]; exact h.C2⟩
theorem chunks_end {rs : List Int} {hid : Int} {F : List (List Int)} {cur : List Int} (full : ∀ x ∈ F, x.length = 32) (few : cur.length ≤ 32) (hne : cur ≠ []) (all : F.flatten ++ cur = rs) : Chunks rs hid ((F ++ [cur]).map fun x => Tr.leaf x hid 0) := ⟨F, cur, full, hne, few, all, rfl⟩
theorem flatten_len {F : List (List Int)} {cur rs : List Int} {j : Nat} (full : ∀ x ∈ F, x.length = 32) (all : F.flatten ++ cur = rs.take j) : F.length ≤ rs.length := by
  have h1 := flatten_ge F full
  have h2 := congrArg List.length all
  rw [List.length_append, List.length_take] at h2
  omega
theorem AtD.and_lt {w : World} {D : Nat → Prop} : ∀ {t : Tr} {g : Nat}, AtD w D t g → AtD w (fun b => D b ∧ b < w.heap.size) t g
  | .nil, _, ⟨hd, h⟩ => ⟨⟨hd, NodeAt.lt h⟩, h⟩
  | .leaf _ _ _, _, ⟨hd, a, cap, h1, h2, h3⟩ => ⟨⟨hd, h1.lt⟩, a, cap, h1, h2, fun h0 gr off e => ⟨h3 h0 gr off e, by
      obtain ⟨g', off', e', hg, _⟩ := h2.rw_.cells h0
      rw [e] at e'
      cases e'
      exact hg⟩⟩
  | .node _ _ _, _, ⟨hd, gl, gr, h1, h2, h3⟩ => ⟨⟨hd, h1.lt⟩, gl, gr, h1, AtD.and_lt h2, AtD.and_lt h3⟩
/-- A piece is made and laid behind the others. -/
theorem flush {B C : Nat} {W2 w3 w4 : World} {vp vr : Value} {gs : List Nat} {cur : List Int} {us : List Tr} {t : Tr} {g g4 : Nat}
    (hP : OwnF ptrV 1 53 W2 B vp gs) (hV : OwnF runeV 1 21 W2 C vr cur) (hBC : B < C) (hC2 : C ≤ W2.heap.size) (hT : AtsD W2 (fun b => B < b ∧ b < C ∧ vp.ownBlock ≠ some b) us gs)
    (hA : AtD w3 (fun b => W2.heap.size ≤ b ∨ vr.ownBlock = some b) t g) (hb3 : Below W2.heap.size W2 w3) (hk4 : Keeps w3 w4 vp) (hs : w3.heap.size ≤ w4.heap.size) (hat : vp.ownBlock = some g4 ∨ w3.heap.size < g4) :
    AtsD w4 (fun b => B < b ∧ b < w4.heap.size ∧ some g4 ≠ some b) (us ++ [t]) (gs ++ [g]) := by
  have hs3 := hb3.size
  refine AtsD.append ?_ (AtsD.one ?_)
  · have h3 := hT.keep (w' := w3) (fun b hb => hb3.block b (by omega)) hs3
    have h4 := h3.keep (w' := w4) (fun b hb => hk4 b (by omega) hb.2.2) hs
    refine h4.mono fun b hb => ⟨hb.1, by omega, fun e => ?_⟩
    rcases hat with h | h
    · exact hb.2.2 (by rw [h, e])
    · simp at e; omega
  · have h3 := hA.and_lt
    have key : ∀ b, ((W2.heap.size ≤ b ∨ vr.ownBlock = some b) ∧ b < w3.heap.size) → B < b ∧ vp.ownBlock ≠ some b := fun b hb => by
      rcases hb.1 with h | h
      · exact ⟨by omega, fun e => by have := hP.lt e; omega⟩
      · exact ⟨by have := hV.ge h; omega, fun e => own_apart hP hV (by decide) b e h⟩
    have h4 := h3.keep (w' := w4) (fun b hb => hk4 b hb.2 (key b hb).2) hs
    refine h4.mono fun b hb => ⟨(key b hb).1, by omega, fun e => ?_⟩
    rcases hat with h | h
    · exact (key b hb).2 (by rw [h, e])
    · simp at e; omega
set_option maxHeartbeats 2000000 in
theorem cut_any {s : ByteArray} {rs : List Int} (ht : IsText s rs) (hne : rs ≠ []) (hid : Int) (hlen : rs.length ≤ 1048576) (w : World) :
    Calls Tryd.prog 13 #[.string s, .int .i64 hid] w fun e w' => ∃ v gs ts, e = .returned v ∧ OwnF ptrV 1 53 w' w.heap.size v gs ∧ AtsD w' (fun b => w.heap.size < b ∧ v.ownBlock ≠ some b) ts gs ∧ Chunks rs hid ts ∧ Below w.heap.size w w' := by
  have hsm := ht.small
  go_enter Tryd.func13, Tryd.ntmps13
  go_wp2_with fail
  go_loopw [5, 6] (fun vp vr w' => ∃ j C F cur gs, CutR s rs hid w vp vr w' j C F cur gs) (fun _ _ w' => s.size - w'.iterPos w.heap.size)
  case atStart =>
    refine ⟨0, w.heap.size + 1, [], [], [], Nat.zero_le _, ?_, ownF_nil _ _, ownF_nil _ _, atsD_nil _ _, fun g hg => (by simp [Value.ownBlock] at hg), by omega, ?_, fun x hx => (by cases hx), by simp, fun _ => rfl, by simp, (Below.refl _ _).alloc (Nat.le_refl _) _⟩
    · rw [posOf_zero]; exact World.iter_heap _ _ _
    · exact Nat.le_of_eq (World.size_alloc _ _).symm
  case round =>
    obtain ⟨j, C, F, cur, gs, hR⟩ := hrel
    have hit := hR.iter
    have hj := hR.jle
    by_cases hjl : j < rs.length
    · have hnx : ∀ ty, (Instr.next (.pointer (some ⟨w.heap.size, 0, none⟩)) true ty).run Tryd.prog wr = _ := fun ty => run_next_text ht wr w.heap.size j ty hit hjl
      obtain ⟨hP, hV, hT, hb2, hit2, hC2⟩ := hR.step (posOf rs (j + 1))
      have HP : Hid (wr.iterPos w.heap.size = posOf rs j) := by simp [Hid, World.iterPos, hit]
      generalize hW : wr.iterAt w.heap.size s (posOf rs (j + 1)) = W2 at *
      clear hW hit
      have hpC := hR.pC
      have hC1 := hR.C1
      have hfull := hR.full
      have hfew := hR.few
      have hall := hR.all
      have htk : rs.take (j + 1) = rs.take j ++ [rs[j]] := List.take_succ_eq_append_getElem hjl
      generalize hrj : rs[j] = r at *
      have HTK : Hid (rs.take (j + 1) = rs.take j ++ [r]) := htk
      have HALL : Hid (F.flatten ++ cur = rs.take j) := hall
      have HF : Hid (∀ x ∈ F, x.length = 32) := hfull
      clear htk hall hfull hrj hR
      obtain ⟨ar, cr, rfl⟩ := hV.shape
      by_cases h32 : cur.length = 32
      · have hz : ((cur.length : Int) == 32) = true := by rw [beq_iff_eq]; omega
        have hcne : cur ≠ [] := by intro e; rw [e] at h32; simp at h32
        have HPC := piece_d hV.rwn hid (by omega) (fun b => W2.heap.size ≤ b ∨ (Value.slice ar cur.length cr).ownBlock = some b) (fun b hb => .inl hb) (fun h0 gr off e => .inr (by rw [e]; rfl))
        rw [mkPiece_leaf hid hcne] at HPC
        have HH : Hid (cur.length = 32) := h32
        clear h32 hcne
        go_wp2_with fail
        refine HPC.mono ?_
        rintro e w3 ⟨g3, rfl, hA3, hb3⟩
        unfold ptr
        have hgl : gs.length ≤ 1048576 := by
          have h1 := hT.1
          have h2 := flatten_len HF.out HALL.out
          rw [List.length_map] at h1
          omega
        obtain ⟨g4, cap4, w4, hr4, ho4, hb4, hkp4, hgt4, hat4⟩ := appendF_one kindG layG (hP.below hb3) (by have := hb3.size; omega) g3 #[.pointer (some ⟨g3, 0, none⟩)] rfl 53 (by omega) (by omega) 51
        have hF4 := flush hP hV hC1 hC2 hT hA3 hb3 hkp4 (by omega) hat4
        obtain ⟨g5, cap5, w5, hr5, ho5, hb5, hkp5, hgt5, hat5⟩ := appendF_one kindN layN (ownF_nil w4 w4.heap.size) (Nat.le_refl _) r #[.int .i32 r] rfl 21 (by simp) (by simp) 66
        have hit5 : w5.heap[w.heap.size]? = some (.stringIter s (posOf rs (j + 1))) := by
          have hs3 := hb3.size
          rw [hb5.block _ (by omega), hkp4 _ (by omega) (fun e => hP.notIter hit2 e), hb3.block _ (by omega)]
          exact hit2
        have hB5 : Below w.heap.size w w5 := ((hb2.trans (hb3.mono (by omega))).trans hb4).trans (hb5.mono (by have := hb3.size; omega))
        have hnew : CutR s rs hid w (.slice (some ⟨g4, 0, none⟩) (gs.length + 1) cap4) (.slice (some ⟨g5, 0, none⟩) (([] : List Int).length + 1) cap5) w5 (j + 1) w4.heap.size (F ++ [cur]) ([] ++ [r]) (gs ++ [g3]) := by
          refine ⟨by omega, hit5, ho4.below hb5, ho5, ?_, fun g hg => ?_, by have := hb3.size; omega, hb5.size, fun x hx => ?_, by simp, fun e => (by simp at e), ?_, hB5⟩
          · rw [List.map_append]
            exact hF4.keep (fun b hb => hb5.block b (by omega)) hb5.size
          · have := ho4.lt hg
            exact this
          · rcases List.mem_append.1 hx with hx | hx
            · exact HF.out x hx
            · simp at hx; subst hx; exact HH.out
          · rw [List.flatten_append, HTK.out, ← HALL.out]
            simp
        have HN : Hid (CutR s rs hid w (.slice (some ⟨g4, 0, none⟩) (gs.length + 1) cap4) (.slice (some ⟨g5, 0, none⟩) (([] : List Int).length + 1) cap5) w5 (j + 1) w4.heap.size (F ++ [cur]) ([] ++ [r]) (gs ++ [g3])) := hnew
        clear hnew hF4 ho4 ho5 hkp4 hkp5 hP hV hT hA3 hB5
        go_wp2_with (first | (at_builtin; refine wpList_append_hr rfl _ _ 51 rfl _ _ rfl rfl hr4 ?_) | (at_builtin; refine wpList_append_hr rfl _ _ 66 rfl _ _ rfl rfl hr5 ?_))
        refine ⟨⟨_, _, _, _, _, HN.out⟩, ?_⟩
        rw [HP.out, iterPos_of' hit5, ht.size]
        have h1 := posOf_lt rs (i := j) (j := j + 1) (by omega) (by omega)
        have h2 := posOf_mono rs (i := j + 1) (j := rs.length) (by omega)
        omega
      · have hz : ((cur.length : Int) == 32) = false := by rw [beq_eq_false_iff_ne]; omega
        obtain ⟨g5, cap5, w5, hr, ho5, hb5, hkp5, hgt5, hat5⟩ := appendF_one kindN layN hV hC2 r #[.int .i32 r] rfl 21 (by omega) (by omega) 66
        have hit5 : w5.heap[w.heap.size]? = some (.stringIter s (posOf rs (j + 1))) := (hb5.block _ hC1).trans hit2
        have hnew : CutR s rs hid w u5 (.slice (some ⟨g5, 0, none⟩) (cur.length + 1) cap5) w5 (j + 1) C F (cur ++ [r]) gs := by
          refine ⟨by omega, hit5, hP.keep (fun q hq => hb5.block q (hpC q hq)), ho5, hT.keep (fun b hb => hb5.block b (by omega)) hb5.size, hpC, hC1, by have := hb5.size; omega, HF.out, by simp; omega, fun e => (by simp at e), ?_, hb2.trans (hb5.mono (by omega))⟩
          rw [← List.append_assoc, HALL.out, HTK.out]
        have HN : Hid (CutR s rs hid w u5 (.slice (some ⟨g5, 0, none⟩) (cur.length + 1) cap5) w5 (j + 1) C F (cur ++ [r]) gs) := hnew
        clear hnew hP hV hT hpC ho5 hkp5
        go_wp2_with (at_builtin; refine wpList_append_hr rfl _ _ 66 rfl _ _ rfl rfl hr ?_)
        refine ⟨⟨_, _, _, _, _, HN.out⟩, ?_⟩
        rw [HP.out, iterPos_of' hit5, ht.size]
        have h1 := posOf_lt rs (i := j) (j := j + 1) (by omega) (by omega)
        have h2 := posOf_mono rs (i := j + 1) (j := rs.length) (by omega)
        omega
    · obtain rfl : j = rs.length := by omega
      have hnx : ∀ ty, (Instr.next (.pointer (some ⟨w.heap.size, 0, none⟩)) true ty).run Tryd.prog wr = _ := fun ty => run_next_done ht wr w.heap.size ty hit
      have hP := hR.ownP
      have hV := hR.ownR
      have hT := hR.trees
      have hC1 := hR.C1
      have hC2 := hR.C2
      have hb2 := hR.below
      have hcne : cur ≠ [] := fun e => hne (List.eq_nil_of_length_eq_zero (hR.start e))
      have hfew := hR.few
      have hall := hR.all
      rw [List.take_length] at hall
      have HCH : Hid (Chunks rs hid ((F ++ [cur]).map fun x => Tr.leaf x hid 0)) := chunks_end hR.full hR.few hcne hall
      obtain ⟨ar, cr, rfl⟩ := hV.shape
      have HPC := piece_d hV.rwn hid (by omega) (fun b => wr.heap.size ≤ b ∨ (Value.slice ar cur.length cr).ownBlock = some b) (fun b hb => .inl hb) (fun h0 gr off e => .inr (by rw [e]; rfl))
      rw [mkPiece_leaf hid hcne] at HPC
      have hgl : gs.length ≤ 1048576 := by
        have h1 := hT.1
        have h2 := flatten_len hR.full hR.all
        rw [List.length_map] at h1
        omega
      clear hR hcne hall hit
      go_wp2_with fail
      refine HPC.mono ?_
      rintro e w3 ⟨g3, rfl, hA3, hb3⟩
      unfold ptr
      obtain ⟨g4, cap4, w4, hr4, ho4, hb4, hkp4, hgt4, hat4⟩ := appendF_one kindG layG (hP.below hb3) (by have := hb3.size; omega) g3 #[.pointer (some ⟨g3, 0, none⟩)] rfl 53 (by omega) (by omega) 51
      have hF4 := flush hP hV hC1 hC2 hT hA3 hb3 hkp4 (by omega) hat4
      have hB4 : Below w.heap.size w w4 := (hb2.trans (hb3.mono (by omega))).trans hb4
      clear hP hV hT hA3 hkp4
      go_wp2_with (at_builtin; refine wpList_append_hr rfl _ _ 51 rfl _ _ rfl rfl hr4 ?_)
      go_ret
      refine ⟨_, _, _, rfl, ho4, ?_, HCH.out, hB4⟩
      rw [List.map_append]
      exact hF4.mono fun b hb => ⟨hb.1, hb.2.2⟩
end Go.Proofs.YtokclnjaglklhaaDoor
