import Derived.Test.YtfnpmncmceocdaaDoorPgSh
/-! bars: how many bars a string has, and the string without its first one and without blanks at its end. -/
namespace Go.Proofs.YtfnpmncmceocdaaDoor
open Go.RowKit Go.Lib Go.Shelf
set_option maxRecDepth 100000

/-- Without blanks at the end. -/
def trimI (l : List Int) : List Int := (l.reverse.dropWhile (fun r => r == 32)).reverse
theorem trimI_snoc (l : List Int) (r : Int) : trimI (l ++ [r]) = if r = 32 then trimI l else l ++ [r] := by
  unfold trimI
  rw [List.reverse_append]
  simp only [List.reverse_cons, List.reverse_nil, List.nil_append, List.cons_append, List.dropWhile_cons]
  by_cases h : r = 32
  · simp [h]
  · have h2 : (r == 32) = false := beq_eq_false_iff_ne.2 h
    simp [h, h2]
theorem trimI_nil : trimI [] = [] := rfl
theorem trimI_drop {l : List Int} {j : Nat} (h : l[j]? = some 32) : trimI (l.take (j + 1)) = trimI (l.take j) := by
  rw [List.take_add_one, h]
  show trimI (l.take j ++ [32]) = _
  rw [trimI_snoc, if_pos rfl]
theorem trimI_keep {l : List Int} {j : Nat} {r : Int} (h : l[j]? = some r) (hr : r ≠ 32) : trimI (l.take (j + 1)) = l.take (j + 1) := by
  rw [List.take_add_one, h]
  show trimI (l.take j ++ [r]) = _
  rw [trimI_snoc, if_neg hr]
  rfl
/-- The first bar is left out. -/
def unbar : List Int → List Int
  | [] => []
  | r :: l => if r = 124 then l else r :: unbar l
theorem unbar_snoc : ∀ (l : List Int) (r : Int), unbar (l ++ [r]) = if r = 124 ∧ l.count 124 = 0 then unbar l else unbar l ++ [r]
  | [], r => by
    by_cases h : r = 124
    · simp [unbar, h]
    · simp [unbar, h]
  | x :: l, r => by
    have ih := unbar_snoc l r
    by_cases hx : x = 124
    · subst hx
      simp [unbar]
    · have h1 : (x :: l).count 124 = l.count 124 := List.count_cons_of_ne hx
      simp only [List.cons_append, unbar, if_neg hx, h1, ih]
      split <;> rfl
theorem rw_cut {W : World} {a : Option Addr} {n cap : Nat} {l : List Int} (h : Rw rune1 1 W a n cap l) {m : Nat} (hm : m ≤ n) : Rw rune1 1 W a m cap (l.take m) := by
  have hl := h.len
  refine ⟨by rw [List.length_take]; omega, ⟨by have := h.room.1; omega, h.room.2⟩, fun h0 => ?_⟩
  obtain ⟨g, off, ea, hg, hc⟩ := h.cells (by omega)
  refine ⟨g, off, ea, hg, fun j x hj i v hv => hc j x ?_ i v hv⟩
  rw [List.getElem?_take] at hj
  split at hj
  · exact hj
  · cases hj
set_option maxHeartbeats 8000000 in
theorem bars_any {s : ByteArray} {R : List Int} (ht : IsText s R) (hn : R.length ≤ 1000000) (w : World) :
    Calls Tryd.prog 10 #[.string s] w fun e w' => e = .returned (.tuple #[.int .i64 (R.count 124 : Nat), .string (strOf (trimI (unbar R)))]) ∧ Below w.heap.size w w' := by
  have HT : Hid (IsText s R ∧ R.length ≤ 1000000) := ⟨ht, hn⟩
  clear hn
  go_enter Tryd.func10, Tryd.ntmps10
  go_wp2_with fail
  go_loopw [4, 5] (fun v4 v5 w' => ∃ j : Nat, v4 = .int .i64 (((R.take j).count 124 : Nat) : Int) ∧ j ≤ R.length ∧ Hid (w'.heap[w.heap.size]? = some (.stringIter s (posOf R j)) ∧ OwnF rune1 1 21 w' (w.heap.size + 1) v5 (unbar (R.take j)) ∧ Below w.heap.size w w')) (fun _ _ w' => s.size - w'.iterPos w.heap.size)
  case atStart =>
    refine ⟨0, rfl, Nat.zero_le _, ?_, ownF_nil _ _, (Below.refl _ _).alloc (Nat.le_refl _) _⟩
    rw [posOf_zero]; exact World.iter_heap _ _ _
  case round =>
    obtain ⟨j, rfl, hj, HS⟩ := hrel
    obtain ⟨hit, ho, hb⟩ := HS.out
    by_cases hjl : j < R.length
    · have hnx : ∀ ty, (Instr.next (.pointer (some ⟨w.heap.size, 0, none⟩)) true ty).run Tryd.prog wr = _ := fun ty => run_next_text ht wr w.heap.size j ty hit hjl
      have hb2 : Below w.heap.size w (wr.iterAt w.heap.size s (posOf R (j + 1))) := below_iterAt hb (Nat.le_refl _) _ _
      have hit2 := iterAt_heap wr w.heap.size s _ (posOf R (j + 1)) hit
      have ho2 : OwnF rune1 1 21 (wr.iterAt w.heap.size s (posOf R (j + 1))) (w.heap.size + 1) u5 (unbar (R.take j)) := ho.keep (fun g hg => iterAt_other _ _ _ _ _ (by have := ho.ge hg; omega))
      have HP : Hid (wr.iterPos w.heap.size = posOf R j) := iterPos_of' hit
      have hsz2 : (wr.iterAt w.heap.size s (posOf R (j + 1))).heap.size = wr.heap.size := iterAt_size _ _ _ _
      have hszr : w.heap.size + 1 ≤ wr.heap.size := (Array.getElem?_eq_some_iff.1 hit).1
      generalize hW : wr.iterAt w.heap.size s (posOf R (j + 1)) = W2 at *
      have hrr : R[j]? = some R[j] := List.getElem?_eq_getElem hjl
      have hct : (R.take j).length = j := by rw [List.length_take]; omega
      have hub : (unbar (R.take j)).length ≤ j := by
        have : ∀ l : List Int, (unbar l).length ≤ l.length := fun l => by
          induction l with
          | nil => exact Nat.le_refl _
          | cons x t ih => unfold unbar; split <;> simp only [List.length_cons] <;> omega
        have := this (R.take j); omega
      have hcnt : (R.take j).count 124 ≤ j := by
        have := List.count_le_length (a := (124 : Int)) (l := R.take j)
        omega
      have hsn := unbar_snoc (R.take j) R[j]
      have htk : R.take (j + 1) = R.take j ++ [R[j]] := by rw [List.take_add_one, hrr]; rfl
      have HEnd : Hid (∀ w3 v, w3.heap[w.heap.size]? = some (.stringIter s (posOf R (j + 1))) → OwnF rune1 1 21 w3 (w.heap.size + 1) v (unbar (R.take (j + 1))) → Below w.heap.size w w3 → (∃ j', Value.int .i64 (((R.take (j + 1)).count 124 : Nat) : Int) = .int .i64 (((R.take j').count 124 : Nat) : Int) ∧ j' ≤ R.length ∧ Hid (w3.heap[w.heap.size]? = some (.stringIter s (posOf R j')) ∧ OwnF rune1 1 21 w3 (w.heap.size + 1) v (unbar (R.take j')) ∧ Below w.heap.size w w3)) ∧ s.size - w3.iterPos w.heap.size < s.size - wr.iterPos w.heap.size) := fun w3 v h1 h2 h3 => by
        refine ⟨⟨j + 1, rfl, by omega, h1, h2, h3⟩, ?_⟩
        rw [HP.out, iterPos_of' h1, HT.out.1.size]
        have h1 := posOf_lt R (i := j) (j := j + 1) (by omega) (by omega)
        have h2 := posOf_mono R (i := j + 1) (j := R.length) (by omega)
        omega
      rw [htk] at HEnd
      have hbd := ht.bound j hjl
      obtain ⟨b2, cap2, ev⟩ := ho2.shape
      obtain ⟨k, hk⟩ : ∃ k, (unbar (R.take j)).length = k := ⟨_, rfl⟩
      obtain ⟨c, hc⟩ : ∃ c, (R.take j).count 124 = c := ⟨_, rfl⟩
      have hcc : ∀ r, (R.take j ++ [r]).count 124 = if r = 124 then c + 1 else c := fun r => by
        rw [List.count_append, hc]
        by_cases h : r = 124
        · subst h; simp
        · rw [if_neg h]; simp [h]
      rw [hc] at hcnt hsn ⊢
      generalize R[j] = r at *
      rw [hk] at ev
      have hcb : c ≤ 1000000 := by have := HT.out.2; omega
      have hkb : k ≤ 1000000 := by have := HT.out.2; omega
      have HApp : Hid (∃ g5 cap5 w6, (Builtin.append_ #[23, 23] 23 #[.slice b2 k cap2, .slice (some ⟨W2.heap.size, 0, none⟩) 1 1]).run Tryd.prog (W2.alloc (.cells #[.int .i32 r] 21)) = .ok (.slice (some ⟨g5, 0, none⟩) (k + 1) cap5) w6 ∧ Hid (OwnF rune1 1 21 w6 (w.heap.size + 1) (.slice (some ⟨g5, 0, none⟩) (k + 1) cap5) (unbar (R.take j) ++ [r]) ∧ w6.heap[w.heap.size]? = some (.stringIter s (posOf R (j + 1))) ∧ Below w.heap.size w w6)) := by
        obtain ⟨g5, cap5, w6, hr, ho6, hb6, -⟩ := appendF_one kindRu layRu ho2 (by omega) r #[.int .i32 r] rfl 21 (by omega) (by omega) 23
        rw [ev, hk] at hr
        rw [hk] at ho6
        exact ⟨g5, cap5, w6, hr, ho6, (hb6.block _ (Nat.lt_succ_self _)).trans hit2, hb2.trans (hb6.mono (Nat.le_succ _))⟩
      have HO2 : Hid (OwnF rune1 1 21 W2 (w.heap.size + 1) u5 (unbar (R.take j)) ∧ W2.heap[w.heap.size]? = some (.stringIter s (posOf R (j + 1))) ∧ Below w.heap.size w W2) := ⟨ho2, hit2, hb2⟩
      have HSn : Hid (unbar (R.take j ++ [r]) = if r = 124 ∧ c = 0 then unbar (R.take j) else unbar (R.take j) ++ [r]) := hsn
      have HCc : Hid ((R.take j ++ [r]).count 124 = if r = 124 then c + 1 else c) := hcc r
      have HU : Hid (u5 = .slice b2 k cap2) := ev
      clear hsn hcc ho2 hit2 hb2 ho hb hit HS hW hk hc htk hrr hct hub hcnt hsz2 hszr hbd ht HP
      by_cases h1 : r = 124
      · subst h1
        have z1 : ((124 : Int) == 124) = true := rfl
        by_cases h2 : c = 0
        · subst h2
          have e1 := HSn.out
          rw [if_pos ⟨rfl, rfl⟩] at e1
          have e2 := HCc.out
          rw [if_pos rfl] at e2
          rw [e1, e2] at HEnd
          have HE := HEnd.out W2 u5 HO2.out.2.1 HO2.out.1 HO2.out.2.2
          clear ev HApp HSn HCc HEnd e1 e2
          go_wp2_with fail
          exact HE
        · have e1 := HSn.out
          rw [if_neg (fun h => h2 h.2)] at e1
          have e2 := HCc.out
          rw [if_pos rfl] at e2
          rw [e1, e2] at HEnd
          obtain ⟨g5, cap5, w6, hr6, HN⟩ := HApp.out
          have HE := HEnd.out w6 _ HN.out.2.1 HN.out.1 HN.out.2.2
          have z2 : ((c : Int) + 1 == 1) = false := beq_eq_false_iff_ne.2 (by omega)
          subst ev
          clear HApp HSn HCc HEnd e1 e2 HO2 HU
          go_wp2_with (at_builtin; refine wpList_append_hr rfl _ _ 23 rfl _ _ rfl rfl hr6 ?_)
          exact HE
      · have z1 : (r == 124) = false := beq_eq_false_iff_ne.2 h1
        have e1 := HSn.out
        rw [if_neg (fun h => h1 h.1)] at e1
        have e2 := HCc.out
        rw [if_neg h1] at e2
        rw [e1, e2] at HEnd
        obtain ⟨g5, cap5, w6, hr6, HN⟩ := HApp.out
        have HE := HEnd.out w6 _ HN.out.2.1 HN.out.1 HN.out.2.2
        subst ev
        clear HApp HSn HCc HEnd e1 e2 HO2 HU
        go_wp2_with (at_builtin; refine wpList_append_hr rfl _ _ 23 rfl _ _ rfl rfl hr6 ?_)
        exact HE
    · obtain rfl : j = R.length := by omega
      have hnx : ∀ ty, (Instr.next (.pointer (some ⟨w.heap.size, 0, none⟩)) true ty).run Tryd.prog wr = _ := fun ty => run_next_done ht wr w.heap.size ty hit
      obtain ⟨a9, cap9, ev⟩ := ho.shape
      rw [List.take_length] at ho ev ⊢
      obtain ⟨U, hU⟩ : ∃ U, unbar R = U := ⟨_, rfl⟩
      have hub : (unbar R).length ≤ R.length := by
        have : ∀ l : List Int, (unbar l).length ≤ l.length := fun l => by
          induction l with
          | nil => exact Nat.le_refl _
          | cons x t ih => unfold unbar; split <;> simp only [List.length_cons] <;> omega
        exact this R
      rw [hU] at ho ev hub
      obtain ⟨k, hk⟩ : ∃ k, U.length = k := ⟨_, rfl⟩
      rw [hk] at ev hub
      rw [ev] at ho
      have hrw := ho.rw_ layRu
      obtain ⟨c, hc⟩ : ∃ c, R.count 124 = c := ⟨_, rfl⟩
      rw [hc]
      have HR : Hid (Below w.heap.size w wr ∧ Rw rune1 1 wr a9 k cap9 U ∧ unbar R = U ∧ R.count 124 = c ∧ U.length = k) := ⟨hb, hrw, hU, hc, hk⟩
      have hkb : k ≤ 1000000 := by have := HT.out.2; omega
      subst ev
      clear ho hb hit HS hj hjl hc hub hrw hU
      go_wp2_with fail
      go_loopw [5] (fun v5 w' => ∃ m : Nat, v5 = .slice a9 m cap9 ∧ m ≤ k ∧ Hid (trimI (U.take m) = trimI U) ∧ w' = wr) (fun v5 _ => match v5 with | .slice _ m _ => m | _ => 0)
      case atStart => exact ⟨k, rfl, Nat.le_refl _, by show _ = _; rw [List.take_of_length_le (by omega)], rfl⟩
      case round =>
        obtain ⟨m, rfl, hm, HM, hww⟩ := hrel
        obtain rfl := hww.symm
        clear hww
        have hrm := rw_cut HR.out.2.1 hm
        have hcap := hrm.room.1
        cases m with
        | zero =>
          have hcv : ∀ j, (convert 23 9 (.slice a9 0 cap9)).run Tryd.prog (wr.drewN j) = .ok (.string (strOf [])) (wr.drewN j) := fun j => conv_rw (hrm.below (below_drewN (Below.refl _ _) j))
          have HE : Hid (trimI (unbar R) = [] ∧ R.count 124 = c ∧ Below w.heap.size w wr) := ⟨by rw [HR.out.2.2.1]; exact HM.out.symm, HR.out.2.2.2.1, HR.out.1⟩
          clear hrm HM
          go_wp2_with fail
          go_quiet (fail)
          go_wp2_with fail
          go_ret2
          rw [HE.out.1, HE.out.2.1]
          exact ⟨rfl, below_drewN HE.out.2.2 _⟩
        | succ i =>
          obtain ⟨g, off, x, rfl, -, hx, hc⟩ := HR.out.2.1.at i (by omega)
          have c0 := hc 0 _ rfl
          simp only [Nat.mul_one, Nat.add_zero] at c0
          have t1 : ((i + 1 : Nat) : Int) - 1 = (i : Int) := by omega
          have t2 : decide (((i + 1 : Nat) : Int) > 0) = true := decide_eq_true (by omega)
          have t3 : decide ((0 : Int) < (i : Int) + 1) = true := decide_eq_true (by omega)
          by_cases h32 : x = 32
          · have z1 : (x == 32) = true := beq_iff_eq.2 h32
            have HN : Hid (trimI (U.take i) = trimI U) := by
              show _ = _
              rw [← HM.out, trimI_drop (by rw [hx, h32])]
            clear hx hc HM hrm h32
            go_wp2_with fail
            exact ⟨⟨i, rfl, by omega, HN.out, by simp⟩, by simp⟩
          · have z1 : (x == 32) = false := beq_eq_false_iff_ne.2 h32
            have hcv : ∀ j, (convert 23 9 (.slice (some ⟨g, off, none⟩) (i + 1) cap9)).run Tryd.prog (wr.drewN j) = .ok (.string (strOf (U.take (i + 1)))) (wr.drewN j) := fun j => conv_rw (hrm.below (below_drewN (Below.refl _ _) j))
            have HE : Hid (trimI (unbar R) = U.take (i + 1) ∧ R.count 124 = c ∧ Below w.heap.size w wr) := ⟨by rw [HR.out.2.2.1, ← HM.out, trimI_keep hx h32], HR.out.2.2.2.1, HR.out.1⟩
            clear hx hc HM hrm
            obtain ⟨S9, hS9⟩ : ∃ S9, strOf (U.take (i + 1)) = S9 := ⟨_, rfl⟩
            have HS9 : Hid (strOf (trimI (unbar R)) = S9) := by show _ = _; rw [HE.out.1, hS9]
            rw [hS9] at hcv
            clear hS9
            go_wp2_with fail
            go_quiet (fail)
            go_wp2_with fail
            go_ret2
            rw [HS9.out, HE.out.2.1]
            exact ⟨rfl, below_drewN HE.out.2.2 _⟩
end Go.Proofs.YtfnpmncmceocdaaDoor
