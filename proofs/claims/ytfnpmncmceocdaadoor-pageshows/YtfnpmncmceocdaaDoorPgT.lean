import Derived.Test.YtfnpmncmceocdaaDoorPgS
/-! Spot, Find, where they take the call. -/
namespace Go.Proofs.YtfnpmncmceocdaaDoor
open Go.RowKit Go.Lib Go.Shelf
set_option maxRecDepth 100000

/-- What lay answers, as the calls read it. -/
def LayP (rs : List Int) (W : Nat) (s : ByteArray) (w : World) (e : Ending) (w' : World) : Prop := ∃ a k cap, e = .returned (.tuple #[.agg #[.string s, .int .i64 (rs.length : Int), .slice a k cap], .int .i64 0]) ∧ Sheet rs W w' a k cap ∧ Below w.heap.size w w'
theorem lay_sheet {s : ByteArray} {rs : List Int} (ht : IsText s rs) (W H : Nat) (hW : 1 ≤ W ∧ W ≤ 1024) (hH : 1 ≤ H ∧ H ≤ 1024) (hn : rs.length ≤ 4294967000) {w : World} (hP : PTab w) (hG : Glob w.heap.size) :
    Calls Tryd.prog 14 #[.string s, .int .i64 (W : Int), .int .i64 (H : Int)] w (LayP rs W s w) := by
  refine (lay_ok ht W H hW hH (by omega) hP hG).mono ?_
  rintro e w' ⟨v, rfl, ho, hb⟩
  obtain ⟨a, cap, ev⟩ := ho.shape
  rw [List.length_map] at ev
  subst ev
  have hr := ho.rw_ layR6
  exact ⟨a, _, cap, rfl, ⟨hr, rfl, hn⟩, hb⟩
/-- The row and column of a place. -/
def SpotP (rs : List Int) (W at' r c : Nat) : Prop := ∃ lo hi hard, Stands rs W at' r lo hi hard ∧ c = wd rs lo at'
set_option maxHeartbeats 8000000 in
theorem Spot_ok {s : ByteArray} {rs : List Int} (ht : IsText s rs) (W : Nat) (hW : 1 ≤ W ∧ W ≤ 1024) (hn : rs.length ≤ 4294967000) {w : World} (hP : PTab w) (hG : Glob w.heap.size) (at' : Nat) (hat : at' ≤ rs.length) :
    Calls Tryd.prog 7 #[.string s, .int .i64 (W : Int), .int .i64 (at' : Int)] w fun e w' => ∃ r c : Nat, e = .returned (.tuple #[.int .i64 (r : Int), .int .i64 (c : Int), .int .i64 0]) ∧ SpotP rs W at' r c ∧ Below w.heap.size w w' := by
  have HLa := lay_sheet ht W 1 hW ⟨by omega, by omega⟩ hn hP hG
  have HT : Hid (IsText s rs ∧ PTab w ∧ Glob w.heap.size ∧ rs.length ≤ 4294967000) := ⟨ht, hP, hG, hn⟩
  clear ht hW hn hP hG
  have HAt : Hid (at' ≤ rs.length) := hat
  clear hat
  go_enter Tryd.func7, Tryd.ntmps7
  go_wp2_with fail
  refine HLa.mono ?_
  rintro e w1 ⟨a, k, cap, rfl, hsh, hb1⟩
  obtain ⟨m, hm⟩ : ∃ m, rs.length = m := ⟨_, rfl⟩
  rw [hm]
  obtain ⟨w2, hw2⟩ : ∃ V, w1.alloc (.cells #[.string s, .int .i64 (m : Int), .slice a k cap] 48) = V := ⟨_, rfl⟩
  have hb2 : Below w1.heap.size w1 w2 := by rw [← hw2]; exact (Below.refl _ _).alloc (Nat.le_refl _) _
  have hx2 : w2.heap[w1.heap.size]? = some (.cells #[.string s, .int .i64 (m : Int), .slice a k cap] 48) := by rw [← hw2]; exact heap_alloc_new _ _
  have hbw2 := hb1.trans (hb2.mono hb1.size)
  have hsh2 := hsh.below hb2
  obtain ⟨c0, c1, c2⟩ := box3 hx2
  have hha := has_any s m a k cap (at' : Int) w2
  rw [show decide (0 ≤ (at' : Int) ∧ (at' : Int) ≤ (m : Int)) = true from decide_eq_true ⟨by omega, by have := HAt.out; omega⟩] at hha
  have HM : Hid (rs.length = m) := hm
  clear hm hsh hb1 hb2 HLa
  go_wp2_with fail
  refine hha.mono ?_
  rintro e w3 ⟨rfl, hb3⟩
  have hx3 := (hb3.block _ (Array.getElem?_eq_some_iff.1 hx2).1).trans hx2
  have hbw3 := hbw2.trans (hb3.mono hbw2.size)
  have hsh3 := hsh2.below hb3
  obtain ⟨N, hN⟩ : ∃ N, w1.heap.size = N := ⟨_, rfl⟩
  rw [hN] at hx3 ⊢
  clear hha hb3 hx2 hsh2 hbw2 c0 c1 c2 hN hw2
  go_wp2_with fail
  obtain ⟨w4, hw4⟩ : ∃ V, w3.drew = V := ⟨_, rfl⟩
  have hb4 : Below w3.heap.size w3 w4 := by rw [← hw4]; exact (Below.refl _ _).drew
  have hx4 := (hb4.block _ (Array.getElem?_eq_some_iff.1 hx3).1).trans hx3
  have hbw4 := hbw3.trans (hb4.mono hbw3.size)
  have hsh4 := hsh3.below hb4
  have HRo := rowOf_any hsh4 s m at'
  have HCol : Hid (∀ V, Below w4.heap.size w4 V → Calls Tryd.prog 17 #[.agg #[.string s, .int .i64 (m : Int), .slice a k cap], .int .i64 (at' : Int)] V fun e w' => ∃ c : Nat, e = .returned (.int .i64 (c : Int)) ∧ ColP rs W at' c ∧ Below V.heap.size V w') := fun V hV => column_any HT.out.1 (hsh4.below hV) (HT.out.2.1.below (hbw4.trans (hV.mono hbw4.size))) m at' HAt.out
  clear hx3 hb4 hbw3 hsh3 hsh4
  refine wp_region_held_drew (S := (fun v => v.heap[N]? = some (.cells #[.string s, .int .i64 (m : Int), .slice a k cap] 48))) (by kernel_rfl) ?hSX (fun hHeld => ?restX)
  case hSX => (rw [hw4]; exact hx4)
  rw [hw4] at hHeld ⊢
  clear hw4
  refine takeD (i := 0) (d := some 23) (v := ?vT39) rfl rfl (by kernel_rfl) (by kernel_rfl) (by kernel_rfl) (fun _ _ _ h => h) (Or.inl ⟨by rfl, ?hyT39⟩) (by assumption) ?rstT39
  case hyT39 => (intro v hSw; obtain ⟨s0, s1, s2⟩ := box3 hSw; go_simp; (try with_reducible rfl))
  try simp only [Act.put, List.setIfInBounds_toArray, List.set_cons_zero, List.set_cons_succ]
  refine takeD (i := 1) (d := some 24) (v := ?vT40) rfl rfl (by kernel_rfl) (by kernel_rfl) (by kernel_rfl) (fun _ _ _ h => h) (Or.inl ⟨by rfl, ?hyT40⟩) (by assumption) ?rstT40
  case hyT40 => (intro v hSw; obtain ⟨s0, s1, s2⟩ := box3 hSw; go_simp; (try with_reducible rfl))
  try simp only [Act.put, List.setIfInBounds_toArray, List.set_cons_zero, List.set_cons_succ]
  refine takeD (i := 3) (d := some 26) (v := ?vT41) rfl rfl (by kernel_rfl) (by kernel_rfl) (by kernel_rfl) (fun _ _ _ h => h) (Or.inl ⟨by rfl, ?hyT41⟩) (by assumption) ?rstT41
  case hyT41 => (intro v hSw; obtain ⟨s0, s1, s2⟩ := box3 hSw; go_simp; (try with_reducible rfl))
  try simp only [Act.put, List.setIfInBounds_toArray, List.set_cons_zero, List.set_cons_succ]
  refine takeD (i := 4) (d := some 27) (v := ?vT42) rfl rfl (by kernel_rfl) (by kernel_rfl) (by kernel_rfl) (fun _ _ _ h => h) (Or.inl ⟨by rfl, ?hyT42⟩) (by assumption) ?rstT42
  case hyT42 => (intro v hSw; obtain ⟨s0, s1, s2⟩ := box3 hSw; go_simp; (try with_reducible rfl))
  try simp only [Act.put, List.setIfInBounds_toArray, List.set_cons_zero, List.set_cons_succ]
  refine wpAnyH_ready (rs := [2]) (by kernel_rfl) (by simp) ?_
  refine AllReadyH.cons rfl (fun K hK => ?_) AllReadyH.nil
  go_simp
  refine HRo.mono ?_
  rintro e u5 ⟨r, lo, hi, hard, rfl, hst, hb5⟩
  have hx5 := (hb5.block _ (Array.getElem?_eq_some_iff.1 hx4).1).trans hx4
  have HCo := HCol.out u5 hb5
  have hbw5 := hbw4.trans (hb5.mono hbw4.size)
  have HSt : Hid (Stands rs W at' r lo hi hard) := hst
  clear hb5 hx4 HRo hst HCol
  dsimp only
  clear hHeld
  refine hK.out _ _ ?hS43 (fun hHeld => ?rest43)
  case hS43 => exact hx5
  clear hK K
  try simp only [Act.put, List.setIfInBounds_toArray, List.set_cons_zero, List.set_cons_succ]
  refine wpAnyH_ready (rs := [5]) (by kernel_rfl) (by simp) ?_
  refine AllReadyH.cons rfl (fun K hK => ?_) AllReadyH.nil
  go_simp
  refine HCo.mono ?_
  rintro e u6 ⟨c, rfl, hcp, hb6⟩
  have hx6 := (hb6.block _ (Array.getElem?_eq_some_iff.1 hx5).1).trans hx5
  have HN : Hid (SpotP rs W at' r c ∧ Below w.heap.size w u6) := ⟨by
    obtain ⟨r', lo', hi', hard', hst', hc'⟩ := hcp
    obtain rfl := HSt.out.unique hst'
    exact ⟨lo', hi', hard', hst', hc'⟩, hbw5.trans (hb6.mono hbw5.size)⟩
  clear hb6 hx5 HCo hcp HSt hbw5
  dsimp only
  clear hHeld
  refine hK.out _ _ ?hS44 (fun hHeld => ?rest44)
  case hS44 => exact hx6
  clear hK K
  try simp only [Act.put, List.setIfInBounds_toArray, List.set_cons_zero, List.set_cons_succ]
  refine takeD (i := 6) (d := some 6) (v := ?vT45) rfl rfl (by kernel_rfl) (by kernel_rfl) (by kernel_rfl) (fun _ _ _ h => h) (Or.inl ⟨by rfl, ?hyT45⟩) (by assumption) ?rstT45
  case hyT45 => (intro v hSw; obtain ⟨s0, s1, s2⟩ := box3 hSw; go_simp; (try with_reducible rfl))
  try simp only [Act.put, List.setIfInBounds_toArray, List.set_cons_zero, List.set_cons_succ]
  refine takeD (i := 7) (d := some 7) (v := ?vT46) rfl rfl (by kernel_rfl) (by kernel_rfl) (by kernel_rfl) (fun _ _ _ h => h) (Or.inl ⟨by rfl, ?hyT46⟩) (by assumption) ?rstT46
  case hyT46 => (intro v hSw; obtain ⟨s0, s1, s2⟩ := box3 hSw; go_simp; (try with_reducible rfl))
  try simp only [Act.put, List.setIfInBounds_toArray, List.set_cons_zero, List.set_cons_succ]
  refine takeD (i := 8) (d := some 8) (v := ?vT47) rfl rfl (by kernel_rfl) (by kernel_rfl) (by kernel_rfl) (fun _ _ _ h => h) (Or.inl ⟨by rfl, ?hyT47⟩) (by assumption) ?rstT47
  case hyT47 => (intro v hSw; obtain ⟨s0, s1, s2⟩ := box3 hSw; go_simp; (try with_reducible rfl))
  try simp only [Act.put, List.setIfInBounds_toArray, List.set_cons_zero, List.set_cons_succ]
  refine wpAnyH_done (by kernel_rfl) ?_ _
  clear hHeld
  go_wp2_with fail
  refine bodyPost_ret (v := .tuple #[.int .i64 (r : Int), .int .i64 (c : Int), .int .i64 0]) (by simp [results, Tryd.results7, go_sem]) rfl ?_
  exact ⟨r, c, rfl, HN.out⟩
end Go.Proofs.YtfnpmncmceocdaaDoor
