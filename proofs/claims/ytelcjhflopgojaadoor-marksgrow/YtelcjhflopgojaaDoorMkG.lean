import Derived.Test.YtelcjhflopgojaaDoorMkF
import Derived.Test.YtelcjhflopgojaaDoorMkW
import Derived.Deep.Cut
/-! Put. -/
namespace Go.Proofs.YtelcjhflopgojaaDoor
open Go.RowKit Go.Lib
set_option maxRecDepth 100000

theorem nameOk_len {nm : List UInt8} (h : nameOk nm = true) : nm.length ≤ 32 := by
  unfold nameOk at h
  simp only [Bool.and_eq_true, decide_eq_true_eq] at h
  exact h.1.2
/-- A new mark in a book. -/
theorem BookAt.put {w w' : World} {p b t ck q : Nat} {xs : List X} {nm : List UInt8} {lo hi : Nat} (h : BookAt w p b t xs ck) (hq : w.heap[q]? = some (boxM nm lo hi)) (hnew : ∀ x ∈ xs, x.q ≠ q) (hm : MapAt w' b (xs ++ [⟨nm, q, ck, lo, hi⟩]) (ck + 1)) (hC : Chg (fun g => g = b) w w') : BookAt w' p b t (xs ++ [⟨nm, q, ck, lo, hi⟩]) (ck + 1) := by
  have hqb : q ≠ b := by
    rintro rfl
    have := h.map.heap
    rw [hq] at this
    cases this
  refine ⟨hC.block h.box h.p_ne_b, hm, fun x hx => ?_, ?_⟩
  · rcases List.mem_append.1 hx with hx | hx
    · exact (h.mark x hx).chg hC (fun e => h.b_ne_q hx e.symm)
    · simp only [List.mem_singleton] at hx
      subst hx
      exact ⟨hC.block hq hqb⟩
  · rw [List.map_append, List.nodup_append]
    refine ⟨h.qs, by simp, ?_⟩
    intro a ha c hc
    obtain ⟨x, hx, rfl⟩ := List.mem_map.1 ha
    simp at hc; subst hc
    exact hnew x hx
set_option maxHeartbeats 4000000 in
theorem put_new_ {w : World} {p b t ck : Nat} {xs : List X} (h : BookAt w p b t xs ck) {nm : List UInt8} {lo hi : Nat} (hn : nameOk nm = true) (hp : lo < hi ∧ hi ≤ t) (hx : ∀ x ∈ xs, x.nm ≠ nm) (hf : xs.length < 256) :
    Calls Tryd.prog 6 #[.pointer (some ⟨p, 0, none⟩), .agg #[.string ⟨nm.toArray⟩, .int .i64 (lo : Int), .int .i64 (hi : Int)]] w fun e w' => e = .returned (.int .i64 0) ∧ (∃ q, w.heap.size ≤ q ∧ BookAt w' p b t (xs ++ [⟨nm, q, ck, lo, hi⟩]) (ck + 1)) ∧ Chg (fun g => g = b) w w' := by
  have hl := nameOk_len hn
  have HN : Hid (∀ w, Calls Tryd.prog 10 #[.string ⟨nm.toArray⟩] w fun e w' => e = .returned (.bool true) ∧ w' = w) := fun w => by
    have := isName_any nm (by omega) w
    rw [hn] at this
    exact this
  have HCo : Hid (∀ w, Calls Tryd.prog 11 #[.agg #[.string ⟨nm.toArray⟩, .int .i64 (lo : Int), .int .i64 (hi : Int)]] w fun e w' => e = .returned (.agg #[.string ⟨nm.toArray⟩, .int .i64 (lo : Int), .int .i64 (hi : Int)]) ∧ Below w.heap.size w w') := copied_any nm (by omega) lo hi
  have hb : Below w.heap.size w (w.alloc (.cells #[.string ⟨nm.toArray⟩, .int .i64 (lo : Int), .int .i64 (hi : Int)] 29)) := (Below.refl _ _).alloc (Nat.le_refl _) _
  have HB : Hid (Below w.heap.size w (w.alloc (.cells #[.string ⟨nm.toArray⟩, .int .i64 (lo : Int), .int .i64 (hi : Int)] 29))) := hb
  have hc := ((h.below hb).box)
  have hk : ∀ k, (Instr.lookup 45 (.map (some b)) (.string ⟨nm.toArray⟩) false).run Tryd.prog ((w.alloc (.cells #[.string ⟨nm.toArray⟩, .int .i64 (lo : Int), .int .i64 (hi : Int)] 29)).drewN k) = .ok (.pointer none) ((w.alloc (.cells #[.string ⟨nm.toArray⟩, .int .i64 (lo : Int), .int .i64 (hi : Int)] 29)).drewN k) := fun k => look_miss (h.below (below_drewN hb k)).map hx
  have hln : ∀ j ty, (Builtin.len_ #[45] ty #[.map (some b)]).run Tryd.prog ((w.alloc (.cells #[.string ⟨nm.toArray⟩, .int .i64 (lo : Int), .int .i64 (hi : Int)] 29)).drewN j) = .ok (.int .i64 (xs.length : Int)) ((w.alloc (.cells #[.string ⟨nm.toArray⟩, .int .i64 (lo : Int), .int .i64 (hi : Int)] 29)).drewN j) := fun j => len_map (h.below (below_drewN hb j)).map
  have hf2 : (xs.length : Int) < 256 := by omega
  obtain ⟨c0, c1⟩ := box2 hc
  have h1 : ¬ ((lo : Int) < 0) := by omega
  have h2 : ¬ ((hi : Int) ≤ (lo : Int)) := by omega
  have h3 : ¬ ((t : Int) < (hi : Int)) := by omega
  have a1 : decide ((lo : Int) < 0) = false := decide_eq_false h1
  have a2 : decide ((hi : Int) ≤ (lo : Int)) = false := decide_eq_false h2
  have HH : Hid (BookAt w p b t xs ck ∧ ∀ x ∈ xs, x.nm ≠ nm) := ⟨h, hx⟩
  clear hl hn hb hc h hx hf hp
  obtain ⟨ilo, hilo⟩ : ∃ i : Int, (lo : Int) = i := ⟨_, rfl⟩
  obtain ⟨ihi, hihi⟩ : ∃ i : Int, (hi : Int) = i := ⟨_, rfl⟩
  simp only [hilo, hihi] at h1 h2 h3 a1 a2 HCo HB hk hln c0 c1 ⊢
  obtain ⟨s, hs⟩ : ∃ s : ByteArray, (⟨nm.toArray⟩ : ByteArray) = s := ⟨_, rfl⟩
  simp only [hs] at HN HCo HB hk hln c0 c1 ⊢
  have HI : Hid ((lo : Int) = ilo ∧ (hi : Int) = ihi ∧ (⟨nm.toArray⟩ : ByteArray) = s) := ⟨hilo, hihi, hs⟩
  clear hilo hihi hs
  go_enter Tryd.func6, Tryd.ntmps6
  go_wp2_with fail
  refine (HN.out _).mono ?_
  rintro e w1 ⟨rfl, rfl⟩
  go_wp2_with fail
  go_quiet (fail)
  go_wp2_with fail
  go_quiet (fail)
  go_wp2_with fail
  refine (HCo.out _).mono ?_
  rintro e w2 ⟨rfl, hb2⟩
  have hbw2 : Below w.heap.size w w2 := (below_drewN HB.out _).trans (hb2.mono (below_drewN HB.out _).size)
  clear hb2 hk hln c0 c1
  go_upto_region 10 with fail
  obtain ⟨W3, hW3⟩ : ∃ W3, w2.alloc (.cells #[.string s, .int .i64 ilo, .int .i64 ihi] 29) = W3 := ⟨_, rfl⟩
  have hq3 : W3.heap[w2.heap.size]? = some (boxM nm lo hi) := by
    rw [← hW3, boxM, HI.out.1, HI.out.2.1, HI.out.2.2]
    exact (MapKept.heap_alloc w2 _).1
  have hb3 : Below w.heap.size w W3 := by
    rw [← hW3]
    exact hbw2.alloc hbw2.size _
  rw [hW3]
  have hB3 := HH.out.1.below hb3
  have hnq : ∀ x ∈ xs, x.q ≠ w2.heap.size := fun x hx e => by
    have := (HH.out.1.mark x hx).lt
    have := hbw2.size
    omega
  obtain ⟨W4, hr4, hm4, hC4, -⟩ := put_new (W := W3.drew) (hB3.below (Below.refl _ _).drew).map HH.out.2 w2.heap.size lo hi
  rw [HI.out.2.2] at hr4
  have HE : Hid ((∃ q, w.heap.size ≤ q ∧ BookAt W4 p b t (xs ++ [⟨nm, q, ck, lo, hi⟩]) (ck + 1)) ∧ Chg (fun g => g = b) w W4) := by
    refine ⟨⟨w2.heap.size, hbw2.size, (hB3.below (Below.refl _ _).drew).put ?_ hnq hm4 hC4⟩, (Chg.of_below hb3).trans (((Chg.refl _ W3).drew).trans hC4)⟩
    exact hq3
  obtain ⟨c0, c1⟩ := box2 hB3.box
  obtain ⟨d0, -, -⟩ := box3 hq3
  rw [HI.out.2.2] at d0
  obtain ⟨qn, hqn⟩ : ∃ qn, w2.heap.size = qn := ⟨_, rfl⟩
  rw [hqn] at d0 hr4 ⊢
  have k0 : W3.drew.cell? ⟨p, 1, none⟩ = some (.map (some b)) ∧ W3.drew.cell? ⟨qn, 0, none⟩ = some (.string s) := ⟨c1, d0⟩
  clear hq3 hb3 hbw2 hB3 hnq hm4 hC4 c0 c1 d0 hqn hW3 HB
  refine wp_region_E (S := (fun W => W.cell? ⟨p, 1, none⟩ = some (.map (some b)) ∧ W.cell? ⟨qn, 0, none⟩ = some (.string s))) (E := [6]) (by kernel_rfl) ?_
  refine takeE (i := 0) (d := some 49) (v := ?vT0) rfl rfl (by kernel_rfl) (by kernel_rfl) (by kernel_rfl) (by kernel_rfl) (fun _ _ _ h => h) (Or.inl ⟨by rfl, ?hyT0⟩) k0 ?rstT0
  case hyT0 => (intro w hSw; (try dsimp only at hSw); obtain ⟨h1, h2⟩ := hSw; go_simp; (try with_reducible rfl))
  try simp only [Act.put, List.setIfInBounds_toArray, List.set_cons_zero, List.set_cons_succ]
  refine takeE (i := 1) (d := some 50) (v := ?vT1) rfl rfl (by kernel_rfl) (by kernel_rfl) (by kernel_rfl) (by kernel_rfl) (fun _ _ _ h => h) (Or.inl ⟨by rfl, ?hyT1⟩) k0 ?rstT1
  case hyT1 => (intro w hSw; (try dsimp only at hSw); obtain ⟨h1, h2⟩ := hSw; go_simp; (try with_reducible rfl))
  try simp only [Act.put, List.setIfInBounds_toArray, List.set_cons_zero, List.set_cons_succ]
  refine takeE (i := 2) (d := some 51) (v := ?vT2) rfl rfl (by kernel_rfl) (by kernel_rfl) (by kernel_rfl) (by kernel_rfl) (fun _ _ _ h => h) (Or.inl ⟨by rfl, ?hyT2⟩) k0 ?rstT2
  case hyT2 => (intro w hSw; (try dsimp only at hSw); obtain ⟨h1, h2⟩ := hSw; go_simp; (try with_reducible rfl))
  try simp only [Act.put, List.setIfInBounds_toArray, List.set_cons_zero, List.set_cons_succ]
  refine takeE (i := 3) (d := some 52) (v := ?vT3) rfl rfl (by kernel_rfl) (by kernel_rfl) (by kernel_rfl) (by kernel_rfl) (fun _ _ _ h => h) (Or.inl ⟨by rfl, ?hyT3⟩) k0 ?rstT3
  case hyT3 => (intro w hSw; (try dsimp only at hSw); obtain ⟨h1, h2⟩ := hSw; go_simp; (try with_reducible rfl))
  try simp only [Act.put, List.setIfInBounds_toArray, List.set_cons_zero, List.set_cons_succ]
  refine takeE (i := 4) (d := some 53) (v := ?vT4) rfl rfl (by kernel_rfl) (by kernel_rfl) (by kernel_rfl) (by kernel_rfl) (fun _ _ _ h => h) (Or.inl ⟨by rfl, ?hyT4⟩) k0 ?rstT4
  case hyT4 => (intro w hSw; (try dsimp only at hSw); obtain ⟨h1, h2⟩ := hSw; go_simp; (try with_reducible rfl))
  try simp only [Act.put, List.setIfInBounds_toArray, List.set_cons_zero, List.set_cons_succ]
  refine takeE (i := 5) (d := some 54) (v := ?vT5) rfl rfl (by kernel_rfl) (by kernel_rfl) (by kernel_rfl) (by kernel_rfl) (fun _ _ _ h => h) (Or.inl ⟨by rfl, ?hyT5⟩) k0 ?rstT5
  case hyT5 => (intro w hSw; (try dsimp only at hSw); obtain ⟨h1, h2⟩ := hSw; go_simp; (try with_reducible rfl))
  try simp only [Act.put, List.setIfInBounds_toArray, List.set_cons_zero, List.set_cons_succ]
  refine oneE (i := 6) (by kernel_rfl) rfl (fun K hK => ?_)
  go_simp
  refine hK.out _ _ ?hS10 ?rest10
  case hS10 => exact fun e => absurd e (by decide)
  clear hK K
  try simp only [Act.put, List.setIfInBounds_toArray, List.set_cons_zero, List.set_cons_succ]
  refine doneE (by kernel_rfl) ?_ _
  go_wp2_with fail
  go_ret
  exact ⟨rfl, HE.out⟩
end Go.Proofs.YtelcjhflopgojaaDoor
