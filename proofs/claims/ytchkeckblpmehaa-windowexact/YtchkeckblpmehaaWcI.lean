import Derived.Test.YtchkeckblpmehaaWbI
import Derived.Test.YtchkeckblpmehaaWcA
/-! Held. -/
namespace Go.Proofs.Ytchkeckblpmehaa
open Go.RowKit Go.Lib Go.Maps Go.Sort Go.Shelf
set_option maxRecDepth 100000

set_option maxHeartbeats 1000000 in
theorem heldI {w : World} {q b : Nat} {S : Wn Int} (h : WinI w q b S) (hb : S.nx ≤ 4611686018427387904) :
    Calls Try.prog 20 #[.pointer (some ⟨q, 0, none⟩)] w fun e w' => ∃ v, e = .returned v ∧ OwnF intV 1 3 w' w.heap.size v (srt S.L) ∧ Below w.heap.size w w' := by
  obtain ⟨D, hown, hperm, hsz⟩ := win_owns h hb
  obtain ⟨c0, c1, c2⟩ := box3 h.box
  refine (callsIn_wide (n := 6)).1 ?_
  have hbl := hown.lt
  have hseq : SeqGives Fence.wide 2 Try.prog 33 #[.pointer (some ⟨w.heap.size, 0, none⟩)] encZ (fun ss => ss.Perm (intKeys D)) (Maps.size D) (w.alloc (.cells #[.map (some b)] 59)) :=
    AnyZI.keys_gives (ρ := Try.keysI_ren) { Try.keysI with } Fence.wide _ trivial rfl (by omega) w.heap.size b 1048576 D _ (by simp) (by simp) (by
      obtain ⟨es, clock, hb, Ft, hs, hD⟩ := hown
      exact ⟨es, clock, (Below.heap_alloc _ _ b hbl).trans hb, Ft, hs, hD⟩)
  have cK : ∀ mb W, CallsIn Fence.wide 5 Try.prog 29 #[.map mb] W fun e w' => e = .returned (.func (.func 33) #[] #[.pointer (some ⟨W.heap.size, 0, none⟩)]) ∧ w' = W.alloc (.cells #[.map mb] 59) := fun mb W => AnyZI.keys_in Try.keysI Fence.wide 5 trivial rfl mb W
  have cS := AnyZI.sorted_in Try.sortedA Fence.wide 5 trivial trivial trivial trivial rfl (by omega) (sortsA _) (enters_of Try.func32 (by kernel_rfl) rfl) 33 #[.pointer (some ⟨w.heap.size, 0, none⟩)] trivial (enters_of Try.func33 (by kernel_rfl) rfl) _ _ (by simp only [maxLen]; omega) (by omega) _ hseq
  change CallsIn _ _ Try.prog 28 _ _ _ at cS
  have hfK : Fence.wide.fn 29 := trivial
  have hfS : Fence.wide.fn 28 := trivial
  have HP : Hid ((intKeys D).Perm (S.L.map (·.1))) := hperm
  clear hperm hsz hown h hb hseq hbl
  refine callsIn_of_wp Try.func20 rfl trivial ?_ rfl
  simp only [Try.ntmps20, List.size_toArray, List.length_cons, List.length_nil, Nat.reduceAdd, Nat.reduceSub, Array.replicate_succ, Array.replicate_zero, List.push_toArray, List.append_toArray, List.nil_append, List.cons_append]
  gi_wp2_with (first
    | (gi_at_call 29; refine (cK _ _).mono ?_; rintro e w' ⟨rfl, rfl⟩)
    | (gi_at_call 28; refine cS.mono ?_; rintro e w' ⟨v, ss, rfl, hS, hrow, hnil, hb⟩))
  go_ret
  refine ⟨v, rfl, ?_, ((Below.refl _ w).alloc (Nat.le_refl _) _).trans (hb.mono (by simp))⟩
  have hss := mergeSort_of_perm_i (hS.trans HP.out)
  have hr2 := ownsRow_base_a hrow (by simp : w.heap.size ≤ _)
  unfold OwnF
  rw [flatI]
  have hl : ss.length = (srt S.L).length := by
    have := (hS.trans HP.out).length_eq
    rw [this]; simp [srt]
  rw [← hl]
  have e2 : srt S.L = ss.mergeSort (fun x y => decide (x ≤ y)) := hss.symm
  rw [e2]
  exact hr2
end Go.Proofs.Ytchkeckblpmehaa
