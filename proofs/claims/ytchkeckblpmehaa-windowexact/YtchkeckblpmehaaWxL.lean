import Derived.Test.YtchkeckblpmehaaWxK
import Derived.Test.YtchkeckblpmehaaWcI
/-! The sentences' told. -/
namespace Go.Proofs.Ytchkeckblpmehaa
open Go.RowKit Go.Lib
set_option maxRecDepth 100000
theorem srt_perm {α : Type} (L : List (Int × α)) : (srt L).Perm (L.map (·.1)) := List.mergeSort_perm _ _
theorem srt_lt {α : Type} (L : List (Int × α)) (hd : (L.map (·.1)).Nodup) : (srt L).Pairwise (· < ·) := by
  have h1 : (srt L).Pairwise (fun x y => decide (x ≤ y) = true) := List.pairwise_mergeSort (le := fun x y => decide (x ≤ y)) (fun a b c h1 h2 => by simp at *; omega) (fun a b => by simp; omega) _
  have h2 : (srt L).Nodup := (srt_perm L).nodup_iff.2 hd
  refine (h1.and h2).imp ?_
  rintro a b ⟨h3, h4⟩
  simp at h3
  omega
theorem Chg.new {D : Nat → Prop} {a b : World} (h : Chg (fun g => D g ∨ a.heap.size ≤ g) a b) : Chg D a b := h.mono fun g hg hd => by
  rcases hd with h | h
  · exact h
  · omega
/-- What a call leaves of the lists that were handed out. -/
def HNw (w w' : World) (B q : Nat) (va vb : Value) (ps : List Hp) : Prop := ∃ va' vb' ps', HdAt w' B q va' vb' ps' ∧ ps'.length ≤ ps.length + 2 ∧ (∀ x ∈ ps', x ∈ ps ∨ x.l.length ≤ 1048578) ∧ (∀ g, HB q va' vb' ps' g → HB q va vb ps g ∨ w.heap.size ≤ g) ∧ Chg (HB q va vb ps) w w'
set_option maxHeartbeats 2000000 in
theorem told_ok {w : World} {B r : Nat} {v : Value} {q b : Nat} {S : Wn Int} {Bh qh : Nat} {va vb : Value} {ps : List Hp} (hw : WinI w q b S) (hr : RfW w B r v S) (hh : HdAt w Bh qh va vb ps) (hb : S.nx ≤ 4611686018427387904) (hn : ps.length ≤ 1073741824) :
    Calls Try.prog 7 #[.pointer (some ⟨q, 0, none⟩), .pointer (some ⟨r, 0, none⟩), .pointer (some ⟨qh, 0, none⟩)] w fun e w' => e = .returned (.bool true) ∧ HNw w w' Bh qh va vb ps := by
  have h1 : Hid _ := heldI hw hb
  obtain ⟨ln, hln⟩ : ∃ ln, (srt S.L).length = ln := ⟨_, rfl⟩
  have HL : Hid ((srt S.L).length = ln) := hln
  clear hln
  have HH : Hid (WinI w q b S ∧ RfW w B r v S ∧ HdAt w Bh qh va vb ps ∧ S.nx ≤ 4611686018427387904 ∧ ps.length ≤ 1073741824) := ⟨hw, hr, hh, hb, hn⟩
  clear hw hr hh hb hn
  go_enter Try.func7, Try.ntmps7
  go_wp2_with fail
  refine Calls.mono h1.out ?_
  rintro e w1 ⟨lv, rfl, ho1, hb1⟩
  obtain ⟨hw, hr, hh, hbn, hn⟩ := HH.out
  have hfew := win_few hw
  have h2 : Hid _ := rHeld (hr.below hb1) (by omega) hw.nx0 hbn (fun p hp => (hw.rng p hp).1) (srt S.L) (srt_perm _) (srt_lt _ hw.nodup)
  have HO : Hid (OwnF intV 1 3 w1 w.heap.size lv (srt S.L) ∧ Below w.heap.size w w1) := ⟨ho1, hb1⟩
  obtain ⟨la, lc, hla⟩ := ho1.shape
  rw [HL.out] at hla
  subst hla
  clear hw hr hh hbn hn hfew ho1 hb1 h1
  go_wp2_with fail
  refine Calls.mono h2.out ?_
  rintro e w2 ⟨mv, rfl, ho2, hb2⟩
  obtain ⟨hw, hr, hh, hbn, hn⟩ := HH.out
  have hB2 : Below w.heap.size w w2 := HO.out.2.trans (hb2.mono HO.out.2.size)
  have hfew := win_few hw
  have ho1 := HO.out.1.below hb2
  obtain ⟨ma, mc, hma⟩ := ho2.shape
  have hw2 := hw.below hB2
  have hr2 := hr.below hB2
  have h3 : Hid _ := nextI hw2
  have h4 : Hid (∀ k, Calls Try.prog 23 #[.pointer (some ⟨r, 0, none⟩)] (w2.drewN k) fun e w' => e = .returned (.int .i64 S.nx) ∧ w' = w2.drewN k) := fun k => rNext (hr2.drewN k)
  have hlen : (srt S.L).length ≤ 1048576 := by rw [srt_length]; exact hfew
  rw [HL.out] at hma hlen
  subst hma
  have h5 : Hid (Calls Try.prog 19 #[.slice la ln lc, .slice ma ln mc] w2 fun e w' => e = .returned (.bool true) ∧ ∃ j, w' = w2.drewN j) := sameInts_eq (ho1.rw_ layI) (ho2.rw_ layI) (by omega)
  have h6 : Hid (∀ k, Calls Try.prog 24 #[.pointer (some ⟨qh, 0, none⟩), .slice la ln lc] (w2.drewN k) fun e w' => e = .returned (.tuple #[]) ∧ HNw w w' Bh qh va vb ps) := fun k => by
    have hBk : Below w.heap.size w (w2.drewN k) := below_drewN hB2 k
    have hho := hh.below hBk
    refine Calls.mono (take_ok hho (ho1.below (below_drewN (Below.refl _ _) k)) (fun g hg => hh.lt hg) hh.base hB2.size hn (by rw [HL.out]; omega)) ?_
    rintro e w' ⟨he, va', vb', ps', k1, k2, k3, k4, k5⟩
    refine ⟨he, va', vb', ps', k1, by omega, fun x hx => ?_, k4, ((Chg.of_below hBk).then k5 (fun g hg => hg))⟩
    rcases k3 x hx with h | h
    · exact .inl h
    · right; rw [HL.out] at h; omega
  clear hw hr hh hbn hn hB2 hfew ho1 ho2 hw2 hr2 hlen hb2 h2
  go_wp2_with fail
  refine Calls.mono h3.out ?_
  rintro e w3 ⟨rfl, rfl⟩
  go_wp2_with fail
  refine Calls.mono h5.out ?_
  rintro e w4 ⟨rfl, j, rfl⟩
  go_wp2_with fail
  refine Calls.mono (h4.out j) ?_
  rintro e w5 ⟨rfl, rfl⟩
  go_wp2_with fail
  refine Calls.mono (h6.out _) ?_
  rintro e w6 ⟨rfl, hE⟩
  have HE : Hid _ := hE
  clear hE
  go_wp2_with fail
  go_ret
  exact ⟨rfl, HE.out⟩
end Go.Proofs.Ytchkeckblpmehaa
