import Derived.Test.YtlebbffpbbjakaaDoorXfPG
import Derived.Test.YtlebbffpbbjakaaDoorXcBG
namespace Go.Proofs.YtlebbffpbbjakaaDoor
open Go.RowKit Go.Lib
set_option maxRecDepth 100000

theorem runG_of {k : Int} (hk : k = 1 ∨ k = 2) : ∀ (L : List OpV) (i t : Nat), RunOk k i t L → i + L.length ≤ 100 → RunG t L ∧ ∀ o ∈ L, o.c = k
  | [], _, _, _, _ => ⟨trivial, fun o ho => by cases ho⟩
  | o :: L, i, t, h, hi => by
    rw [List.length_cons] at hi
    obtain ⟨h1, h2⟩ := runG_of hk L (i + 1) (t + wdL o) h.2 (by omega)
    have hid := h.1.id
    refine ⟨⟨⟨by rw [hid.1, hid.2]; exact h.1, by rw [hid.1, hid.2]; unfold isIdP; rw [decide_eq_true_iff]; omega, by rw [hid.1]; omega⟩, h1⟩, fun x hx => ?_⟩
    rcases List.mem_cons.1 hx with rfl | hx
    · exact hid.1
    · exact h2 x hx
theorem RunG.append {t : Nat} : ∀ {A B : List OpV}, RunG t A → RunG (endT t A) B → RunG t (A ++ B)
  | [], _, _, h => h
  | _ :: _, _, h, g => ⟨h.1, RunG.append h.2 g⟩
theorem fold_okG : ∀ (L : List OpV) (R : List CellW) (M : Int), RunG R.length L → 0 ≤ M → Small M R → R.length + 5 * L.length ≤ 800 → M + 900 * (L.length : Int) ≤ 4194304 → FoldOk R L
  | [], R, M, _, _, _, _, _ => fun j x hx => by simp at hx
  | o :: L, R, M, hr, hM, hS, hl, hm => by
    have hw := hr.1.wd
    have hlen := does_len hr.1.made
    simp only [List.length_cons] at hl hm
    have h1 := fold_okG L (doesV R o) (M + (R.length : Int)) (by rw [hlen]; exact hr.2) (by omega) (does_small hM hr.1.made hS) (by rw [hlen]; omega) (by omega)
    intro j x hx
    cases j with
    | zero =>
      simp at hx; subst hx
      exact ⟨does_ok (by simp [foldV]; omega) (by simp only [List.take_zero, foldV, List.foldl_nil]; exact hS.le (by omega)) (by simpa [foldV] using hr.1.made), by simp [foldV]; omega⟩
    | succ j => exact h1 j x (by simpa using hx)
theorem RunG.few {t : Nat} : ∀ {L : List OpV}, RunG t L → t + 5 * L.length ≤ 900 → ∀ o ∈ L, o.l.length ≤ 900 ∧ o.s.size ≤ 8
  | [], _, _ => fun o ho => by cases ho
  | x :: L, h, hb => fun o ho => by
    rw [List.length_cons] at hb
    have hw := h.1.wd
    rcases List.mem_cons.1 ho with rfl | ho
    · have := made_few h.1
      omega
    · exact RunG.few h.2 (by omega) o ho
/-- Ranges of one's own may be read. -/
theorem rdy_of {W : World} {B : Nat} {L : List OpM} {t : Nat} (hO : OwnRs W B L) (h : RunG t (L.map (·.1))) (hb : t + 5 * L.length ≤ 900) : ∀ x ∈ L, Rdy W x := fun x hx => by
  have := RunG.few h (by rw [List.length_map]; exact hb) x.1 (List.mem_map_of_mem hx)
  exact ⟨rng_of_rw ((hO x hx).rw_ layG), by omega, by omega⟩
theorem rdys_below {W W' : World} {L : List OpM} (h : ∀ x ∈ L, Rdy W x) (hb : Below W.heap.size W W') : ∀ x ∈ L, Rdy W' x := fun x hx => (h x hx).below hb
/-- append(run, ops...) -/
theorem append_run {W W' : World} {v : Value} {L Y : List OpM} {b : Option Addr} {m capb : Nat} (ho : OwnF opF 9 42 W' W.heap.size v L) (hr : OwnRs W' W.heap.size L) (hb : Below W.heap.size W W') (hy : Rw opF 9 W b m capb Y) (ry : ∀ x ∈ Y, Rdy W x) (rl : ∀ x ∈ L, Rdy W' x) (hs : L.length + m ≤ 1000) :
    ∃ a' cap' w', (Builtin.append_ #[27, 27] 27 #[v, .slice b m capb]).run Tryd.prog W' = .ok (.slice a' (L.length + m) cap') w' ∧ Rw opF 9 w' a' (L.length + m) cap' (L ++ Y) ∧ (∀ x ∈ L ++ Y, Rdy w' x) ∧ Below W.heap.size W w' := by
  obtain ⟨a', cap', w', hrun, ho', hb', hkp⟩ := appendF_all kindO layO ho hb.size (hy.below hb) (by omega) (by omega) 27
  have hB := hb.trans hb'
  refine ⟨a', cap', w', hrun, ho'.rw_ layO, fun x hx => ?_, hB⟩
  rcases List.mem_append.1 hx with hx | hx
  · have := rl x hx
    exact ⟨rng_of_rw ((keep_ranges ho hkp (hr x hx)).rw_ layG), this.few, this.size⟩
  · exact (ry x hx).below hB
theorem okOps_rdy {w : World} {L : List OpM} (h : ∀ x ∈ L, Rdy w x) : OkOps w L := fun x hx => ⟨(h x hx).rng, by have := (h x hx).size; omega⟩

set_option maxHeartbeats 2000000 in
theorem sameRows_any {w : World} {a : Option Addr} {k cap : Nat} {R : List CellW} (h : Rw cellW 4 w a k cap R) {b : Option Addr} {n capb : Nat} {X : List OpM} (hX : Rw opF 9 w b n capb X) (rX : ∀ x ∈ X, Rdy w x) {c : Option Addr} {m capc : Nat} {Y : List OpM} (hY : Rw opF 9 w c m capc Y) (rY : ∀ x ∈ Y, Rdy w x)
    (oX : FoldOk R (X.map (·.1))) (oY : FoldOk R (Y.map (·.1))) (he : foldV R (X.map (·.1)) = foldV R (Y.map (·.1))) :
    Calls Tryd.prog 13 #[.slice a k cap, .slice b n capb, .slice c m capc] w fun e w' => e = .returned (.bool true) ∧ Below w.heap.size w w' := by
  have HF1 : Hid (Calls Tryd.prog 39 #[.slice a k cap, .slice b n capb] w fun e w' => ∃ a' m' cap', e = .returned (.tuple #[.slice a' m' cap', .bool true]) ∧ Rw cellW 4 w' a' m' cap' (foldV R (X.map (·.1))) ∧ Below w.heap.size w w') := fold_any h hX (okOps_rdy rX) oX
  have HF2 : Hid (∀ W, Below w.heap.size w W → Calls Tryd.prog 39 #[.slice a k cap, .slice c m capc] W fun e w' => ∃ a' m' cap', e = .returned (.tuple #[.slice a' m' cap', .bool true]) ∧ Rw cellW 4 w' a' m' cap' (foldV R (X.map (·.1))) ∧ Below W.heap.size W w') := fun W hb => by
    rw [he]
    exact fold_any (h.below hb) (hY.below hb) ((okOps_rdy rY).below hb) oY
  generalize foldV R (X.map (·.1)) = Z at *
  clear h hX rX hY rY oX oY he
  go_enter Tryd.func13, Tryd.ntmps13
  go_wp2_with fail
  refine HF1.out.mono ?_
  rintro e w1 ⟨a1, m1, c1, rfl, hr1, h1⟩
  go_wp2_with fail
  refine (HF2.out _ h1).mono ?_
  rintro e w2 ⟨a2, m2, c2, rfl, hr2, h2⟩
  have hb2 := h1.trans (h2.mono h1.size)
  have HE := equal_any (hr1.below h2) hr2
  rw [decide_eq_true rfl] at HE
  clear HF1 HF2 hr1 hr2 h1 h2
  go_wp2_with fail
  refine HE.mono ?_
  rintro e w3 ⟨rfl, h3⟩
  go_wp2_with fail
  go_ret
  exact ⟨rfl, hb2.trans (h3.mono hb2.size)⟩
end Go.Proofs.YtlebbffpbbjakaaDoor
