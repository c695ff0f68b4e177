import Derived.Test.YtokkodkhkpgebaaDoorKbC
/-! What Effect reads of a history; findEdit. -/
namespace Go.Proofs.YtokkodkhkpgebaaDoor
open Go.RowKit Go.Lib
set_option maxRecDepth 100000

/-- One command of a history, as far as Effect reads it. -/
structure HE where
  id : Int × Int
  kind : Int
  on : Bool
  pa : Option Addr
  pn : Nat
  pc : Nat
  pl : List (Int × Int)
structure HisR (W : World) (h r : Nat) (oa : Option Addr) (on oc : Nat) (na : Option Addr) (nn nc : Nat) (tot : Int) (M : List ((Int × Int) × Int)) (E : List HE) : Prop where
  hb : HisB W h r oa on oc na nn nc tot M
  len1 : on = E.length
  len2 : nn = E.length
  few : E.length ≤ 1048576
  idx : ∀ x, findP M x = match E.findIdx? (fun e => e.id == x) with | some i => ((i : Int), 0) | none => (0, 60)
  ops : ∀ i e, E[i]? = some e → ∃ g off, oa = some ⟨g, off, none⟩ ∧ g < W.heap.size ∧ W.cell? ⟨g, off + i * 9 + 2, none⟩ = some (.int .i64 e.kind)
  now : ∀ i e, E[i]? = some e → ∃ g off, na = some ⟨g, off, none⟩ ∧ g < W.heap.size ∧ W.cell? ⟨g, off + i * 2, none⟩ = some (.bool e.on) ∧ W.cell? ⟨g, off + i * 2 + 1, none⟩ = some (.slice e.pa e.pn e.pc)
theorem HisR.below {W W' : World} {h r : Nat} {oa na : Option Addr} {on oc nn nc : Nat} {tot : Int} {M : List ((Int × Int) × Int)} {E : List HE} (H : HisR W h r oa on oc na nn nc tot M E) (hb : Below W.heap.size W W') : HisR W' h r oa on oc na nn nc tot M E :=
  ⟨H.hb.below hb, H.len1, H.len2, H.few, H.idx, fun i e he => by
    obtain ⟨g, off, ha, hg, h1⟩ := H.ops i e he
    exact ⟨g, off, ha, by have := hb.size; omega, (hb.cell (p := ⟨g, off + i * 9 + 2, none⟩) hg).trans h1⟩, fun i e he => by
    obtain ⟨g, off, ha, hg, h1, h2⟩ := H.now i e he
    exact ⟨g, off, ha, by have := hb.size; omega, (hb.cell (p := ⟨g, off + i * 2, none⟩) hg).trans h1, (hb.cell (p := ⟨g, off + i * 2 + 1, none⟩) hg).trans h2⟩⟩
/-- What findEdit answers: no such command; a Status; the edit number i. -/
inductive EditAt (E : List HE) (x : Int × Int) : Int × Int → Prop
  | none (h : E.findIdx? (fun e => e.id == x) = none) : EditAt E x (0, 60)
  | status (i : Nat) (e : HE) (h : E.findIdx? (fun e => e.id == x) = some i) (he : E[i]? = some e) (hk : e.kind = 4) : EditAt E x (0, 63)
  | edit (i : Nat) (e : HE) (h : E.findIdx? (fun e => e.id == x) = some i) (he : E[i]? = some e) (hk : ¬ e.kind = 4) : EditAt E x ((i : Int), 0)

set_option maxHeartbeats 2000000 in
theorem findEdit_any {w : World} {h r : Nat} {oa na : Option Addr} {on oc nn nc : Nat} {tot : Int} {M : List ((Int × Int) × Int)} {E : List HE} (H : HisR w h r oa on oc na nn nc tot M E) (x : Int × Int) :
    Calls Tryd.prog 64 #[.pointer (some ⟨h, 0, none⟩), idA x] w fun e w' => (∃ p, EditAt E x p ∧ e = .returned (.tuple #[.int .i64 p.1, .int .i64 p.2])) ∧ Below w.heap.size w w' := by
  obtain ⟨x1, x2⟩ := x
  obtain ⟨w1, hw1⟩ : ∃ w1, w.alloc (.cells #[.int .i64 x1, .int .i64 x2] 23) = w1 := ⟨_, rfl⟩
  have k1 : Below w.heap.size w w1 := by rw [← hw1]; exact (Below.refl _ _).alloc (Nat.le_refl _) _
  have hq : w1.heap[w.heap.size]? = some (.cells #[.int .i64 x1, .int .i64 x2] 23) := by rw [← hw1]; exact heap_alloc_new _ _
  obtain ⟨q0, q1⟩ := box2 hq
  have H1 := H.below k1
  have HF := find_any H1.hb (x1, x2)
  rw [H1.idx] at HF
  have hfew := H.few
  have hs1 := k1.size
  simp only [idA] at HF ⊢
  cases hf : E.findIdx? (fun e => e.id == (x1, x2)) with
  | none =>
    rw [hf] at HF
    simp only at HF
    go_enter Tryd.func64, Tryd.ntmps64
    go_wp2_with fail
    refine HF.mono ?_
    rintro e w2 ⟨rfl, hb2⟩
    have hB : Below w.heap.size w w2 := k1.trans (hb2.mono hs1)
    clear HF
    go_wp2_with fail
    refine bodyPost_ret (v := .tuple #[.int .i64 0, .int .i64 60]) (by simp [results, Tryd.results64, go_sem]) rfl ?_
    exact ⟨⟨_, .none hf, rfl⟩, hB⟩
  | some i =>
    rw [hf] at HF
    simp only at HF
    have hil : i < E.length := by
      obtain ⟨h1, _⟩ := List.findIdx?_eq_some_iff_findIdx_eq.1 hf
      exact h1
    have he : E[i]? = some E[i] := List.getElem?_eq_getElem hil
    generalize E[i] = e at he
    obtain ⟨g, off, rfl, hg, hck⟩ := H1.ops i e he
    have hbx := H1.hb.box
    have hlo := H1.len1
    subst hlo
    go_enter Tryd.func64, Tryd.ntmps64
    go_wp2_with fail
    refine HF.mono ?_
    rintro e' w2 ⟨rfl, hb2⟩
    have hB : Below w.heap.size w w2 := k1.trans (hb2.mono hs1)
    obtain ⟨b0, b1, b2, b3⟩ := box4 ((hb2.block _ (Array.getElem?_eq_some_iff.1 hbx).1).trans hbx)
    have ck := (hb2.cell (p := ⟨g, off + i * 9 + 2, none⟩) hg).trans hck
    have i0 : (0 : Int) ≤ (i : Int) := by omega
    have i1 : (i : Int) < (E.length : Int) := by omega
    clear HF hbx hck
    by_cases h4 : e.kind = 4
    · have hd : (e.kind == 4) = true := by simp [h4]
      go_wp2_with fail
      refine bodyPost_ret (v := .tuple #[.int .i64 0, .int .i64 63]) (by simp [results, Tryd.results64, go_sem]) rfl ?_
      exact ⟨⟨_, .status i e hf he h4, rfl⟩, hB⟩
    · have hd : (e.kind == 4) = false := beq_eq_false_iff_ne.2 h4
      go_wp2_with fail
      refine bodyPost_ret (v := .tuple #[.int .i64 i, .int .i64 0]) (by simp [results, Tryd.results64, go_sem]) rfl ?_
      exact ⟨⟨_, .edit i e hf he h4, rfl⟩, hB⟩
end Go.Proofs.YtokkodkhkpgebaaDoor
