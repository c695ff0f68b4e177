import Derived.Test.YtokkodkhkpgebaaDoorKbF
import Derived.Shelf.Abstract
/-! flagged and its closure. -/
namespace Go.Proofs.YtokkodkhkpgebaaDoor
open Go.RowKit Go.Lib Go.Shelf
set_option maxRecDepth 100000

/-- The same, as a Bool. -/
def onB (E : List HE) (b : Bool) (x : Int × Int) : Bool := match E.findIdx? (fun e => e.id == x) with
  | some i => match E[i]? with
    | some e => !(e.kind == 4) && (e.on == b)
    | none => false
  | none => false
theorem onB_iff (E : List HE) (b : Bool) (x : Int × Int) : onB E b x = true ↔ OnAt E x b := by
  unfold onB OnAt
  cases h : E.findIdx? (fun e => e.id == x) with
  | none => simp
  | some i =>
    cases he : E[i]? with
    | none => simp [he]
    | some e => simp [he]

set_option maxHeartbeats 2000000 in
theorem flagged1_any {W : World} {h r : Nat} {oa na : Option Addr} {on oc nn nc : Nat} {tot : Int} {M : List ((Int × Int) × Int)} {E : List HE} (H : HisR W h r oa on oc na nn nc tot M E) (HP : PlsOk W E) {bh bo : Nat} {fl : Bool} (hh : W.heap[bh]? = some (.cells #[.pointer (some ⟨h, 0, none⟩)] 28)) (ho : W.heap[bo]? = some (.cells #[.bool fl] 4)) (x : Int × Int) :
    Calls Tryd.prog 41 (#[idA x] ++ #[.pointer (some ⟨bh, 0, none⟩), .pointer (some ⟨bo, 0, none⟩)]) W fun e W' => e = .returned (.bool (onB E fl x)) ∧ Below W.heap.size W W' := by
  obtain ⟨x1, x2⟩ := x
  obtain ⟨w1, hw1⟩ : ∃ w1, W.alloc (.cells #[.int .i64 x1, .int .i64 x2] 23) = w1 := ⟨_, rfl⟩
  have k1 : Below W.heap.size W w1 := by rw [← hw1]; exact (Below.refl _ _).alloc (Nat.le_refl _) _
  have hq : w1.heap[W.heap.size]? = some (.cells #[.int .i64 x1, .int .i64 x2] 23) := by rw [← hw1]; exact heap_alloc_new _ _
  obtain ⟨q0, q1⟩ := box2 hq
  have h1 := (k1.block _ (Array.getElem?_eq_some_iff.1 hh).1).trans hh
  have o1 := (k1.block _ (Array.getElem?_eq_some_iff.1 ho).1).trans ho
  have c1 : w1.cell? ⟨bh, 0, none⟩ = some (.pointer (some ⟨h, 0, none⟩)) := by rw [Lib.cell_of_heap h1]; rfl
  have c2 : w1.cell? ⟨bo, 0, none⟩ = some (.bool fl) := by rw [Lib.cell_of_heap o1]; rfl
  have HF := effect_any (H.below k1) (HP.below k1) (x1, x2) (!fl)
  have hs1 := k1.size
  clear H HP hh ho h1 o1 hq
  show Calls Tryd.prog 41 #[.agg #[.int .i64 x1, .int .i64 x2], .pointer (some ⟨bh, 0, none⟩), .pointer (some ⟨bo, 0, none⟩)] W _
  simp only [idA] at HF
  go_enter Tryd.func41, Tryd.ntmps41
  go_wp2_with fail
  refine HF.mono ?_
  rintro e w2 ⟨⟨k, pa, pn, pc, c, rfl, hc⟩, hb2⟩
  rw [Bool.not_not, ← onB_iff] at hc
  have hB : Below W.heap.size W w2 := k1.trans (hb2.mono hs1)
  have hs2 := hB.size
  clear HF hb2
  simp only [effV]
  by_cases h0 : c = 0
  · have hy := hc.1 h0
    subst h0
    go_wp2_with fail
    go_ret
    exact ⟨by first | rfl | (rw [hy]; rfl), hB.alloc hs2 _⟩
  · have hy : onB E fl (x1, x2) = false := by
      cases hb : onB E fl (x1, x2) with
      | false => rfl
      | true => exact absurd (hc.2 hb) h0
    have d0 : (c == 0) = false := beq_eq_false_iff_ne.2 h0
    go_wp2_with fail
    go_ret
    exact ⟨by first | rfl | (rw [hy]; rfl), hB.alloc hs2 _⟩
theorem flagged_any (h : Nat) (fl : Bool) (w : World) : Calls Tryd.prog 30 #[.pointer (some ⟨h, 0, none⟩), .bool fl] w fun e w' => e = .returned (.func (.func 41) #[] #[.pointer (some ⟨w.heap.size, 0, none⟩), .pointer (some ⟨w.heap.size + 1, 0, none⟩)]) ∧ w' = (w.alloc (.cells #[.pointer (some ⟨h, 0, none⟩)] 28)).alloc (.cells #[.bool fl] 4) := by
  go_enter Tryd.func30, Tryd.ntmps30
  go_wp2_with fail
  go_ret
  exact ⟨rfl, rfl⟩
/-- Pick, handed the closure of flagged. -/
theorem pickOn_any {w : World} {h r : Nat} {oa na : Option Addr} {on oc nn nc : Nat} {tot : Int} {M : List ((Int × Int) × Int)} {E : List HE} (H : HisR w h r oa on oc na nn nc tot M E) (HP : PlsOk w E) {bh bo : Nat} {fl : Bool} (hh : w.heap[bh]? = some (.cells #[.pointer (some ⟨h, 0, none⟩)] 28)) (ho : w.heap[bo]? = some (.cells #[.bool fl] 4)) {a : Option Addr} {n cap : Nat} {l : List (Int × Int)} (hl : Rw idV 2 w a n cap l) (hn : n ≤ 1048576) :
    Calls Tryd.prog 29 #[.slice a n cap, .func (.func 41) #[] #[.pointer (some ⟨bh, 0, none⟩), .pointer (some ⟨bo, 0, none⟩)]] w fun e w' => Below w.heap.size w w' ∧
      ((∃ (at_ : Nat) (x : Int × Int), at_ < n ∧ l[at_]? = some x ∧ onB E fl x = true ∧ (∀ (j : Nat) (y : Int × Int), at_ < j → l[j]? = some y → onB E fl y = false) ∧ e = .returned (.tuple #[idA x, .int .i64 at_, .int .i64 0])) ∨
      ((∀ (j : Nat) (y : Int × Int), l[j]? = some y → onB E fl y = false) ∧ e = .returned (.tuple #[idA (0, 0), .int .i64 0, .int .i64 70]))) := by
  have lh := (Array.getElem?_eq_some_iff.1 hh).1
  have lo := (Array.getElem?_eq_some_iff.1 ho).1
  refine (pick_any 41 #[.pointer (some ⟨bh, 0, none⟩), .pointer (some ⟨bo, 0, none⟩)] a n cap l w (onB E fl) (fun _ W => Below w.heap.size w W) (by omega) (enters_of Tryd.func41 (by kernel_rfl) rfl)
    (fun m W W' hb hB => hb.trans (hB.below (Nat.le_refl _) hb.size)) (fun m W hb => hl.below hb) ((Below.refl _ _).alloc (Nat.le_refl _) _)
    (fun m x W hb hx hq => by
      have ka : Below W.heap.size W (W.alloc (.cells #[.int .i64 x.1, .int .i64 x.2] 23)) := (Below.refl _ _).alloc (Nat.le_refl _) _
      have kb : Below w.heap.size w (W.alloc (.cells #[.int .i64 x.1, .int .i64 x.2] 23)) := hb.alloc hb.size _
      refine (flagged1_any (H.below kb) (HP.below kb) ((kb.block _ lh).trans hh) ((kb.block _ lo).trans ho) x).mono ?_
      rintro e W' ⟨rfl, hW⟩
      refine ⟨rfl, kb.trans (hW.mono kb.size), ?_, ?_⟩
      · rw [hW.block _ (by simp; omega)]
        exact Below.heap_alloc _ _ _ hq
      · rw [hW.block _ (by simp)]
        exact heap_alloc_new _ _)).mono ?_
  rintro e w' (⟨at_, x, h1, h2, h3, h4, h5, hb⟩ | ⟨h1, h2, hb⟩)
  · exact ⟨hb, .inl ⟨at_, x, h1, h2, h3, h4, h5⟩⟩
  · exact ⟨hb, .inr ⟨h1, h2⟩⟩
end Go.Proofs.YtokkodkhkpgebaaDoor
