import Derived.Test.YtkdhcokefnffaaaDoorMbB
import Derived.Test.YtkdhcokefnffaaaDoorMaQ
/-! The reader's ranges. -/
namespace Go.Proofs.YtkdhcokefnffaaaDoor
open Go.RowKit Go.Lib Sp
set_option maxRecDepth 100000

/-- The bytes of ranges behind e. -/
def rngL : Nat → List (Nat × Nat) → List Nat
  | _, [] => []
  | e, (lo, hi) :: r => encP (lo - e) ++ (encP (hi - lo) ++ rngL hi r)
/-- Ranges that may stand behind e, at least ap behind it. -/
def RO : Nat → Nat → List (Nat × Nat) → Prop
  | _, _, [] => True
  | e, ap, (lo, hi) :: r => e + ap ≤ lo ∧ lo < hi ∧ hi ≤ 1048576 ∧ RO hi 1 r

theorem OwnF.chg {α : Type} {f : α → List Value} {k : Nat} {T : TypeId} {D : Nat → Prop} {w w' : World} {B : Nat} {v : Value} {l : List α} (h : OwnF f k T w B v l) (hC : Chg D w w') (hD : ∀ g, v.ownBlock = some g → ¬ D g) : OwnF f k T w' B v l := by
  refine ⟨h.1, ?_⟩
  rcases h.2 with h0 | ⟨g, cap, cur, e, h1, hh, rest⟩
  · exact .inl h0
  · exact .inr ⟨g, cap, cur, e, h1, hC.block hh (hD g (by rw [e]; rfl)), rest⟩
theorem Chg.of_belowB {B : Nat} {a b : World} (h : Below B a b) : Chg (fun g => B ≤ g) a b := ⟨h.mono (Nat.zero_le _), fun g _ hd => h.block g (by omega)⟩

set_option maxHeartbeats 4000000 in
theorem ranges_any {w : World} {p n cap i : Nat} {a : Option Addr} {bs : List Nat} (h : Rdr w p a n cap bs i) {l : List (Nat × Nat)} (hA : Agr (bs.drop i) (encP l.length ++ rngL 0 l)) (hl : 1 ≤ l.length ∧ l.length ≤ 32768) (hO : RO 0 0 l) (hlt : ∀ g, a = some g → g.block < w.heap.size) (Q : Nat) (hQ : Q = i + ((encP l.length).length + (rngL 0 l).length)) :
    Calls Tryd.prog 40 #[.pointer (some ⟨p, 0, none⟩)] w fun e w' => (Q ≤ n ∧ ∃ b m c, e = .returned (.slice b m c) ∧ Rdr w' p a n cap bs Q ∧ Chg (fun g => g = p) w w') ∨ (n < Q ∧ e = thrown n 102 ∧ Chg (fun g => g = p) w w') := by
  rcases Nat.lt_or_ge n (i + (encP l.length).length) with h1 | h1
  · have HB := amount_cut h hA.fst 32768 43 21 hl.1 (by omega) h1
    clear h hA
    go_enter Tryd.func40, Tryd.ntmps40
    go_wp2_with fail
    refine HB.mono ?_
    rintro e w1 ⟨rfl, hC⟩
    clear HB
    unfold thrown
    try dsimp only
    go_wp2_with fail
    exact ⟨rfl, .inr ⟨by omega, rfl, hC⟩⟩
  · have HB := amount_yes h hA.fst 32768 43 21 hl.1 (by omega) (by omega) h1
    have hA2 := hA.next
    have hpl := h.lt
    clear h hA
    go_enter Tryd.func40, Tryd.ntmps40
    go_wp2_with fail
    refine HB.mono ?_
    rintro e w1 ⟨rfl, hR, hC⟩
    clear HB
    go_wp2_with fail
    go_loopw [4, 5, 6, 7, 11] (fun v4 v5 v6 _ v11 W => ∃ (j e ap q : Nat) (r : List (Nat × Nat)) (rs : List (Int × Int)), j + r.length = l.length ∧ rs.length = j ∧ v11 = .int .i64 j ∧ v5 = .int .i64 e ∧ v6 = .int .i64 ap ∧ e ≤ 1048576 ∧ ap ≤ 1 ∧ Hid (RO e ap r) ∧ Hid (Agr (bs.drop q) (rngL e r)) ∧ q + (rngL e r).length = Q ∧ Rdr W p a n cap bs q ∧ OwnF rangeV 2 83 W w.heap.size v4 rs ∧ Chg (fun g => g = p ∨ w.heap.size ≤ g) w W) (fun _ _ _ _ v11 _ => l.length - (RowKit.intOf v11).toNat)
    case atStart => exact ⟨0, 0, 0, _, l, [], by omega, rfl, rfl, rfl, rfl, by omega, by omega, hO, hA2, by omega, hR, ownF_nil _ _, hC.mono (fun _ _ e => .inl e)⟩
    case round =>
      clear hR hC hO hA2
      obtain ⟨j, e, ap, q, r, rs, hj, hrs, rfl, rfl, rfl, he, hap, HO, HA, hq, hR, ho, hC⟩ := hrel
      subst hrs
      cases r with
      | nil =>
        have hj2 : rs.length = l.length := by simpa using hj
        have d1 : decide ((rs.length : Int) < (l.length : Int)) = false := decide_eq_false (by omega)
        have hqQ : q = Q := by simpa [rngL] using hq
        subst hqQ
        obtain ⟨ob, oc, rfl⟩ := ho.shape
        have hle := hR.le
        go_wp2_with fail
        go_ret
        exact .inl ⟨hle, _, _, _, rfl, hR, hC.mono (fun g hg e => by omega)⟩
      | cons x r =>
        obtain ⟨lo, hi⟩ := x
        obtain ⟨k1, k2, k3, k4⟩ := HO.out
        have hA := HA.out
        rw [rngL] at hA hq
        simp only [List.length_append, List.length_cons] at hq hj
        have d1 : decide ((rs.length : Int) < (l.length : Int)) = true := decide_eq_true (by omega)
        obtain ⟨x1, rfl⟩ : ∃ x1, lo = e + x1 := ⟨lo - e, by omega⟩
        obtain ⟨x2, rfl⟩ : ∃ x2, hi = e + x1 + x2 := ⟨hi - (e + x1), by omega⟩
        rw [Nat.add_sub_cancel_left, Nat.add_sub_cancel_left] at hA hq
        have hA1 := hA.fst
        have hA2 := hA.next.fst
        have hA3 := hA.next.next
        have HOb : ∀ g, u4.ownBlock = some g → ¬ g = p := fun g hg e => by have := ho.ge hg; omega
        have a1 : IntKind.i64.wrap ((e : Int) + (x1 : Int)) = (e : Int) + (x1 : Int) := IntWalk.i64_in _ (by omega)
        have a2 : IntKind.i64.wrap ((1048576 : Int) - ((e : Int) + (x1 : Int))) = 1048576 - ((e : Int) + (x1 : Int)) := IntWalk.i64_in _ (by omega)
        have a3 : IntKind.i64.wrap ((e : Int) + (x1 : Int) + (x2 : Int)) = (e : Int) + (x1 : Int) + (x2 : Int) := IntWalk.i64_in _ (by omega)
        have HK : Hid (Agr (bs.drop (q + (encP x1).length + (encP x2).length)) (rngL (e + x1 + x2) r) ∧ RO (e + x1 + x2) 1 r) := ⟨hA3, k4⟩
        clear hA hA3 HA HO k4
        rcases Nat.lt_or_ge n (q + (encP x1).length) with g1 | g1
        · have HB := between_cut hR hA1 (ap : Int) 268435455 22 (by omega) (by omega) (by omega) g1
          clear hR ho hA1 hA2
          go_wp2_with fail
          refine HB.mono ?_
          rintro e2 w2 ⟨rfl, hC2⟩
          clear HB
          unfold thrown
          try dsimp only
          go_wp2_with fail
          exact ⟨rfl, .inr ⟨by omega, rfl, (hC.trans (hC2.mono (fun _ _ e => .inl e))).mono (fun g hg e => by omega)⟩⟩
        · have HB := between_yes hR hA1 (ap : Int) 268435455 22 (by omega) (by omega) (by omega) g1
          have HS : Hid (OwnF rangeV 2 83 wr w.heap.size u4 rs ∧ Chg (fun g => g = p ∨ w.heap.size ≤ g) w wr) := ⟨ho, hC⟩
          clear hR ho hA1 hC
          go_wp2_with fail
          refine HB.mono ?_
          rintro e2 w2 ⟨rfl, hR2, hC2⟩
          clear HB
          rcases Nat.lt_or_ge n (q + (encP x1).length + (encP x2).length) with g2 | g2
          · have HB := between_cut hR2 hA2 1 (1048576 - ((e : Int) + (x1 : Int))) 20 (by omega) (by omega) (by omega) g2
            clear hR2 hA2
            go_wp2_with fail
            refine HB.mono ?_
            rintro e2 w3 ⟨rfl, hC3⟩
            clear HB
            unfold thrown
            try dsimp only
            go_wp2_with fail
            exact ⟨rfl, .inr ⟨by omega, rfl, (HS.out.2.trans ((hC2.trans hC3).mono (fun _ _ e => .inl e))).mono (fun g hg e => by omega)⟩⟩
          · have HB := between_yes hR2 hA2 1 (1048576 - ((e : Int) + (x1 : Int))) 20 (by omega) (by omega) (by omega) g2
            clear hR2 hA2
            go_wp2_with fail
            refine HB.mono ?_
            rintro e2 w3 ⟨rfl, hR3, hC3⟩
            clear HB
            obtain ⟨ho, hC⟩ := HS.out
            have hC4 := hC2.trans hC3
            have ho3 := ho.chg hC4 HOb
            have hC5 : Chg (fun g => g = p ∨ w.heap.size ≤ g) w w3 := hC.trans (hC4.mono (fun _ _ e => .inl e))
            obtain ⟨g5, cap5, w6, hr, ho6, hb6, _, _⟩ := appendF_one kindG layG ho3 hC5.size ((e : Int) + (x1 : Int), (e : Int) + (x1 : Int) + (x2 : Int)) #[.int .i64 ((e : Int) + (x1 : Int)), .int .i64 ((e : Int) + (x1 : Int) + (x2 : Int))] rfl 83 (by omega) (by omega) 33
            have hC6 := Chg.of_belowB hb6
            have hR6 := hR3.chg hC6 (by omega) (fun g hg e => by have := hlt g hg; omega)
            have hC7 : Chg (fun g => g = p ∨ w.heap.size ≤ g) w w6 := hC5.trans (hC6.mono (fun _ _ e => .inr e))
            have HN : Hid (Rdr w6 p a n cap bs (q + (encP x1).length + (encP x2).length) ∧ OwnF rangeV 2 83 w6 w.heap.size (.slice (some ⟨g5, 0, none⟩) (rs.length + 1) cap5) (rs ++ [((e : Int) + (x1 : Int), (e : Int) + (x1 : Int) + (x2 : Int))]) ∧ Chg (fun g => g = p ∨ w.heap.size ≤ g) w w6) := ⟨hR6, ho6, hC7⟩
            clear hR3 hC2 hC3 ho hC HS hC4 ho3 hC5 ho6 hb6 hC6 hR6 hC7
            go_wp2_with (at_builtin; refine wpList_append_hr rfl _ _ 33 rfl _ _ rfl rfl hr ?_)
            exact ⟨⟨rs.length + 1, e + x1 + x2, 1, q + (encP x1).length + (encP x2).length, r, rs ++ [((e : Int) + (x1 : Int), (e : Int) + (x1 : Int) + (x2 : Int))], by omega, by simp, by first | rfl | simp, by first | rfl | simp, by first | rfl | simp, by omega, by omega, HK.out.2, HK.out.1, by omega, HN.out⟩, by simp [RowKit.intOf]; omega⟩
end Go.Proofs.YtkdhcokefnffaaaDoor
