import Derived.Test.YtmeciikfnbbllaaGreatDoorGr1
import Derived.Deep.RegionHeld3
namespace Go.Proofs.YtmeciikfnbbllaaGreatDoor
open Go.RowKit Go.Lib
set_option maxRecDepth 100000
abbrev OpM := OpV × (Option Addr × Nat × Nat)
def opF (x : OpM) : List Value := [.int .i64 x.1.c, .int .i64 x.1.n, .int .i64 x.1.k, .int .i64 x.1.p, .string x.1.s, .slice x.2.1 x.2.2.1 x.2.2.2, .int .i64 x.1.tc, .int .i64 x.1.tn, .bool x.1.on]
theorem layO : Lay opF 9 := ⟨fun _ => rfl, by decide, fun x u hu => by simp [opF] at hu; rcases hu with rfl | rfl | rfl | rfl | rfl | rfl | rfl | rfl | rfl <;> rfl⟩
theorem Rw.at9 {w W : World} {a : Option Addr} {n cap : Nat} {L : List OpM} (h : Rw opF 9 w a n cap L) (hb : Below w.heap.size w W) (j : Nat) (hj : j < n) :
    ∃ g off x, a = some ⟨g, off, none⟩ ∧ g < w.heap.size ∧ L[j]? = some x ∧ W.cell? ⟨g, off + j * 9, none⟩ = some (.int .i64 x.1.c) ∧ W.cell? ⟨g, off + j * 9 + 1, none⟩ = some (.int .i64 x.1.n) ∧ W.cell? ⟨g, off + j * 9 + 2, none⟩ = some (.int .i64 x.1.k) ∧ W.cell? ⟨g, off + j * 9 + 3, none⟩ = some (.int .i64 x.1.p) ∧ W.cell? ⟨g, off + j * 9 + 4, none⟩ = some (.string x.1.s) ∧ W.cell? ⟨g, off + j * 9 + 5, none⟩ = some (.slice x.2.1 x.2.2.1 x.2.2.2) ∧ W.cell? ⟨g, off + j * 9 + 6, none⟩ = some (.int .i64 x.1.tc) ∧ W.cell? ⟨g, off + j * 9 + 7, none⟩ = some (.int .i64 x.1.tn) ∧ W.cell? ⟨g, off + j * 9 + 8, none⟩ = some (.bool x.1.on) := by
  obtain ⟨g, off, x, ha, hg, hx, hc⟩ := h.at j hj
  have h2 : ∀ i v, (opF x)[i]? = some v → W.cell? ⟨g, off + j * 9 + i, none⟩ = some v := fun i v hv => (hb.cell (p := ⟨g, off + j * 9 + i, none⟩) hg).trans (hc i v hv)
  exact ⟨g, off, x, ha, hg, hx, h2 0 _ rfl, h2 1 _ rfl, h2 2 _ rfl, h2 3 _ rfl, h2 4 _ rfl, h2 5 _ rfl, h2 6 _ rfl, h2 7 _ rfl, h2 8 _ rfl⟩
def OkOps (w : World) (L : List OpM) : Prop := ∀ x ∈ L, Sp.Rng w x.2.1 x.2.2.1 x.2.2.2 x.1.l ∧ x.1.s.size ≤ 9223372036854775807
theorem OkOps.below {w w' : World} {L : List OpM} (h : OkOps w L) (hb : Below w.heap.size w w') : OkOps w' L := fun x hx => ⟨(h x hx).1.below hb, (h x hx).2⟩
def errs (L : List OpM) : Int := firstErr (L.map (·.1))
theorem errs_drop (L : List OpM) (j : Nat) (x : OpM) (h : L[j]? = some x) : errs (L.drop j) = if ownP x.1 ≠ 0 then ownP x.1 else errs (L.drop (j + 1)) := by
  obtain ⟨hj, hx⟩ := List.getElem?_eq_some_iff.1 h
  rw [List.drop_eq_getElem_cons hj, hx]
  rfl
set_option maxHeartbeats 2000000 in
theorem ownErrors_any {w : World} {a : Option Addr} {n cap : Nat} {L : List OpM} (h : Rw opF 9 w a n cap L) (hL : OkOps w L) (hw : Bar w) :
    Calls Tryz.prog 15 #[.slice a n cap] w fun e w' => e = .returned (.int .i64 (errs L)) ∧ Below w.heap.size w w' := by
  have hln := h.len
  have hnb : n ≤ 9223372036854775807 := by have := h.room; simp only [maxLen] at this; omega
  have HC : Hid (∀ (x : OpM) (W : World) (r : Int), x ∈ L → Below w.heap.size w W → Calls Tryz.prog 23 #[opVal x.1 (.slice x.2.1 x.2.2.1 x.2.2.2), .int .i64 r] W fun e w' => e = .returned (.int .i64 (opCheck x.1 r)) ∧ Below W.heap.size W w') := fun x W r hx hb => opCheck_any ((hL x hx).1.below hb) (hL x hx).2 (hw.below hb)
  have HRm : Hid (∀ (o : OpV) (v : Value) (W : World), Calls Tryz.prog 24 #[opVal o v] W fun e w' => e = .returned (.int .i64 (roomP o)) ∧ Below W.heap.size W w') := fun o v W => roomFor_any
  obtain ⟨r, hr⟩ : ∃ r, errs L = r := ⟨_, rfl⟩
  have HR : Hid (errs (L.drop 0) = r) := hr
  rw [hr]
  clear hr hL hw
  go_enter Tryz.func15, Tryz.ntmps15
  go_wp2_with fail
  go_loopw [4, 5, 8] (fun u4 u5 i w' => ∃ j : Nat, j ≤ n ∧ i = .int .i64 j ∧ Below w.heap.size w w' ∧ Hid (errs (L.drop j) = r)) (fun _ _ i _ => n - (RowKit.intOf i).toNat)
  case atStart => exact ⟨0, Nat.zero_le _, rfl, Below.refl _ _, HR⟩
  case round =>
    obtain ⟨j, hjn, rfl, hb, HE⟩ := hrel
    by_cases hj : j < n
    · obtain ⟨g, off, x, rfl, hg, hx, c0, c1, c2, c3, c4, c5, c6, c7, c8⟩ := h.at9 hb j hj
      have hxm : x ∈ L := List.mem_of_getElem? hx
      have he := errs_drop L j x hx
      rw [HE.out] at he
      have HC2 := fun W r hb => HC.out x W r hxm hb
      obtain ⟨⟨c, n0, k, p, s, l, tc, tn, on⟩, xa, xm, xc⟩ := x
      simp only at c0 c1 c2 c3 c4 c5 c6 c7 c8 HC2
      clear HE HC h hx hxm
      obtain ⟨W0, hW0⟩ : ∃ W0, wr.alloc (Obj.cells #[.int .i64 c, .int .i64 n0, .int .i64 k, .int .i64 p, .string s, .slice xa xm xc, .int .i64 tc, .int .i64 tn, .bool on] 33) = W0 := ⟨_, rfl⟩
      have hX : W0.heap[wr.heap.size]? = some (Obj.cells #[.int .i64 c, .int .i64 n0, .int .i64 k, .int .i64 p, .string s, .slice xa xm xc, .int .i64 tc, .int .i64 tn, .bool on] 33) := by rw [← hW0]; exact alloc_last _ _ _ rfl
      have hB0 : Below w.heap.size w W0 := by rw [← hW0]; exact hb.alloc hb.size _
      have hsz : wr.heap.size < W0.heap.size := by rw [← hW0]; simp
      obtain ⟨k0, k1, k2, k3, k4, k5, k6, k7, k8⟩ := box9 hX
      go_wp2_with fail
      try rw [hW0]
      have hcur : Below W0.heap.size W0 W0 := Below.refl _ _
      clear hW0 hX c0 c1 c2 c3 c4 c5 c6 c7 c8 hb
      simp only [opVal] at *
      go_region_held3 (fun W => W.cell? ⟨wr.heap.size, 0, none⟩ = some (.int .i64 c) ∧ W.cell? ⟨wr.heap.size, 1, none⟩ = some (.int .i64 n0) ∧ W.cell? ⟨wr.heap.size, 2, none⟩ = some (.int .i64 k) ∧ W.cell? ⟨wr.heap.size, 3, none⟩ = some (.int .i64 p) ∧ W.cell? ⟨wr.heap.size, 4, none⟩ = some (.string s) ∧ W.cell? ⟨wr.heap.size, 5, none⟩ = some (.slice xa xm xc) ∧ W.cell? ⟨wr.heap.size, 6, none⟩ = some (.int .i64 tc) ∧ W.cell? ⟨wr.heap.size, 7, none⟩ = some (.int .i64 tn) ∧ W.cell? ⟨wr.heap.size, 8, none⟩ = some (.bool on)) (first | exact ⟨k0, k1, k2, k3, k4, k5, k6, k7, k8⟩ | exact ⟨e0, e1, e2, e3, e4, e5, e6, e7, e8⟩)
        (first
          | (go_at_call 24; refine (HRm.out ⟨c, n0, k, p, s, l, tc, tn, on⟩ (.slice xa xm xc) _).mono ?_; rintro e w1 ⟨rfl, hb1⟩; have hcur : Below W0.heap.size W0 w1 := (by first | exact hcur.trans (hb1.mono hcur.size) | exact hcur.drew.trans (hb1.mono hcur.size)); have e0 := (hcur.cell (p := ⟨wr.heap.size, 0, none⟩) hsz).trans k0; have e1 := (hcur.cell (p := ⟨wr.heap.size, 1, none⟩) hsz).trans k1; have e2 := (hcur.cell (p := ⟨wr.heap.size, 2, none⟩) hsz).trans k2; have e3 := (hcur.cell (p := ⟨wr.heap.size, 3, none⟩) hsz).trans k3; have e4 := (hcur.cell (p := ⟨wr.heap.size, 4, none⟩) hsz).trans k4; have e5 := (hcur.cell (p := ⟨wr.heap.size, 5, none⟩) hsz).trans k5; have e6 := (hcur.cell (p := ⟨wr.heap.size, 6, none⟩) hsz).trans k6; have e7 := (hcur.cell (p := ⟨wr.heap.size, 7, none⟩) hsz).trans k7; have e8 := (hcur.cell (p := ⟨wr.heap.size, 8, none⟩) hsz).trans k8)
          | (go_at_call 23; refine (HC2 _ _ ?_).mono ?_; (first | exact hB0.trans (hcur.mono hB0.size) | exact hB0.trans (hcur.drew.mono hB0.size)); rintro e w1 ⟨rfl, hb1⟩; have hcur : Below W0.heap.size W0 w1 := (by first | exact hcur.trans (hb1.mono hcur.size) | exact hcur.drew.trans (hb1.mono hcur.size)); have e0 := (hcur.cell (p := ⟨wr.heap.size, 0, none⟩) hsz).trans k0; have e1 := (hcur.cell (p := ⟨wr.heap.size, 1, none⟩) hsz).trans k1; have e2 := (hcur.cell (p := ⟨wr.heap.size, 2, none⟩) hsz).trans k2; have e3 := (hcur.cell (p := ⟨wr.heap.size, 3, none⟩) hsz).trans k3; have e4 := (hcur.cell (p := ⟨wr.heap.size, 4, none⟩) hsz).trans k4; have e5 := (hcur.cell (p := ⟨wr.heap.size, 5, none⟩) hsz).trans k5; have e6 := (hcur.cell (p := ⟨wr.heap.size, 6, none⟩) hsz).trans k6; have e7 := (hcur.cell (p := ⟨wr.heap.size, 7, none⟩) hsz).trans k7; have e8 := (hcur.cell (p := ⟨wr.heap.size, 8, none⟩) hsz).trans k8))
      all_goals
        have hB1 := hB0.trans (hcur.mono hB0.size)
        have hv : opCheck ⟨c, n0, k, p, s, l, tc, tn, on⟩ (roomP ⟨c, n0, k, p, s, l, tc, tn, on⟩) = ownP ⟨c, n0, k, p, s, l, tc, tn, on⟩ := ownX_eq _
        rw [hv]
        generalize ownP ⟨c, n0, k, p, s, l, tc, tn, on⟩ = z at *
        clear HC2 HRm hv HR
        by_cases hz : z = 0
        · rw [if_neg (by simp [hz])] at he
          subst hz
          have HE2 : Hid (errs (L.drop (j + 1)) = r) := he.symm
          clear he
          go_wp2_with fail
          go_roundw
          case rel => exact ⟨j + 1, by omega, by go_num, (by first | exact hB1 | exact below_drewN hB1 _), HE2⟩
          case measure => simp [RowKit.intOf]; omega
        · rw [if_pos hz] at he
          subst he
          have t1 : (r == 0) = false := beq_eq_false_iff_ne.2 hz
          clear hz
          go_wp2_with fail
          go_ret
          exact ⟨rfl, by first | exact hB1 | exact below_drewN hB1 _⟩
    · have hr : r = 0 := by
        rw [← HE.out, List.drop_eq_nil_of_le (by omega)]
        rfl
      subst hr
      clear HR HE HC HRm
      go_wp2_with fail
      go_ret
      exact ⟨rfl, hb⟩
end Go.Proofs.YtmeciikfnbbllaaGreatDoor
