import Derived.Test.YtajnadcinegmjaaDoorOpV
namespace Go.Proofs.YtajnadcinegmjaaDoor
open Go.RowKit Go.Lib Sp
set_option maxRecDepth 100000

theorem idP_bd {c n : Int} (h : (c = 0 ∧ n = 0) ∨ isIdP c n = true) : 0 ≤ c ∧ c ≤ 1048576 ∧ 0 ≤ n ∧ n ≤ 1048576 := by
  rcases h with ⟨h1, h2⟩ | h
  · omega
  · have := of_decide_eq_true h; omega
theorem lst_places {l : List (Int × Int)} (h : Sp.Lst l) : Places l := fun r hr => by have := h.nonneg r hr; omega
theorem wordB_length {o : OpV} (h : Right o) (hs : o.s.size ≤ 4194304) : (wordB o).length ≤ 50000000 := by
  unfold wordB
  split
  · rename_i e
    have h1 := quoted_le o.s
    have h2 := h.ins e
    have h3 := Lib.itoa_length_le o.p (by omega) (by omega)
    unfold insB
    simp only [List.length_append, List.length_cons, List.length_nil]; omega
  have hr : o.k = 2 ∨ o.k = 3 → (rngB o.l).length ≤ 1500000 := fun e => by
    have h1 := (h.rng e).2
    have h2 := rngB_length (lst_places h1)
    have h3 := h1.few
    omega
  split
  · rename_i e
    have := hr (.inl e)
    simp only [List.length_append, List.length_cons, List.length_nil]; omega
  split
  · rename_i e
    have := hr (.inr e)
    simp only [List.length_append, List.length_cons, List.length_nil]; omega
  have hk : o.k = 4 := by have := h.kind; omega
  have h1 := idP_bd (.inr (h.tgt hk).1)
  have h2 := idB_length h1.1 h1.2.1 h1.2.2.1 h1.2.2.2
  split
  · simp only [List.length_append, List.length_cons, List.length_nil]; omega
  · simp only [List.length_append, List.length_cons, List.length_nil]; omega
theorem printWord_any {o : OpV} {w : World} {a : Option Addr} {m cap : Nat} (h : Rng w a m cap o.l) (hR : Right o) (hs : o.s.size ≤ 4194304) (hp : Pow w) (hd : Deb w) :
    Calls Tryd.prog 13 #[opVal o (.slice a m cap)] w fun e w' => e = .returned (.string (bs (wordB o))) ∧ Below w.heap.size w w' := by
  obtain ⟨c, n, k, p, s, l, tc, tn, on⟩ := o
  have hk := hR.kind
  simp only at h hk hs
  have hq := quoted_le s
  have : k = 1 ∨ k = 2 ∨ k = 3 ∨ k = 4 := by omega
  rcases this with rfl | rfl | rfl | rfl
  · have h1 := hR.ins rfl
    exact printWord_1 h1.1 h1.2.1 hs (by omega) w hp hd
  · have h1 := (hR.rng (.inl rfl)).2
    exact printWord_2 h (lst_places h1) (by have := h1.few; have := h.len; simp only at *; omega) hp
  · have h1 := (hR.rng (.inr rfl)).2
    exact printWord_3 h (lst_places h1) (by have := h1.few; have := h.len; simp only at *; omega) hp
  · have h1 := idP_bd (.inr (hR.tgt rfl).1)
    cases on with
    | true => exact printWord_true h1.1 h1.2.1 h1.2.2.1 h1.2.2.2 hp
    | false => exact printWord_false h1.1 h1.2.1 h1.2.2.1 h1.2.2.2 hp

set_option maxHeartbeats 1000000 in
theorem print_right {o : OpV} {w : World} {a : Option Addr} {m cap : Nat} (h : Rng w a m cap o.l) (hok : ownP o = 0) (hs : o.s.size ≤ 4194304) (hw : Bar w) (hp : Pow w) (hd : Deb w) :
    Calls Tryd.prog 6 #[opVal o (.slice a m cap)] w fun e w' => e = .returned (.tuple #[.string (bs (printP o)), .int .i64 0]) ∧ Below w.heap.size w w' := by
  have hR := right_of hok
  have HO : Hid (∀ (w' : World), Below w.heap.size w w' → Calls Tryd.prog 11 #[opVal o (.slice a m cap)] w' fun e w'' => e = .returned (.int .i64 0) ∧ Below w'.heap.size w' w'') := fun w' hb => by
    have h := ownError_any (o := o) (h.below hb) (show o.s.size ≤ 9223372036854775807 by omega) (hw.below hb)
    rw [hok] at h
    exact h
  have hcn := idP_bd hR.id
  have HP : Hid (∀ (w' : World), Below w.heap.size w w' → Calls Tryd.prog 12 #[.agg #[.int .i64 o.c, .int .i64 o.n]] w' fun e w'' => e = .returned (.string (bs (idB o.c o.n))) ∧ Below w'.heap.size w' w'') := fun w' hb => printID_any hcn.1 hcn.2.1 hcn.2.2.1 hcn.2.2.2 w' (hp.below hb)
  have HW : Hid (∀ (w' : World), Below w.heap.size w w' → Calls Tryd.prog 13 #[opVal o (.slice a m cap)] w' fun e w'' => e = .returned (.string (bs (wordB o))) ∧ Below w'.heap.size w' w'') := fun w' hb => printWord_any (h.below hb) hR hs (hp.below hb) (hd.below hb)
  have q1 : (bs (idB o.c o.n)).size ≤ 100 := by rw [bs_size]; exact idB_length hcn.1 hcn.2.1 hcn.2.2.1 hcn.2.2.2
  have q2 : (bs (wordB o)).size ≤ 50000000 := by rw [bs_size]; exact wordB_length hR hs
  have HR : Hid (bs (idB o.c o.n) ++ ⟨#[32]⟩ ++ bs (wordB o) = bs (printP o)) := by
    show _ = _
    unfold printP
    rw [← bs_append, ← bs_append]
    rfl
  clear h hok hs hw hp hd hcn hR
  generalize bs (idB o.c o.n) = x at *
  generalize bs (wordB o) = y at *
  generalize bs (printP o) = z at *
  obtain ⟨c, n, k, p, s, l, tc, tn, on⟩ := o
  have g1 : ¬ 9223372036854775807 < x.size + 1 := by omega
  have g2 : ¬ 9223372036854775807 < x.size + 1 + y.size := by omega
  simp only [opVal] at *
  have hw2 := (Below.refl w.heap.size w).alloc (Nat.le_refl _) (Obj.cells #[.int .i64 c, .int .i64 n, .int .i64 k, .int .i64 p, .string s, .slice a m cap, .int .i64 tc, .int .i64 tn, .bool on] 34)
  go_enter Tryd.func6, Tryd.ntmps6
  go_wp2_with fail
  refine (HO.out _ hw2).mono ?_
  rintro e w0 ⟨rfl, hb0⟩
  have hB0 := hw2.trans (hb0.mono hw2.size)
  have k0 : w0.cell? ⟨w.heap.size, 0, none⟩ = some (.int .i64 c) := (hb0.cell (p := ⟨w.heap.size, 0, none⟩) (by simp)).trans (World.cell?_alloc_mark ..)
  have k1 : w0.cell? ⟨w.heap.size, 1, none⟩ = some (.int .i64 n) := (hb0.cell (p := ⟨w.heap.size, 1, none⟩) (by simp)).trans (World.cell?_alloc_mark ..)
  have k2 : w0.cell? ⟨w.heap.size, 2, none⟩ = some (.int .i64 k) := (hb0.cell (p := ⟨w.heap.size, 2, none⟩) (by simp)).trans (World.cell?_alloc_mark ..)
  have k3 : w0.cell? ⟨w.heap.size, 3, none⟩ = some (.int .i64 p) := (hb0.cell (p := ⟨w.heap.size, 3, none⟩) (by simp)).trans (World.cell?_alloc_mark ..)
  have k4 : w0.cell? ⟨w.heap.size, 4, none⟩ = some (.string s) := (hb0.cell (p := ⟨w.heap.size, 4, none⟩) (by simp)).trans (World.cell?_alloc_mark ..)
  have k5 : w0.cell? ⟨w.heap.size, 5, none⟩ = some (.slice a m cap) := (hb0.cell (p := ⟨w.heap.size, 5, none⟩) (by simp)).trans (World.cell?_alloc_mark ..)
  have k6 : w0.cell? ⟨w.heap.size, 6, none⟩ = some (.int .i64 tc) := (hb0.cell (p := ⟨w.heap.size, 6, none⟩) (by simp)).trans (World.cell?_alloc_mark ..)
  have k7 : w0.cell? ⟨w.heap.size, 7, none⟩ = some (.int .i64 tn) := (hb0.cell (p := ⟨w.heap.size, 7, none⟩) (by simp)).trans (World.cell?_alloc_mark ..)
  have k8 : w0.cell? ⟨w.heap.size, 8, none⟩ = some (.bool on) := (hb0.cell (p := ⟨w.heap.size, 8, none⟩) (by simp)).trans (World.cell?_alloc_mark ..)
  have hk : w.heap.size < w0.heap.size := by have := hb0.size; simp at this; omega
  have hcur : Below w0.heap.size w0 w0 := Below.refl _ _
  clear hw2 hb0 HO
  go_wp2_with fail
  go_region_held3 (fun W => W.cell? ⟨w.heap.size, 0, none⟩ = some (.int .i64 c) ∧ W.cell? ⟨w.heap.size, 1, none⟩ = some (.int .i64 n) ∧ W.cell? ⟨w.heap.size, 2, none⟩ = some (.int .i64 k) ∧ W.cell? ⟨w.heap.size, 3, none⟩ = some (.int .i64 p) ∧ W.cell? ⟨w.heap.size, 4, none⟩ = some (.string s) ∧ W.cell? ⟨w.heap.size, 5, none⟩ = some (.slice a m cap) ∧ W.cell? ⟨w.heap.size, 6, none⟩ = some (.int .i64 tc) ∧ W.cell? ⟨w.heap.size, 7, none⟩ = some (.int .i64 tn) ∧ W.cell? ⟨w.heap.size, 8, none⟩ = some (.bool on)) (first | exact ⟨k0, k1, k2, k3, k4, k5, k6, k7, k8⟩ | exact ⟨e0, e1, e2, e3, e4, e5, e6, e7, e8⟩)
      (first
        | (go_at_call 12; refine (HP.out _ ?_).mono ?_; (first | exact hB0.trans (hcur.mono hB0.size) | exact hB0.trans (hcur.drew.mono hB0.size)); rintro e w1 ⟨rfl, hb1⟩; have hcur : Below w0.heap.size w0 w1 := (by first | exact hcur.trans (hb1.mono hcur.size) | exact hcur.drew.trans (hb1.mono hcur.size)); have e0 := (hcur.cell (p := ⟨w.heap.size, 0, none⟩) hk).trans k0; have e1 := (hcur.cell (p := ⟨w.heap.size, 1, none⟩) hk).trans k1; have e2 := (hcur.cell (p := ⟨w.heap.size, 2, none⟩) hk).trans k2; have e3 := (hcur.cell (p := ⟨w.heap.size, 3, none⟩) hk).trans k3; have e4 := (hcur.cell (p := ⟨w.heap.size, 4, none⟩) hk).trans k4; have e5 := (hcur.cell (p := ⟨w.heap.size, 5, none⟩) hk).trans k5; have e6 := (hcur.cell (p := ⟨w.heap.size, 6, none⟩) hk).trans k6; have e7 := (hcur.cell (p := ⟨w.heap.size, 7, none⟩) hk).trans k7; have e8 := (hcur.cell (p := ⟨w.heap.size, 8, none⟩) hk).trans k8)
        | (go_at_call 13; refine (HW.out _ ?_).mono ?_; (first | exact hB0.trans (hcur.mono hB0.size) | exact hB0.trans (hcur.drew.mono hB0.size)); rintro e w1 ⟨rfl, hb1⟩; have hcur : Below w0.heap.size w0 w1 := (by first | exact hcur.trans (hb1.mono hcur.size) | exact hcur.drew.trans (hb1.mono hcur.size)); have e0 := (hcur.cell (p := ⟨w.heap.size, 0, none⟩) hk).trans k0; have e1 := (hcur.cell (p := ⟨w.heap.size, 1, none⟩) hk).trans k1; have e2 := (hcur.cell (p := ⟨w.heap.size, 2, none⟩) hk).trans k2; have e3 := (hcur.cell (p := ⟨w.heap.size, 3, none⟩) hk).trans k3; have e4 := (hcur.cell (p := ⟨w.heap.size, 4, none⟩) hk).trans k4; have e5 := (hcur.cell (p := ⟨w.heap.size, 5, none⟩) hk).trans k5; have e6 := (hcur.cell (p := ⟨w.heap.size, 6, none⟩) hk).trans k6; have e7 := (hcur.cell (p := ⟨w.heap.size, 7, none⟩) hk).trans k7; have e8 := (hcur.cell (p := ⟨w.heap.size, 8, none⟩) hk).trans k8))
  all_goals
    go_wp2_with fail
    go_ret2
    exact ⟨congrArg (fun b => Ending.returned (.tuple #[.string b, .int .i64 0])) HR.out, hB0.trans (hcur.mono hB0.size)⟩

set_option maxHeartbeats 1000000 in
theorem print_wrong {o : OpV} {w : World} {a : Option Addr} {m cap : Nat} (h : Rng w a m cap o.l) (hok : ownP o ≠ 0) (hs : o.s.size ≤ 9223372036854775807) (hw : Bar w) :
    Calls Tryd.prog 6 #[opVal o (.slice a m cap)] w fun e w' => e = .returned (.tuple #[.string ⟨#[]⟩, .int .i64 (ownP o)]) ∧ Below w.heap.size w w' := by
  have HO : Hid (∀ (w' : World), Below w.heap.size w w' → Calls Tryd.prog 11 #[opVal o (.slice a m cap)] w' fun e w'' => e = .returned (.int .i64 (ownP o)) ∧ Below w'.heap.size w' w'') := fun w' hb => ownError_any (o := o) (h.below hb) hs (hw.below hb)
  have t1 : (ownP o == 0) = false := beq_eq_false_iff_ne.2 hok
  clear h hok hs hw
  generalize ownP o = r at *
  obtain ⟨c, n, k, p, s, l, tc, tn, on⟩ := o
  simp only [opVal] at *
  have hw2 := (Below.refl w.heap.size w).alloc (Nat.le_refl _) (Obj.cells #[.int .i64 c, .int .i64 n, .int .i64 k, .int .i64 p, .string s, .slice a m cap, .int .i64 tc, .int .i64 tn, .bool on] 34)
  go_enter Tryd.func6, Tryd.ntmps6
  go_wp2_with fail
  refine (HO.out _ hw2).mono ?_
  rintro e w0 ⟨rfl, hb0⟩
  have hB0 := hw2.trans (hb0.mono hw2.size)
  clear hw2 hb0 HO
  go_wp2_with fail
  go_ret2
  exact ⟨rfl, hB0⟩
end Go.Proofs.YtajnadcinegmjaaDoor
