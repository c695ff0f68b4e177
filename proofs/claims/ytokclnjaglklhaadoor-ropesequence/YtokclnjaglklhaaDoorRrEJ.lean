import Derived.Test.YtokclnjaglklhaaDoorRrD
namespace Go.Proofs.YtokclnjaglklhaaDoor
open Go.RowKit Go.Lib
set_option maxRecDepth 100000

theorem visR_cons (c : Int × Int) (l : List (Int × Int)) : visR (c :: l) = if c.2 ≤ 0 then c.1 :: visR l else visR l := by
  unfold visR
  by_cases h : c.2 ≤ 0
  · rw [if_pos h, List.filter_cons_of_pos (by simp [h])]; rfl
  · rw [if_neg h, List.filter_cons_of_neg (by simp; omega)]
theorem visR_vis : ∀ {l : List (Int × Int)}, Nonneg l → (visR l).length = vis l
  | [], _ => rfl
  | c :: l, h => by
    have h0 := h c (by simp)
    rw [visR_cons, vis_cons, ← visR_vis (l := l) (fun x hx => h x (by simp [hx]))]
    by_cases e : c.2 = 0
    · rw [if_pos (by omega), if_pos e]; rfl
    · rw [if_neg (by omega), if_neg e]; omega
theorem visR_place : ∀ (l : List (Int × Int)) (p : Nat), Nonneg l → visR (l.take (place l p)) = (visR l).take p
  | [], p, _ => by simp [visR, place]
  | c :: l, p, h => by
    have h0 := h c (by simp)
    have hl : Nonneg l := fun x hx => h x (by simp [hx])
    by_cases e : c.2 = 0
    · cases p with
      | zero => simp [place, e, visR]
      | succ p =>
        have e1 : place (c :: l) (p + 1) = place l p + 1 := by simp [place, e]; omega
        rw [e1, List.take_succ_cons, visR_cons, visR_cons, if_pos (by omega), if_pos (by omega), List.take_succ_cons, visR_place l p hl]
    · have e1 : place (c :: l) p = place l p + 1 := by cases p <;> simp [place, e] <;> omega
      rw [e1, List.take_succ_cons, visR_cons, visR_cons, if_neg (by omega), if_neg (by omega), visR_place l p hl]
theorem visR_place1 : ∀ (l : List (Int × Int)) (p : Nat), Nonneg l → p < vis l → visR (l.take (place l p + 1)) = (visR l).take (p + 1)
  | [], p, _, hp => by simp [vis, cnt] at hp
  | c :: l, p, h, hp => by
    have h0 := h c (by simp)
    have hl : Nonneg l := fun x hx => h x (by simp [hx])
    rw [vis_cons] at hp
    by_cases e : c.2 = 0
    · rw [if_pos e] at hp
      cases p with
      | zero =>
        have e1 : place (c :: l) 0 = 0 := by simp [place, e]
        rw [e1, List.take_succ_cons, List.take_zero, visR_cons, visR_cons, if_pos (by omega), if_pos (by omega), List.take_succ_cons, List.take_zero]
        rfl
      | succ p =>
        have e1 : place (c :: l) (p + 1) = place l p + 1 := by simp [place, e]; omega
        rw [e1, List.take_succ_cons, visR_cons, visR_cons, if_pos (by omega), if_pos (by omega), List.take_succ_cons, visR_place1 l p hl (by omega)]
    · rw [if_neg e] at hp
      have e1 : place (c :: l) p = place l p + 1 := by cases p <;> simp [place, e] <;> omega
      rw [e1, List.take_succ_cons, visR_cons, visR_cons, if_neg (by omega), if_neg (by omega), visR_place1 l p hl (by omega)]
/-- The visible runes lo to hi - 1. -/
theorem visR_stretch {l : List (Int × Int)} (h : Nonneg l) {lo hi : Nat} (h1 : lo < hi) (h2 : hi ≤ vis l) : visR (cutL l (place l lo : Int) ((place l (hi - 1) : Int) + 1)) = ((visR l).take hi).drop lo := by
  have e1 : ((place l (hi - 1) : Int) + 1).toNat = place l (hi - 1) + 1 := by omega
  have e2 : ((place l lo : Int)).toNat = place l lo := by omega
  unfold cutL
  rw [e1, e2]
  have k1 := visR_place1 l (hi - 1) h (by omega)
  rw [show hi - 1 + 1 = hi by omega] at k1
  have k2 := visR_place l lo h
  have hle : place l lo ≤ place l (hi - 1) + 1 := by
    have a1 := place_vis l lo (by omega)
    have a2 := place_vis l (hi - 1) (by omega)
    by_cases c : place l lo ≤ place l (hi - 1) + 1
    · exact c
    · exfalso
      have m : vis (l.take (place l (hi - 1) + 1)) ≤ vis (l.take (place l lo)) := by
        have e : l.take (place l lo) = l.take (place l (hi - 1) + 1) ++ (l.take (place l lo)).drop (place l (hi - 1) + 1) := by
          conv => lhs; rw [← List.take_append_drop (place l (hi - 1) + 1) (l.take (place l lo))]
          rw [List.take_take, Nat.min_eq_left (by omega)]
        rw [e, vis_append]
        omega
      have n1 : (visR (l.take (place l (hi - 1) + 1))).length = hi := by
        rw [k1, List.length_take, visR_vis h]
        omega
      rw [visR_vis (fun x hx => h x (List.mem_of_mem_take hx))] at n1
      omega
  have k3 : visR (l.take (place l (hi - 1) + 1)) = visR (l.take (place l lo)) ++ visR ((l.take (place l (hi - 1) + 1)).drop (place l lo)) := by
    rw [← visR_append]
    conv => lhs; rw [← List.take_append_drop (place l lo) (l.take (place l (hi - 1) + 1))]
    rw [List.take_take, Nat.min_eq_left hle]
  rw [k1, k2] at k3
  rw [k3, List.drop_left' (by rw [List.length_take, visR_vis h]; omega)]
theorem cutL_all (l : List (Int × Int)) : cutL l 0 (l.length : Int) = l := by
  unfold cutL
  simp
/-- A string of runes. -/
def Tx (s : ByteArray) (rs : List Int) : Prop := s.data.toList = encs rs
set_option maxHeartbeats 1000000 in
theorem ropeText_any {w : World} {q : Nat} {t : Tr} (h : RopeAt w q t) (hR : t.Rp) (hO : Okl t.lv) :
    Calls Tryd.prog 26 #[.pointer (some ⟨q, 0, none⟩)] w fun e w' => ∃ s, e = .returned (.string s) ∧ Tx s (visR t.row) ∧ Below w.heap.size w w' := by
  have HT := ropeTotal_any h
  have HX := textOf_any h hR hO 0 (t.row.length : Int)
  rw [cutL_all] at HX
  unfold ptr at HT
  clear h hR hO
  go_enter Tryd.func26, Tryd.ntmps26
  go_wp2_with fail
  refine HT.mono ?_
  rintro e w1 ⟨rfl, rfl⟩
  go_wp2_with fail
  refine HX.mono ?_
  rintro e w2 ⟨s, rfl, hs, hb⟩
  go_wp2
  go_ret
  exact ⟨s, rfl, hs, hb⟩
end Go.Proofs.YtokclnjaglklhaaDoor

namespace Go.Proofs.YtokclnjaglklhaaDoor
open Go.RowKit Go.Lib
set_option maxRecDepth 100000

end Go.Proofs.YtokclnjaglklhaaDoor

namespace Go.Proofs.YtokclnjaglklhaaDoor
open Go.RowKit Go.Lib
set_option maxRecDepth 100000

theorem cell_set_ne (w : World) {q p : Addr} (v : Value) (h : p.block ≠ q.block) : (w.setCell q v).cell? p = w.cell? p := by
  unfold World.cell?
  rw [Below.heap_setCell _ _ _ _ h]
theorem two_set (w : World) {b : Nat} (u v : Value) {p : Addr} (h : p.block ≠ b) : ((w.setCell ⟨b, 0, none⟩ u).setCell ⟨b, 1, none⟩ v).cell? p = w.cell? p :=
  (cell_set_ne _ _ h).trans (cell_set_ne _ _ h)
theorem two_get {w : World} {b : Nat} {u v x y : Value} {T : TypeId} (h : w.heap[b]? = some (.cells #[x, y] T)) : ((w.setCell ⟨b, 0, none⟩ u).setCell ⟨b, 1, none⟩ v).heap[b]? = some (.cells #[u, v] T) := by
  simp only [World.setCell, Array.getElem?_modify, h, if_true, Option.map_some]
  rfl
set_option maxHeartbeats 4000000 in
theorem cell_leaf {w : World} {rs : List Int} {hid st : Int} {g : Nat} (hA : At w (.leaf rs hid st) g) (j : Nat) (x : Int) (hx : rs[j]? = some x) :
    Calls Tryd.prog 43 #[.pointer (some ⟨g, 0, none⟩), .int .i64 (j : Int)] w fun e w' => e = .returned (.agg #[.int .i32 x, .int .i64 hid]) ∧ Below w.heap.size w w' := by
  have hj : j < rs.length := (List.getElem?_eq_some_iff.1 hx).1
  have HIP := smIsPiece_any (Tr.leaf rs hid st).sm
  rw [Tr.sm_high_leaf] at HIP
  have HH := smHid_any (Tr.leaf rs hid st).sm
  have efh : (Tr.leaf rs hid st).sm.fh = hid := rfl
  rw [efh] at HH
  obtain ⟨c0, c1, c2, c3, c4, c5, c6, c7, c8, c9⟩ := hA.ten
  have hgl := hA.lt
  obtain ⟨a, cap, hN, hrw⟩ := hA
  have c10 := hN.four.1
  obtain ⟨gr, off, y, rfl, hgr, hy, hc⟩ := hrw.rw_.at j hj
  have hcx : w.cell? ⟨gr, off + j, none⟩ = some (.int .i32 x) := by
    rw [hx] at hy; cases hy
    simpa using hc 0 (.int .i32 x) rfl
  have hcap := hrw.rw_.room
  clear hN hrw hc hy efh hx
  generalize (Tr.leaf rs hid st).sm = s at *
  generalize rs.length = n at *
  have hcur : Below w.heap.size w (w.alloc (.cells #[.int .i32 0, .int .i64 0] 41)) := (Below.refl _ _).alloc (Nat.le_refl _) _
  go_enter Tryd.func43, Tryd.ntmps43
  go_wp2_with fail
  refine (HIP _).mono ?_
  rintro e w1 ⟨rfl, hb1⟩
  have hszb : (w.alloc (.cells #[.int .i32 0, .int .i64 0] 41)).heap.size = w.heap.size + 1 := World.size_alloc _ _
  have hB1 : Below w.heap.size w w1 := hcur.trans (hb1.mono (by omega))
  have hbox : w1.heap[w.heap.size]? = some (.cells #[.int .i32 0, .int .i64 0] 41) := (hb1.block _ (by omega)).trans (World.alloc_heap_new _ _)
  have k0 := (hB1.cell (p := ⟨g, 0, none⟩) hgl).trans c0
  have k1 := (hB1.cell (p := ⟨g, 1, none⟩) hgl).trans c1
  have k2 := (hB1.cell (p := ⟨g, 2, none⟩) hgl).trans c2
  have k3 := (hB1.cell (p := ⟨g, 3, none⟩) hgl).trans c3
  have k4 := (hB1.cell (p := ⟨g, 4, none⟩) hgl).trans c4
  have k5 := (hB1.cell (p := ⟨g, 5, none⟩) hgl).trans c5
  have k6 := (hB1.cell (p := ⟨g, 6, none⟩) hgl).trans c6
  have k7 := (hB1.cell (p := ⟨g, 7, none⟩) hgl).trans c7
  have k8 := (hB1.cell (p := ⟨g, 8, none⟩) hgl).trans c8
  have k9 := (hB1.cell (p := ⟨g, 9, none⟩) hgl).trans c9
  have k10 := (hB1.cell (p := ⟨g, 10, none⟩) hgl).trans c10
  have kx := (hB1.cell (p := ⟨gr, off + j, none⟩) hgr).trans hcx
  have hs1 := hB1.size
  have hg1 : g < w1.heap.size := by omega
  have hr1 : gr < w1.heap.size := by omega
  have hbl : w.heap.size < w1.heap.size := (Array.getElem?_eq_some_iff.1 hbox).1
  clear hcur hb1 c0 c1 c2 c3 c4 c5 c6 c7 c8 c9 c10 hcx
  have m0 : w1.cell? ⟨w.heap.size, 0, none⟩ = some (.int .i32 0) := by rw [Lib.cell_of_heap hbox]; rfl
  have m1 : w1.cell? ⟨w.heap.size, 1, none⟩ = some (.int .i64 0) := by rw [Lib.cell_of_heap hbox]; rfl
  have m2 : w1.frozen? ⟨w.heap.size, 0, none⟩ = false := Lib.frozen_of_heap hbox 0
  have m3 : w1.frozen? ⟨w.heap.size, 1, none⟩ = false := Lib.frozen_of_heap hbox 1
  have hcur2 : Below w1.heap.size w1 w1 := Below.refl _ _
  go_wp2_with fail
  go_region_held3 (fun W => W.cell? ⟨g, 0, none⟩ = some (.int .i64 s.cells) ∧ W.cell? ⟨g, 1, none⟩ = some (.int .i64 s.pieces) ∧ W.cell? ⟨g, 2, none⟩ = some (.int .i64 s.high) ∧ W.cell? ⟨g, 3, none⟩ = some (.int .i64 s.least) ∧ W.cell? ⟨g, 4, none⟩ = some (.int .i64 s.most) ∧ W.cell? ⟨g, 5, none⟩ = some (.int .i64 s.lowest) ∧ W.cell? ⟨g, 6, none⟩ = some (.int .i64 s.fc) ∧ W.cell? ⟨g, 7, none⟩ = some (.int .i64 s.fh) ∧ W.cell? ⟨g, 8, none⟩ = some (.int .i64 s.lc) ∧ W.cell? ⟨g, 9, none⟩ = some (.int .i64 s.lh) ∧ W.cell? ⟨g, 10, none⟩ = some (.slice (some ⟨gr, off, none⟩) n cap) ∧ W.cell? ⟨gr, off + j, none⟩ = some (.int .i32 x)) (first | exact ⟨k0, k1, k2, k3, k4, k5, k6, k7, k8, k9, k10, kx⟩ | exact ⟨e0, e1, e2, e3, e4, e5, e6, e7, e8, e9, e10, ex⟩ | exact ⟨(t2 _).trans e0, (t2 _).trans e1, (t2 _).trans e2, (t2 _).trans e3, (t2 _).trans e4, (t2 _).trans e5, (t2 _).trans e6, (t2 _).trans e7, (t2 _).trans e8, (t2 _).trans e9, (t2 _).trans e10, (t3 _).trans ex⟩)
    (first
      | (go_at_call 18; refine (HH _).mono ?_; rintro e w2 ⟨rfl, hb2⟩; have hcur2 : Below w1.heap.size w1 w2 := (by first | exact hcur2.trans (hb2.mono hcur2.size) | exact hcur2.drew.trans (hb2.mono hcur2.size)); have e0 := (hcur2.cell (p := ⟨g, 0, none⟩) hg1).trans k0; have e1 := (hcur2.cell (p := ⟨g, 1, none⟩) hg1).trans k1; have e2 := (hcur2.cell (p := ⟨g, 2, none⟩) hg1).trans k2; have e3 := (hcur2.cell (p := ⟨g, 3, none⟩) hg1).trans k3; have e4 := (hcur2.cell (p := ⟨g, 4, none⟩) hg1).trans k4; have e5 := (hcur2.cell (p := ⟨g, 5, none⟩) hg1).trans k5; have e6 := (hcur2.cell (p := ⟨g, 6, none⟩) hg1).trans k6; have e7 := (hcur2.cell (p := ⟨g, 7, none⟩) hg1).trans k7; have e8 := (hcur2.cell (p := ⟨g, 8, none⟩) hg1).trans k8; have e9 := (hcur2.cell (p := ⟨g, 9, none⟩) hg1).trans k9; have e10 := (hcur2.cell (p := ⟨g, 10, none⟩) hg1).trans k10; have ex := (hcur2.cell (p := ⟨gr, off + j, none⟩) hr1).trans kx; have hbox2 := (hcur2.block _ hbl).trans hbox; have n0 : w2.cell? ⟨w.heap.size, 0, none⟩ = some (.int .i32 0) := (by rw [Lib.cell_of_heap hbox2]; rfl); have n1 : w2.cell? ⟨w.heap.size, 1, none⟩ = some (.int .i64 0) := (by rw [Lib.cell_of_heap hbox2]; rfl); have n2 : w2.frozen? ⟨w.heap.size, 0, none⟩ = false := Lib.frozen_of_heap hbox2 0; have n3 : w2.frozen? ⟨w.heap.size, 1, none⟩ = false := Lib.frozen_of_heap hbox2 1; have t2 := fun o => two_set w2 (b := w.heap.size) (.int .i32 x) (.int .i64 hid) (p := ⟨g, o, none⟩) (Nat.ne_of_lt hgl); have t3 := fun o => two_set w2 (b := w.heap.size) (.int .i32 x) (.int .i64 hid) (p := ⟨gr, o, none⟩) (Nat.ne_of_lt hgr)))
  all_goals
    have hbox3 := two_get (u := .int .i32 x) (v := .int .i64 hid) hbox2
    have hB3 : Below w.heap.size w ((w2.setCell ⟨w.heap.size, 0, none⟩ (.int .i32 x)).setCell ⟨w.heap.size, 1, none⟩ (.int .i64 hid)) := ((hB1.trans (hcur2.mono hB1.size)).setCell (p := ⟨w.heap.size, 0, none⟩) (Nat.le_refl _) _).setCell (p := ⟨w.heap.size, 1, none⟩) (Nat.le_refl _) _
    clear t2 t3
    generalize (w2.setCell ⟨w.heap.size, 0, none⟩ (.int .i32 x)).setCell ⟨w.heap.size, 1, none⟩ (.int .i64 hid) = w3 at *
    have r0 : w3.cell? ⟨w.heap.size, 0, none⟩ = some (.int .i32 x) := by rw [Lib.cell_of_heap hbox3]; rfl
    have r1 : w3.cell? ⟨w.heap.size, 1, none⟩ = some (.int .i64 hid) := by rw [Lib.cell_of_heap hbox3]; rfl
    go_wp2_with fail
    refine bodyPost_ret (v := .agg #[.int .i32 x, .int .i64 hid]) (by simp [results, Tryd.results43, go_sem, r0, r1]) rfl ⟨rfl, hB3⟩
set_option maxHeartbeats 4000000 in
theorem cell_in : ∀ (N : Nat) {t : Tr} {g : Nat} {w : World} (j : Nat) (x hid : Int), t.sm.high ≤ (N : Int) → At w t g → t.Fine → t.row.length ≤ 2097152 → t.row[j]? = some (x, hid) →
    Calls Tryd.prog 43 #[.pointer (some ⟨g, 0, none⟩), .int .i64 (j : Int)] w fun e w' => e = .returned (.agg #[.int .i32 x, .int .i64 hid]) ∧ Below w.heap.size w w' := by
  intro N
  induction N with
  | zero => intro t g w j x hid hN hA hf hn hx; have := hf.pos; omega
  | succ N ih =>
    intro t g w j x hid hN hA hf hn hx
    by_cases hh2 : t.sm.high ≤ 1
    · cases t with
      | nil => exact hf.wf.elim
      | node l r st => have := hf.wf.high_node; omega
      | leaf rs h st =>
        simp only [Tr.row, List.getElem?_map, Option.map_eq_some_iff] at hx
        obtain ⟨y, hy, e⟩ := hx
        cases e
        exact cell_leaf hA j _ hy
    replace hh2 : 2 ≤ t.sm.high := by omega
    have HIP := smIsPiece_any t.sm
    rw [show decide (t.sm.high ≤ 1) = false by simp; omega] at HIP
    have HIH : Hid (∀ {t : Tr} {g : Nat} {w : World} (j : Nat) (x hid : Int), t.sm.high ≤ (N : Int) → At w t g → t.Fine → t.row.length ≤ 2097152 → t.row[j]? = some (x, hid) → Calls Tryd.prog 43 #[.pointer (some ⟨g, 0, none⟩), .int .i64 (j : Int)] w fun e w' => e = .returned (.agg #[.int .i32 x, .int .i64 hid]) ∧ Below w.heap.size w w') := ih
    clear ih
    have hjl : j < t.row.length := (List.getElem?_eq_some_iff.1 hx).1
    obtain ⟨c0, c1, c2, c3, c4, c5, c6, c7, c8, c9⟩ := hA.ten
    have hgl := hA.lt
    have HX : Hid (t.row[j]? = some (x, hid)) := hx
    clear hx
    have hcur : Below w.heap.size w (w.alloc (.cells #[.int .i32 0, .int .i64 0] 41)) := (Below.refl _ _).alloc (Nat.le_refl _) _
    have hnew := World.alloc_heap_new w (.cells #[.int .i32 0, .int .i64 0] 41)
    have hszb : (w.alloc (.cells #[.int .i32 0, .int .i64 0] 41)).heap.size = w.heap.size + 1 := World.size_alloc _ _
    go_enter Tryd.func43, Tryd.ntmps43
    go_wp2_with fail
    refine (HIP _).mono ?_
    rintro e w1 ⟨rfl, hb1⟩
    have hB1 : Below w.heap.size w w1 := hcur.trans (hb1.mono (by omega))
    have hbox1 := (hb1.block _ (by omega)).trans hnew
    clear c0 c1 c2 c3 c4 c5 c6 c7 c8 c9 hnew
    go_wp2_with fail
    refine (sides_p (hA.below hB1) hf hh2 (by omega)).mono ?_
    rintro e w3 ⟨gl, gr, tl, tr, rfl, hl, hr, hs, hb3⟩
    have hB3 : Below w.heap.size w w3 := hB1.trans (hb3.mono hB1.size)
    have hbox3 := (hb3.block _ (Array.getElem?_eq_some_iff.1 hbox1).1).trans hbox1
    have hlen := hs.len
    have q0 := hs.high
    have d0 := hl.cells
    have hlc := tl.sm_cells
    have HRW : Hid (t.row = tl.row ++ tr.row) := by
      show _ = _
      rw [Tr.row_lv, hs.lv, rowOf_append, ← Tr.row_lv, ← Tr.row_lv]
    have hfl := hs.fl
    have hfr := hs.fr
    have hp1 := hfl.pos
    have hp2 := hfr.pos
    rw [hlc] at d0
    clear hlc hs
    by_cases hlt : j < tl.row.length
    · have HC := HIH.out j x hid (by omega) hl hfl (by omega) (by have := HX.out; rw [HRW.out, List.getElem?_append_left hlt] at this; exact this)
      have hlt2 : (j : Int) < (tl.row.length : Int) := by omega
      clear hl hr
      generalize (tl.row.length : Int) = TL at *
      go_wp2_with fail
      refine HC.mono ?_
      rintro e w4 ⟨rfl, hb4⟩
      have hB4 : Below w.heap.size w w4 := hB3.trans (hb4.mono hB3.size)
      have hbox4 : w4.heap[w.heap.size]? = some (.cells #[.int .i32 0, .int .i64 0] 41) := (hb4.block _ (by have := (Array.getElem?_eq_some_iff.1 hbox3).1; omega)).trans hbox3
      have n0 : w4.cell? ⟨w.heap.size, 0, none⟩ = some (.int .i32 0) := by rw [Lib.cell_of_heap hbox4]; rfl
      have n1 : w4.cell? ⟨w.heap.size, 1, none⟩ = some (.int .i64 0) := by rw [Lib.cell_of_heap hbox4]; rfl
      have n2 : w4.frozen? ⟨w.heap.size, 0, none⟩ = false := Lib.frozen_of_heap hbox4 0
      have n3 : w4.frozen? ⟨w.heap.size, 1, none⟩ = false := Lib.frozen_of_heap hbox4 1
      have hbox5 := two_get (u := .int .i32 x) (v := .int .i64 hid) hbox4
      have r0 : ((w4.setCell ⟨w.heap.size, 0, none⟩ (.int .i32 x)).setCell ⟨w.heap.size, 1, none⟩ (.int .i64 hid)).cell? ⟨w.heap.size, 0, none⟩ = some (.int .i32 x) := by rw [Lib.cell_of_heap hbox5]; rfl
      have r1 : ((w4.setCell ⟨w.heap.size, 0, none⟩ (.int .i32 x)).setCell ⟨w.heap.size, 1, none⟩ (.int .i64 hid)).cell? ⟨w.heap.size, 1, none⟩ = some (.int .i64 hid) := by rw [Lib.cell_of_heap hbox5]; rfl
      have hB5 : Below w.heap.size w ((w4.setCell ⟨w.heap.size, 0, none⟩ (.int .i32 x)).setCell ⟨w.heap.size, 1, none⟩ (.int .i64 hid)) := (hB4.setCell (p := ⟨w.heap.size, 0, none⟩) (Nat.le_refl _) _).setCell (p := ⟨w.heap.size, 1, none⟩) (Nat.le_refl _) _
      go_wp2_with fail
      refine bodyPost_ret (v := .agg #[.int .i32 x, .int .i64 hid]) (by simp [results, Tryd.results43, go_sem, r0, r1]) rfl ⟨rfl, hB5⟩
    · have HC := HIH.out (j - tl.row.length) x hid (by omega) hr hfr (by omega) (by have := HX.out; rw [HRW.out, List.getElem?_append_right (by omega)] at this; exact this)
      have hlt2 : ¬ (j : Int) < (tl.row.length : Int) := by omega
      have hcast : ((j - tl.row.length : Nat) : Int) = (j : Int) - (tl.row.length : Int) := by omega
      rw [hcast] at HC
      have htl : (tl.row.length : Int) ≤ 2097152 := by omega
      have htl0 : 0 ≤ (tl.row.length : Int) := by omega
      have hj2 : (j : Int) ≤ 2097152 := by omega
      clear hl hr hcast
      generalize (tl.row.length : Int) = TL at *
      go_wp2_with fail
      refine HC.mono ?_
      rintro e w4 ⟨rfl, hb4⟩
      have hB4 : Below w.heap.size w w4 := hB3.trans (hb4.mono hB3.size)
      have hbox4 : w4.heap[w.heap.size]? = some (.cells #[.int .i32 0, .int .i64 0] 41) := (hb4.block _ (by have := (Array.getElem?_eq_some_iff.1 hbox3).1; omega)).trans hbox3
      have n0 : w4.cell? ⟨w.heap.size, 0, none⟩ = some (.int .i32 0) := by rw [Lib.cell_of_heap hbox4]; rfl
      have n1 : w4.cell? ⟨w.heap.size, 1, none⟩ = some (.int .i64 0) := by rw [Lib.cell_of_heap hbox4]; rfl
      have n2 : w4.frozen? ⟨w.heap.size, 0, none⟩ = false := Lib.frozen_of_heap hbox4 0
      have n3 : w4.frozen? ⟨w.heap.size, 1, none⟩ = false := Lib.frozen_of_heap hbox4 1
      have hbox5 := two_get (u := .int .i32 x) (v := .int .i64 hid) hbox4
      have r0 : ((w4.setCell ⟨w.heap.size, 0, none⟩ (.int .i32 x)).setCell ⟨w.heap.size, 1, none⟩ (.int .i64 hid)).cell? ⟨w.heap.size, 0, none⟩ = some (.int .i32 x) := by rw [Lib.cell_of_heap hbox5]; rfl
      have r1 : ((w4.setCell ⟨w.heap.size, 0, none⟩ (.int .i32 x)).setCell ⟨w.heap.size, 1, none⟩ (.int .i64 hid)).cell? ⟨w.heap.size, 1, none⟩ = some (.int .i64 hid) := by rw [Lib.cell_of_heap hbox5]; rfl
      have hB5 : Below w.heap.size w ((w4.setCell ⟨w.heap.size, 0, none⟩ (.int .i32 x)).setCell ⟨w.heap.size, 1, none⟩ (.int .i64 hid)) := (hB4.setCell (p := ⟨w.heap.size, 0, none⟩) (Nat.le_refl _) _).setCell (p := ⟨w.heap.size, 1, none⟩) (Nat.le_refl _) _
      go_wp2_with fail
      refine bodyPost_ret (v := .agg #[.int .i32 x, .int .i64 hid]) (by simp [results, Tryd.results43, go_sem, r0, r1]) rfl ⟨rfl, hB5⟩
end Go.Proofs.YtokclnjaglklhaaDoor

namespace Go.Proofs.YtokclnjaglklhaaDoor
open Go.RowKit Go.Lib
set_option maxRecDepth 100000

set_option maxHeartbeats 2000000 in
theorem ropeCell_any {w : World} {q : Nat} {t : Tr} (h : RopeAt w q t) (hR : t.Rp) (j : Nat) (x hid : Int) (hx : t.row[j]? = some (x, hid)) :
    Calls Tryd.prog 28 #[.pointer (some ⟨q, 0, none⟩), .int .i64 (j : Int)] w fun e w' => e = .returned (.tuple #[.agg #[.int .i32 x, .int .i64 hid], .int .i64 0]) ∧ Below w.heap.size w w' := by
  have hjl : j < t.row.length := (List.getElem?_eq_some_iff.1 hx).1
  have hlen := hR.len
  have HT : Hid (∀ W, Below w.heap.size w W → Calls Tryd.prog 16 #[.pointer (some ⟨q, 0, none⟩)] W fun e w' => e = .returned (.int .i64 (t.row.length : Int)) ∧ w' = W) := fun W hW => ropeTotal_any (h.below hW)
  obtain ⟨g, hc, hA⟩ := h.cell
  have hql := h.lt
  have hf : t.Fine := hR.can.resolve_left (by rintro rfl; simp [Tr.row] at hjl)
  have HC : Hid (∀ W, Below w.heap.size w W → Calls Tryd.prog 43 #[.pointer (some ⟨g, 0, none⟩), .int .i64 (j : Int)] W fun e w' => e = .returned (.agg #[.int .i32 x, .int .i64 hid]) ∧ Below W.heap.size W w') := fun W hW =>
    cell_in t.sm.high.toNat j x hid (by omega) (hA.below hW) hf (by omega) hx
  have hcur : Below w.heap.size w (w.alloc (.cells #[.int .i32 0, .int .i64 0] 41)) := (Below.refl _ _).alloc (Nat.le_refl _) _
  have hnew := World.alloc_heap_new w (.cells #[.int .i32 0, .int .i64 0] 41)
  have hszb : (w.alloc (.cells #[.int .i32 0, .int .i64 0] 41)).heap.size = w.heap.size + 1 := World.size_alloc _ _
  have hj2 : (j : Int) < (t.row.length : Int) := by omega
  clear h hR hA hf hx
  generalize (t.row.length : Int) = TL at *
  go_enter Tryd.func28, Tryd.ntmps28
  go_wp2_with fail
  refine (HT.out _ hcur).mono ?_
  rintro e w1 ⟨rfl, rfl⟩
  go_wp2_with fail
  refine (HC.out _ hcur).mono ?_
  rintro e w4 ⟨rfl, hb4⟩
  have hB4 : Below w.heap.size w w4 := hcur.trans (hb4.mono (by omega))
  have hbox4 : w4.heap[w.heap.size]? = some (.cells #[.int .i32 0, .int .i64 0] 41) := (hb4.block _ (by omega)).trans hnew
  have n0 : w4.cell? ⟨w.heap.size, 0, none⟩ = some (.int .i32 0) := by rw [Lib.cell_of_heap hbox4]; rfl
  have n1 : w4.cell? ⟨w.heap.size, 1, none⟩ = some (.int .i64 0) := by rw [Lib.cell_of_heap hbox4]; rfl
  have n2 : w4.frozen? ⟨w.heap.size, 0, none⟩ = false := Lib.frozen_of_heap hbox4 0
  have n3 : w4.frozen? ⟨w.heap.size, 1, none⟩ = false := Lib.frozen_of_heap hbox4 1
  have hbox5 := two_get (u := .int .i32 x) (v := .int .i64 hid) hbox4
  have r0 : ((w4.setCell ⟨w.heap.size, 0, none⟩ (.int .i32 x)).setCell ⟨w.heap.size, 1, none⟩ (.int .i64 hid)).cell? ⟨w.heap.size, 0, none⟩ = some (.int .i32 x) := by rw [Lib.cell_of_heap hbox5]; rfl
  have r1 : ((w4.setCell ⟨w.heap.size, 0, none⟩ (.int .i32 x)).setCell ⟨w.heap.size, 1, none⟩ (.int .i64 hid)).cell? ⟨w.heap.size, 1, none⟩ = some (.int .i64 hid) := by rw [Lib.cell_of_heap hbox5]; rfl
  have hB5 : Below w.heap.size w ((w4.setCell ⟨w.heap.size, 0, none⟩ (.int .i32 x)).setCell ⟨w.heap.size, 1, none⟩ (.int .i64 hid)) := (hB4.setCell (p := ⟨w.heap.size, 0, none⟩) (Nat.le_refl _) _).setCell (p := ⟨w.heap.size, 1, none⟩) (Nat.le_refl _) _
  go_wp2_with fail
  refine bodyPost_ret (v := .tuple #[.agg #[.int .i32 x, .int .i64 hid], .int .i64 0]) (by simp [results, Tryd.results28, go_sem, r0, r1]) rfl ⟨rfl, hB5⟩
end Go.Proofs.YtokclnjaglklhaaDoor

namespace Go.Proofs.YtokclnjaglklhaaDoor
open Go.RowKit Go.Lib
set_option maxRecDepth 100000

theorem visR_take_succ (l : List (Int × Int)) (i : Nat) (x : Int × Int) (hx : l[i]? = some x) : visR (l.take (i + 1)) = visR (l.take i) ++ if x.2 ≤ 0 then [x.1] else [] := by
  obtain ⟨hi, rfl⟩ := List.getElem?_eq_some_iff.1 hx
  rw [List.take_succ_eq_append_getElem hi, visR_append, visR_cons]
  by_cases h : l[i].2 ≤ 0
  · rw [if_pos h, if_pos h]; rfl
  · rw [if_neg h, if_neg h]; rfl
set_option maxHeartbeats 1000000 in
/-- The statement's own text of a row. -/
theorem lawText_any {w : World} {a : Option Addr} {n cap : Nat} {l : List (Int × Int)} (h : Rw cellV 2 w a n cap l) (hn : n ≤ 1048576) (hl : Nonneg l) (ho : ∀ c ∈ l, okR c.1) :
    Calls Tryd.prog 27 #[.slice a n cap, .int .i64 0, .int .i64 (n : Int)] w fun e w' => ∃ s, e = .returned (.string s) ∧ IsText s (visR l) ∧ w' = w := by
  have hlen := h.len
  have HL : Hid (Nonneg l) := hl
  have HO : Hid (∀ c ∈ l, okR c.1) := ho
  clear hl ho
  go_enter Tryd.func27, Tryd.ntmps27
  go_wp2_with fail
  go_loop [7, 8] (fun vs vi => ∃ i s, i ≤ n ∧ vi = .int .i64 (i : Int) ∧ vs = .string s ∧ IsText s (visR (l.take i))) (fun _ i => n - (RowKit.intOf i).toNat)
  case atStart => exact ⟨0, _, Nat.zero_le _, rfl, rfl, isText_nil⟩
  case round =>
    obtain ⟨i, s, him, rfl, rfl, ht⟩ := hrel
    by_cases hi : i < n
    · obtain ⟨g, off, x, rfl, hg, hx, hc⟩ := h.at i hi
      have c0 := hc 0 _ rfl
      have c1 := hc 1 _ rfl
      have hmem : x ∈ l := List.mem_of_getElem? hx
      have hx0 := HL.out x hmem
      have hxo := HO.out x hmem
      have HS : Hid (visR (l.take (i + 1)) = visR (l.take i) ++ if x.2 ≤ 0 then [x.1] else []) := visR_take_succ l i x hx
      have hb := ht.small
      have hvl := visR_len (l.take i)
      rw [List.length_take] at hvl
      have hz : (Utf8.encode x.1).size ≤ 4 := by have := encB_le x.1 hxo; rw [size_data]; exact this
      clear hc hx hmem
      obtain ⟨x1, x2⟩ := x
      simp only [Nat.add_zero] at c0 c1 HS hx0 hxo hz
      generalize hV : visR (l.take i) = V at *
      clear hV
      by_cases h0 : x2 = 0
      · subst h0
        go_wp2_with fail
        refine ⟨⟨i + 1, _, by omega, by go_num, rfl, by rw [HS.out, if_pos (by omega)]; exact ht.snoc hxo⟩, by simp [RowKit.intOf]; omega⟩
      · have hzz : (x2 == 0) = false := by simpa using h0
        go_wp2_with fail
        refine ⟨⟨i + 1, _, by omega, by go_num, rfl, by rw [HS.out, if_neg (by omega), List.append_nil]; exact ht⟩, by simp [RowKit.intOf]; omega⟩
    · obtain rfl : i = n := by omega
      rw [show l.take i = l from List.take_of_length_le (by omega)] at ht
      go_wp2_with fail
      go_ret
      exact ⟨s, rfl, ht, rfl⟩
end Go.Proofs.YtokclnjaglklhaaDoor

namespace Go.Proofs.YtokclnjaglklhaaDoor
open Go.RowKit Go.Lib
set_option maxRecDepth 100000

/-- The string of runes. -/
def strOf (rs : List Int) : ByteArray := ⟨(encs rs).toArray⟩
theorem tx_eq {s : ByteArray} {rs : List Int} (h : s.data.toList = encs rs) : s = strOf rs := by
  cases s with | mk d => simp only at h; unfold strOf; rw [← h]
theorem strOf_append (a b : List Int) : strOf a ++ strOf b = strOf (a ++ b) := by
  apply tx_eq
  rw [ByteArray.data_append, Array.toList_append, encs_append]
  rfl
theorem strOf_size {rs : List Int} (h : ∀ r ∈ rs, okR r) : (strOf rs).size ≤ rs.length * 4 := IsText.small (s := strOf rs) ⟨by simp [strOf], h⟩
/-- A rope that holds a row. -/
def Holds (w2 : World) (q : Nat) (R : List (Int × Int)) (W : World) : Prop := ∃ t, RopeAt W q t ∧ t.Rp ∧ t.row = R ∧ Below w2.heap.size w2 W
theorem okl_row {t : Tr} (h : ∀ c ∈ t.row, okR c.1) : Okl t.lv := fun p hp r hr => h (r, p.2) (by
  rw [Tr.row_lv]
  unfold rowOf
  exact List.mem_flatMap.2 ⟨p, hp, List.mem_map.2 ⟨r, hr, rfl⟩⟩)
section
variable {w2 : World} {q : Nat} {R : List (Int × Int)} {W : World}
theorem Holds.nonneg (h : Holds w2 q R W) : Nonneg R := by obtain ⟨t, h1, h2, rfl, h3⟩ := h; exact h2.lo
theorem Holds.below (h : Holds w2 q R W) : Below w2.heap.size w2 W := by obtain ⟨t, h1, h2, rfl, h3⟩ := h; exact h3
theorem Holds.still {W' : World} (h : Holds w2 q R W) (hb : Below W.heap.size W W') : Holds w2 q R W' := by
  obtain ⟨t, h1, h2, e, h3⟩ := h
  exact ⟨t, h1.below hb, h2, e, h3.trans (hb.mono h3.size)⟩
theorem Holds.total (h : Holds w2 q R W) : Calls Tryd.prog 16 #[.pointer (some ⟨q, 0, none⟩)] W fun e W' => e = .returned (.int .i64 (R.length : Int)) ∧ Holds w2 q R W' := by
  have h' := h
  obtain ⟨t, h1, h2, rfl, h3⟩ := h
  exact (ropeTotal_any h1).mono fun e W' ⟨he, hw⟩ => ⟨he, hw ▸ h'⟩
theorem Holds.shown (h : Holds w2 q R W) : Calls Tryd.prog 24 #[.pointer (some ⟨q, 0, none⟩)] W fun e W' => e = .returned (.int .i64 (vis R : Int)) ∧ Holds w2 q R W' := by
  have h' := h
  obtain ⟨t, h1, h2, rfl, h3⟩ := h
  exact (ropeShownR_any h1 h2.good).mono fun e W' ⟨he, hw⟩ => ⟨he, h'.still hw⟩
theorem Holds.totalOf (h : Holds w2 q R W) (p : Nat) (hp : p ≤ vis R) : Calls Tryd.prog 30 #[.pointer (some ⟨q, 0, none⟩), .int .i64 (p : Int)] W fun e W' => e = .returned (.tuple #[.int .i64 (place R p : Int), .int .i64 0]) ∧ Holds w2 q R W' := by
  have h' := h
  obtain ⟨t, h1, h2, rfl, h3⟩ := h
  exact (ropeTotalOf_any h1 h2.good p hp).mono fun e W' ⟨he, hw⟩ => ⟨he, h'.still hw⟩
theorem Holds.shownBefore (h : Holds w2 q R W) (c : Nat) (hc : c ≤ R.length) : Calls Tryd.prog 29 #[.pointer (some ⟨q, 0, none⟩), .int .i64 (c : Int)] W fun e W' => e = .returned (.tuple #[.int .i64 (vis (R.take c) : Int), .int .i64 0]) ∧ Holds w2 q R W' := by
  have h' := h
  obtain ⟨t, h1, h2, rfl, h3⟩ := h
  exact (ropeShownBefore_any h1 h2.good c hc).mono fun e W' ⟨he, hw⟩ => ⟨he, h'.still hw⟩
theorem Holds.text (h : Holds w2 q R W) (ho : ∀ c ∈ R, okR c.1) : Calls Tryd.prog 26 #[.pointer (some ⟨q, 0, none⟩)] W fun e W' => e = .returned (.string (strOf (visR R))) ∧ Holds w2 q R W' := by
  have h' := h
  obtain ⟨t, h1, h2, rfl, h3⟩ := h
  exact (ropeText_any h1 h2 (okl_row ho)).mono fun e W' ⟨s, he, hs, hw⟩ => ⟨by rw [he, tx_eq hs], h'.still hw⟩
theorem Holds.cell (h : Holds w2 q R W) (j : Nat) (x hid : Int) (hx : R[j]? = some (x, hid)) : Calls Tryd.prog 28 #[.pointer (some ⟨q, 0, none⟩), .int .i64 (j : Int)] W fun e W' => e = .returned (.tuple #[.agg #[.int .i32 x, .int .i64 hid], .int .i64 0]) ∧ Holds w2 q R W' := by
  have h' := h
  obtain ⟨t, k1, k2, rfl, k3⟩ := h
  exact (ropeCell_any k1 k2 j x hid hx).mono fun e W' ⟨he, hw⟩ => ⟨he, h'.still hw⟩
/-- The row with runes put in. -/
def putL (R : List (Int × Int)) (m : Nat) (rs : List Int) (hid : Int) : List (Int × Int) := R.take m ++ (rs.map fun c => (c, hid)) ++ R.drop m
theorem putL_len (R : List (Int × Int)) (m : Nat) (rs : List Int) (hid : Int) : (putL R m rs hid).length = R.length + rs.length := by
  unfold putL
  simp only [List.length_append, List.length_take, List.length_drop, List.length_map]
  omega
theorem putL_ok {R : List (Int × Int)} {m : Nat} {rs : List Int} {hid : Int} (h : ∀ c ∈ R, okR c.1) (hr : ∀ r ∈ rs, okR r) : ∀ c ∈ putL R m rs hid, okR c.1 := fun c hc => by
  unfold putL at hc
  rcases List.mem_append.1 hc with hc | hc
  · rcases List.mem_append.1 hc with hc | hc
    · exact h c (List.mem_of_mem_take hc)
    · obtain ⟨r, hr2, rfl⟩ := List.mem_map.1 hc
      exact hr r hr2
  · exact h c (List.mem_of_mem_drop hc)
theorem Holds.insert (h : Holds w2 q R W) (hq : w2.heap.size ≤ q) (m : Nat) (hm : m ≤ R.length) {s : ByteArray} {rs : List Int} (ht : IsText s rs) (hne : rs ≠ []) (hid : Int) (h0 : 0 ≤ hid) (h1 : hid ≤ 1048576) (hn : R.length + rs.length ≤ 1048576) (hBar : Bar w2) :
    Calls Tryd.prog 19 #[.pointer (some ⟨q, 0, none⟩), .int .i64 (m : Int), .string s, .int .i64 hid] W fun e W' => e = .returned (.int .i64 0) ∧ Holds w2 q (putL R m rs hid) W' := by
  obtain ⟨t, k1, k2, rfl, k3⟩ := h
  exact (insert_any k1 k2 m hm ht hne hid h0 h1 hn (hBar.below k3)).mono fun e W' ⟨he, ⟨t', g1, g2, g3⟩, hu⟩ => ⟨he, t', g1, g2, g3, Upd.below k3 hu hq k3.size⟩
end
theorem visR_split {R : List (Int × Int)} (h : Nonneg R) (m : Nat) : (visR R).take (vis (R.take m)) = visR (R.take m) ∧ (visR R).drop (vis (R.take m)) = visR (R.drop m) := by
  have e : visR R = visR (R.take m) ++ visR (R.drop m) := by rw [← visR_append, List.take_append_drop]
  have hl : (visR (R.take m)).length = vis (R.take m) := visR_vis (fun x hx => h x (List.mem_of_mem_take hx))
  rw [e]
  exact ⟨List.take_left' hl, List.drop_left' hl⟩
theorem visR_putL (R : List (Int × Int)) (m : Nat) (rs : List Int) (hid : Int) : visR (putL R m rs hid) = visR (R.take m) ++ (if hid ≤ 0 then rs else []) ++ visR (R.drop m) := by
  unfold putL
  rw [visR_append, visR_append, visR_one]
theorem putL_take (R : List (Int × Int)) {m : Nat} (hm : m ≤ R.length) (rs : List Int) (hid : Int) : (putL R m rs hid).take m = R.take m ∧ (putL R m rs hid).drop m = (rs.map fun c => (c, hid)) ++ R.drop m := by
  unfold putL
  rw [List.append_assoc]
  have hl : (R.take m).length = m := by rw [List.length_take]; omega
  exact ⟨List.take_left' hl, List.drop_left' hl⟩
theorem putL_get (R : List (Int × Int)) {m : Nat} (hm : m ≤ R.length) (r hid : Int) : (putL R m [r] hid)[m]? = some (r, hid) := by
  have h := (putL_take R hm [r] hid).2
  have h2 : ((putL R m [r] hid).drop m)[0]? = some (r, hid) := by rw [h]; rfl
  rw [List.getElem?_drop] at h2
  simpa using h2
theorem vis_putL (R : List (Int × Int)) (m : Nat) (rs : List Int) : vis (putL R m rs 0) = vis R + rs.length := by
  unfold putL
  rw [vis_append, vis_append, vis_piece, if_pos rfl]
  have : vis R = vis (R.take m) + vis (R.drop m) := by rw [← vis_append, List.take_append_drop]
  omega
theorem vis_putL2 (R : List (Int × Int)) (m : Nat) (rs : List Int) (hid : Int) (h : hid ≠ 0) : vis (putL R m rs hid) = vis R := by
  unfold putL
  rw [vis_append, vis_append, vis_piece, if_neg h]
  have : vis R = vis (R.take m) + vis (R.drop m) := by rw [← vis_append, List.take_append_drop]
  omega
/-- What is put in where the p-th visible cell stands is followed by it. -/
theorem place_putL (R : List (Int × Int)) (p : Nat) (hp : p ≤ vis R) (r : Int) : place (putL R (place R p) [r] 0) (p + 1) = place R p + 1 := by
  have hv := place_vis R p hp
  have hle := place_le R p
  have hb : place (R.drop (place R p)) 0 = 0 := by
    by_cases e : p < vis R
    · have hz := place_zero R p e
      have hlt := place_lt R p e
      rw [List.getD_eq_getElem?_getD, List.getElem?_eq_getElem hlt] at hz
      simp only [Option.getD_some] at hz
      rw [List.drop_eq_getElem_cons hlt]
      simp [place, hz]
    · rw [place_end R p (by omega), List.drop_length]
      rfl
  unfold putL
  rw [List.append_assoc, place_append, if_neg (by omega), hv, List.length_take]
  have e1 : p + 1 - p = 1 := by omega
  rw [e1]
  show _ + place ((r, 0) :: R.drop (place R p)) 1 = _
  simp only [place, if_true, hb]
  omega
end Go.Proofs.YtokclnjaglklhaaDoor
