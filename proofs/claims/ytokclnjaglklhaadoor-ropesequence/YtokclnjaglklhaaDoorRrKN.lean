import Derived.Test.YtokclnjaglklhaaDoorRrEJ
namespace Go.Proofs.YtokclnjaglklhaaDoor
open Go.RowKit Go.Lib
set_option maxRecDepth 100000

theorem okR_x : okR 120 := ⟨valid_of (by decide) (by decide) (by decide), by decide⟩
theorem isText_x : IsText ⟨#[120]⟩ [120] := by
  have h := isText_nil.snoc okR_x
  have e : (⟨#[]⟩ : ByteArray) ++ Utf8.encode 120 = ⟨#[120]⟩ := by decide
  rw [e] at h
  exact h
theorem cellsOf_ok {L : List GRun} (h : ∀ x ∈ L, IsText x.s x.rs) : ∀ c ∈ cellsOf L, okR c.1 := fun c hc => by
  obtain ⟨x, hx, hc⟩ := List.mem_flatMap.1 hc
  obtain ⟨r, hr, rfl⟩ := List.mem_map.1 hc
  exact (h x hx).ok r hr
end Go.Proofs.YtokclnjaglklhaaDoor

namespace Go.Proofs.YtokclnjaglklhaaDoor
open Go.RowKit Go.Lib
set_option maxRecDepth 100000

set_option maxHeartbeats 2000000 in
theorem ropeCell_no {w : World} {q : Nat} {t : Tr} (h : RopeAt w q t) (j : Int) (hj : (t.row.length : Int) ≤ j) :
    Calls Tryd.prog 28 #[.pointer (some ⟨q, 0, none⟩), .int .i64 j] w fun e w' => e = .returned (.tuple #[.agg #[.int .i32 0, .int .i64 0], .int .i64 12]) ∧ Below w.heap.size w w' := by
  have HT : Hid (∀ W, Below w.heap.size w W → Calls Tryd.prog 16 #[.pointer (some ⟨q, 0, none⟩)] W fun e w' => e = .returned (.int .i64 (t.row.length : Int)) ∧ w' = W) := fun W hW => ropeTotal_any (h.below hW)
  have hcur : Below w.heap.size w (w.alloc (.cells #[.int .i32 0, .int .i64 0] 41)) := (Below.refl _ _).alloc (Nat.le_refl _) _
  have hnew := World.alloc_heap_new w (.cells #[.int .i32 0, .int .i64 0] 41)
  have h0 : 0 ≤ (t.row.length : Int) := by omega
  clear h
  generalize (t.row.length : Int) = TL at *
  go_enter Tryd.func28, Tryd.ntmps28
  go_wp2_with fail
  refine (HT.out _ hcur).mono ?_
  rintro e w1 ⟨rfl, rfl⟩
  have r0 : (w.alloc (.cells #[.int .i32 0, .int .i64 0] 41)).cell? ⟨w.heap.size, 0, none⟩ = some (.int .i32 0) := by rw [Lib.cell_of_heap hnew]; rfl
  have r1 : (w.alloc (.cells #[.int .i32 0, .int .i64 0] 41)).cell? ⟨w.heap.size, 1, none⟩ = some (.int .i64 0) := by rw [Lib.cell_of_heap hnew]; rfl
  go_wp2_with fail
  refine bodyPost_ret (v := .tuple #[.agg #[.int .i32 0, .int .i64 0], .int .i64 12]) (by simp [results, Tryd.results28, go_sem, r0, r1]) rfl ⟨rfl, hcur⟩
theorem Holds.cellNo {w2 : World} {q : Nat} {R : List (Int × Int)} {W : World} (h : Holds w2 q R W) (j : Int) (hj : (R.length : Int) ≤ j) : Calls Tryd.prog 28 #[.pointer (some ⟨q, 0, none⟩), .int .i64 j] W fun e W' => e = .returned (.tuple #[.agg #[.int .i32 0, .int .i64 0], .int .i64 12]) ∧ Holds w2 q R W' := by
  have h' := h
  obtain ⟨t, k1, k2, rfl, k3⟩ := h
  exact (ropeCell_no k1 j hj).mono fun e W' ⟨he, hw⟩ => ⟨he, h'.still hw⟩
theorem Holds.totalOfNo {w2 : World} {q : Nat} {R : List (Int × Int)} {W : World} (h : Holds w2 q R W) (p : Int) (hp : p < 0 ∨ (vis R : Int) < p) : Calls Tryd.prog 30 #[.pointer (some ⟨q, 0, none⟩), .int .i64 p] W fun e W' => e = .returned (.tuple #[.int .i64 0, .int .i64 12]) ∧ Holds w2 q R W' := by
  have h' := h
  obtain ⟨t, k1, k2, rfl, k3⟩ := h
  exact (ropeTotalOf_no k1 k2.good p hp).mono fun e W' ⟨he, hw⟩ => ⟨he, h'.still hw⟩
end Go.Proofs.YtokclnjaglklhaaDoor

namespace Go.Proofs.YtokclnjaglklhaaDoor
open Go.RowKit Go.Lib
set_option maxRecDepth 100000

theorem vis_take_mono (l : List (Int × Int)) {i j : Nat} (h : i ≤ j) : vis (l.take i) ≤ vis (l.take j) := by
  have e : l.take j = l.take i ++ (l.take j).drop i := by
    conv => lhs; rw [← List.take_append_drop i (l.take j)]
    rw [List.take_take, Nat.min_eq_left h]
  rw [e, vis_append]
  omega
theorem place_at {l : List (Int × Int)} {i : Nat} {x : Int} (hx : l[i]? = some (x, 0)) : place l (vis (l.take i)) = i := by
  have hi := (List.getElem?_eq_some_iff.1 hx).1
  obtain ⟨h1, h2⟩ := place_ge l i (by omega)
  have h3 := vis_take_succ l i _ hx
  rw [if_pos rfl] at h3
  by_cases e : place l (vis (l.take i)) = i
  · exact e
  · have := vis_take_mono l (show i + 1 ≤ place l (vis (l.take i)) by omega)
    omega
theorem Holds.self {w2 : World} {q : Nat} {R : List (Int × Int)} {W : World} (h : Holds w2 q R W) : Holds W q R W := by
  obtain ⟨t, k1, k2, k3, k4⟩ := h
  exact ⟨t, k1, k2, k3, Below.refl _ _⟩
set_option maxHeartbeats 8000000 in
theorem is_any {W : World} {q : Nat} {R : List (Int × Int)} {a : Option Addr} {cap : Nat} (h : Holds W q R W) (hr : Rw cellV 2 W a R.length cap R) (ho : ∀ c ∈ R, okR c.1) (hlen : R.length ≤ 1048576) :
    Calls Tryd.prog 10 #[.pointer (some ⟨q, 0, none⟩), .slice a R.length cap] W fun e W' => e = .returned (.bool true) ∧ Below W.heap.size W W' := by
  have hNN := h.nonneg
  obtain ⟨whole, ewh⟩ : ∃ x, x = strOf (visR R) := ⟨_, rfl⟩
  have HTX : Hid (∀ W', Below W.heap.size W W' → Calls Tryd.prog 27 #[.slice a R.length cap, .int .i64 0, .int .i64 (R.length : Int)] W' fun e w' => e = .returned (.string whole) ∧ w' = W') := fun W' hW => (lawText_any (hr.below hW) hlen hNN ho).mono fun e w' ⟨s, he, hs, hw⟩ => ⟨by rw [he, tx_eq hs.bytes, ewh], hw⟩
  have HSH : Hid (∀ W', Below W.heap.size W W' → Calls Tryd.prog 25 #[.slice a R.length cap, .int .i64 (R.length : Int)] W' fun e w' => e = .returned (.int .i64 (vis R : Int)) ∧ w' = W') := fun W' hW => by
    have := shown_any (hr.below hW) R.length (Nat.le_refl _) hlen
    rw [List.take_length] at this
    exact this
  have EW : Hid (whole = strOf (visR R)) := ewh
  have HO : Hid (∀ c ∈ R, okR c.1) := ho
  have hroom := hr.room
  have HR : Hid (Rw cellV 2 W a R.length cap R) := hr
  have hvR := vis_le R
  have q1 : ((R.length : Int) != (R.length : Int)) = false := by simp
  have q2 : ((vis R : Int) != (vis R : Int)) = false := by simp
  clear ewh ho hr hNN
  go_enter Tryd.func10, Tryd.ntmps10
  go_wp2_with fail
  refine h.total.mono ?_
  rintro e w1 ⟨rfl, h1⟩
  go_wp2_with fail
  refine h1.shown.mono ?_
  rintro e w2 ⟨rfl, h2⟩
  have B2 := h2.below
  go_wp2_with fail
  refine (HSH.out _ B2).mono ?_
  rintro e w3 ⟨rfl, rfl⟩
  have T := h2.text HO.out
  rw [← EW.out] at T
  go_wp2_with fail
  refine T.mono ?_
  rintro e w4 ⟨rfl, h4⟩
  have B4 := h4.below
  go_wp2_with fail
  refine (HTX.out _ B4).mono ?_
  rintro e w5 ⟨rfl, rfl⟩
  clear T h h1 h2 B2 B4
  go_wp2_with fail
  go_loopw [5, 6] (fun vn vi wr => ∃ i : Nat, i ≤ R.length ∧ vi = .int .i64 (i : Int) ∧ vn = .int .i64 (vis (R.take i) : Int) ∧ Holds W q R wr) (fun _ i _ => R.length - (RowKit.intOf i).toNat)
  case atStart => exact ⟨0, Nat.zero_le _, rfl, rfl, h4⟩
  case round =>
    obtain ⟨i, hi, rfl, rfl, hh⟩ := hrel
    by_cases hlt : i < R.length
    · obtain ⟨g, off, x, rfl, hg, hx, hc⟩ := (HR.out.below hh.below).at i hlt
      have c0 := hc 0 _ rfl
      have c1 := hc 1 _ rfl
      have hsu := vis_take_succ R i x hx
      have hvi := vis_take_le R i
      obtain ⟨x1, x2⟩ := x
      have PA : Hid (x2 = 0 → place R (vis (R.take i)) = i) := fun e => place_at (x := x1) (by rw [hx, e])
      have HS : Hid (vis (R.take (i + 1)) = vis (R.take i) + if x2 = 0 then 1 else 0) := hsu
      have T1 := hh.cell i x1 x2 hx
      simp only [Nat.add_zero] at c0 c1
      have HX : Hid (R[i]? = some (x1, x2)) := hx
      clear hc hx hsu
      generalize hv : vis (R.take i) = v at *
      go_wp2_with fail
      refine T1.mono ?_
      rintro e w6 ⟨rfl, h6⟩
      have h7 := h6.still (W' := w6.alloc (.cells #[.int .i32 x1, .int .i64 x2] 41)) ((Below.refl _ _).alloc (Nat.le_refl _) _)
      have hnew := World.alloc_heap_new w6 (.cells #[.int .i32 x1, .int .i64 x2] 41)
      have T2 := h7.self.shownBefore i (by omega)
      rw [hv] at T2
      go_wp2_with fail
      refine T2.mono ?_
      rintro e w8 ⟨rfl, h8⟩
      have hbox := (h8.below.block _ (Array.getElem?_eq_some_iff.1 hnew).1).trans hnew
      have h9 := h7.still h8.below
      have d0 : w8.cell? ⟨w6.heap.size, 0, none⟩ = some (.int .i32 x1) := by rw [Lib.cell_of_heap hbox]; rfl
      have d1 : w8.cell? ⟨w6.heap.size, 1, none⟩ = some (.int .i64 x2) := by rw [Lib.cell_of_heap hbox]; rfl
      obtain ⟨g', off', x', ha', _, hx', hc'⟩ := (HR.out.below h9.below).at i hlt
      cases ha'
      have e0 : w8.cell? ⟨g, off + i * 2, none⟩ = some (.int .i32 x1) := by
        rw [HX.out] at hx'; cases hx'
        simpa using hc' 0 _ rfl
      have e1 : w8.cell? ⟨g, off + i * 2 + 1, none⟩ = some (.int .i64 x2) := by
        rw [HX.out] at hx'; cases hx'
        exact hc' 1 _ rfl
      clear hc' hx' c0 c1 T1 T2 h6 h7 h8 hnew hbox hh
      have q3 : ((v : Int) != (v : Int)) = false := by simp
      go_wp2_with fail
      go_quiet (fail)
      have hbd := below_drewN (Below.refl w8.heap.size w8) nq
      have e1' := (hbd.cell (p := ⟨g, off + i * 2 + 1, none⟩) (World.block_lt_of_cell? _ _ e1)).trans e1
      have h10 := h9.still hbd
      clear e0 e1 d0 d1 h9 hbd
      generalize w8.drewN nq = w9 at *
      by_cases hz : x2 = 0
      · have HP : Hid (place R v = i) := PA.out hz
        have HS2 : Hid (vis (R.take (i + 1)) = v + 1) := by have := HS.out; rw [if_pos hz] at this; exact this
        have q4 : ((i : Int) != (i : Int)) = false := by simp
        subst hz
        have T3 := h10.totalOf v (by omega)
        rw [HP.out] at T3
        clear HS PA h10
        go_wp2_with fail
        refine T3.mono ?_
        rintro e w10 ⟨rfl, h11⟩
        go_wp2_with fail
        go_roundw
        case rel => exact ⟨i + 1, by omega, by go_num, by rw [HS2.out]; go_num, h11⟩
        case measure => simp [RowKit.intOf]; omega
      · have HS2 : Hid (vis (R.take (i + 1)) = v) := by have := HS.out; rw [if_neg hz] at this; exact this
        have hzz : (x2 == 0) = false := by simpa using hz
        clear HS PA
        go_wp2_with fail
        go_roundw
        case rel => exact ⟨i + 1, by omega, by go_num, by rw [HS2.out], h10⟩
        case measure => simp [RowKit.intOf]; omega
    · obtain rfl : i = R.length := by omega
      rw [List.take_length]
      have T1 := hh.totalOf (vis R) (Nat.le_refl _)
      rw [place_end R (vis R) (Nat.le_refl _)] at T1
      have q5 : ((R.length : Int) == (R.length : Int)) = true := by simp
      go_wp2_with fail
      refine T1.mono ?_
      rintro e w6 ⟨rfl, h6⟩
      have T2 := h6.totalOfNo ((vis R : Int) + 1) (.inr (by omega))
      clear T1 hh
      go_wp2_with fail
      refine T2.mono ?_
      rintro e w7 ⟨rfl, h7⟩
      have T3 := h7.cellNo (R.length : Int) (Int.le_refl _)
      clear T2 h6
      go_wp2_with fail
      refine T3.mono ?_
      rintro e w8 ⟨rfl, h8⟩
      have hfin := h8.below.alloc (h8.below.size) (.cells #[.int .i32 0, .int .i64 0] 41)
      clear T3 h7 h8
      go_wp2_with fail
      go_ret
      exact ⟨rfl, hfin⟩
end Go.Proofs.YtokclnjaglklhaaDoor

namespace Go.Proofs.YtokclnjaglklhaaDoor
open Go.RowKit Go.Lib
set_option maxRecDepth 100000

section
variable {α : Type} {f : α → List Value} {k : Nat} {S T : TypeId} {by_ : Nat}
/-- 'append(v, u...)', also of nothing. -/
theorem appendF_all (hK : Kind Tryd.prog S T k by_) (hf : Lay f k) {w : World} {B : Nat} {v : Value} {l : List α} (h : OwnF f k T w B v l) (hB : B ≤ w.heap.size)
    {b : Option Addr} {m capb : Nat} {ys : List α} (hy : Rw f k w b m capb ys) (hs : (l.length + m) * by_ ≤ 140737488355328) (hs2 : l.length + m ≤ 1099511627776) (ty : TypeId) :
    ∃ a' cap' w', (Builtin.append_ #[S, S] ty #[v, .slice b m capb]).run Tryd.prog w = .ok (.slice a' (l.length + m) cap') w' ∧ OwnF f k T w' B (.slice a' (l.length + m) cap') (l ++ ys) ∧ Below B w w' ∧ Keeps w w' v := by
  by_cases hm : 0 < m
  · obtain ⟨g, cap', w', hr, ho, hb, hk, _⟩ := appendF hK hf h hB hy hm hs (by omega) ty
    exact ⟨_, cap', w', hr, ho, hb, hk⟩
  · obtain rfl : m = 0 := by omega
    obtain rfl : ys = [] := List.eq_nil_of_length_eq_zero hy.len
    obtain ⟨i, z, hi, hz, hsz, hby, _⟩ := hK.info
    obtain ⟨a', cap', rfl⟩ := h.shape
    refine ⟨a', cap', w, ?_, by rw [List.append_nil]; exact h, Below.refl _ _, fun _ _ _ => rfl⟩
    rcases h.2 with ⟨e, h0⟩ | ⟨g, cap, cur, e, _, _, hnc, _⟩
    · obtain rfl := List.eq_nil_of_length_eq_zero h0
      simp only [List.length_nil] at e ⊢
      cases e
      cases b <;> simp [Builtin.append_, run_underlying hK.under, sizeOf, typeInfo, hi, Builtin.lenOf, Builtin.firstCells, loadCells, loadCellsFrom]
    · cases e
      cases b <;> simp [Builtin.append_, run_underlying hK.under, sizeOf, typeInfo, hi, Builtin.lenOf, Builtin.firstCells, hnc, storeCells, loadCells, loadCellsFrom]
/-- 's[m:]', also of nothing. -/
theorem cut_tail (hK : Kind Tryd.prog S T k by_) (he : Tryd.prog.elem S = T) {W0 : World} {a : Option Addr} {n cap : Nat} {l : List α} (h : Rw f k W0 a n cap l) (m : Nat) (hm : m ≤ n) :
    ∃ a' cap', (∀ W : World, (Instr.slice S (.slice a n cap) (some (.int .i64 (m : Int))) none none).run Tryd.prog W = .ok (.slice a' (n - m) cap') W) ∧ ∀ W, Rw f k W a n cap l → Rw f k W a' (n - m) cap' (l.drop m) := by
  have hl := h.len
  have hro := h.room
  by_cases e : n - m = 0
  · obtain ⟨i, z, hi, hz, hsz, hby, _⟩ := hK.info
    refine ⟨if cap = m then a else a.map (·.add (m * i.size)), cap - m, fun W => ?_, fun W _ => ⟨by rw [List.length_drop]; omega, ⟨by omega, by omega⟩, fun h0 => by omega⟩⟩
    have := run_slice_l (P := Tryd.prog) W S a n cap (by rw [he]; exact hK.under) .i64 (m : Int) (by omega) (by omega)
    rw [this, he]
    simp [sizeOf, typeInfo, hi, sliced]
  · obtain ⟨g, off, rfl, _⟩ := h.cells (by omega)
    exact ⟨_, _, fun W => cut_low hK he W g off n cap m hm (by omega), fun W hW => hW.drop m hm⟩
end
set_option maxHeartbeats 4000000 in
/-- The statement's own row with a text put in. -/
theorem put_any {w : World} {a : Option Addr} {n cap : Nat} {R : List (Int × Int)} (h : Rw cellV 2 w a n cap R) (m : Nat) (hm : m ≤ n) (hn : n ≤ 1048576) {s : ByteArray} {rs : List Int} (ht : IsText s rs) (hrs : rs.length ≤ 1048576) (hid : Int) :
    Calls Tryd.prog 20 #[.slice a n cap, .int .i64 (m : Int), .string s, .int .i64 hid] w fun e w' => ∃ v, e = .returned v ∧ OwnF cellV 2 41 w' w.heap.size v (putL R m rs hid) ∧ Below w.heap.size w w' := by
  have hl := h.len
  have hro := h.room
  have hcut := fun W => cut_high kindC elemC W a n cap m (by omega)
  obtain ⟨a', cap', htail, hRt⟩ := cut_tail kindC elemC h m hm
  obtain ⟨g1, k1, w1, hr1, ho1, hb1, _⟩ := appendF_all kindC layC (ownF_nil w w.heap.size) (Nat.le_refl _) (h.take m hm) (by simp; omega) (by simp; omega) 26
  simp only [List.length_nil, Nat.zero_add, List.nil_append] at hr1 ho1
  have HH : Hid (Rw cellV 2 w a n cap R) := h
  have HT : Hid (∀ W, Rw cellV 2 W a n cap R → Rw cellV 2 W a' (n - m) cap' (R.drop m)) := hRt
  have hsz1 := hb1.size
  clear h hRt
  go_enter Tryd.func20, Tryd.ntmps20
  go_wp2_with (at_builtin; refine wpList_append_hr rfl _ _ 26 rfl _ _ rfl rfl hr1 ?_)
  go_loopw [9] (fun v w' => ∃ j : Nat, j ≤ rs.length ∧ w'.heap[w1.heap.size]? = some (.stringIter s (posOf rs j)) ∧ OwnF cellV 2 41 w' w.heap.size v (R.take m ++ (rs.take j).map fun c => (c, hid)) ∧ Below w.heap.size w w') (fun _ w' => s.size - w'.iterPos w1.heap.size)
  case atStart =>
    refine ⟨0, Nat.zero_le _, ?_, ?_, hb1.alloc hsz1 _⟩
    · rw [posOf_zero]; exact World.iter_heap _ _ _
    · rw [List.take_zero, List.map_nil, List.append_nil]
      exact ho1.below ((Below.refl _ _).alloc (Nat.le_refl _) _)
  case round =>
    obtain ⟨j, hj, hit, ho, hb⟩ := hrel
    have hsz2 := hb.size
    by_cases hjl : j < rs.length
    · have hnx : ∀ ty, (Instr.next (.pointer (some ⟨w1.heap.size, 0, none⟩)) true ty).run Tryd.prog wr = _ := fun ty => run_next_text ht wr w1.heap.size j ty hit hjl
      have hni := ho.notIter hit
      have hb2 : Below w.heap.size w (wr.iterAt w1.heap.size s (posOf rs (j + 1))) := below_iterAt hb hsz1 _ _
      have hit2 := iterAt_heap wr w1.heap.size s _ (posOf rs (j + 1)) hit
      have ho2 := ho.keep (w' := wr.iterAt w1.heap.size s (posOf rs (j + 1))) (fun q hq => iterAt_other _ _ _ _ _ (fun e => hni (by rw [hq, e])))
      have HP : Hid (wr.iterPos w1.heap.size = posOf rs j) := by simp [Hid, World.iterPos, hit]
      generalize hW : wr.iterAt w1.heap.size s (posOf rs (j + 1)) = W2 at *
      clear hW ho hit hb
      have hK2 : w1.heap.size < W2.heap.size := (Array.getElem?_eq_some_iff.1 hit2).1
      have hll : (R.take m ++ (rs.take j).map fun c => (c, hid)).length ≤ 2097152 := by
        rw [List.length_append, List.length_map, List.length_take, List.length_take]; omega
      have hsn := map_take_succ rs j hjl hid
      generalize hrj : rs[j] = r at *
      have HSN : Hid (((rs.take (j + 1)).map fun c => (c, hid)) = ((rs.take j).map fun c => (c, hid)) ++ [(r, hid)]) := hsn
      clear hsn
      generalize hacc : (R.take m ++ (rs.take j).map fun c => (c, hid)) = acc at *
      have HACC : Hid ((R.take m ++ (rs.take j).map fun c => (c, hid)) = acc) := hacc
      clear hacc hrj
      obtain ⟨g5, cap5, w6, hr, ho6, hb6, hkp, hgt⟩ := appendF_one kindC layC ho2 hb2.size (r, hid) #[.int .i32 r, .int .i64 hid] rfl 41 (by omega) (by omega) 26
      have hit6 : w6.heap[w1.heap.size]? = some (.stringIter s (posOf rs (j + 1))) := (hkp _ hK2 (fun e => hni e)).trans hit2
      go_wp2_with (at_builtin; refine wpList_append_hr rfl _ _ 26 rfl _ _ rfl rfl hr ?_)
      refine ⟨⟨j + 1, by omega, hit6, ?_, hb2.trans hb6⟩, ?_⟩
      · rw [HSN.out, ← List.append_assoc, HACC.out]; exact ho6
      · rw [HP.out, iterPos_of' hit6, ht.size]
        have h1 := posOf_lt rs (i := j) (j := j + 1) (by omega) (by omega)
        have h2 := posOf_mono rs (i := j + 1) (j := rs.length) (by omega)
        omega
    · obtain rfl : j = rs.length := by omega
      have hnx : ∀ ty, (Instr.next (.pointer (some ⟨w1.heap.size, 0, none⟩)) true ty).run Tryd.prog wr = _ := fun ty => run_next_done ht wr w1.heap.size ty hit
      rw [List.take_length] at ho
      obtain ⟨g7, k7, w7, hr7, ho7, hb7, _⟩ := appendF_all kindC layC ho hsz2 (HT.out _ (HH.out.below hb)) (by rw [List.length_append, List.length_map, List.length_take]; omega) (by rw [List.length_append, List.length_map, List.length_take]; omega) 26
      have hB7 := hb.trans hb7
      generalize (R.take m ++ rs.map fun c => (c, hid)).length + (n - m) = N7 at hr7 ho7
      clear hit
      go_wp2_with (at_builtin; refine wpList_append_hr rfl _ _ 26 rfl _ _ rfl rfl hr7 ?_)
      go_ret
      exact ⟨_, rfl, ho7, hB7⟩
end Go.Proofs.YtokclnjaglklhaaDoor
