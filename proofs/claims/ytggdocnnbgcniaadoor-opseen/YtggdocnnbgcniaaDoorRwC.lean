import Derived.Test.YtggdocnnbgcniaaDoorRsE
import Derived.Test.YtggdocnnbgcniaaDoorRwA
import Derived.Test.YtggdocnnbgcniaaDoorRsWB
import Derived.Test.YtggdocnnbgcniaaDoorRrEJ
import Derived.Sort.CutIn
import Derived.Sort.QuietTacIn
/-! The rope's Visible. -/
namespace Go.Proofs.YtggdocnnbgcniaaDoor
open Go.RowKit Go.Lib Go.Shelf Go.Sort
set_option maxRecDepth 100000
attribute [local go_sem] Oper.semAt_some

theorem results_cells2 {fn : Func} {p u : Tmp} {s t : TypeId} (h : fn.results = #[.cell p s, .cell u t]) (tmps : Array Value) (P : Program) (w : World) :
    (results fn tmps).run P w = ((asAddr (tmps.getD p undef)).run P w).andThen fun a w₁ => ((loadVar s a).run P w₁).andThen fun v w₂ => ((asAddr (tmps.getD u undef)).run P w₂).andThen fun b w₃ => ((loadVar t b).run P w₃).andThen fun x w₄ => .ok (.tuple #[v, x]) w₄ := by
  simp only [results, h]
  simp [Sem.run_bind, Result.andThen]
theorem set_grown (W : World) (b i : Nat) (x : Value) : W.grownBy (W.setCell ⟨b, i, none⟩ x) (some b) := ⟨rfl, rfl, rfl, by simp [World.setCell], fun k hk hne => Below.heap_setCell _ _ _ _ (fun e => hne (by rw [e]))⟩
theorem vfold_len : ∀ (ys : List (Int × List Int × Int)) (l : List (Int × Int)), (ys.foldl vst l).length ≤ l.length + ys.length
  | [], l => by simp
  | y :: ys, l => by
    have h1 : (vst l y).length ≤ l.length + 1 := by
      unfold vst
      split
      · split
        · split
          · simp
          · simp
        · simp
      · omega
    have h2 := vfold_len ys (vst l y)
    rw [List.foldl_cons, List.length_cons]
    omega
theorem cont_len : ∀ (ys : List (Int × List Int × Int)) (P : Int), Cont P ys → ys.length ≤ (cellsG ys).length
  | [], _, _ => Nat.le_refl _
  | y :: ys, P, h => by
    have h1 := cont_len ys _ h.2.2
    have h2 := List.length_pos_iff.2 h.2.1
    have e : cellsG (y :: ys) = (y.2.1.map fun c => (c, y.2.2)) ++ cellsG ys := by simp [cellsG]
    rw [e, List.length_append, List.length_map, List.length_cons]
    omega
theorem gv_len (l : List (List Int × Int)) (F T : Int) : (gv l 0 F T).length ≤ (rowOf l).length := by
  have h := cont_len _ _ (gv_cont l 0 F T)
  rw [gv_cells, List.length_drop, List.length_take] at h
  omega
theorem gv_at : ∀ (l : List (List Int × Int)) (f lo hi : Int), ∀ y ∈ gv l f lo hi, f ≤ y.1 ∧ y.1 + y.2.1.length ≤ f + (rowOf l).length
  | [], _, _, _, y, hy => by cases hy
  | p :: t, f, lo, hi, y, hy => by
    have e : ((rowOf (p :: t)).length : Int) = p.1.length + (rowOf t).length := by rw [rowOf_cons, List.length_append, List.length_map]; omega
    rw [e]
    rcases List.mem_append.1 hy with hy | hy
    · unfold one at hy
      split at hy
      · simp at hy
        subst hy
        simp only [List.length_drop, List.length_take]
        omega
      · cases hy
    · have := gv_at t _ lo hi y hy
      omega
/-- Where Visible stands: its list's box, the list, the boxes of what it hands back. -/
def VisI (w w0 : World) (ys : List (Int × List Int × Int)) (W : World) : Prop :=
  (∃ v, W.heap[w0.heap.size]? = some (.cells #[v] 46) ∧ OwnF pieceV 2 100 W (w0.heap.size + 1) v (ys.foldl vst [])) ∧ W.heap[w.heap.size]? = some (.cells #[.slice none 0 0] 46) ∧ W.heap[w.heap.size + 1]? = some (.cells #[.int .i64 0] 27) ∧ Below w.heap.size w W
theorem visI_keep {w w0 : World} {B : Nat} (hB : w.heap.size ≤ B) {ys : List (Int × List Int × Int)} {A C : World} {row : Option Nat} (h : VisI w w0 ys A) (hg : A.grownBy C row) (hr : ∀ r, row = some r → B ≤ r ∧ ∃ o : Obj, A.heap[r]? = some o ∧ o.isCells = false) (hA : w.heap.size ≤ A.heap.size) : VisI w w0 ys C := by
  obtain ⟨⟨v, h3, h4⟩, h1, h2, h5⟩ := h
  have key : ∀ (b : Nat) (cs : Array Value) (T : TypeId), A.heap[b]? = some (.cells cs T) → C.heap[b]? = some (.cells cs T) := fun b cs T hb => (hg.block b (Array.getElem?_eq_some_iff.1 hb).1 (fun e => by
    obtain ⟨_, o, ho, hc⟩ := hr b e.symm
    rw [hb] at ho
    cases ho
    simp [Obj.isCells] at hc)).trans hb
  refine ⟨⟨v, key _ _ _ h3, ownF_keep h4 (fun g e => ?_)⟩, key _ _ _ h1, key _ _ _ h2, h5.grown hg hA (fun k e => by have := (hr k e).1; omega)⟩
  obtain ⟨cs, fz, hh⟩ := ownF_type h4 e
  exact hg.block g (h4.lt e) (fun e2 => by
    obtain ⟨_, o, ho, hc⟩ := hr g e2.symm
    rw [hh] at ho
    cases ho
    simp [Obj.isCells] at hc)
set_option maxHeartbeats 16000000 in
theorem visible_any {w : World} {q : Nat} {t : Tr} (h : RopeAt w q t) (hR : t.Rp) (hO : Okl t.lv) (hsm : t.row.length ≤ 31000) (lo hi F T : Int)
    (hst : ∀ W, Below w.heap.size w W → Calls Tryd.prog 32 #[.pointer (some ⟨q, 0, none⟩), .int .i64 lo, .int .i64 hi] W fun e w' => e = .returned (.tuple #[.int .i64 F, .int .i64 T, .int .i64 0]) ∧ Below W.heap.size W w') :
    Calls Tryd.prog 14 #[.pointer (some ⟨q, 0, none⟩), .int .i64 lo, .int .i64 hi] w fun e w' => ∃ v, e = .returned (.tuple #[v, .int .i64 0]) ∧ OwnF pieceV 2 100 w' w.heap.size v ((gv t.lv 0 F T).foldl vst []) ∧ Below w.heap.size w w' := by
  refine (callsIn_wide (n := 6)).1 ?_
  have HST : Hid (∀ W, Below w.heap.size w W → Calls Tryd.prog 32 #[.pointer (some ⟨q, 0, none⟩), .int .i64 lo, .int .i64 hi] W fun e w' => e = .returned (.tuple #[.int .i64 F, .int .i64 T, .int .i64 0]) ∧ Below W.heap.size W w') := hst
  have HP : Hid (∀ W, Below w.heap.size w W → Calls Tryd.prog 33 #[.pointer (some ⟨q, 0, none⟩), .int .i64 F, .int .i64 T] W fun e w' => ∃ lb, e = .returned (.func (.func 57) #[] lb) ∧ Below W.heap.size W w' ∧
      ∀ n, SeqV Fence.wide n Tryd.prog 57 lb Pc.encs KpT Pc.V (fun xs => xs.map Pc.dat = gv t.lv 0 F T) (fun xs => xs.map Pc.dat <+: gv t.lv 0 F T) w') := fun W hW => pieces_any (h.below hW) hR hO F T
  clear h hR hO hst
  refine callsIn_of_wp_marks Tryd.func14 rfl trivial ?_ rfl
  simp only [Tryd.ntmps14, List.size_toArray, List.length_cons, List.length_nil, Nat.reduceAdd, Nat.reduceSub, Array.replicate_succ, Array.replicate_zero, List.push_toArray, List.append_toArray, List.nil_append, List.cons_append]
  gi_wp2
  obtain ⟨wa, ewa⟩ : ∃ W, (w.alloc (.cells #[.slice none 0 0] 46)).alloc (.cells #[.int .i64 0] 27) = W := ⟨_, rfl⟩
  have hba : Below w.heap.size w wa := ewa ▸ (((Below.refl _ w).alloc (Nat.le_refl _) _).alloc (by simp) _)
  have hra : wa.heap[w.heap.size]? = some (.cells #[.slice none 0 0] 46) ∧ wa.heap[w.heap.size + 1]? = some (.cells #[.int .i64 0] 27) := by
    rw [← ewa]
    constructor
    · simp only [World.alloc, Array.getElem?_push, Array.size_push]
      rw [if_neg (by omega), if_pos trivial]
    · simp only [World.alloc, Array.getElem?_push, Array.size_push]; simp
  rw [ewa]
  refine ⟨trivial, (callsIn_wide.2 (HST.out _ hba)).mono ?_⟩
  rintro e w0 ⟨rfl, hb0⟩
  have hB0 : Below w.heap.size w w0 := hba.trans (hb0.mono hba.size)
  have hr0 : w0.heap[w.heap.size]? = some (.cells #[.slice none 0 0] 46) ∧ w0.heap[w.heap.size + 1]? = some (.cells #[.int .i64 0] 27) := ⟨(hb0.block _ (Array.getElem?_eq_some_iff.1 hra.1).1).trans hra.1, (hb0.block _ (Array.getElem?_eq_some_iff.1 hra.2).1).trans hra.2⟩
  have HR0 : Hid (w0.heap[w.heap.size]? = some (.cells #[.slice none 0 0] 46) ∧ w0.heap[w.heap.size + 1]? = some (.cells #[.int .i64 0] 27)) := hr0
  clear ewa hba hra hb0 hr0
  gi_wp2
  have hbl : Below w.heap.size w (w0.alloc (.cells #[.slice none 0 0] 46)) := hB0.alloc hB0.size _
  refine ⟨trivial, (callsIn_wide.2 (HP.out _ hbl)).mono ?_⟩
  rintro e w1 ⟨lb, rfl, hb1, hseq⟩
  have hB1 : Below w.heap.size w w1 := hbl.trans (hb1.mono hbl.size)
  have hnew := World.alloc_heap_new w0 (.cells #[.slice none 0 0] 46)
  have hl1 : w0.heap.size < w1.heap.size := (Array.getElem?_eq_some_iff.1 ((hb1.block _ (Array.getElem?_eq_some_iff.1 hnew).1).trans hnew)).1
  have hR1 : w1.heap[w.heap.size]? = some (.cells #[.slice none 0 0] 46) ∧ w1.heap[w.heap.size + 1]? = some (.cells #[.int .i64 0] 27) := by
    have h1 := (Array.getElem?_eq_some_iff.1 HR0.out.1).1
    have h2 := (Array.getElem?_eq_some_iff.1 HR0.out.2).1
    have hb01 : Below w0.heap.size w0 w1 := ((Below.refl _ w0).alloc (Nat.le_refl _) _).trans (hb1.mono (by simp))
    exact ⟨(hb01.block _ h1).trans HR0.out.1, (hb01.block _ h2).trans HR0.out.2⟩
  have hI1 : VisI w w0 [] w1 := ⟨⟨.slice none 0 0, (hb1.block _ (Array.getElem?_eq_some_iff.1 hnew).1).trans hnew, ownF_nil _ _⟩, hR1.1, hR1.2, hB1⟩
  clear hnew hb1 hbl
  gi_wp2
  refine rangeV (α := Pc) rfl rfl (by decide) (gf := 57) (lb := lb) rfl trivial (enters_of Tryd.func57 (by kernel_rfl) rfl) (hseq 5) KpT.trans kpT_b (Below.refl _ _) (fun _ => rfl)
    (fun (pre : List Pc) W => VisI w w0 (pre.map Pc.dat) W) (fun _ _ _ => False)
    (fun s X Y row hs hg hr => visI_keep (B := w1.heap.size) hB1.size hs hg hr hs.2.2.2.size)
    (fun c s X Y row hs hg hr => hs) (fun x => pc_own _ x) hI1
    (fun x => { tmps := #[.pointer (some ⟨q, 0, none⟩), .int .i64 lo, .int .i64 hi, undef, undef, undef, .pointer (some ⟨w.heap.size, 0, none⟩), .pointer (some ⟨w.heap.size + 1, 0, none⟩), .int .i64 F, .int .i64 T, .int .i64 0, .pointer (some ⟨w0.heap.size, 0, none⟩), .int .i64 x.at_, .pointer (some ⟨x.g, 0, none⟩), undef, .tuple #[.int .i64 F, .int .i64 T, .int .i64 0], .pointer (some ⟨q, 0, none⟩), .int .i64 lo, .int .i64 hi, .tuple #[.int .i64 F, .int .i64 T, .int .i64 0], .int .i64 F, .int .i64 T, .int .i64 0, .int .i64 0, .bool false, undef, .pointer (some ⟨q, 0, none⟩), .int .i64 F, .int .i64 T, .func (.func 57) #[] lb, .int .i64 x.at_, .pointer (some ⟨x.g, 0, none⟩), undef, undef, undef, undef, undef, undef, undef, undef, undef, undef, undef, undef, undef, undef, undef, undef, undef, undef, undef, undef, undef, undef, undef, undef, undef, undef, undef, undef, undef, undef, undef, undef, undef, undef, undef, undef, undef, undef, undef, undef, undef, undef, undef, undef, undef, undef, undef], defers := [] }) ?assign ?body ?done ?stop
  case assign =>
    intro lp x W K hK
    simp only [Pc.encs]
    gi_wp2
    exact hK
  case body =>
    rintro lp pre x W hI ⟨st, hA, hfine, h32, _⟩ hsp
    have hne : 0 < x.rs.length := by have := hfine.wf.pos; simpa [Tr.row] using this
    have hfl := vfold_len (pre.map Pc.dat) []
    have hsl := hsp.length_le
    have hgl := gv_len t.lv F T
    have hat := gv_at t.lv 0 F T x.dat (hsp.subset (by simp))
    rw [← Tr.row_lv] at hgl hat
    have hat0 : 0 ≤ x.at_ ∧ x.at_ + (x.rs.length : Int) ≤ 31000 := by have h1 : 0 ≤ x.at_ ∧ x.at_ + (x.rs.length : Int) ≤ 0 + (t.row.length : Int) := hat; omega
    have u5 : IntKind.i64.wrap (x.at_ + (x.rs.length : Int)) = x.at_ + (x.rs.length : Int) := IntWalk.i64_in _ (by omega)
    clear hat
    have HST : Hid (((pre ++ [x]).map Pc.dat).foldl vst [] = vst ((pre.map Pc.dat).foldl vst []) (x.at_, x.rs, x.h)) := by
      show _ = _
      rw [List.map_append, List.foldl_append]
      rfl
    simp only [List.length_map, List.length_append, List.length_cons, List.length_nil] at hfl hsl
    obtain ⟨⟨v, hv, hown⟩, hr1, hr2, hB⟩ := hI
    generalize hlst : (pre.map Pc.dat).foldl vst [] = l at *
    have hll : l.length + 1 ≤ 32000 := by omega
    clear hfl hsl hgl hlst hsp hfine h32
    obtain ⟨c0, c1, c2, c3, c4, c5, c6, c7, c8, c9⟩ := hA.ten
    have HS := smShown_any (Tr.leaf x.rs x.h st).sm W
    have HA : Hid (At W (Tr.leaf x.rs x.h st) x.g) := hA
    clear hA
    gi_wp2
    by_cases hh : x.h ≤ 0
    · have hsh : (Tr.leaf x.rs x.h st).sm.shown = (x.rs.length : Int) := by
        show (if 0 < x.h then (0 : Int) else (x.rs.length : Int)) = _
        rw [if_neg (by omega)]
      rw [hsh] at HS
      refine ⟨trivial, CallsIn.inRound _ ((callsIn_wide.2 HS).mono ?_)⟩
      rintro e W2 ⟨rfl, hb2⟩
      clear c0 c1 c2 c3 c4 c5 c6 c7 c8 c9 HS hsh
      have hAt := HA.out.below hb2
      have hv2 := (hb2.block _ (Array.getElem?_eq_some_iff.1 hv).1).trans hv
      have hr12 := (hb2.block _ (Array.getElem?_eq_some_iff.1 hr1).1).trans hr1
      have hr22 := (hb2.block _ (Array.getElem?_eq_some_iff.1 hr2).1).trans hr2
      have hown2 := hown.below hb2
      have hB2 : Below w.heap.size w W2 := hB.trans (hb2.mono hB.size)
      have hk : KpT W W2 := KpT.below hb2
      have hf : KeepsFrom w1.heap.size W W2 := keepsFrom_below hb2
      clear hv hr1 hr2 hown hB hb2 HA
      have b0 : ((x.rs.length : Int) == 0) = false := by rw [beq_eq_false_iff_ne]; omega
      have r2 : W2.cell? ⟨w0.heap.size, 0, none⟩ = some v := by rw [Lib.cell_of_heap hv2]; rfl
      obtain ⟨av, cv, rfl⟩ := hown2.shape
      have bm : ((l.length : Int) == 32768) = false := by rw [beq_eq_false_iff_ne]; omega
      rcases List.eq_nil_or_concat l with rfl | ⟨l', r, rfl⟩
      · have HV : Hid (vst [] (x.at_, x.rs, x.h) = [] ++ [(x.at_, x.at_ + (x.rs.length : Int))]) := vst_one (y := (x.at_, x.rs, x.h)) hh (fun r h => by cases h)
        simp only [List.length_nil] at hv2 hown2 r2 bm hll
        have HAP : Hid (∃ g7 n7 cap7 W7, (Builtin.append_ #[46, 46] 46 #[.slice av 0 cv, .slice (some ⟨W2.heap.size, 0, none⟩) 1 1]).run Tryd.prog (W2.drew.alloc (.cells #[.int .i64 x.at_, .int .i64 (x.at_ + (x.rs.length : Int))] 100)) = .ok (.slice (some ⟨g7, 0, none⟩) n7 cap7) W7 ∧ W7.cell? ⟨w0.heap.size, 0, none⟩ = some (.slice av 0 cv) ∧ W7.frozen? ⟨w0.heap.size, 0, none⟩ = false ∧ Hid (KeepsFrom w1.heap.size W (W7.setCell ⟨w0.heap.size, 0, none⟩ (.slice (some ⟨g7, 0, none⟩) n7 cap7)) ∧ KpT W (W7.setCell ⟨w0.heap.size, 0, none⟩ (.slice (some ⟨g7, 0, none⟩) n7 cap7)) ∧ VisI w w0 ((pre ++ [x]).map Pc.dat) (W7.setCell ⟨w0.heap.size, 0, none⟩ (.slice (some ⟨g7, 0, none⟩) n7 cap7)))) := by
          have hvd : W2.drew.heap[w0.heap.size]? = _ := hv2
          obtain ⟨g7, cap7, W7, hr7, ho7, hb7, hkp7, hsz7, hat7⟩ := appendF_one kindRg layP (hown2.below ((Below.refl _ _).drew)) (by have := (Array.getElem?_eq_some_iff.1 hvd).1; omega) (x.at_, x.at_ + (x.rs.length : Int)) #[.int .i64 x.at_, .int .i64 (x.at_ + (x.rs.length : Int))] rfl 100 (by simp; try omega) (by simp; try omega) 46
          have hg7 : W2.drew.grownBy W7 (Value.slice av _ cv).ownBlock := ⟨hb7.os, hb7.tape, hb7.output, hb7.size, fun k hk hne => hkp7 k hk (fun e => hne e.symm)⟩
          have hne7 : ∀ (b : Nat) (cs : Array Value) (T : TypeId), W2.drew.heap[b]? = some (.cells cs T) → T ≠ 100 → (Value.slice av _ cv).ownBlock ≠ some b := fun b cs T hb hT e => by obtain ⟨cs2, fz2, hx⟩ := ownF_type (hown2.below ((Below.refl _ _).drew)) e; rw [hb] at hx; cases hx; exact hT rfl
          have hv7 := (hkp7 _ (Array.getElem?_eq_some_iff.1 hvd).1 (hne7 _ _ _ hvd (by decide))).trans hvd
          have h17 := (hkp7 _ (Array.getElem?_eq_some_iff.1 (show W2.drew.heap[_]? = _ from hr12)).1 (hne7 _ _ _ (show W2.drew.heap[_]? = _ from hr12) (by decide))).trans (show W2.drew.heap[_]? = _ from hr12)
          have h27 := (hkp7 _ (Array.getElem?_eq_some_iff.1 (show W2.drew.heap[_]? = _ from hr22)).1 (hne7 _ _ _ (show W2.drew.heap[_]? = _ from hr22) (by decide))).trans (show W2.drew.heap[_]? = _ from hr22)
          have hkT7 : KpT W2.drew W7 := KpT.grown hg7 (fun r o e ho => by obtain ⟨cs, fz, hx⟩ := ownF_type (hown2.below ((Below.refl _ _).drew)) e; rw [hx] at ho; cases ho; exact ⟨fun cs fr e2 => (by cases e2), fun cs fr e2 => (by cases e2)⟩)
          have hws := hB0.size
          have hB7 : Below w.heap.size w W7 := (hB2.drew).trans (hb7.mono (by omega))
          obtain ⟨hv8, hg8⟩ := set_box hv7 (.slice (some ⟨g7, 0, none⟩) (0 + 1) cap7)
          have hlw0 : w.heap.size + 1 < w0.heap.size := (Array.getElem?_eq_some_iff.1 HR0.out.2).1
          refine ⟨g7, _, cap7, W7, hr7, by rw [Lib.cell_of_heap hv7]; rfl, Lib.frozen_of_heap hv7 0, ?_, ?_, ⟨⟨_, hv8, ?_⟩, (hg8.block _ (Array.getElem?_eq_some_iff.1 h17).1 (by simp; omega)).trans h17, (hg8.block _ (Array.getElem?_eq_some_iff.1 h27).1 (by simp; omega)).trans h27, hB7.grown hg8 hB7.size (fun k hk => by cases hk; exact hws)⟩⟩
          · exact hf.trans ((keepsFrom_below ((Below.refl _ _).drew)).trans ((⟨hb7.size, fun k o hB hk ho => (hkp7 k (Array.getElem?_eq_some_iff.1 hk).1 (fun e => by obtain ⟨cs, fz, hx⟩ := ownF_type (hown2.below ((Below.refl _ _).drew)) e; rw [hx] at hk; cases hk; simp [Obj.isCells] at ho)).trans hk⟩ : KeepsFrom w1.heap.size W2.drew W7).trans (KeepsFrom.of_grownBy hg8 (fun j e => by cases e; omega))))
          · exact hk.trans (((KpT.below ((Below.refl _ _).drew)).trans hkT7).trans (KpT.grown hg8 (fun r o e ho => by cases e; rw [hv7] at ho; cases ho; exact ⟨fun cs fr e2 => (by cases e2), fun cs fr e2 => (by cases e2)⟩)))
          · rw [HST.out, HV.out]
            exact ownF_grown ho7 hg8 (.inr (fun e => by have := ho7.ge e; omega))
        have ca : W2.cell? ⟨x.g, 0, none⟩ = some (.int .i64 (x.rs.length : Int)) := hAt.ten.1
        have ra : (W2.alloc (.cells #[.int .i64 x.at_, .int .i64 (x.at_ + (x.rs.length : Int))] 100)).cell? ⟨w0.heap.size, 0, none⟩ = some (.slice av 0 cv) := cell_al r2 _
        clear hAt hv2 hr12 hr22 hown2 hB2 hk hf
        gi_wp2
        refine region_round (F := Fence.wide) (by kernel_rfl) (by kernel_rfl) ?_
        change wpAnyIn _ _ _ _ _ _ _ _ _ W2.drew
        refine takeR (i := 1) (d := some 67) (v := ?vT1) rfl rfl rfl (by kernel_rfl) (by kernel_rfl) (by kernel_rfl) (fun _ _ _ h => h) ⟨Or.inl ⟨by rfl, ?hyT1⟩, fun _ => rfl⟩ ?rsT1
        case hyT1 => (intro w; go_simp; (try with_reducible rfl))
        try simp only [Act.put, List.setIfInBounds_toArray, List.set_cons_zero, List.set_cons_succ]
        refine takeR (i := 2) (d := some 68) (v := ?vT2) rfl rfl rfl (by kernel_rfl) (by kernel_rfl) (by kernel_rfl) (fun _ _ _ h => h) ⟨Or.inl ⟨by rfl, ?hyT2⟩, fun _ => rfl⟩ ?rsT2
        case hyT2 => (intro w; go_simp; (try with_reducible rfl))
        try simp only [Act.put, List.setIfInBounds_toArray, List.set_cons_zero, List.set_cons_succ]
        refine takeR (i := 3) (d := some 69) (v := ?vT3) rfl rfl rfl (by kernel_rfl) (by kernel_rfl) (by kernel_rfl) (fun _ _ _ h => h) ⟨Or.inl ⟨by rfl, ?hyT3⟩, fun _ => rfl⟩ ?rsT3
        case hyT3 => (intro w; go_simp; (try with_reducible rfl))
        try simp only [Act.put, List.setIfInBounds_toArray, List.set_cons_zero, List.set_cons_succ]
        refine takeR (i := 4) (d := some 70) (v := ?vT4) rfl rfl rfl (by kernel_rfl) (by kernel_rfl) (by kernel_rfl) (fun _ _ _ h => h) ⟨Or.inl ⟨by rfl, ?hyT4⟩, fun _ => rfl⟩ ?rsT4
        case hyT4 => (intro w; go_simp; (try with_reducible rfl))
        try simp only [Act.put, List.setIfInBounds_toArray, List.set_cons_zero, List.set_cons_succ]
        refine takeR (i := 5) (d := some 71) (v := ?vT5) rfl rfl rfl (by kernel_rfl) (by kernel_rfl) (by kernel_rfl) (fun _ _ _ h => h) ⟨Or.inl ⟨by rfl, ?hyT5⟩, fun _ => rfl⟩ ?rsT5
        case hyT5 => (intro w; go_simp; (try with_reducible rfl))
        try simp only [Act.put, List.setIfInBounds_toArray, List.set_cons_zero, List.set_cons_succ]
        refine takeR (i := 6) (d := some 72) (v := ?vT6) rfl rfl rfl (by kernel_rfl) (by kernel_rfl) (by kernel_rfl) (fun _ _ _ h => h) ⟨Or.inl ⟨by rfl, ?hyT6⟩, fun _ => rfl⟩ ?rsT6
        case hyT6 => (intro w; go_simp; (try with_reducible rfl))
        try simp only [Act.put, List.setIfInBounds_toArray, List.set_cons_zero, List.set_cons_succ]
        refine wpAnyIn_ready (rs := [0, 7]) (by kernel_rfl) (by simp) (AllReadyIn.cons rfl (fun K hK => ?b23) (AllReadyIn.cons rfl (fun K hK => ?b24) AllReadyIn.nil))
        case b23 =>
          go_simp
          refine hK _ _ ?_
          clear hK K
          try simp only [Act.put, List.setIfInBounds_toArray, List.set_cons_zero, List.set_cons_succ]
          refine wpAnyIn_ready (rs := [7]) (by kernel_rfl) (by simp) (AllReadyIn.cons rfl (fun K hK => ?b12) AllReadyIn.nil)
          case b12 =>
            go_simp
            refine hK _ _ ?_
            clear hK K
            try simp only [Act.put, List.setIfInBounds_toArray, List.set_cons_zero, List.set_cons_succ]
            refine takeR (i := 8) (d := some 74) (v := ?vT7) rfl rfl rfl (by kernel_rfl) (by kernel_rfl) (by kernel_rfl) (fun _ _ _ h => h) ⟨Or.inl ⟨by rfl, ?hyT7⟩, fun _ => rfl⟩ ?rsT7
            case hyT7 => (intro w; go_simp; (try with_reducible rfl))
            try simp only [Act.put, List.setIfInBounds_toArray, List.set_cons_zero, List.set_cons_succ]
            refine takeR (i := 9) (d := some 75) (v := ?vT8) rfl rfl rfl (by kernel_rfl) (by kernel_rfl) (by kernel_rfl) (fun _ _ _ h => h) ⟨Or.inl ⟨by rfl, ?hyT8⟩, fun _ => rfl⟩ ?rsT8
            case hyT8 => (intro w; go_simp; (try with_reducible rfl))
            try simp only [Act.put, List.setIfInBounds_toArray, List.set_cons_zero, List.set_cons_succ]
            refine wpAnyIn_ready (rs := [10]) (by kernel_rfl) (by simp) (AllReadyIn.cons rfl (fun K hK => ?b11) AllReadyIn.nil)
            case b11 =>
              go_simp
              refine hK _ _ ?_
              clear hK K
              try simp only [Act.put, List.setIfInBounds_toArray, List.set_cons_zero, List.set_cons_succ]
              refine wpAnyIn_ready (rs := [11]) (by kernel_rfl) (by simp) (AllReadyIn.cons rfl (fun K hK => ?b10) AllReadyIn.nil)
              case b10 =>
                obtain ⟨g7, n7, cap7, W7, hr7, k7, kf7, HE7⟩ := HAP.out
                rw [if_pos (by rfl)]
                refine wpIn_append_hr (.tmp 66) (.tmp 76) 46 (some 77) rfl rfl _ _ rfl rfl hr7 ?_
                refine hK _ _ ?_
                clear hK K
                try simp only [Act.put, List.setIfInBounds_toArray, List.set_cons_zero, List.set_cons_succ]
                refine wpAnyIn_ready (rs := [12]) (by kernel_rfl) (by simp) (AllReadyIn.cons rfl (fun K hK => ?b9) AllReadyIn.nil)
                case b9 =>
                  go_simp
                  refine hK _ _ ?_
                  clear hK K
                  try simp only [Act.put, List.setIfInBounds_toArray, List.set_cons_zero, List.set_cons_succ]
                  refine wpAnyIn_done (by kernel_rfl) ?_ _
                  gi_wp2
                  exact HE7.out
        case b24 =>
          go_simp
          refine hK _ _ ?_
          clear hK K
          try simp only [Act.put, List.setIfInBounds_toArray, List.set_cons_zero, List.set_cons_succ]
          refine takeR (i := 8) (d := some 74) (v := ?vT13) rfl rfl rfl (by kernel_rfl) (by kernel_rfl) (by kernel_rfl) (fun _ _ _ h => h) ⟨Or.inl ⟨by rfl, ?hyT13⟩, fun _ => rfl⟩ ?rsT13
          case hyT13 => (intro w; go_simp; (try with_reducible rfl))
          try simp only [Act.put, List.setIfInBounds_toArray, List.set_cons_zero, List.set_cons_succ]
          refine takeR (i := 9) (d := some 75) (v := ?vT14) rfl rfl rfl (by kernel_rfl) (by kernel_rfl) (by kernel_rfl) (fun _ _ _ h => h) ⟨Or.inl ⟨by rfl, ?hyT14⟩, fun _ => rfl⟩ ?rsT14
          case hyT14 => (intro w; go_simp; (try with_reducible rfl))
          try simp only [Act.put, List.setIfInBounds_toArray, List.set_cons_zero, List.set_cons_succ]
          refine wpAnyIn_ready (rs := [0, 10]) (by kernel_rfl) (by simp) (AllReadyIn.cons rfl (fun K hK => ?b21) (AllReadyIn.cons rfl (fun K hK => ?b22) AllReadyIn.nil))
          case b21 =>
            go_simp
            refine hK _ _ ?_
            clear hK K
            try simp only [Act.put, List.setIfInBounds_toArray, List.set_cons_zero, List.set_cons_succ]
            refine wpAnyIn_ready (rs := [10]) (by kernel_rfl) (by simp) (AllReadyIn.cons rfl (fun K hK => ?b17) AllReadyIn.nil)
            case b17 =>
              go_simp
              refine hK _ _ ?_
              clear hK K
              try simp only [Act.put, List.setIfInBounds_toArray, List.set_cons_zero, List.set_cons_succ]
              refine wpAnyIn_ready (rs := [11]) (by kernel_rfl) (by simp) (AllReadyIn.cons rfl (fun K hK => ?b16) AllReadyIn.nil)
              case b16 =>
                obtain ⟨g7, n7, cap7, W7, hr7, k7, kf7, HE7⟩ := HAP.out
                rw [if_pos (by rfl)]
                refine wpIn_append_hr (.tmp 66) (.tmp 76) 46 (some 77) rfl rfl _ _ rfl rfl hr7 ?_
                refine hK _ _ ?_
                clear hK K
                try simp only [Act.put, List.setIfInBounds_toArray, List.set_cons_zero, List.set_cons_succ]
                refine wpAnyIn_ready (rs := [12]) (by kernel_rfl) (by simp) (AllReadyIn.cons rfl (fun K hK => ?b15) AllReadyIn.nil)
                case b15 =>
                  go_simp
                  refine hK _ _ ?_
                  clear hK K
                  try simp only [Act.put, List.setIfInBounds_toArray, List.set_cons_zero, List.set_cons_succ]
                  refine wpAnyIn_done (by kernel_rfl) ?_ _
                  gi_wp2
                  exact HE7.out
          case b22 =>
            go_simp
            refine hK _ _ ?_
            clear hK K
            try simp only [Act.put, List.setIfInBounds_toArray, List.set_cons_zero, List.set_cons_succ]
            refine wpAnyIn_ready (rs := [0]) (by kernel_rfl) (by simp) (AllReadyIn.cons rfl (fun K hK => ?b20) AllReadyIn.nil)
            case b20 =>
              go_simp
              refine hK _ _ ?_
              clear hK K
              try simp only [Act.put, List.setIfInBounds_toArray, List.set_cons_zero, List.set_cons_succ]
              refine wpAnyIn_ready (rs := [11]) (by kernel_rfl) (by simp) (AllReadyIn.cons rfl (fun K hK => ?b19) AllReadyIn.nil)
              case b19 =>
                obtain ⟨g7, n7, cap7, W7, hr7, k7, kf7, HE7⟩ := HAP.out
                rw [if_pos (by rfl)]
                refine wpIn_append_hr (.tmp 66) (.tmp 76) 46 (some 77) rfl rfl _ _ rfl rfl hr7 ?_
                refine hK _ _ ?_
                clear hK K
                try simp only [Act.put, List.setIfInBounds_toArray, List.set_cons_zero, List.set_cons_succ]
                refine wpAnyIn_ready (rs := [12]) (by kernel_rfl) (by simp) (AllReadyIn.cons rfl (fun K hK => ?b18) AllReadyIn.nil)
                case b18 =>
                  go_simp
                  refine hK _ _ ?_
                  clear hK K
                  try simp only [Act.put, List.setIfInBounds_toArray, List.set_cons_zero, List.set_cons_succ]
                  refine wpAnyIn_done (by kernel_rfl) ?_ _
                  gi_wp2
                  exact HE7.out
      · rw [List.concat_eq_append] at *
        have hlc : (l' ++ [r]).length = l'.length + 1 := by simp
        obtain ⟨g9, cp9, hvv, hg9, hg9s, hcp1, hcp2, hfz⟩ := hown2.ptr (by omega)
        obtain ⟨g', o', x', e', hg', hx', hc'⟩ := (hown2.rw_ layP).at l'.length (by omega)
        cases hvv
        cases e'
        have e9 : x' = r := by simpa using hx'.symm
        subst e9
        have c7 : W2.cell? ⟨g9, l'.length * 2 + 1, none⟩ = some (.int .i64 x'.2) := by have := hc' 1 _ rfl; simpa using this
        have f7 := hfz (l'.length * 2 + 1)
        rw [hlc] at hv2 hown2 r2 bm hll
        have ca : W2.cell? ⟨x.g, 0, none⟩ = some (.int .i64 (x.rs.length : Int)) := hAt.ten.1
        clear hc' hx' hfz
        by_cases hr9 : x'.2 = x.at_
        · have ex : x' = (x'.1, x.at_) := Prod.ext rfl hr9
          have HV : Hid (vst (l' ++ [x']) (x.at_, x.rs, x.h) = l' ++ [(x'.1, x.at_ + (x.rs.length : Int))]) := by show _ = _; rw [ex]; exact vst_longer (y := (x.at_, x.rs, x.h)) hh
          rw [hr9] at c7
          have hlw0 : w.heap.size + 1 < w0.heap.size := (Array.getElem?_eq_some_iff.1 HR0.out.2).1
          have HE11 : Hid (KeepsFrom w1.heap.size W (W2.drew.setCell ⟨g9, l'.length * 2 + 1, none⟩ (.int .i64 (x.at_ + (x.rs.length : Int)))) ∧ KpT W (W2.drew.setCell ⟨g9, l'.length * 2 + 1, none⟩ (.int .i64 (x.at_ + (x.rs.length : Int)))) ∧ VisI w w0 ((pre ++ [x]).map Pc.dat) (W2.drew.setCell ⟨g9, l'.length * 2 + 1, none⟩ (.int .i64 (x.at_ + (x.rs.length : Int))))) := by
            obtain ⟨cs9, fz9, hb9⟩ := ownF_type (hown2.below ((Below.refl _ _).drew)) (show (Value.slice (some ⟨g9, 0, none⟩) (l'.length + 1) cv).ownBlock = some g9 from rfl)
            have hg8 : W2.drew.grownBy (W2.drew.setCell ⟨g9, l'.length * 2 + 1, none⟩ (.int .i64 (x.at_ + (x.rs.length : Int)))) (some g9) := set_grown W2.drew _ _ _
            have hne9 : ∀ (b : Nat) (cs : Array Value) (T : TypeId), W2.drew.heap[b]? = some (.cells cs T) → T ≠ 100 → ¬ some b = some g9 := fun b cs T hb hT e => by cases e; rw [hb] at hb9; cases hb9; exact hT rfl
            have hBd := hB2.drew
            refine ⟨hf.trans ((keepsFrom_below ((Below.refl _ _).drew)).trans (⟨hg8.size, fun k o hB hk ho => (hg8.block k (Array.getElem?_eq_some_iff.1 hk).1 (fun e => by cases e; rw [hb9] at hk; cases hk; simp [Obj.isCells] at ho)).trans hk⟩ : KeepsFrom w1.heap.size W2.drew _)), hk.trans ((KpT.below ((Below.refl _ _).drew)).trans (KpT.grown hg8 (fun r o e ho => by cases e; rw [hb9] at ho; cases ho; exact ⟨fun cs fr e2 => (by cases e2), fun cs fr e2 => (by cases e2)⟩))), ⟨⟨_, (hg8.block _ (Array.getElem?_eq_some_iff.1 (show W2.drew.heap[_]? = _ from hv2)).1 (hne9 _ _ _ (show W2.drew.heap[_]? = _ from hv2) (by decide))).trans (show W2.drew.heap[_]? = _ from hv2), ?_⟩, (hg8.block _ (Array.getElem?_eq_some_iff.1 (show W2.drew.heap[_]? = _ from hr12)).1 (hne9 _ _ _ (show W2.drew.heap[_]? = _ from hr12) (by decide))).trans (show W2.drew.heap[_]? = _ from hr12), (hg8.block _ (Array.getElem?_eq_some_iff.1 (show W2.drew.heap[_]? = _ from hr22)).1 (hne9 _ _ _ (show W2.drew.heap[_]? = _ from hr22) (by decide))).trans (show W2.drew.heap[_]? = _ from hr22), hBd.grown hg8 hBd.size (fun k hk => by cases hk; have := hB0.size; omega)⟩⟩
            rw [HST.out, HV.out]
            exact OwnF.setLast (x := x'.1) (y := x'.2) (hown2.below ((Below.refl _ _).drew)) _
          clear ex hAt hv2 hr12 hr22 hown2 hB2 hk hf HV
          gi_wp2
          refine region_round (F := Fence.wide) (by kernel_rfl) (by kernel_rfl) ?_
          change wpAnyIn _ _ _ _ _ _ _ _ _ W2.drew
          refine takeR (i := 1) (d := some 53) (v := ?vT25) rfl rfl rfl (by kernel_rfl) (by kernel_rfl) (by kernel_rfl) (fun _ _ _ h => h) ⟨Or.inl ⟨by rfl, ?hyT25⟩, fun _ => rfl⟩ ?rsT25
          case hyT25 => (intro w; go_simp; (try with_reducible rfl))
          try simp only [Act.put, List.setIfInBounds_toArray, List.set_cons_zero, List.set_cons_succ]
          refine takeR (i := 2) (d := some 54) (v := ?vT26) rfl rfl rfl (by kernel_rfl) (by kernel_rfl) (by kernel_rfl) (fun _ _ _ h => h) ⟨Or.inl ⟨by rfl, ?hyT26⟩, fun _ => rfl⟩ ?rsT26
          case hyT26 => (intro w; go_simp; (try with_reducible rfl))
          try simp only [Act.put, List.setIfInBounds_toArray, List.set_cons_zero, List.set_cons_succ]
          refine takeR (i := 3) (d := some 55) (v := ?vT27) rfl rfl rfl (by kernel_rfl) (by kernel_rfl) (by kernel_rfl) (fun _ _ _ h => h) ⟨Or.inl ⟨by rfl, ?hyT27⟩, fun _ => rfl⟩ ?rsT27
          case hyT27 => (intro w; go_simp; (try with_reducible rfl))
          try simp only [Act.put, List.setIfInBounds_toArray, List.set_cons_zero, List.set_cons_succ]
          refine takeR (i := 4) (d := some 56) (v := ?vT28) rfl rfl rfl (by kernel_rfl) (by kernel_rfl) (by kernel_rfl) (fun _ _ _ h => h) ⟨Or.inl ⟨by rfl, ?hyT28⟩, fun _ => rfl⟩ ?rsT28
          case hyT28 => (intro w; go_simp; (try with_reducible rfl))
          try simp only [Act.put, List.setIfInBounds_toArray, List.set_cons_zero, List.set_cons_succ]
          refine takeR (i := 5) (d := some 57) (v := ?vT29) rfl rfl rfl (by kernel_rfl) (by kernel_rfl) (by kernel_rfl) (fun _ _ _ h => h) ⟨Or.inl ⟨by rfl, ?hyT29⟩, fun _ => rfl⟩ ?rsT29
          case hyT29 => (intro w; go_simp; (try with_reducible rfl))
          try simp only [Act.put, List.setIfInBounds_toArray, List.set_cons_zero, List.set_cons_succ]
          refine takeR (i := 6) (d := some 58) (v := ?vT30) rfl rfl rfl (by kernel_rfl) (by kernel_rfl) (by kernel_rfl) (fun _ _ _ h => h) ⟨Or.inl ⟨by rfl, ?hyT30⟩, fun _ => rfl⟩ ?rsT30
          case hyT30 => (intro w; go_simp; (try with_reducible rfl))
          try simp only [Act.put, List.setIfInBounds_toArray, List.set_cons_zero, List.set_cons_succ]
          refine wpAnyIn_ready (rs := [0, 7]) (by kernel_rfl) (by simp) (AllReadyIn.cons rfl (fun K hK => ?b41) (AllReadyIn.cons rfl (fun K hK => ?b42) AllReadyIn.nil))
          case b41 =>
            go_simp
            refine hK _ _ ?_
            clear hK K
            try simp only [Act.put, List.setIfInBounds_toArray, List.set_cons_zero, List.set_cons_succ]
            refine wpAnyIn_ready (rs := [7]) (by kernel_rfl) (by simp) (AllReadyIn.cons rfl (fun K hK => ?b35) AllReadyIn.nil)
            case b35 =>
              go_simp
              refine hK _ _ ?_
              clear hK K
              try simp only [Act.put, List.setIfInBounds_toArray, List.set_cons_zero, List.set_cons_succ]
              refine takeR (i := 8) (d := some 60) (v := ?vT31) rfl rfl rfl (by kernel_rfl) (by kernel_rfl) (by kernel_rfl) (fun _ _ _ h => h) ⟨Or.inl ⟨by rfl, ?hyT31⟩, fun _ => rfl⟩ ?rsT31
              case hyT31 => (intro w; go_simp; (try with_reducible rfl))
              try simp only [Act.put, List.setIfInBounds_toArray, List.set_cons_zero, List.set_cons_succ]
              refine wpAnyIn_ready (rs := [9]) (by kernel_rfl) (by simp) (AllReadyIn.cons rfl (fun K hK => ?b34) AllReadyIn.nil)
              case b34 =>
                go_simp
                rw [if_pos (show (l'.length : Int) < (l'.length : Int) + 1 by omega)]
                refine hK _ _ ?_
                clear hK K
                try simp only [Act.put, List.setIfInBounds_toArray, List.set_cons_zero, List.set_cons_succ]
                refine wpAnyIn_ready (rs := [10]) (by kernel_rfl) (by simp) (AllReadyIn.cons rfl (fun K hK => ?b33) AllReadyIn.nil)
                case b33 =>
                  go_simp
                  refine hK _ _ ?_
                  clear hK K
                  try simp only [Act.put, List.setIfInBounds_toArray, List.set_cons_zero, List.set_cons_succ]
                  refine wpAnyIn_ready (rs := [11]) (by kernel_rfl) (by simp) (AllReadyIn.cons rfl (fun K hK => ?b32) AllReadyIn.nil)
                  case b32 =>
                    go_simp
                    refine hK _ _ ?_
                    clear hK K
                    try simp only [Act.put, List.setIfInBounds_toArray, List.set_cons_zero, List.set_cons_succ]
                    refine wpAnyIn_done (by kernel_rfl) ?_ _
                    gi_wp2
                    exact HE11.out
          case b42 =>
            go_simp
            refine hK _ _ ?_
            clear hK K
            try simp only [Act.put, List.setIfInBounds_toArray, List.set_cons_zero, List.set_cons_succ]
            refine takeR (i := 8) (d := some 60) (v := ?vT36) rfl rfl rfl (by kernel_rfl) (by kernel_rfl) (by kernel_rfl) (fun _ _ _ h => h) ⟨Or.inl ⟨by rfl, ?hyT36⟩, fun _ => rfl⟩ ?rsT36
            case hyT36 => (intro w; go_simp; (try with_reducible rfl))
            try simp only [Act.put, List.setIfInBounds_toArray, List.set_cons_zero, List.set_cons_succ]
            refine wpAnyIn_ready (rs := [0]) (by kernel_rfl) (by simp) (AllReadyIn.cons rfl (fun K hK => ?b40) AllReadyIn.nil)
            case b40 =>
              go_simp
              refine hK _ _ ?_
              clear hK K
              try simp only [Act.put, List.setIfInBounds_toArray, List.set_cons_zero, List.set_cons_succ]
              refine wpAnyIn_ready (rs := [9]) (by kernel_rfl) (by simp) (AllReadyIn.cons rfl (fun K hK => ?b39) AllReadyIn.nil)
              case b39 =>
                go_simp
                rw [if_pos (show (l'.length : Int) < (l'.length : Int) + 1 by omega)]
                refine hK _ _ ?_
                clear hK K
                try simp only [Act.put, List.setIfInBounds_toArray, List.set_cons_zero, List.set_cons_succ]
                refine wpAnyIn_ready (rs := [10]) (by kernel_rfl) (by simp) (AllReadyIn.cons rfl (fun K hK => ?b38) AllReadyIn.nil)
                case b38 =>
                  go_simp
                  refine hK _ _ ?_
                  clear hK K
                  try simp only [Act.put, List.setIfInBounds_toArray, List.set_cons_zero, List.set_cons_succ]
                  refine wpAnyIn_ready (rs := [11]) (by kernel_rfl) (by simp) (AllReadyIn.cons rfl (fun K hK => ?b37) AllReadyIn.nil)
                  case b37 =>
                    go_simp
                    refine hK _ _ ?_
                    clear hK K
                    try simp only [Act.put, List.setIfInBounds_toArray, List.set_cons_zero, List.set_cons_succ]
                    refine wpAnyIn_done (by kernel_rfl) ?_ _
                    gi_wp2
                    exact HE11.out
        · have HV : Hid (vst (l' ++ [x']) (x.at_, x.rs, x.h) = (l' ++ [x']) ++ [(x.at_, x.at_ + (x.rs.length : Int))]) := vst_one (y := (x.at_, x.rs, x.h)) hh (fun r h => by rw [List.getLast?_append] at h; simp only [List.getLast?_singleton, Option.some_or, Option.some.injEq] at h; rw [← h]; exact hr9)
          have b7 : (x'.2 == x.at_) = false := beq_eq_false_iff_ne.2 hr9
          clear ca
          have HAP : Hid (∃ g7 n7 cap7 W7, (Builtin.append_ #[46, 46] 46 #[.slice (some ⟨g9, 0, none⟩) (l'.length + 1) cv, .slice (some ⟨W2.heap.size, 0, none⟩) 1 1]).run Tryd.prog (W2.drew.alloc (.cells #[.int .i64 x.at_, .int .i64 (x.at_ + (x.rs.length : Int))] 100)) = .ok (.slice (some ⟨g7, 0, none⟩) n7 cap7) W7 ∧ W7.cell? ⟨w0.heap.size, 0, none⟩ = some (.slice (some ⟨g9, 0, none⟩) (l'.length + 1) cv) ∧ W7.frozen? ⟨w0.heap.size, 0, none⟩ = false ∧ Hid (KeepsFrom w1.heap.size W (W7.setCell ⟨w0.heap.size, 0, none⟩ (.slice (some ⟨g7, 0, none⟩) n7 cap7)) ∧ KpT W (W7.setCell ⟨w0.heap.size, 0, none⟩ (.slice (some ⟨g7, 0, none⟩) n7 cap7)) ∧ VisI w w0 ((pre ++ [x]).map Pc.dat) (W7.setCell ⟨w0.heap.size, 0, none⟩ (.slice (some ⟨g7, 0, none⟩) n7 cap7)))) := by
            have hvd : W2.drew.heap[w0.heap.size]? = _ := hv2
            obtain ⟨g7, cap7, W7, hr7, ho7, hb7, hkp7, hsz7, hat7⟩ := appendF_one kindRg layP (hown2.below ((Below.refl _ _).drew)) (by have := (Array.getElem?_eq_some_iff.1 hvd).1; omega) (x.at_, x.at_ + (x.rs.length : Int)) #[.int .i64 x.at_, .int .i64 (x.at_ + (x.rs.length : Int))] rfl 100 (by simp; try omega) (by simp; try omega) 46
            rw [hlc] at hr7 ho7
            have hg7 : W2.drew.grownBy W7 (Value.slice (some ⟨g9, 0, none⟩) (l'.length + 1) cv).ownBlock := ⟨hb7.os, hb7.tape, hb7.output, hb7.size, fun k hk hne => hkp7 k hk (fun e => hne e.symm)⟩
            have hne7 : ∀ (b : Nat) (cs : Array Value) (T : TypeId), W2.drew.heap[b]? = some (.cells cs T) → T ≠ 100 → (Value.slice (some ⟨g9, 0, none⟩) (l'.length + 1) cv).ownBlock ≠ some b := fun b cs T hb hT e => by obtain ⟨cs2, fz2, hx⟩ := ownF_type (hown2.below ((Below.refl _ _).drew)) e; rw [hb] at hx; cases hx; exact hT rfl
            have hv7 := (hkp7 _ (Array.getElem?_eq_some_iff.1 hvd).1 (hne7 _ _ _ hvd (by decide))).trans hvd
            have h17 := (hkp7 _ (Array.getElem?_eq_some_iff.1 (show W2.drew.heap[_]? = _ from hr12)).1 (hne7 _ _ _ (show W2.drew.heap[_]? = _ from hr12) (by decide))).trans (show W2.drew.heap[_]? = _ from hr12)
            have h27 := (hkp7 _ (Array.getElem?_eq_some_iff.1 (show W2.drew.heap[_]? = _ from hr22)).1 (hne7 _ _ _ (show W2.drew.heap[_]? = _ from hr22) (by decide))).trans (show W2.drew.heap[_]? = _ from hr22)
            have hkT7 : KpT W2.drew W7 := KpT.grown hg7 (fun r o e ho => by obtain ⟨cs, fz, hx⟩ := ownF_type (hown2.below ((Below.refl _ _).drew)) e; rw [hx] at ho; cases ho; exact ⟨fun cs fr e2 => (by cases e2), fun cs fr e2 => (by cases e2)⟩)
            have hws := hB0.size
            have hB7 : Below w.heap.size w W7 := (hB2.drew).trans (hb7.mono (by omega))
            obtain ⟨hv8, hg8⟩ := set_box hv7 (.slice (some ⟨g7, 0, none⟩) ((l'.length + 1) + 1) cap7)
            have hlw0 : w.heap.size + 1 < w0.heap.size := (Array.getElem?_eq_some_iff.1 HR0.out.2).1
            refine ⟨g7, _, cap7, W7, hr7, by rw [Lib.cell_of_heap hv7]; rfl, Lib.frozen_of_heap hv7 0, ?_, ?_, ⟨⟨_, hv8, ?_⟩, (hg8.block _ (Array.getElem?_eq_some_iff.1 h17).1 (by simp; omega)).trans h17, (hg8.block _ (Array.getElem?_eq_some_iff.1 h27).1 (by simp; omega)).trans h27, hB7.grown hg8 hB7.size (fun k hk => by cases hk; exact hws)⟩⟩
            · exact hf.trans ((keepsFrom_below ((Below.refl _ _).drew)).trans ((⟨hb7.size, fun k o hB hk ho => (hkp7 k (Array.getElem?_eq_some_iff.1 hk).1 (fun e => by obtain ⟨cs, fz, hx⟩ := ownF_type (hown2.below ((Below.refl _ _).drew)) e; rw [hx] at hk; cases hk; simp [Obj.isCells] at ho)).trans hk⟩ : KeepsFrom w1.heap.size W2.drew W7).trans (KeepsFrom.of_grownBy hg8 (fun j e => by cases e; omega))))
            · exact hk.trans (((KpT.below ((Below.refl _ _).drew)).trans hkT7).trans (KpT.grown hg8 (fun r o e ho => by cases e; rw [hv7] at ho; cases ho; exact ⟨fun cs fr e2 => (by cases e2), fun cs fr e2 => (by cases e2)⟩)))
            · rw [HST.out, HV.out]
              exact ownF_grown ho7 hg8 (.inr (fun e => by have := ho7.ge e; omega))
          have ca : W2.cell? ⟨x.g, 0, none⟩ = some (.int .i64 (x.rs.length : Int)) := hAt.ten.1
          have ra : (W2.alloc (.cells #[.int .i64 x.at_, .int .i64 (x.at_ + (x.rs.length : Int))] 100)).cell? ⟨w0.heap.size, 0, none⟩ = some (.slice (some ⟨g9, 0, none⟩) (l'.length + 1) cv) := cell_al r2 _
          clear hAt hv2 hr12 hr22 hown2 hB2 hk hf
          gi_wp2
          refine region_round (F := Fence.wide) (by kernel_rfl) (by kernel_rfl) ?_
          change wpAnyIn _ _ _ _ _ _ _ _ _ W2.drew
          refine takeR (i := 1) (d := some 67) (v := ?vT43) rfl rfl rfl (by kernel_rfl) (by kernel_rfl) (by kernel_rfl) (fun _ _ _ h => h) ⟨Or.inl ⟨by rfl, ?hyT43⟩, fun _ => rfl⟩ ?rsT43
          case hyT43 => (intro w; go_simp; (try with_reducible rfl))
          try simp only [Act.put, List.setIfInBounds_toArray, List.set_cons_zero, List.set_cons_succ]
          refine takeR (i := 2) (d := some 68) (v := ?vT44) rfl rfl rfl (by kernel_rfl) (by kernel_rfl) (by kernel_rfl) (fun _ _ _ h => h) ⟨Or.inl ⟨by rfl, ?hyT44⟩, fun _ => rfl⟩ ?rsT44
          case hyT44 => (intro w; go_simp; (try with_reducible rfl))
          try simp only [Act.put, List.setIfInBounds_toArray, List.set_cons_zero, List.set_cons_succ]
          refine takeR (i := 3) (d := some 69) (v := ?vT45) rfl rfl rfl (by kernel_rfl) (by kernel_rfl) (by kernel_rfl) (fun _ _ _ h => h) ⟨Or.inl ⟨by rfl, ?hyT45⟩, fun _ => rfl⟩ ?rsT45
          case hyT45 => (intro w; go_simp; (try with_reducible rfl))
          try simp only [Act.put, List.setIfInBounds_toArray, List.set_cons_zero, List.set_cons_succ]
          refine takeR (i := 4) (d := some 70) (v := ?vT46) rfl rfl rfl (by kernel_rfl) (by kernel_rfl) (by kernel_rfl) (fun _ _ _ h => h) ⟨Or.inl ⟨by rfl, ?hyT46⟩, fun _ => rfl⟩ ?rsT46
          case hyT46 => (intro w; go_simp; (try with_reducible rfl))
          try simp only [Act.put, List.setIfInBounds_toArray, List.set_cons_zero, List.set_cons_succ]
          refine takeR (i := 5) (d := some 71) (v := ?vT47) rfl rfl rfl (by kernel_rfl) (by kernel_rfl) (by kernel_rfl) (fun _ _ _ h => h) ⟨Or.inl ⟨by rfl, ?hyT47⟩, fun _ => rfl⟩ ?rsT47
          case hyT47 => (intro w; go_simp; (try with_reducible rfl))
          try simp only [Act.put, List.setIfInBounds_toArray, List.set_cons_zero, List.set_cons_succ]
          refine takeR (i := 6) (d := some 72) (v := ?vT48) rfl rfl rfl (by kernel_rfl) (by kernel_rfl) (by kernel_rfl) (fun _ _ _ h => h) ⟨Or.inl ⟨by rfl, ?hyT48⟩, fun _ => rfl⟩ ?rsT48
          case hyT48 => (intro w; go_simp; (try with_reducible rfl))
          try simp only [Act.put, List.setIfInBounds_toArray, List.set_cons_zero, List.set_cons_succ]
          refine wpAnyIn_ready (rs := [0, 7]) (by kernel_rfl) (by simp) (AllReadyIn.cons rfl (fun K hK => ?b65) (AllReadyIn.cons rfl (fun K hK => ?b66) AllReadyIn.nil))
          case b65 =>
            go_simp
            refine hK _ _ ?_
            clear hK K
            try simp only [Act.put, List.setIfInBounds_toArray, List.set_cons_zero, List.set_cons_succ]
            refine wpAnyIn_ready (rs := [7]) (by kernel_rfl) (by simp) (AllReadyIn.cons rfl (fun K hK => ?b54) AllReadyIn.nil)
            case b54 =>
              go_simp
              refine hK _ _ ?_
              clear hK K
              try simp only [Act.put, List.setIfInBounds_toArray, List.set_cons_zero, List.set_cons_succ]
              refine takeR (i := 8) (d := some 74) (v := ?vT49) rfl rfl rfl (by kernel_rfl) (by kernel_rfl) (by kernel_rfl) (fun _ _ _ h => h) ⟨Or.inl ⟨by rfl, ?hyT49⟩, fun _ => rfl⟩ ?rsT49
              case hyT49 => (intro w; go_simp; (try with_reducible rfl))
              try simp only [Act.put, List.setIfInBounds_toArray, List.set_cons_zero, List.set_cons_succ]
              refine takeR (i := 9) (d := some 75) (v := ?vT50) rfl rfl rfl (by kernel_rfl) (by kernel_rfl) (by kernel_rfl) (fun _ _ _ h => h) ⟨Or.inl ⟨by rfl, ?hyT50⟩, fun _ => rfl⟩ ?rsT50
              case hyT50 => (intro w; go_simp; (try with_reducible rfl))
              try simp only [Act.put, List.setIfInBounds_toArray, List.set_cons_zero, List.set_cons_succ]
              refine wpAnyIn_ready (rs := [10]) (by kernel_rfl) (by simp) (AllReadyIn.cons rfl (fun K hK => ?b53) AllReadyIn.nil)
              case b53 =>
                go_simp
                refine hK _ _ ?_
                clear hK K
                try simp only [Act.put, List.setIfInBounds_toArray, List.set_cons_zero, List.set_cons_succ]
                refine wpAnyIn_ready (rs := [11]) (by kernel_rfl) (by simp) (AllReadyIn.cons rfl (fun K hK => ?b52) AllReadyIn.nil)
                case b52 =>
                  obtain ⟨g7, n7, cap7, W7, hr7, k7, kf7, HE7⟩ := HAP.out
                  rw [if_pos (by rfl)]
                  refine wpIn_append_hr (.tmp 66) (.tmp 76) 46 (some 77) rfl rfl _ _ rfl rfl hr7 ?_
                  refine hK _ _ ?_
                  clear hK K
                  try simp only [Act.put, List.setIfInBounds_toArray, List.set_cons_zero, List.set_cons_succ]
                  refine wpAnyIn_ready (rs := [12]) (by kernel_rfl) (by simp) (AllReadyIn.cons rfl (fun K hK => ?b51) AllReadyIn.nil)
                  case b51 =>
                    go_simp
                    refine hK _ _ ?_
                    clear hK K
                    try simp only [Act.put, List.setIfInBounds_toArray, List.set_cons_zero, List.set_cons_succ]
                    refine wpAnyIn_done (by kernel_rfl) ?_ _
                    gi_wp2
                    exact HE7.out
          case b66 =>
            go_simp
            refine hK _ _ ?_
            clear hK K
            try simp only [Act.put, List.setIfInBounds_toArray, List.set_cons_zero, List.set_cons_succ]
            refine takeR (i := 8) (d := some 74) (v := ?vT55) rfl rfl rfl (by kernel_rfl) (by kernel_rfl) (by kernel_rfl) (fun _ _ _ h => h) ⟨Or.inl ⟨by rfl, ?hyT55⟩, fun _ => rfl⟩ ?rsT55
            case hyT55 => (intro w; go_simp; (try with_reducible rfl))
            try simp only [Act.put, List.setIfInBounds_toArray, List.set_cons_zero, List.set_cons_succ]
            refine takeR (i := 9) (d := some 75) (v := ?vT56) rfl rfl rfl (by kernel_rfl) (by kernel_rfl) (by kernel_rfl) (fun _ _ _ h => h) ⟨Or.inl ⟨by rfl, ?hyT56⟩, fun _ => rfl⟩ ?rsT56
            case hyT56 => (intro w; go_simp; (try with_reducible rfl))
            try simp only [Act.put, List.setIfInBounds_toArray, List.set_cons_zero, List.set_cons_succ]
            refine wpAnyIn_ready (rs := [0, 10]) (by kernel_rfl) (by simp) (AllReadyIn.cons rfl (fun K hK => ?b63) (AllReadyIn.cons rfl (fun K hK => ?b64) AllReadyIn.nil))
            case b63 =>
              go_simp
              refine hK _ _ ?_
              clear hK K
              try simp only [Act.put, List.setIfInBounds_toArray, List.set_cons_zero, List.set_cons_succ]
              refine wpAnyIn_ready (rs := [10]) (by kernel_rfl) (by simp) (AllReadyIn.cons rfl (fun K hK => ?b59) AllReadyIn.nil)
              case b59 =>
                go_simp
                refine hK _ _ ?_
                clear hK K
                try simp only [Act.put, List.setIfInBounds_toArray, List.set_cons_zero, List.set_cons_succ]
                refine wpAnyIn_ready (rs := [11]) (by kernel_rfl) (by simp) (AllReadyIn.cons rfl (fun K hK => ?b58) AllReadyIn.nil)
                case b58 =>
                  obtain ⟨g7, n7, cap7, W7, hr7, k7, kf7, HE7⟩ := HAP.out
                  rw [if_pos (by rfl)]
                  refine wpIn_append_hr (.tmp 66) (.tmp 76) 46 (some 77) rfl rfl _ _ rfl rfl hr7 ?_
                  refine hK _ _ ?_
                  clear hK K
                  try simp only [Act.put, List.setIfInBounds_toArray, List.set_cons_zero, List.set_cons_succ]
                  refine wpAnyIn_ready (rs := [12]) (by kernel_rfl) (by simp) (AllReadyIn.cons rfl (fun K hK => ?b57) AllReadyIn.nil)
                  case b57 =>
                    go_simp
                    refine hK _ _ ?_
                    clear hK K
                    try simp only [Act.put, List.setIfInBounds_toArray, List.set_cons_zero, List.set_cons_succ]
                    refine wpAnyIn_done (by kernel_rfl) ?_ _
                    gi_wp2
                    exact HE7.out
            case b64 =>
              go_simp
              refine hK _ _ ?_
              clear hK K
              try simp only [Act.put, List.setIfInBounds_toArray, List.set_cons_zero, List.set_cons_succ]
              refine wpAnyIn_ready (rs := [0]) (by kernel_rfl) (by simp) (AllReadyIn.cons rfl (fun K hK => ?b62) AllReadyIn.nil)
              case b62 =>
                go_simp
                refine hK _ _ ?_
                clear hK K
                try simp only [Act.put, List.setIfInBounds_toArray, List.set_cons_zero, List.set_cons_succ]
                refine wpAnyIn_ready (rs := [11]) (by kernel_rfl) (by simp) (AllReadyIn.cons rfl (fun K hK => ?b61) AllReadyIn.nil)
                case b61 =>
                  obtain ⟨g7, n7, cap7, W7, hr7, k7, kf7, HE7⟩ := HAP.out
                  rw [if_pos (by rfl)]
                  refine wpIn_append_hr (.tmp 66) (.tmp 76) 46 (some 77) rfl rfl _ _ rfl rfl hr7 ?_
                  refine hK _ _ ?_
                  clear hK K
                  try simp only [Act.put, List.setIfInBounds_toArray, List.set_cons_zero, List.set_cons_succ]
                  refine wpAnyIn_ready (rs := [12]) (by kernel_rfl) (by simp) (AllReadyIn.cons rfl (fun K hK => ?b60) AllReadyIn.nil)
                  case b60 =>
                    go_simp
                    refine hK _ _ ?_
                    clear hK K
                    try simp only [Act.put, List.setIfInBounds_toArray, List.set_cons_zero, List.set_cons_succ]
                    refine wpAnyIn_done (by kernel_rfl) ?_ _
                    gi_wp2
                    exact HE7.out
    · have hsh : (Tr.leaf x.rs x.h st).sm.shown = 0 := by
        show (if 0 < x.h then (0 : Int) else (x.rs.length : Int)) = _
        rw [if_pos (by omega)]
      rw [hsh] at HS
      refine ⟨trivial, CallsIn.inRound _ ((callsIn_wide.2 HS).mono ?_)⟩
      rintro e W2 ⟨rfl, hb2⟩
      clear c0 c1 c2 c3 c4 c5 c6 c7 c8 c9 HS
      gi_wp2
      refine ⟨keepsFrom_below hb2, KpT.below hb2, ?_⟩
      refine ⟨⟨v, (hb2.block _ (Array.getElem?_eq_some_iff.1 hv).1).trans hv, ?_⟩, (hb2.block _ (Array.getElem?_eq_some_iff.1 hr1).1).trans hr1, (hb2.block _ (Array.getElem?_eq_some_iff.1 hr2).1).trans hr2, hB.trans (hb2.mono hB.size)⟩
      rw [HST.out, vst_hid (y := (x.at_, x.rs, x.h)) (show ¬ x.h ≤ 0 by omega)]
      exact hown.below hb2
  case done =>
    rintro De ys W hD hS hI hKd
    rw [hS] at hI
    obtain ⟨⟨v, hv, hown⟩, hr1, hr2, hB⟩ := hI
    obtain ⟨av, cv, rfl⟩ := hown.shape
    generalize hLL : (gv t.lv 0 F T).foldl vst [] = LL at *
    have r0 : W.cell? ⟨w0.heap.size, 0, none⟩ = some (.slice av LL.length cv) := by rw [Lib.cell_of_heap hv]; rfl
    have r1 : W.cell? ⟨w.heap.size, 0, none⟩ = some (.slice none 0 0) := by rw [Lib.cell_of_heap hr1]; rfl
    have r2 : W.cell? ⟨w.heap.size + 1, 0, none⟩ = some (.int .i64 0) := by rw [Lib.cell_of_heap hr2]; rfl
    have f1 : W.frozen? ⟨w.heap.size, 0, none⟩ = false := Lib.frozen_of_heap hr1 0
    have f2 : W.frozen? ⟨w.heap.size + 1, 0, none⟩ = false := Lib.frozen_of_heap hr2 0
    gi_wp2
    obtain ⟨hv1, hg1⟩ := set_box hr1 (.slice av LL.length cv)
    have hlw0 : w.heap.size + 1 < w0.heap.size := (Array.getElem?_eq_some_iff.1 HR0.out.2).1
    generalize W.setCell ⟨w.heap.size, 0, none⟩ (.slice av LL.length cv) = Wa at *
    have hr2a := (hg1.block _ (Array.getElem?_eq_some_iff.1 hr2).1 (by simp)).trans hr2
    obtain ⟨hv2, hg2⟩ := set_box hr2a (.int .i64 0)
    generalize Wa.setCell ⟨w.heap.size + 1, 0, none⟩ (.int .i64 0) = Wb at *
    have hv1b := (hg2.block _ (Array.getElem?_eq_some_iff.1 hv1).1 (by simp)).trans hv1
    have hDa := (hg1.block _ (Array.getElem?_eq_some_iff.1 hKd).1 (fun e => by cases e; rw [hr1] at hKd; cases hKd)).trans hKd
    have hDb := (hg2.block _ (Array.getElem?_eq_some_iff.1 hDa).1 (fun e => by cases e; rw [hr2a] at hDa; cases hDa)).trans hDa
    have hBb : Below w.heap.size w Wb := (hB.grown hg1 hB.size (fun k hk => by cases hk; exact Nat.le_refl _)).grown hg2 (Nat.le_trans hB.size hg1.size) (fun k hk => by cases hk; omega)
    have hob := ownF_grown (ownF_grown hown hg1 (.inr (fun e => by have := hown.ge e; omega))) hg2 (.inr (fun e => by have := hown.ge e; omega))
    refine ⟨by simp, .inl ⟨_, _, rfl, run_takeDeferred hDb, ?_⟩⟩
    have hgD := grownBy_putObj' Wb De (.deferred none)
    generalize hWc : Wb.putObj De (.deferred none) = Wc at *
    have hc1 := (hgD.block _ (Array.getElem?_eq_some_iff.1 hv1b).1 (fun e => by cases e; rw [hv1b] at hDb; cases hDb)).trans hv1b
    have hc2 := (hgD.block _ (Array.getElem?_eq_some_iff.1 hv2).1 (fun e => by cases e; rw [hv2] at hDb; cases hDb)).trans hv2
    have kc1 : Wc.cell? ⟨w.heap.size, 0, none⟩ = some (.slice av LL.length cv) := by rw [Lib.cell_of_heap hc1]; rfl
    have kc2 : Wc.cell? ⟨w.heap.size + 1, 0, none⟩ = some (.int .i64 0) := by rw [Lib.cell_of_heap hc2]; rfl
    refine ⟨.tuple #[.slice av LL.length cv, .int .i64 0], ?_, _, rfl, ?_, ?_⟩
    · rw [results_cells2 rfl]
      go_simp
    · rw [hLL]
      exact (ownF_grown hob hgD (.inr (fun e => by obtain ⟨cs, fz, hx⟩ := ownF_type hob e; rw [hDb] at hx; cases hx))).mono (by omega)
    · exact hBb.grown hgD hBb.size (fun k hk => by cases hk; have := hB1.size; omega)
  case stop =>
    rintro D c pre W hD hSp hf hKd
    exact hf.elim
end Go.Proofs.YtggdocnnbgcniaaDoor
