import Derived.Test.YtcmefibipoidhaaDoorRsE
import Derived.OrdersIn
import Derived.Test.YtcmefibipoidhaaDoorRwA
import Derived.Test.YtcmefibipoidhaaDoorRrEJ
import Derived.Sort.CutIn
import Derived.Sort.QuietTacIn
import Derived.Test.YtcmefibipoidhaaDoorRtH
import Derived.Test.YtcmefibipoidhaaDoorRrPI
import Derived.Test.YtcmefibipoidhaaDoorRrKN
/-! A region that draws its order and writes, in a round of a loop over an iterator. -/
namespace Go.Proofs.YtcmefibipoidhaaDoor
open Go.RowKit Go.Lib Go.Shelf Go.Sort
set_option maxRecDepth 100000

section
variable {F : Fence} {n : Nat} {P : Program} {md : Region.Mode} {ops : Array Oper} {Q : Exit → Act → World → Prop}
theorem wpIn_plain {o : Oper} (hp : plainOp o = true) (l : Nat) {K : Act → World → Prop} {a : Act} {w : World} (h : o.wpIn F n P a w K Q) : o.wpIn (F.inRound l) n P a w K Q := by
  refine ⟨h.1, ?_⟩
  have h2 := h.2
  rw [Oper.semAt_eq _ _ _ (plainOp_ne hp)] at h2 ⊢
  exact h2
theorem wpAnyIn_round (hp : ∀ (i : Nat) o, ops[i]? = some o → plainOp o = true) (l : Nat) : ∀ (fuel : Nat) (listed : Array Bool) (a : Act) (w : World),
    wpAnyIn F n P md ops Q fuel listed a w → wpAnyIn (F.inRound l) n P md ops Q fuel listed a w
  | 0, _, _, _, h => h
  | fuel + 1, listed, a, w, h => by
    refine ⟨h.1, fun i hi => ?_⟩
    have h1 := wpOpIn_mono (fun a' w' h' => wpAnyIn_round hp l fuel (listed.setIfInBounds i true) a' w' h') (h.2 i hi)
    unfold wpOpIn at h1 ⊢
    cases e : ops[i]? with
    | none => rw [e] at h1; exact h1
    | some o =>
      rw [e] at h1
      simp only at h1 ⊢
      split
      · rename_i hw
        rw [if_pos hw] at h1
        exact wpIn_plain (hp i o e) l h1
      · rename_i hw
        rw [if_neg hw] at h1
        exact h1
theorem region_round {id l : Nat} {a : Act} {w : World} {os : List Oper} (hp : os.all plainOp = true) (hm : P.follows .mixedOrders = true)
    (h : wpAnyIn F n P .any os.toArray Q os.toArray.size (Array.replicate os.toArray.size false) a w.drew) : (Code.region id os.toArray true).wpIn (F.inRound l) n P Q a w :=
  wpIn_region_any hm (wpAnyIn_round (fun i o ho => by
    refine List.all_eq_true.1 hp o ?_
    rw [List.getElem?_toArray] at ho
    exact List.mem_of_getElem? ho) l _ _ _ _ h)
theorem takeR {i : Nat} {oi : Oper} {d : Option Nat} {v : Value} {fuel : Nat} {listed : Array Bool} {a : Act} {w : World} (hF : F.round = none) (hi : ops[i]? = some oi) (hd : oi.dst = d)
    (hs : Region.noSelect ops = true) (hf : Region.free md ops listed i = true) (hr : (Region.ready md ops listed).contains i = true)
    (hQ : ∀ c a w, Q (.panic c) (a.put oi.dst v) w → Q (.panic c) a w) (hy : YieldsFenced P ops oi v a)
    (h : wpAnyIn F n P md ops Q fuel (listed.setIfInBounds i true) (a.put d v) w) : wpAnyIn F n P md ops Q (fuel + 1) listed a w := by
  subst hd
  exact wpAnyIn_take hF hi hs hf hr hQ hy h
end
end Go.Proofs.YtcmefibipoidhaaDoor

/-! The rope's Visible. -/
namespace Go.Proofs.YtcmefibipoidhaaDoor
open Go.RowKit Go.Lib Go.Shelf Go.Sort
set_option maxRecDepth 100000
attribute [local go_sem] Oper.semAt_some

theorem results_cells2 {fn : Func} {p u : Tmp} {s t : TypeId} (h : fn.results = #[.cell p s, .cell u t]) (tmps : Array Value) (P : Program) (w : World) :
    (results fn tmps).run P w = ((asAddr (tmps.getD p undef)).run P w).andThen fun a w₁ => ((loadVar s a).run P w₁).andThen fun v w₂ => ((asAddr (tmps.getD u undef)).run P w₂).andThen fun b w₃ => ((loadVar t b).run P w₃).andThen fun x w₄ => .ok (.tuple #[v, x]) w₄ := by
  simp only [results, h]
  simp [Sem.run_bind, Result.andThen]
theorem set_grown (W : World) (b i : Nat) (x : Value) : W.grownBy (W.setCell ⟨b, i, none⟩ x) (some b) := ⟨rfl, rfl, rfl, by simp [World.setCell], fun k hk hne => Below.heap_setCell _ _ _ _ (fun e => hne (by rw [e]))⟩
theorem vfold_len : ∀ (ys : List (Int × List Int × Int)) (l : List (Int × Int)), (ys.foldl vst l).length ≤ l.length + ys.length
  | [], l => by simp
  | y :: ys, l => by
    have h1 : (vst l y).length ≤ l.length + 1 := by
      unfold vst
      split
      · split
        · split
          · simp
          · simp
        · simp
      · omega
    have h2 := vfold_len ys (vst l y)
    rw [List.foldl_cons, List.length_cons]
    omega
theorem cont_len : ∀ (ys : List (Int × List Int × Int)) (P : Int), Cont P ys → ys.length ≤ (cellsG ys).length
  | [], _, _ => Nat.le_refl _
  | y :: ys, P, h => by
    have h1 := cont_len ys _ h.2.2
    have h2 := List.length_pos_iff.2 h.2.1
    have e : cellsG (y :: ys) = (y.2.1.map fun c => (c, y.2.2)) ++ cellsG ys := by simp [cellsG]
    rw [e, List.length_append, List.length_map, List.length_cons]
    omega
theorem gv_len (l : List (List Int × Int)) (F T : Int) : (gv l 0 F T).length ≤ (rowOf l).length := by
  have h := cont_len _ _ (gv_cont l 0 F T)
  rw [gv_cells, List.length_drop, List.length_take] at h
  omega
theorem gv_at : ∀ (l : List (List Int × Int)) (f lo hi : Int), ∀ y ∈ gv l f lo hi, f ≤ y.1 ∧ y.1 + y.2.1.length ≤ f + (rowOf l).length
  | [], _, _, _, y, hy => by cases hy
  | p :: t, f, lo, hi, y, hy => by
    have e : ((rowOf (p :: t)).length : Int) = p.1.length + (rowOf t).length := by rw [rowOf_cons, List.length_append, List.length_map]; omega
    rw [e]
    rcases List.mem_append.1 hy with hy | hy
    · unfold one at hy
      split at hy
      · simp at hy
        subst hy
        simp only [List.length_drop, List.length_take]
        omega
      · cases hy
    · have := gv_at t _ lo hi y hy
      omega
/-- Where Visible stands: its list's box, the list, the boxes of what it hands back. -/
def VisI (w w0 : World) (ys : List (Int × List Int × Int)) (W : World) : Prop :=
  (∃ v, W.heap[w0.heap.size]? = some (.cells #[v] 44) ∧ OwnF pieceV 2 90 W (w0.heap.size + 1) v (ys.foldl vst [])) ∧ W.heap[w.heap.size]? = some (.cells #[.slice none 0 0] 44) ∧ W.heap[w.heap.size + 1]? = some (.cells #[.int .i64 0] 29) ∧ Below w.heap.size w W
theorem visI_keep {w w0 : World} {B : Nat} (hB : w.heap.size ≤ B) {ys : List (Int × List Int × Int)} {A C : World} {row : Option Nat} (h : VisI w w0 ys A) (hg : A.grownBy C row) (hr : ∀ r, row = some r → B ≤ r ∧ ∃ o : Obj, A.heap[r]? = some o ∧ o.isCells = false) (hA : w.heap.size ≤ A.heap.size) : VisI w w0 ys C := by
  obtain ⟨⟨v, h3, h4⟩, h1, h2, h5⟩ := h
  have key : ∀ (b : Nat) (cs : Array Value) (T : TypeId), A.heap[b]? = some (.cells cs T) → C.heap[b]? = some (.cells cs T) := fun b cs T hb => (hg.block b (Array.getElem?_eq_some_iff.1 hb).1 (fun e => by
    obtain ⟨_, o, ho, hc⟩ := hr b e.symm
    rw [hb] at ho
    cases ho
    simp [Obj.isCells] at hc)).trans hb
  refine ⟨⟨v, key _ _ _ h3, ownF_keep h4 (fun g e => ?_)⟩, key _ _ _ h1, key _ _ _ h2, h5.grown hg hA (fun k e => by have := (hr k e).1; omega)⟩
  obtain ⟨cs, fz, hh⟩ := ownF_type h4 e
  exact hg.block g (h4.lt e) (fun e2 => by
    obtain ⟨_, o, ho, hc⟩ := hr g e2.symm
    rw [hh] at ho
    cases ho
    simp [Obj.isCells] at hc)
set_option maxHeartbeats 16000000 in
theorem visible_any {w : World} {q : Nat} {t : Tr} (h : RopeAt w q t) (hR : t.Rp) (hO : Okl t.lv) (hsm : t.row.length ≤ 31000) (lo hi F T : Int)
    (hst : ∀ W, Below w.heap.size w W → Calls Tryd.prog 40 #[.pointer (some ⟨q, 0, none⟩), .int .i64 lo, .int .i64 hi] W fun e w' => e = .returned (.tuple #[.int .i64 F, .int .i64 T, .int .i64 0]) ∧ Below W.heap.size W w') :
    Calls Tryd.prog 18 #[.pointer (some ⟨q, 0, none⟩), .int .i64 lo, .int .i64 hi] w fun e w' => ∃ v, e = .returned (.tuple #[v, .int .i64 0]) ∧ OwnF pieceV 2 90 w' w.heap.size v ((gv t.lv 0 F T).foldl vst []) ∧ Below w.heap.size w w' := by
  refine (callsIn_wide (n := 6)).1 ?_
  have HST : Hid (∀ W, Below w.heap.size w W → Calls Tryd.prog 40 #[.pointer (some ⟨q, 0, none⟩), .int .i64 lo, .int .i64 hi] W fun e w' => e = .returned (.tuple #[.int .i64 F, .int .i64 T, .int .i64 0]) ∧ Below W.heap.size W w') := hst
  have HP : Hid (∀ W, Below w.heap.size w W → Calls Tryd.prog 30 #[.pointer (some ⟨q, 0, none⟩), .int .i64 F, .int .i64 T] W fun e w' => ∃ lb, e = .returned (.func (.func 50) #[] lb) ∧ Below W.heap.size W w' ∧
      ∀ n, SeqV Fence.wide n Tryd.prog 50 lb Pc.encs KpT Pc.V (fun xs => xs.map Pc.dat = gv t.lv 0 F T) (fun xs => xs.map Pc.dat <+: gv t.lv 0 F T) w') := fun W hW => pieces_any (h.below hW) hR hO F T
  clear h hR hO hst
  refine callsIn_of_wp_marks Tryd.func18 rfl trivial ?_ rfl
  simp only [Tryd.ntmps18, List.size_toArray, List.length_cons, List.length_nil, Nat.reduceAdd, Nat.reduceSub, Array.replicate_succ, Array.replicate_zero, List.push_toArray, List.append_toArray, List.nil_append, List.cons_append]
  gi_wp2
  obtain ⟨wa, ewa⟩ : ∃ W, (w.alloc (.cells #[.slice none 0 0] 44)).alloc (.cells #[.int .i64 0] 29) = W := ⟨_, rfl⟩
  have hba : Below w.heap.size w wa := ewa ▸ (((Below.refl _ w).alloc (Nat.le_refl _) _).alloc (by simp) _)
  have hra : wa.heap[w.heap.size]? = some (.cells #[.slice none 0 0] 44) ∧ wa.heap[w.heap.size + 1]? = some (.cells #[.int .i64 0] 29) := by
    rw [← ewa]
    constructor
    · simp only [World.alloc, Array.getElem?_push, Array.size_push]
      rw [if_neg (by omega), if_pos trivial]
    · simp only [World.alloc, Array.getElem?_push, Array.size_push]; simp
  rw [ewa]
  refine ⟨trivial, (callsIn_wide.2 (HST.out _ hba)).mono ?_⟩
  rintro e w0 ⟨rfl, hb0⟩
  have hB0 : Below w.heap.size w w0 := hba.trans (hb0.mono hba.size)
  have hr0 : w0.heap[w.heap.size]? = some (.cells #[.slice none 0 0] 44) ∧ w0.heap[w.heap.size + 1]? = some (.cells #[.int .i64 0] 29) := ⟨(hb0.block _ (Array.getElem?_eq_some_iff.1 hra.1).1).trans hra.1, (hb0.block _ (Array.getElem?_eq_some_iff.1 hra.2).1).trans hra.2⟩
  have HR0 : Hid (w0.heap[w.heap.size]? = some (.cells #[.slice none 0 0] 44) ∧ w0.heap[w.heap.size + 1]? = some (.cells #[.int .i64 0] 29)) := hr0
  clear ewa hba hra hb0 hr0
  gi_wp2
  have hbl : Below w.heap.size w (w0.alloc (.cells #[.slice none 0 0] 44)) := hB0.alloc hB0.size _
  refine ⟨trivial, (callsIn_wide.2 (HP.out _ hbl)).mono ?_⟩
  rintro e w1 ⟨lb, rfl, hb1, hseq⟩
  have hB1 : Below w.heap.size w w1 := hbl.trans (hb1.mono hbl.size)
  have hnew := World.alloc_heap_new w0 (.cells #[.slice none 0 0] 44)
  have hl1 : w0.heap.size < w1.heap.size := (Array.getElem?_eq_some_iff.1 ((hb1.block _ (Array.getElem?_eq_some_iff.1 hnew).1).trans hnew)).1
  have hR1 : w1.heap[w.heap.size]? = some (.cells #[.slice none 0 0] 44) ∧ w1.heap[w.heap.size + 1]? = some (.cells #[.int .i64 0] 29) := by
    have h1 := (Array.getElem?_eq_some_iff.1 HR0.out.1).1
    have h2 := (Array.getElem?_eq_some_iff.1 HR0.out.2).1
    have hb01 : Below w0.heap.size w0 w1 := ((Below.refl _ w0).alloc (Nat.le_refl _) _).trans (hb1.mono (by simp))
    exact ⟨(hb01.block _ h1).trans HR0.out.1, (hb01.block _ h2).trans HR0.out.2⟩
  have hI1 : VisI w w0 [] w1 := ⟨⟨.slice none 0 0, (hb1.block _ (Array.getElem?_eq_some_iff.1 hnew).1).trans hnew, ownF_nil _ _⟩, hR1.1, hR1.2, hB1⟩
  clear hnew hb1 hbl
  gi_wp2
  refine rangeV (α := Pc) rfl rfl (by decide) (gf := 50) (lb := lb) rfl trivial (enters_of Tryd.func50 (by kernel_rfl) rfl) (hseq 5) KpT.trans kpT_b (Below.refl _ _) (fun _ => rfl)
    (fun (pre : List Pc) W => VisI w w0 (pre.map Pc.dat) W) (fun _ _ _ => False)
    (fun s X Y row hs hg hr => visI_keep (B := w1.heap.size) hB1.size hs hg hr hs.2.2.2.size)
    (fun c s X Y row hs hg hr => hs) (fun x => pc_own _ x) hI1
    (fun x => { tmps := #[.pointer (some ⟨q, 0, none⟩), .int .i64 lo, .int .i64 hi, undef, undef, undef, .pointer (some ⟨w.heap.size, 0, none⟩), .pointer (some ⟨w.heap.size + 1, 0, none⟩), .int .i64 F, .int .i64 T, .int .i64 0, .pointer (some ⟨w0.heap.size, 0, none⟩), .int .i64 x.at_, .pointer (some ⟨x.g, 0, none⟩), undef, .tuple #[.int .i64 F, .int .i64 T, .int .i64 0], .pointer (some ⟨q, 0, none⟩), .int .i64 lo, .int .i64 hi, .tuple #[.int .i64 F, .int .i64 T, .int .i64 0], .int .i64 F, .int .i64 T, .int .i64 0, .int .i64 0, .bool false, undef, .pointer (some ⟨q, 0, none⟩), .int .i64 F, .int .i64 T, .func (.func 50) #[] lb, .int .i64 x.at_, .pointer (some ⟨x.g, 0, none⟩), undef, undef, undef, undef, undef, undef, undef, undef, undef, undef, undef, undef, undef, undef, undef, undef, undef, undef, undef, undef, undef, undef, undef, undef, undef, undef, undef, undef, undef, undef, undef, undef, undef, undef, undef, undef, undef, undef, undef, undef, undef, undef, undef, undef, undef, undef, undef], defers := [] }) ?assign ?body ?done ?stop
  case assign =>
    intro lp x W K hK
    simp only [Pc.encs]
    gi_wp2
    exact hK
  case body =>
    rintro lp pre x W hI ⟨st, hA, hfine, h32, _⟩ hsp
    have hne : 0 < x.rs.length := by have := hfine.wf.pos; simpa [Tr.row] using this
    have hfl := vfold_len (pre.map Pc.dat) []
    have hsl := hsp.length_le
    have hgl := gv_len t.lv F T
    have hat := gv_at t.lv 0 F T x.dat (hsp.subset (by simp))
    rw [← Tr.row_lv] at hgl hat
    have hat0 : 0 ≤ x.at_ ∧ x.at_ + (x.rs.length : Int) ≤ 31000 := by have h1 : 0 ≤ x.at_ ∧ x.at_ + (x.rs.length : Int) ≤ 0 + (t.row.length : Int) := hat; omega
    have u5 : IntKind.i64.wrap (x.at_ + (x.rs.length : Int)) = x.at_ + (x.rs.length : Int) := IntWalk.i64_in _ (by omega)
    clear hat
    have HST : Hid (((pre ++ [x]).map Pc.dat).foldl vst [] = vst ((pre.map Pc.dat).foldl vst []) (x.at_, x.rs, x.h)) := by
      show _ = _
      rw [List.map_append, List.foldl_append]
      rfl
    simp only [List.length_map, List.length_append, List.length_cons, List.length_nil] at hfl hsl
    obtain ⟨⟨v, hv, hown⟩, hr1, hr2, hB⟩ := hI
    generalize hlst : (pre.map Pc.dat).foldl vst [] = l at *
    have hll : l.length + 1 ≤ 32000 := by omega
    clear hfl hsl hgl hlst hsp hfine h32
    obtain ⟨c0, c1, c2, c3, c4, c5, c6, c7, c8, c9⟩ := hA.ten
    have HS := smShown_any (Tr.leaf x.rs x.h st).sm W
    have HA : Hid (At W (Tr.leaf x.rs x.h st) x.g) := hA
    clear hA
    gi_wp2
    by_cases hh : x.h ≤ 0
    · have hsh : (Tr.leaf x.rs x.h st).sm.shown = (x.rs.length : Int) := by
        show (if 0 < x.h then (0 : Int) else (x.rs.length : Int)) = _
        rw [if_neg (by omega)]
      rw [hsh] at HS
      refine ⟨trivial, CallsIn.inRound _ ((callsIn_wide.2 HS).mono ?_)⟩
      rintro e W2 ⟨rfl, hb2⟩
      clear c0 c1 c2 c3 c4 c5 c6 c7 c8 c9 HS hsh
      have hAt := HA.out.below hb2
      have hv2 := (hb2.block _ (Array.getElem?_eq_some_iff.1 hv).1).trans hv
      have hr12 := (hb2.block _ (Array.getElem?_eq_some_iff.1 hr1).1).trans hr1
      have hr22 := (hb2.block _ (Array.getElem?_eq_some_iff.1 hr2).1).trans hr2
      have hown2 := hown.below hb2
      have hB2 : Below w.heap.size w W2 := hB.trans (hb2.mono hB.size)
      have hk : KpT W W2 := KpT.below hb2
      have hf : KeepsFrom w1.heap.size W W2 := keepsFrom_below hb2
      clear hv hr1 hr2 hown hB hb2 HA
      have b0 : ((x.rs.length : Int) == 0) = false := by rw [beq_eq_false_iff_ne]; omega
      have r2 : W2.cell? ⟨w0.heap.size, 0, none⟩ = some v := by rw [Lib.cell_of_heap hv2]; rfl
      obtain ⟨av, cv, rfl⟩ := hown2.shape
      have bm : ((l.length : Int) == 32768) = false := by rw [beq_eq_false_iff_ne]; omega
      rcases List.eq_nil_or_concat l with rfl | ⟨l', r, rfl⟩
      · have HV : Hid (vst [] (x.at_, x.rs, x.h) = [] ++ [(x.at_, x.at_ + (x.rs.length : Int))]) := vst_one (y := (x.at_, x.rs, x.h)) hh (fun r h => by cases h)
        simp only [List.length_nil] at hv2 hown2 r2 bm hll
        have HAP : Hid (∃ g7 n7 cap7 W7, (Builtin.append_ #[44, 44] 44 #[.slice av 0 cv, .slice (some ⟨W2.heap.size, 0, none⟩) 1 1]).run Tryd.prog (W2.drew.alloc (.cells #[.int .i64 x.at_, .int .i64 (x.at_ + (x.rs.length : Int))] 90)) = .ok (.slice (some ⟨g7, 0, none⟩) n7 cap7) W7 ∧ W7.cell? ⟨w0.heap.size, 0, none⟩ = some (.slice av 0 cv) ∧ W7.frozen? ⟨w0.heap.size, 0, none⟩ = false ∧ Hid (KeepsFrom w1.heap.size W (W7.setCell ⟨w0.heap.size, 0, none⟩ (.slice (some ⟨g7, 0, none⟩) n7 cap7)) ∧ KpT W (W7.setCell ⟨w0.heap.size, 0, none⟩ (.slice (some ⟨g7, 0, none⟩) n7 cap7)) ∧ VisI w w0 ((pre ++ [x]).map Pc.dat) (W7.setCell ⟨w0.heap.size, 0, none⟩ (.slice (some ⟨g7, 0, none⟩) n7 cap7)))) := by
          have hvd : W2.drew.heap[w0.heap.size]? = _ := hv2
          obtain ⟨g7, cap7, W7, hr7, ho7, hb7, hkp7, hsz7, hat7⟩ := appendF_one kindRg layP (hown2.below ((Below.refl _ _).drew)) (by have := (Array.getElem?_eq_some_iff.1 hvd).1; omega) (x.at_, x.at_ + (x.rs.length : Int)) #[.int .i64 x.at_, .int .i64 (x.at_ + (x.rs.length : Int))] rfl 90 (by simp; try omega) (by simp; try omega) 44
          have hg7 : W2.drew.grownBy W7 (Value.slice av _ cv).ownBlock := ⟨hb7.os, hb7.tape, hb7.output, hb7.size, fun k hk hne => hkp7 k hk (fun e => hne e.symm)⟩
          have hne7 : ∀ (b : Nat) (cs : Array Value) (T : TypeId), W2.drew.heap[b]? = some (.cells cs T) → T ≠ 90 → (Value.slice av _ cv).ownBlock ≠ some b := fun b cs T hb hT e => by obtain ⟨cs2, fz2, hx⟩ := ownF_type (hown2.below ((Below.refl _ _).drew)) e; rw [hb] at hx; cases hx; exact hT rfl
          have hv7 := (hkp7 _ (Array.getElem?_eq_some_iff.1 hvd).1 (hne7 _ _ _ hvd (by decide))).trans hvd
          have h17 := (hkp7 _ (Array.getElem?_eq_some_iff.1 (show W2.drew.heap[_]? = _ from hr12)).1 (hne7 _ _ _ (show W2.drew.heap[_]? = _ from hr12) (by decide))).trans (show W2.drew.heap[_]? = _ from hr12)
          have h27 := (hkp7 _ (Array.getElem?_eq_some_iff.1 (show W2.drew.heap[_]? = _ from hr22)).1 (hne7 _ _ _ (show W2.drew.heap[_]? = _ from hr22) (by decide))).trans (show W2.drew.heap[_]? = _ from hr22)
          have hkT7 : KpT W2.drew W7 := KpT.grown hg7 (fun r o e ho => by obtain ⟨cs, fz, hx⟩ := ownF_type (hown2.below ((Below.refl _ _).drew)) e; rw [hx] at ho; cases ho; exact ⟨fun cs fr e2 => (by cases e2), fun cs fr e2 => (by cases e2)⟩)
          have hws := hB0.size
          have hB7 : Below w.heap.size w W7 := (hB2.drew).trans (hb7.mono (by omega))
          obtain ⟨hv8, hg8⟩ := set_box hv7 (.slice (some ⟨g7, 0, none⟩) (0 + 1) cap7)
          have hlw0 : w.heap.size + 1 < w0.heap.size := (Array.getElem?_eq_some_iff.1 HR0.out.2).1
          refine ⟨g7, _, cap7, W7, hr7, by rw [Lib.cell_of_heap hv7]; rfl, Lib.frozen_of_heap hv7 0, ?_, ?_, ⟨⟨_, hv8, ?_⟩, (hg8.block _ (Array.getElem?_eq_some_iff.1 h17).1 (by simp; omega)).trans h17, (hg8.block _ (Array.getElem?_eq_some_iff.1 h27).1 (by simp; omega)).trans h27, hB7.grown hg8 hB7.size (fun k hk => by cases hk; exact hws)⟩⟩
          · exact hf.trans ((keepsFrom_below ((Below.refl _ _).drew)).trans ((⟨hb7.size, fun k o hB hk ho => (hkp7 k (Array.getElem?_eq_some_iff.1 hk).1 (fun e => by obtain ⟨cs, fz, hx⟩ := ownF_type (hown2.below ((Below.refl _ _).drew)) e; rw [hx] at hk; cases hk; simp [Obj.isCells] at ho)).trans hk⟩ : KeepsFrom w1.heap.size W2.drew W7).trans (KeepsFrom.of_grownBy hg8 (fun j e => by cases e; omega))))
          · exact hk.trans (((KpT.below ((Below.refl _ _).drew)).trans hkT7).trans (KpT.grown hg8 (fun r o e ho => by cases e; rw [hv7] at ho; cases ho; exact ⟨fun cs fr e2 => (by cases e2), fun cs fr e2 => (by cases e2)⟩)))
          · rw [HST.out, HV.out]
            exact ownF_grown ho7 hg8 (.inr (fun e => by have := ho7.ge e; omega))
        have ca : W2.cell? ⟨x.g, 0, none⟩ = some (.int .i64 (x.rs.length : Int)) := hAt.ten.1
        have ra : (W2.alloc (.cells #[.int .i64 x.at_, .int .i64 (x.at_ + (x.rs.length : Int))] 90)).cell? ⟨w0.heap.size, 0, none⟩ = some (.slice av 0 cv) := cell_al r2 _
        clear hAt hv2 hr12 hr22 hown2 hB2 hk hf
        gi_wp2
        refine region_round (F := Fence.wide) (by kernel_rfl) (by kernel_rfl) ?_
        change wpAnyIn _ _ _ _ _ _ _ _ _ W2.drew
        refine takeR (i := 1) (d := some 67) (v := ?vT1) rfl rfl rfl (by kernel_rfl) (by kernel_rfl) (by kernel_rfl) (fun _ _ _ h => h) ⟨Or.inl ⟨by rfl, ?hyT1⟩, fun _ => rfl⟩ ?rsT1
        case hyT1 => (intro w; go_simp; (try with_reducible rfl))
        try simp only [Act.put, List.setIfInBounds_toArray, List.set_cons_zero, List.set_cons_succ]
        refine takeR (i := 2) (d := some 68) (v := ?vT2) rfl rfl rfl (by kernel_rfl) (by kernel_rfl) (by kernel_rfl) (fun _ _ _ h => h) ⟨Or.inl ⟨by rfl, ?hyT2⟩, fun _ => rfl⟩ ?rsT2
        case hyT2 => (intro w; go_simp; (try with_reducible rfl))
        try simp only [Act.put, List.setIfInBounds_toArray, List.set_cons_zero, List.set_cons_succ]
        refine takeR (i := 3) (d := some 69) (v := ?vT3) rfl rfl rfl (by kernel_rfl) (by kernel_rfl) (by kernel_rfl) (fun _ _ _ h => h) ⟨Or.inl ⟨by rfl, ?hyT3⟩, fun _ => rfl⟩ ?rsT3
        case hyT3 => (intro w; go_simp; (try with_reducible rfl))
        try simp only [Act.put, List.setIfInBounds_toArray, List.set_cons_zero, List.set_cons_succ]
        refine takeR (i := 4) (d := some 70) (v := ?vT4) rfl rfl rfl (by kernel_rfl) (by kernel_rfl) (by kernel_rfl) (fun _ _ _ h => h) ⟨Or.inl ⟨by rfl, ?hyT4⟩, fun _ => rfl⟩ ?rsT4
        case hyT4 => (intro w; go_simp; (try with_reducible rfl))
        try simp only [Act.put, List.setIfInBounds_toArray, List.set_cons_zero, List.set_cons_succ]
        refine takeR (i := 5) (d := some 71) (v := ?vT5) rfl rfl rfl (by kernel_rfl) (by kernel_rfl) (by kernel_rfl) (fun _ _ _ h => h) ⟨Or.inl ⟨by rfl, ?hyT5⟩, fun _ => rfl⟩ ?rsT5
        case hyT5 => (intro w; go_simp; (try with_reducible rfl))
        try simp only [Act.put, List.setIfInBounds_toArray, List.set_cons_zero, List.set_cons_succ]
        refine takeR (i := 6) (d := some 72) (v := ?vT6) rfl rfl rfl (by kernel_rfl) (by kernel_rfl) (by kernel_rfl) (fun _ _ _ h => h) ⟨Or.inl ⟨by rfl, ?hyT6⟩, fun _ => rfl⟩ ?rsT6
        case hyT6 => (intro w; go_simp; (try with_reducible rfl))
        try simp only [Act.put, List.setIfInBounds_toArray, List.set_cons_zero, List.set_cons_succ]
        refine wpAnyIn_ready (rs := [0, 7]) (by kernel_rfl) (by simp) (AllReadyIn.cons rfl (fun K hK => ?b23) (AllReadyIn.cons rfl (fun K hK => ?b24) AllReadyIn.nil))
        case b23 =>
          go_simp
          refine hK _ _ ?_
          clear hK K
          try simp only [Act.put, List.setIfInBounds_toArray, List.set_cons_zero, List.set_cons_succ]
          refine wpAnyIn_ready (rs := [7]) (by kernel_rfl) (by simp) (AllReadyIn.cons rfl (fun K hK => ?b12) AllReadyIn.nil)
          case b12 =>
            go_simp
            refine hK _ _ ?_
            clear hK K
            try simp only [Act.put, List.setIfInBounds_toArray, List.set_cons_zero, List.set_cons_succ]
            refine takeR (i := 8) (d := some 74) (v := ?vT7) rfl rfl rfl (by kernel_rfl) (by kernel_rfl) (by kernel_rfl) (fun _ _ _ h => h) ⟨Or.inl ⟨by rfl, ?hyT7⟩, fun _ => rfl⟩ ?rsT7
            case hyT7 => (intro w; go_simp; (try with_reducible rfl))
            try simp only [Act.put, List.setIfInBounds_toArray, List.set_cons_zero, List.set_cons_succ]
            refine takeR (i := 9) (d := some 75) (v := ?vT8) rfl rfl rfl (by kernel_rfl) (by kernel_rfl) (by kernel_rfl) (fun _ _ _ h => h) ⟨Or.inl ⟨by rfl, ?hyT8⟩, fun _ => rfl⟩ ?rsT8
            case hyT8 => (intro w; go_simp; (try with_reducible rfl))
            try simp only [Act.put, List.setIfInBounds_toArray, List.set_cons_zero, List.set_cons_succ]
            refine wpAnyIn_ready (rs := [10]) (by kernel_rfl) (by simp) (AllReadyIn.cons rfl (fun K hK => ?b11) AllReadyIn.nil)
            case b11 =>
              go_simp
              refine hK _ _ ?_
              clear hK K
              try simp only [Act.put, List.setIfInBounds_toArray, List.set_cons_zero, List.set_cons_succ]
              refine wpAnyIn_ready (rs := [11]) (by kernel_rfl) (by simp) (AllReadyIn.cons rfl (fun K hK => ?b10) AllReadyIn.nil)
              case b10 =>
                obtain ⟨g7, n7, cap7, W7, hr7, k7, kf7, HE7⟩ := HAP.out
                rw [if_pos (by rfl)]
                refine wpIn_append_hr (.tmp 66) (.tmp 76) 44 (some 77) rfl rfl _ _ rfl rfl hr7 ?_
                refine hK _ _ ?_
                clear hK K
                try simp only [Act.put, List.setIfInBounds_toArray, List.set_cons_zero, List.set_cons_succ]
                refine wpAnyIn_ready (rs := [12]) (by kernel_rfl) (by simp) (AllReadyIn.cons rfl (fun K hK => ?b9) AllReadyIn.nil)
                case b9 =>
                  go_simp
                  refine hK _ _ ?_
                  clear hK K
                  try simp only [Act.put, List.setIfInBounds_toArray, List.set_cons_zero, List.set_cons_succ]
                  refine wpAnyIn_done (by kernel_rfl) ?_ _
                  gi_wp2
                  exact HE7.out
        case b24 =>
          go_simp
          refine hK _ _ ?_
          clear hK K
          try simp only [Act.put, List.setIfInBounds_toArray, List.set_cons_zero, List.set_cons_succ]
          refine takeR (i := 8) (d := some 74) (v := ?vT13) rfl rfl rfl (by kernel_rfl) (by kernel_rfl) (by kernel_rfl) (fun _ _ _ h => h) ⟨Or.inl ⟨by rfl, ?hyT13⟩, fun _ => rfl⟩ ?rsT13
          case hyT13 => (intro w; go_simp; (try with_reducible rfl))
          try simp only [Act.put, List.setIfInBounds_toArray, List.set_cons_zero, List.set_cons_succ]
          refine takeR (i := 9) (d := some 75) (v := ?vT14) rfl rfl rfl (by kernel_rfl) (by kernel_rfl) (by kernel_rfl) (fun _ _ _ h => h) ⟨Or.inl ⟨by rfl, ?hyT14⟩, fun _ => rfl⟩ ?rsT14
          case hyT14 => (intro w; go_simp; (try with_reducible rfl))
          try simp only [Act.put, List.setIfInBounds_toArray, List.set_cons_zero, List.set_cons_succ]
          refine wpAnyIn_ready (rs := [0, 10]) (by kernel_rfl) (by simp) (AllReadyIn.cons rfl (fun K hK => ?b21) (AllReadyIn.cons rfl (fun K hK => ?b22) AllReadyIn.nil))
          case b21 =>
            go_simp
            refine hK _ _ ?_
            clear hK K
            try simp only [Act.put, List.setIfInBounds_toArray, List.set_cons_zero, List.set_cons_succ]
            refine wpAnyIn_ready (rs := [10]) (by kernel_rfl) (by simp) (AllReadyIn.cons rfl (fun K hK => ?b17) AllReadyIn.nil)
            case b17 =>
              go_simp
              refine hK _ _ ?_
              clear hK K
              try simp only [Act.put, List.setIfInBounds_toArray, List.set_cons_zero, List.set_cons_succ]
              refine wpAnyIn_ready (rs := [11]) (by kernel_rfl) (by simp) (AllReadyIn.cons rfl (fun K hK => ?b16) AllReadyIn.nil)
              case b16 =>
                obtain ⟨g7, n7, cap7, W7, hr7, k7, kf7, HE7⟩ := HAP.out
                rw [if_pos (by rfl)]
                refine wpIn_append_hr (.tmp 66) (.tmp 76) 44 (some 77) rfl rfl _ _ rfl rfl hr7 ?_
                refine hK _ _ ?_
                clear hK K
                try simp only [Act.put, List.setIfInBounds_toArray, List.set_cons_zero, List.set_cons_succ]
                refine wpAnyIn_ready (rs := [12]) (by kernel_rfl) (by simp) (AllReadyIn.cons rfl (fun K hK => ?b15) AllReadyIn.nil)
                case b15 =>
                  go_simp
                  refine hK _ _ ?_
                  clear hK K
                  try simp only [Act.put, List.setIfInBounds_toArray, List.set_cons_zero, List.set_cons_succ]
                  refine wpAnyIn_done (by kernel_rfl) ?_ _
                  gi_wp2
                  exact HE7.out
          case b22 =>
            go_simp
            refine hK _ _ ?_
            clear hK K
            try simp only [Act.put, List.setIfInBounds_toArray, List.set_cons_zero, List.set_cons_succ]
            refine wpAnyIn_ready (rs := [0]) (by kernel_rfl) (by simp) (AllReadyIn.cons rfl (fun K hK => ?b20) AllReadyIn.nil)
            case b20 =>
              go_simp
              refine hK _ _ ?_
              clear hK K
              try simp only [Act.put, List.setIfInBounds_toArray, List.set_cons_zero, List.set_cons_succ]
              refine wpAnyIn_ready (rs := [11]) (by kernel_rfl) (by simp) (AllReadyIn.cons rfl (fun K hK => ?b19) AllReadyIn.nil)
              case b19 =>
                obtain ⟨g7, n7, cap7, W7, hr7, k7, kf7, HE7⟩ := HAP.out
                rw [if_pos (by rfl)]
                refine wpIn_append_hr (.tmp 66) (.tmp 76) 44 (some 77) rfl rfl _ _ rfl rfl hr7 ?_
                refine hK _ _ ?_
                clear hK K
                try simp only [Act.put, List.setIfInBounds_toArray, List.set_cons_zero, List.set_cons_succ]
                refine wpAnyIn_ready (rs := [12]) (by kernel_rfl) (by simp) (AllReadyIn.cons rfl (fun K hK => ?b18) AllReadyIn.nil)
                case b18 =>
                  go_simp
                  refine hK _ _ ?_
                  clear hK K
                  try simp only [Act.put, List.setIfInBounds_toArray, List.set_cons_zero, List.set_cons_succ]
                  refine wpAnyIn_done (by kernel_rfl) ?_ _
                  gi_wp2
                  exact HE7.out
      · rw [List.concat_eq_append] at *
        have hlc : (l' ++ [r]).length = l'.length + 1 := by simp
        obtain ⟨g9, cp9, hvv, hg9, hg9s, hcp1, hcp2, hfz⟩ := hown2.ptr (by omega)
        obtain ⟨g', o', x', e', hg', hx', hc'⟩ := (hown2.rw_ layP).at l'.length (by omega)
        cases hvv
        cases e'
        have e9 : x' = r := by simpa using hx'.symm
        subst e9
        have c7 : W2.cell? ⟨g9, l'.length * 2 + 1, none⟩ = some (.int .i64 x'.2) := by have := hc' 1 _ rfl; simpa using this
        have f7 := hfz (l'.length * 2 + 1)
        rw [hlc] at hv2 hown2 r2 bm hll
        have ca : W2.cell? ⟨x.g, 0, none⟩ = some (.int .i64 (x.rs.length : Int)) := hAt.ten.1
        clear hc' hx' hfz
        by_cases hr9 : x'.2 = x.at_
        · have ex : x' = (x'.1, x.at_) := Prod.ext rfl hr9
          have HV : Hid (vst (l' ++ [x']) (x.at_, x.rs, x.h) = l' ++ [(x'.1, x.at_ + (x.rs.length : Int))]) := by show _ = _; rw [ex]; exact vst_longer (y := (x.at_, x.rs, x.h)) hh
          rw [hr9] at c7
          have hlw0 : w.heap.size + 1 < w0.heap.size := (Array.getElem?_eq_some_iff.1 HR0.out.2).1
          have HE11 : Hid (KeepsFrom w1.heap.size W (W2.drew.setCell ⟨g9, l'.length * 2 + 1, none⟩ (.int .i64 (x.at_ + (x.rs.length : Int)))) ∧ KpT W (W2.drew.setCell ⟨g9, l'.length * 2 + 1, none⟩ (.int .i64 (x.at_ + (x.rs.length : Int)))) ∧ VisI w w0 ((pre ++ [x]).map Pc.dat) (W2.drew.setCell ⟨g9, l'.length * 2 + 1, none⟩ (.int .i64 (x.at_ + (x.rs.length : Int))))) := by
            obtain ⟨cs9, fz9, hb9⟩ := ownF_type (hown2.below ((Below.refl _ _).drew)) (show (Value.slice (some ⟨g9, 0, none⟩) (l'.length + 1) cv).ownBlock = some g9 from rfl)
            have hg8 : W2.drew.grownBy (W2.drew.setCell ⟨g9, l'.length * 2 + 1, none⟩ (.int .i64 (x.at_ + (x.rs.length : Int)))) (some g9) := set_grown W2.drew _ _ _
            have hne9 : ∀ (b : Nat) (cs : Array Value) (T : TypeId), W2.drew.heap[b]? = some (.cells cs T) → T ≠ 90 → ¬ some b = some g9 := fun b cs T hb hT e => by cases e; rw [hb] at hb9; cases hb9; exact hT rfl
            have hBd := hB2.drew
            refine ⟨hf.trans ((keepsFrom_below ((Below.refl _ _).drew)).trans (⟨hg8.size, fun k o hB hk ho => (hg8.block k (Array.getElem?_eq_some_iff.1 hk).1 (fun e => by cases e; rw [hb9] at hk; cases hk; simp [Obj.isCells] at ho)).trans hk⟩ : KeepsFrom w1.heap.size W2.drew _)), hk.trans ((KpT.below ((Below.refl _ _).drew)).trans (KpT.grown hg8 (fun r o e ho => by cases e; rw [hb9] at ho; cases ho; exact ⟨fun cs fr e2 => (by cases e2), fun cs fr e2 => (by cases e2)⟩))), ⟨⟨_, (hg8.block _ (Array.getElem?_eq_some_iff.1 (show W2.drew.heap[_]? = _ from hv2)).1 (hne9 _ _ _ (show W2.drew.heap[_]? = _ from hv2) (by decide))).trans (show W2.drew.heap[_]? = _ from hv2), ?_⟩, (hg8.block _ (Array.getElem?_eq_some_iff.1 (show W2.drew.heap[_]? = _ from hr12)).1 (hne9 _ _ _ (show W2.drew.heap[_]? = _ from hr12) (by decide))).trans (show W2.drew.heap[_]? = _ from hr12), (hg8.block _ (Array.getElem?_eq_some_iff.1 (show W2.drew.heap[_]? = _ from hr22)).1 (hne9 _ _ _ (show W2.drew.heap[_]? = _ from hr22) (by decide))).trans (show W2.drew.heap[_]? = _ from hr22), hBd.grown hg8 hBd.size (fun k hk => by cases hk; have := hB0.size; omega)⟩⟩
            rw [HST.out, HV.out]
            exact OwnF.setLast (x := x'.1) (y := x'.2) (hown2.below ((Below.refl _ _).drew)) _
          clear ex hAt hv2 hr12 hr22 hown2 hB2 hk hf HV
          gi_wp2
          refine region_round (F := Fence.wide) (by kernel_rfl) (by kernel_rfl) ?_
          change wpAnyIn _ _ _ _ _ _ _ _ _ W2.drew
          refine takeR (i := 1) (d := some 53) (v := ?vT25) rfl rfl rfl (by kernel_rfl) (by kernel_rfl) (by kernel_rfl) (fun _ _ _ h => h) ⟨Or.inl ⟨by rfl, ?hyT25⟩, fun _ => rfl⟩ ?rsT25
          case hyT25 => (intro w; go_simp; (try with_reducible rfl))
          try simp only [Act.put, List.setIfInBounds_toArray, List.set_cons_zero, List.set_cons_succ]
          refine takeR (i := 2) (d := some 54) (v := ?vT26) rfl rfl rfl (by kernel_rfl) (by kernel_rfl) (by kernel_rfl) (fun _ _ _ h => h) ⟨Or.inl ⟨by rfl, ?hyT26⟩, fun _ => rfl⟩ ?rsT26
          case hyT26 => (intro w; go_simp; (try with_reducible rfl))
          try simp only [Act.put, List.setIfInBounds_toArray, List.set_cons_zero, List.set_cons_succ]
          refine takeR (i := 3) (d := some 55) (v := ?vT27) rfl rfl rfl (by kernel_rfl) (by kernel_rfl) (by kernel_rfl) (fun _ _ _ h => h) ⟨Or.inl ⟨by rfl, ?hyT27⟩, fun _ => rfl⟩ ?rsT27
          case hyT27 => (intro w; go_simp; (try with_reducible rfl))
          try simp only [Act.put, List.setIfInBounds_toArray, List.set_cons_zero, List.set_cons_succ]
          refine takeR (i := 4) (d := some 56) (v := ?vT28) rfl rfl rfl (by kernel_rfl) (by kernel_rfl) (by kernel_rfl) (fun _ _ _ h => h) ⟨Or.inl ⟨by rfl, ?hyT28⟩, fun _ => rfl⟩ ?rsT28
          case hyT28 => (intro w; go_simp; (try with_reducible rfl))
          try simp only [Act.put, List.setIfInBounds_toArray, List.set_cons_zero, List.set_cons_succ]
          refine takeR (i := 5) (d := some 57) (v := ?vT29) rfl rfl rfl (by kernel_rfl) (by kernel_rfl) (by kernel_rfl) (fun _ _ _ h => h) ⟨Or.inl ⟨by rfl, ?hyT29⟩, fun _ => rfl⟩ ?rsT29
          case hyT29 => (intro w; go_simp; (try with_reducible rfl))
          try simp only [Act.put, List.setIfInBounds_toArray, List.set_cons_zero, List.set_cons_succ]
          refine takeR (i := 6) (d := some 58) (v := ?vT30) rfl rfl rfl (by kernel_rfl) (by kernel_rfl) (by kernel_rfl) (fun _ _ _ h => h) ⟨Or.inl ⟨by rfl, ?hyT30⟩, fun _ => rfl⟩ ?rsT30
          case hyT30 => (intro w; go_simp; (try with_reducible rfl))
          try simp only [Act.put, List.setIfInBounds_toArray, List.set_cons_zero, List.set_cons_succ]
          refine wpAnyIn_ready (rs := [0, 7]) (by kernel_rfl) (by simp) (AllReadyIn.cons rfl (fun K hK => ?b41) (AllReadyIn.cons rfl (fun K hK => ?b42) AllReadyIn.nil))
          case b41 =>
            go_simp
            refine hK _ _ ?_
            clear hK K
            try simp only [Act.put, List.setIfInBounds_toArray, List.set_cons_zero, List.set_cons_succ]
            refine wpAnyIn_ready (rs := [7]) (by kernel_rfl) (by simp) (AllReadyIn.cons rfl (fun K hK => ?b35) AllReadyIn.nil)
            case b35 =>
              go_simp
              refine hK _ _ ?_
              clear hK K
              try simp only [Act.put, List.setIfInBounds_toArray, List.set_cons_zero, List.set_cons_succ]
              refine takeR (i := 8) (d := some 60) (v := ?vT31) rfl rfl rfl (by kernel_rfl) (by kernel_rfl) (by kernel_rfl) (fun _ _ _ h => h) ⟨Or.inl ⟨by rfl, ?hyT31⟩, fun _ => rfl⟩ ?rsT31
              case hyT31 => (intro w; go_simp; (try with_reducible rfl))
              try simp only [Act.put, List.setIfInBounds_toArray, List.set_cons_zero, List.set_cons_succ]
              refine wpAnyIn_ready (rs := [9]) (by kernel_rfl) (by simp) (AllReadyIn.cons rfl (fun K hK => ?b34) AllReadyIn.nil)
              case b34 =>
                go_simp
                rw [if_pos (show (l'.length : Int) < (l'.length : Int) + 1 by omega)]
                refine hK _ _ ?_
                clear hK K
                try simp only [Act.put, List.setIfInBounds_toArray, List.set_cons_zero, List.set_cons_succ]
                refine wpAnyIn_ready (rs := [10]) (by kernel_rfl) (by simp) (AllReadyIn.cons rfl (fun K hK => ?b33) AllReadyIn.nil)
                case b33 =>
                  go_simp
                  refine hK _ _ ?_
                  clear hK K
                  try simp only [Act.put, List.setIfInBounds_toArray, List.set_cons_zero, List.set_cons_succ]
                  refine wpAnyIn_ready (rs := [11]) (by kernel_rfl) (by simp) (AllReadyIn.cons rfl (fun K hK => ?b32) AllReadyIn.nil)
                  case b32 =>
                    go_simp
                    refine hK _ _ ?_
                    clear hK K
                    try simp only [Act.put, List.setIfInBounds_toArray, List.set_cons_zero, List.set_cons_succ]
                    refine wpAnyIn_done (by kernel_rfl) ?_ _
                    gi_wp2
                    exact HE11.out
          case b42 =>
            go_simp
            refine hK _ _ ?_
            clear hK K
            try simp only [Act.put, List.setIfInBounds_toArray, List.set_cons_zero, List.set_cons_succ]
            refine takeR (i := 8) (d := some 60) (v := ?vT36) rfl rfl rfl (by kernel_rfl) (by kernel_rfl) (by kernel_rfl) (fun _ _ _ h => h) ⟨Or.inl ⟨by rfl, ?hyT36⟩, fun _ => rfl⟩ ?rsT36
            case hyT36 => (intro w; go_simp; (try with_reducible rfl))
            try simp only [Act.put, List.setIfInBounds_toArray, List.set_cons_zero, List.set_cons_succ]
            refine wpAnyIn_ready (rs := [0]) (by kernel_rfl) (by simp) (AllReadyIn.cons rfl (fun K hK => ?b40) AllReadyIn.nil)
            case b40 =>
              go_simp
              refine hK _ _ ?_
              clear hK K
              try simp only [Act.put, List.setIfInBounds_toArray, List.set_cons_zero, List.set_cons_succ]
              refine wpAnyIn_ready (rs := [9]) (by kernel_rfl) (by simp) (AllReadyIn.cons rfl (fun K hK => ?b39) AllReadyIn.nil)
              case b39 =>
                go_simp
                rw [if_pos (show (l'.length : Int) < (l'.length : Int) + 1 by omega)]
                refine hK _ _ ?_
                clear hK K
                try simp only [Act.put, List.setIfInBounds_toArray, List.set_cons_zero, List.set_cons_succ]
                refine wpAnyIn_ready (rs := [10]) (by kernel_rfl) (by simp) (AllReadyIn.cons rfl (fun K hK => ?b38) AllReadyIn.nil)
                case b38 =>
                  go_simp
                  refine hK _ _ ?_
                  clear hK K
                  try simp only [Act.put, List.setIfInBounds_toArray, List.set_cons_zero, List.set_cons_succ]
                  refine wpAnyIn_ready (rs := [11]) (by kernel_rfl) (by simp) (AllReadyIn.cons rfl (fun K hK => ?b37) AllReadyIn.nil)
                  case b37 =>
                    go_simp
                    refine hK _ _ ?_
                    clear hK K
                    try simp only [Act.put, List.setIfInBounds_toArray, List.set_cons_zero, List.set_cons_succ]
                    refine wpAnyIn_done (by kernel_rfl) ?_ _
                    gi_wp2
                    exact HE11.out
        · have HV : Hid (vst (l' ++ [x']) (x.at_, x.rs, x.h) = (l' ++ [x']) ++ [(x.at_, x.at_ + (x.rs.length : Int))]) := vst_one (y := (x.at_, x.rs, x.h)) hh (fun r h => by rw [List.getLast?_append] at h; simp only [List.getLast?_singleton, Option.some_or, Option.some.injEq] at h; rw [← h]; exact hr9)
          have b7 : (x'.2 == x.at_) = false := beq_eq_false_iff_ne.2 hr9
          clear ca
          have HAP : Hid (∃ g7 n7 cap7 W7, (Builtin.append_ #[44, 44] 44 #[.slice (some ⟨g9, 0, none⟩) (l'.length + 1) cv, .slice (some ⟨W2.heap.size, 0, none⟩) 1 1]).run Tryd.prog (W2.drew.alloc (.cells #[.int .i64 x.at_, .int .i64 (x.at_ + (x.rs.length : Int))] 90)) = .ok (.slice (some ⟨g7, 0, none⟩) n7 cap7) W7 ∧ W7.cell? ⟨w0.heap.size, 0, none⟩ = some (.slice (some ⟨g9, 0, none⟩) (l'.length + 1) cv) ∧ W7.frozen? ⟨w0.heap.size, 0, none⟩ = false ∧ Hid (KeepsFrom w1.heap.size W (W7.setCell ⟨w0.heap.size, 0, none⟩ (.slice (some ⟨g7, 0, none⟩) n7 cap7)) ∧ KpT W (W7.setCell ⟨w0.heap.size, 0, none⟩ (.slice (some ⟨g7, 0, none⟩) n7 cap7)) ∧ VisI w w0 ((pre ++ [x]).map Pc.dat) (W7.setCell ⟨w0.heap.size, 0, none⟩ (.slice (some ⟨g7, 0, none⟩) n7 cap7)))) := by
            have hvd : W2.drew.heap[w0.heap.size]? = _ := hv2
            obtain ⟨g7, cap7, W7, hr7, ho7, hb7, hkp7, hsz7, hat7⟩ := appendF_one kindRg layP (hown2.below ((Below.refl _ _).drew)) (by have := (Array.getElem?_eq_some_iff.1 hvd).1; omega) (x.at_, x.at_ + (x.rs.length : Int)) #[.int .i64 x.at_, .int .i64 (x.at_ + (x.rs.length : Int))] rfl 90 (by simp; try omega) (by simp; try omega) 44
            rw [hlc] at hr7 ho7
            have hg7 : W2.drew.grownBy W7 (Value.slice (some ⟨g9, 0, none⟩) (l'.length + 1) cv).ownBlock := ⟨hb7.os, hb7.tape, hb7.output, hb7.size, fun k hk hne => hkp7 k hk (fun e => hne e.symm)⟩
            have hne7 : ∀ (b : Nat) (cs : Array Value) (T : TypeId), W2.drew.heap[b]? = some (.cells cs T) → T ≠ 90 → (Value.slice (some ⟨g9, 0, none⟩) (l'.length + 1) cv).ownBlock ≠ some b := fun b cs T hb hT e => by obtain ⟨cs2, fz2, hx⟩ := ownF_type (hown2.below ((Below.refl _ _).drew)) e; rw [hb] at hx; cases hx; exact hT rfl
            have hv7 := (hkp7 _ (Array.getElem?_eq_some_iff.1 hvd).1 (hne7 _ _ _ hvd (by decide))).trans hvd
            have h17 := (hkp7 _ (Array.getElem?_eq_some_iff.1 (show W2.drew.heap[_]? = _ from hr12)).1 (hne7 _ _ _ (show W2.drew.heap[_]? = _ from hr12) (by decide))).trans (show W2.drew.heap[_]? = _ from hr12)
            have h27 := (hkp7 _ (Array.getElem?_eq_some_iff.1 (show W2.drew.heap[_]? = _ from hr22)).1 (hne7 _ _ _ (show W2.drew.heap[_]? = _ from hr22) (by decide))).trans (show W2.drew.heap[_]? = _ from hr22)
            have hkT7 : KpT W2.drew W7 := KpT.grown hg7 (fun r o e ho => by obtain ⟨cs, fz, hx⟩ := ownF_type (hown2.below ((Below.refl _ _).drew)) e; rw [hx] at ho; cases ho; exact ⟨fun cs fr e2 => (by cases e2), fun cs fr e2 => (by cases e2)⟩)
            have hws := hB0.size
            have hB7 : Below w.heap.size w W7 := (hB2.drew).trans (hb7.mono (by omega))
            obtain ⟨hv8, hg8⟩ := set_box hv7 (.slice (some ⟨g7, 0, none⟩) ((l'.length + 1) + 1) cap7)
            have hlw0 : w.heap.size + 1 < w0.heap.size := (Array.getElem?_eq_some_iff.1 HR0.out.2).1
            refine ⟨g7, _, cap7, W7, hr7, by rw [Lib.cell_of_heap hv7]; rfl, Lib.frozen_of_heap hv7 0, ?_, ?_, ⟨⟨_, hv8, ?_⟩, (hg8.block _ (Array.getElem?_eq_some_iff.1 h17).1 (by simp; omega)).trans h17, (hg8.block _ (Array.getElem?_eq_some_iff.1 h27).1 (by simp; omega)).trans h27, hB7.grown hg8 hB7.size (fun k hk => by cases hk; exact hws)⟩⟩
            · exact hf.trans ((keepsFrom_below ((Below.refl _ _).drew)).trans ((⟨hb7.size, fun k o hB hk ho => (hkp7 k (Array.getElem?_eq_some_iff.1 hk).1 (fun e => by obtain ⟨cs, fz, hx⟩ := ownF_type (hown2.below ((Below.refl _ _).drew)) e; rw [hx] at hk; cases hk; simp [Obj.isCells] at ho)).trans hk⟩ : KeepsFrom w1.heap.size W2.drew W7).trans (KeepsFrom.of_grownBy hg8 (fun j e => by cases e; omega))))
            · exact hk.trans (((KpT.below ((Below.refl _ _).drew)).trans hkT7).trans (KpT.grown hg8 (fun r o e ho => by cases e; rw [hv7] at ho; cases ho; exact ⟨fun cs fr e2 => (by cases e2), fun cs fr e2 => (by cases e2)⟩)))
            · rw [HST.out, HV.out]
              exact ownF_grown ho7 hg8 (.inr (fun e => by have := ho7.ge e; omega))
          have ca : W2.cell? ⟨x.g, 0, none⟩ = some (.int .i64 (x.rs.length : Int)) := hAt.ten.1
          have ra : (W2.alloc (.cells #[.int .i64 x.at_, .int .i64 (x.at_ + (x.rs.length : Int))] 90)).cell? ⟨w0.heap.size, 0, none⟩ = some (.slice (some ⟨g9, 0, none⟩) (l'.length + 1) cv) := cell_al r2 _
          clear hAt hv2 hr12 hr22 hown2 hB2 hk hf
          gi_wp2
          refine region_round (F := Fence.wide) (by kernel_rfl) (by kernel_rfl) ?_
          change wpAnyIn _ _ _ _ _ _ _ _ _ W2.drew
          refine takeR (i := 1) (d := some 67) (v := ?vT43) rfl rfl rfl (by kernel_rfl) (by kernel_rfl) (by kernel_rfl) (fun _ _ _ h => h) ⟨Or.inl ⟨by rfl, ?hyT43⟩, fun _ => rfl⟩ ?rsT43
          case hyT43 => (intro w; go_simp; (try with_reducible rfl))
          try simp only [Act.put, List.setIfInBounds_toArray, List.set_cons_zero, List.set_cons_succ]
          refine takeR (i := 2) (d := some 68) (v := ?vT44) rfl rfl rfl (by kernel_rfl) (by kernel_rfl) (by kernel_rfl) (fun _ _ _ h => h) ⟨Or.inl ⟨by rfl, ?hyT44⟩, fun _ => rfl⟩ ?rsT44
          case hyT44 => (intro w; go_simp; (try with_reducible rfl))
          try simp only [Act.put, List.setIfInBounds_toArray, List.set_cons_zero, List.set_cons_succ]
          refine takeR (i := 3) (d := some 69) (v := ?vT45) rfl rfl rfl (by kernel_rfl) (by kernel_rfl) (by kernel_rfl) (fun _ _ _ h => h) ⟨Or.inl ⟨by rfl, ?hyT45⟩, fun _ => rfl⟩ ?rsT45
          case hyT45 => (intro w; go_simp; (try with_reducible rfl))
          try simp only [Act.put, List.setIfInBounds_toArray, List.set_cons_zero, List.set_cons_succ]
          refine takeR (i := 4) (d := some 70) (v := ?vT46) rfl rfl rfl (by kernel_rfl) (by kernel_rfl) (by kernel_rfl) (fun _ _ _ h => h) ⟨Or.inl ⟨by rfl, ?hyT46⟩, fun _ => rfl⟩ ?rsT46
          case hyT46 => (intro w; go_simp; (try with_reducible rfl))
          try simp only [Act.put, List.setIfInBounds_toArray, List.set_cons_zero, List.set_cons_succ]
          refine takeR (i := 5) (d := some 71) (v := ?vT47) rfl rfl rfl (by kernel_rfl) (by kernel_rfl) (by kernel_rfl) (fun _ _ _ h => h) ⟨Or.inl ⟨by rfl, ?hyT47⟩, fun _ => rfl⟩ ?rsT47
          case hyT47 => (intro w; go_simp; (try with_reducible rfl))
          try simp only [Act.put, List.setIfInBounds_toArray, List.set_cons_zero, List.set_cons_succ]
          refine takeR (i := 6) (d := some 72) (v := ?vT48) rfl rfl rfl (by kernel_rfl) (by kernel_rfl) (by kernel_rfl) (fun _ _ _ h => h) ⟨Or.inl ⟨by rfl, ?hyT48⟩, fun _ => rfl⟩ ?rsT48
          case hyT48 => (intro w; go_simp; (try with_reducible rfl))
          try simp only [Act.put, List.setIfInBounds_toArray, List.set_cons_zero, List.set_cons_succ]
          refine wpAnyIn_ready (rs := [0, 7]) (by kernel_rfl) (by simp) (AllReadyIn.cons rfl (fun K hK => ?b65) (AllReadyIn.cons rfl (fun K hK => ?b66) AllReadyIn.nil))
          case b65 =>
            go_simp
            refine hK _ _ ?_
            clear hK K
            try simp only [Act.put, List.setIfInBounds_toArray, List.set_cons_zero, List.set_cons_succ]
            refine wpAnyIn_ready (rs := [7]) (by kernel_rfl) (by simp) (AllReadyIn.cons rfl (fun K hK => ?b54) AllReadyIn.nil)
            case b54 =>
              go_simp
              refine hK _ _ ?_
              clear hK K
              try simp only [Act.put, List.setIfInBounds_toArray, List.set_cons_zero, List.set_cons_succ]
              refine takeR (i := 8) (d := some 74) (v := ?vT49) rfl rfl rfl (by kernel_rfl) (by kernel_rfl) (by kernel_rfl) (fun _ _ _ h => h) ⟨Or.inl ⟨by rfl, ?hyT49⟩, fun _ => rfl⟩ ?rsT49
              case hyT49 => (intro w; go_simp; (try with_reducible rfl))
              try simp only [Act.put, List.setIfInBounds_toArray, List.set_cons_zero, List.set_cons_succ]
              refine takeR (i := 9) (d := some 75) (v := ?vT50) rfl rfl rfl (by kernel_rfl) (by kernel_rfl) (by kernel_rfl) (fun _ _ _ h => h) ⟨Or.inl ⟨by rfl, ?hyT50⟩, fun _ => rfl⟩ ?rsT50
              case hyT50 => (intro w; go_simp; (try with_reducible rfl))
              try simp only [Act.put, List.setIfInBounds_toArray, List.set_cons_zero, List.set_cons_succ]
              refine wpAnyIn_ready (rs := [10]) (by kernel_rfl) (by simp) (AllReadyIn.cons rfl (fun K hK => ?b53) AllReadyIn.nil)
              case b53 =>
                go_simp
                refine hK _ _ ?_
                clear hK K
                try simp only [Act.put, List.setIfInBounds_toArray, List.set_cons_zero, List.set_cons_succ]
                refine wpAnyIn_ready (rs := [11]) (by kernel_rfl) (by simp) (AllReadyIn.cons rfl (fun K hK => ?b52) AllReadyIn.nil)
                case b52 =>
                  obtain ⟨g7, n7, cap7, W7, hr7, k7, kf7, HE7⟩ := HAP.out
                  rw [if_pos (by rfl)]
                  refine wpIn_append_hr (.tmp 66) (.tmp 76) 44 (some 77) rfl rfl _ _ rfl rfl hr7 ?_
                  refine hK _ _ ?_
                  clear hK K
                  try simp only [Act.put, List.setIfInBounds_toArray, List.set_cons_zero, List.set_cons_succ]
                  refine wpAnyIn_ready (rs := [12]) (by kernel_rfl) (by simp) (AllReadyIn.cons rfl (fun K hK => ?b51) AllReadyIn.nil)
                  case b51 =>
                    go_simp
                    refine hK _ _ ?_
                    clear hK K
                    try simp only [Act.put, List.setIfInBounds_toArray, List.set_cons_zero, List.set_cons_succ]
                    refine wpAnyIn_done (by kernel_rfl) ?_ _
                    gi_wp2
                    exact HE7.out
          case b66 =>
            go_simp
            refine hK _ _ ?_
            clear hK K
            try simp only [Act.put, List.setIfInBounds_toArray, List.set_cons_zero, List.set_cons_succ]
            refine takeR (i := 8) (d := some 74) (v := ?vT55) rfl rfl rfl (by kernel_rfl) (by kernel_rfl) (by kernel_rfl) (fun _ _ _ h => h) ⟨Or.inl ⟨by rfl, ?hyT55⟩, fun _ => rfl⟩ ?rsT55
            case hyT55 => (intro w; go_simp; (try with_reducible rfl))
            try simp only [Act.put, List.setIfInBounds_toArray, List.set_cons_zero, List.set_cons_succ]
            refine takeR (i := 9) (d := some 75) (v := ?vT56) rfl rfl rfl (by kernel_rfl) (by kernel_rfl) (by kernel_rfl) (fun _ _ _ h => h) ⟨Or.inl ⟨by rfl, ?hyT56⟩, fun _ => rfl⟩ ?rsT56
            case hyT56 => (intro w; go_simp; (try with_reducible rfl))
            try simp only [Act.put, List.setIfInBounds_toArray, List.set_cons_zero, List.set_cons_succ]
            refine wpAnyIn_ready (rs := [0, 10]) (by kernel_rfl) (by simp) (AllReadyIn.cons rfl (fun K hK => ?b63) (AllReadyIn.cons rfl (fun K hK => ?b64) AllReadyIn.nil))
            case b63 =>
              go_simp
              refine hK _ _ ?_
              clear hK K
              try simp only [Act.put, List.setIfInBounds_toArray, List.set_cons_zero, List.set_cons_succ]
              refine wpAnyIn_ready (rs := [10]) (by kernel_rfl) (by simp) (AllReadyIn.cons rfl (fun K hK => ?b59) AllReadyIn.nil)
              case b59 =>
                go_simp
                refine hK _ _ ?_
                clear hK K
                try simp only [Act.put, List.setIfInBounds_toArray, List.set_cons_zero, List.set_cons_succ]
                refine wpAnyIn_ready (rs := [11]) (by kernel_rfl) (by simp) (AllReadyIn.cons rfl (fun K hK => ?b58) AllReadyIn.nil)
                case b58 =>
                  obtain ⟨g7, n7, cap7, W7, hr7, k7, kf7, HE7⟩ := HAP.out
                  rw [if_pos (by rfl)]
                  refine wpIn_append_hr (.tmp 66) (.tmp 76) 44 (some 77) rfl rfl _ _ rfl rfl hr7 ?_
                  refine hK _ _ ?_
                  clear hK K
                  try simp only [Act.put, List.setIfInBounds_toArray, List.set_cons_zero, List.set_cons_succ]
                  refine wpAnyIn_ready (rs := [12]) (by kernel_rfl) (by simp) (AllReadyIn.cons rfl (fun K hK => ?b57) AllReadyIn.nil)
                  case b57 =>
                    go_simp
                    refine hK _ _ ?_
                    clear hK K
                    try simp only [Act.put, List.setIfInBounds_toArray, List.set_cons_zero, List.set_cons_succ]
                    refine wpAnyIn_done (by kernel_rfl) ?_ _
                    gi_wp2
                    exact HE7.out
            case b64 =>
              go_simp
              refine hK _ _ ?_
              clear hK K
              try simp only [Act.put, List.setIfInBounds_toArray, List.set_cons_zero, List.set_cons_succ]
              refine wpAnyIn_ready (rs := [0]) (by kernel_rfl) (by simp) (AllReadyIn.cons rfl (fun K hK => ?b62) AllReadyIn.nil)
              case b62 =>
                go_simp
                refine hK _ _ ?_
                clear hK K
                try simp only [Act.put, List.setIfInBounds_toArray, List.set_cons_zero, List.set_cons_succ]
                refine wpAnyIn_ready (rs := [11]) (by kernel_rfl) (by simp) (AllReadyIn.cons rfl (fun K hK => ?b61) AllReadyIn.nil)
                case b61 =>
                  obtain ⟨g7, n7, cap7, W7, hr7, k7, kf7, HE7⟩ := HAP.out
                  rw [if_pos (by rfl)]
                  refine wpIn_append_hr (.tmp 66) (.tmp 76) 44 (some 77) rfl rfl _ _ rfl rfl hr7 ?_
                  refine hK _ _ ?_
                  clear hK K
                  try simp only [Act.put, List.setIfInBounds_toArray, List.set_cons_zero, List.set_cons_succ]
                  refine wpAnyIn_ready (rs := [12]) (by kernel_rfl) (by simp) (AllReadyIn.cons rfl (fun K hK => ?b60) AllReadyIn.nil)
                  case b60 =>
                    go_simp
                    refine hK _ _ ?_
                    clear hK K
                    try simp only [Act.put, List.setIfInBounds_toArray, List.set_cons_zero, List.set_cons_succ]
                    refine wpAnyIn_done (by kernel_rfl) ?_ _
                    gi_wp2
                    exact HE7.out
    · have hsh : (Tr.leaf x.rs x.h st).sm.shown = 0 := by
        show (if 0 < x.h then (0 : Int) else (x.rs.length : Int)) = _
        rw [if_pos (by omega)]
      rw [hsh] at HS
      refine ⟨trivial, CallsIn.inRound _ ((callsIn_wide.2 HS).mono ?_)⟩
      rintro e W2 ⟨rfl, hb2⟩
      clear c0 c1 c2 c3 c4 c5 c6 c7 c8 c9 HS
      gi_wp2
      refine ⟨keepsFrom_below hb2, KpT.below hb2, ?_⟩
      refine ⟨⟨v, (hb2.block _ (Array.getElem?_eq_some_iff.1 hv).1).trans hv, ?_⟩, (hb2.block _ (Array.getElem?_eq_some_iff.1 hr1).1).trans hr1, (hb2.block _ (Array.getElem?_eq_some_iff.1 hr2).1).trans hr2, hB.trans (hb2.mono hB.size)⟩
      rw [HST.out, vst_hid (y := (x.at_, x.rs, x.h)) (show ¬ x.h ≤ 0 by omega)]
      exact hown.below hb2
  case done =>
    rintro De ys W hD hS hI hKd
    rw [hS] at hI
    obtain ⟨⟨v, hv, hown⟩, hr1, hr2, hB⟩ := hI
    obtain ⟨av, cv, rfl⟩ := hown.shape
    generalize hLL : (gv t.lv 0 F T).foldl vst [] = LL at *
    have r0 : W.cell? ⟨w0.heap.size, 0, none⟩ = some (.slice av LL.length cv) := by rw [Lib.cell_of_heap hv]; rfl
    have r1 : W.cell? ⟨w.heap.size, 0, none⟩ = some (.slice none 0 0) := by rw [Lib.cell_of_heap hr1]; rfl
    have r2 : W.cell? ⟨w.heap.size + 1, 0, none⟩ = some (.int .i64 0) := by rw [Lib.cell_of_heap hr2]; rfl
    have f1 : W.frozen? ⟨w.heap.size, 0, none⟩ = false := Lib.frozen_of_heap hr1 0
    have f2 : W.frozen? ⟨w.heap.size + 1, 0, none⟩ = false := Lib.frozen_of_heap hr2 0
    gi_wp2
    obtain ⟨hv1, hg1⟩ := set_box hr1 (.slice av LL.length cv)
    have hlw0 : w.heap.size + 1 < w0.heap.size := (Array.getElem?_eq_some_iff.1 HR0.out.2).1
    generalize W.setCell ⟨w.heap.size, 0, none⟩ (.slice av LL.length cv) = Wa at *
    have hr2a := (hg1.block _ (Array.getElem?_eq_some_iff.1 hr2).1 (by simp)).trans hr2
    obtain ⟨hv2, hg2⟩ := set_box hr2a (.int .i64 0)
    generalize Wa.setCell ⟨w.heap.size + 1, 0, none⟩ (.int .i64 0) = Wb at *
    have hv1b := (hg2.block _ (Array.getElem?_eq_some_iff.1 hv1).1 (by simp)).trans hv1
    have hDa := (hg1.block _ (Array.getElem?_eq_some_iff.1 hKd).1 (fun e => by cases e; rw [hr1] at hKd; cases hKd)).trans hKd
    have hDb := (hg2.block _ (Array.getElem?_eq_some_iff.1 hDa).1 (fun e => by cases e; rw [hr2a] at hDa; cases hDa)).trans hDa
    have hBb : Below w.heap.size w Wb := (hB.grown hg1 hB.size (fun k hk => by cases hk; exact Nat.le_refl _)).grown hg2 (Nat.le_trans hB.size hg1.size) (fun k hk => by cases hk; omega)
    have hob := ownF_grown (ownF_grown hown hg1 (.inr (fun e => by have := hown.ge e; omega))) hg2 (.inr (fun e => by have := hown.ge e; omega))
    refine ⟨by simp, .inl ⟨_, _, rfl, run_takeDeferred hDb, ?_⟩⟩
    have hgD := grownBy_putObj' Wb De (.deferred none)
    generalize hWc : Wb.putObj De (.deferred none) = Wc at *
    have hc1 := (hgD.block _ (Array.getElem?_eq_some_iff.1 hv1b).1 (fun e => by cases e; rw [hv1b] at hDb; cases hDb)).trans hv1b
    have hc2 := (hgD.block _ (Array.getElem?_eq_some_iff.1 hv2).1 (fun e => by cases e; rw [hv2] at hDb; cases hDb)).trans hv2
    have kc1 : Wc.cell? ⟨w.heap.size, 0, none⟩ = some (.slice av LL.length cv) := by rw [Lib.cell_of_heap hc1]; rfl
    have kc2 : Wc.cell? ⟨w.heap.size + 1, 0, none⟩ = some (.int .i64 0) := by rw [Lib.cell_of_heap hc2]; rfl
    refine ⟨.tuple #[.slice av LL.length cv, .int .i64 0], ?_, _, rfl, ?_, ?_⟩
    · rw [results_cells2 rfl]
      go_simp
    · rw [hLL]
      exact (ownF_grown hob hgD (.inr (fun e => by obtain ⟨cs, fz, hx⟩ := ownF_type hob e; rw [hDb] at hx; cases hx))).mono (by omega)
    · exact hBb.grown hgD hBb.size (fun k hk => by cases hk; have := hB1.size; omega)
  case stop =>
    rintro D c pre W hD hSp hf hKd
    exact hf.elim
end Go.Proofs.YtcmefibipoidhaaDoor

/-! span's Count of such a list; what it does to a row that the list is bumped. -/
namespace Go.Proofs.YtcmefibipoidhaaDoor
open Go.RowKit Go.Lib
set_option maxRecDepth 100000

theorem sumL_take (l : List (Int × Int)) (j : Nat) (x : Int × Int) (hx : l[j]? = some x) : sumL (l.take (j + 1)) = sumL (l.take j) + (x.2 - x.1) := by
  have hj := (List.getElem?_eq_some_iff.1 hx).1
  rw [List.take_add_one, hx, Option.toList_some, sumL_append]
  simp [sumL]
theorem sumL_bound : ∀ (l : List (Int × Int)), (∀ x ∈ l, 0 ≤ x.1 ∧ x.1 < x.2 ∧ x.2 ≤ 1048576) → 0 ≤ sumL l ∧ sumL l ≤ l.length * 1048576
  | [], _ => by simp [sumL]
  | x :: l, h => by
    have h1 := sumL_bound l fun y hy => h y (List.mem_cons_of_mem _ hy)
    have h2 := h x (by simp)
    have e : sumL (x :: l) = (x.2 - x.1) + sumL l := by simp [sumL]
    rw [e, List.length_cons]
    omega
set_option maxHeartbeats 400000 in
theorem isGap_max (w : World) : Calls Tryd.prog 56 #[.int .i64 1048576] w fun e w' => e = .returned (.bool true) ∧ w' = w := by
  go_enter Tryd.func56, Tryd.ntmps56
  go_wp2_with fail
  go_ret
  exact ⟨rfl, rfl⟩
section
variable {w : World} {a : Option Addr} {n cap : Nat} {l : List (Int × Int)}
theorem spanCheck_ok (h : Rw pieceV 2 w a n cap l) (hs : Srt l) (hb : ∀ x ∈ l, 0 ≤ x.1 ∧ x.2 ≤ 1048576) (hn : n ≤ 32768) :
    Calls Tryd.prog 19 #[.slice a n cap] w fun e w' => e = .returned (.tuple #[.int .i64 0, .int .i64 0]) ∧ Below w.heap.size w w' := by
  have HCK := Sp.check_any h.rng
  rw [check_srt hs hb (by rw [h.len]; exact hn)] at HCK
  exact HCK
set_option maxHeartbeats 4000000 in
theorem rankAll_any (h : Rw pieceV 2 w a n cap l) (hs : Srt l) (hb : ∀ x ∈ l, 0 ≤ x.1 ∧ x.2 ≤ 1048576) (hn : n ≤ 32768) :
    Calls Tryd.prog 44 #[.slice a n cap, .int .i64 1048576] w fun e w' => e = .returned (.tuple #[.int .i64 (sumL l), .int .i64 0]) ∧ Below w.heap.size w w' := by
  have HA := spanCheck_ok h hs hb hn
  have hlen := h.len
  have hmn := min_run
  have HG1 : Hid (∀ w, Calls Tryd.prog 56 #[.int .i64 1048576] w fun e w' => e = .returned (.bool true) ∧ w' = w) := isGap_max
  have HB : Hid (∀ x ∈ l, 0 ≤ x.1 ∧ x.1 < x.2 ∧ x.2 ≤ 1048576) := fun x hx => ⟨(hb x hx).1, hs.some_ x hx, (hb x hx).2⟩
  have HR : Hid (Rw pieceV 2 w a n cap l) := h
  clear hs hb h
  go_enter Tryd.func44, Tryd.ntmps44
  go_wp2_with fail
  refine HA.mono ?_
  rintro e w1 ⟨rfl, hb1⟩
  go_wp2_with fail
  refine (HG1.out _).mono ?_
  rintro e w2 ⟨rfl, rfl⟩
  go_wp2_with fail
  go_loopw [8, 24] (fun v i w' => ∃ j : Nat, j ≤ n ∧ i = .int .i64 j ∧ v = .int .i64 (sumL (l.take j)) ∧ Below w.heap.size w w') (fun _ i _ => n - (RowKit.intOf i).toNat)
  case atStart => exact ⟨0, Nat.zero_le _, rfl, rfl, hb1⟩
  case round =>
    clear HA HG1
    obtain ⟨j, hjn, rfl, rfl, hb⟩ := hrel
    have hsz := hb.size
    have hbb := sumL_bound (l.take j) fun x hx => HB.out x (List.mem_of_mem_take hx)
    have hlt : (l.take j).length ≤ 32768 := by rw [List.length_take]; omega
    by_cases hj : j < n
    · obtain ⟨g, off, x, rfl, hg, hx, hc⟩ := HR.out.at j hj
      have c0 := (hb.cell (p := ⟨g, off + j * 2 + 0, none⟩) hg).trans (hc 0 _ rfl)
      have c1 := (hb.cell (p := ⟨g, off + j * 2 + 1, none⟩) hg).trans (hc 1 _ rfl)
      simp only [Nat.add_zero] at c0
      obtain ⟨r1, r2, r3⟩ := HB.out x (List.mem_of_getElem? hx)
      have HS : Hid (sumL (l.take (j + 1)) = sumL (l.take j) + (x.2 - x.1)) := sumL_take l j x hx
      have hmin : min x.2 1048576 = x.2 := by omega
      clear hc hx
      generalize sumL (l.take j) = s at *
      have hlx : x.1 < 1048576 := by omega
      go_wp2_with fail
      go_roundw
      case rel => exact ⟨j + 1, by omega, by go_num, by rw [HS.out], hb.alloc (by omega) _⟩
      case measure => simp [RowKit.intOf]; omega
    · have e1 : l.take j = l := List.take_of_length_le (by omega)
      rw [e1]
      clear hbb
      go_wp2_with fail
      go_ret2
      exact ⟨rfl, hb⟩
theorem count_all (h : Rw pieceV 2 w a n cap l) (hs : Srt l) (hb : ∀ x ∈ l, 0 ≤ x.1 ∧ x.2 ≤ 1048576) (hn : n ≤ 32768) :
    Calls Tryd.prog 20 #[.slice a n cap] w fun e w' => e = .returned (.tuple #[.int .i64 (sumL l), .int .i64 0]) ∧ Below w.heap.size w w' := by
  have HA := rankAll_any h hs hb hn
  generalize sumL l = r at *
  go_enter Tryd.func20, Tryd.ntmps20
  go_wp2_with fail
  refine HA.mono ?_
  rintro e w1 ⟨rfl, hb1⟩
  go_wp2_with fail
  go_ret2
  exact ⟨rfl, hb1⟩
end
/-! The row. -/
theorem visR_none {l : List (Int × Int)} (h : ∀ c ∈ l, 0 < c.2) : visR l = [] := by
  unfold visR
  rw [List.filter_eq_nil_iff.2 fun c hc => by have := h c hc; simp; omega]
  rfl
section
variable {R l : List (Int × Int)} {F T : Nat}
theorem VInv.hides (hN : Nonneg R) (hFT : F ≤ T) (hT : T ≤ R.length) (h : VInv (F : Int) ((R.take T).drop F) l) : visR (bmp l 1 0 R) = visR (R.take F) ++ visR (R.drop T) := by
  have hC : ((R.take T).drop F).length = T - F := by rw [List.length_drop, List.length_take]; omega
  have e : R = R.take F ++ ((R.take T).drop F ++ R.drop T) := by
    have e1 : R.take F = (R.take T).take F := by rw [List.take_take, Nat.min_eq_left hFT]
    rw [e1, ← List.append_assoc, List.take_append_drop, List.take_append_drop]
  have hl1 : (R.take F).length = F := by rw [List.length_take]; omega
  have h1 : bmp l 1 0 (R.take F) = R.take F := bmp_none _ _ fun q hq1 hq2 => inL_false fun x hx => by have := h.bd x hx; omega
  have h3 : bmp l 1 ((0 : Int) + (R.take F).length + ((R.take T).drop F).length) (R.drop T) = R.drop T := bmp_none _ _ fun q hq1 hq2 => inL_false fun x hx => by have := h.bd x hx; omega
  have h2 : visR (bmp l 1 ((0 : Int) + (R.take F).length) ((R.take T).drop F)) = [] := by
    refine visR_none fun c hc => ?_
    obtain ⟨j, hj⟩ := List.getElem?_of_mem hc
    rw [bmp_get] at hj
    obtain ⟨x, hx, rfl⟩ := Option.map_eq_some_iff.1 hj
    have hm := h.mem j x hx
    have hx0 : 0 ≤ x.2 := hN x (List.mem_of_mem_take (List.mem_of_mem_drop (List.mem_of_getElem? hx)))
    rw [show (0 : Int) + ((R.take F).length : Int) + (j : Int) = (F : Int) + (j : Int) by omega, hm]
    by_cases hz : x.2 ≤ 0
    · simp [hz]; omega
    · simp [hz]; omega
  conv => lhs; rw [e]
  rw [bmp_append, bmp_append, visR_append, visR_append, h1, h2, h3]
  rfl
theorem bmp_back (R l : List (Int × Int)) : bmp l (-1) 0 (bmp l 1 0 R) = R := by
  apply List.ext_getElem?
  intro j
  rw [bmp_get, bmp_get, Option.map_map]
  rcases R[j]? with _ | c
  · rfl
  simp only [Function.comp, Option.map_some, Option.some.injEq]
  by_cases e : inL l (0 + (j : Int)) = true
  · rw [if_pos e, if_pos e]
    exact Prod.ext rfl (by simp only; omega)
  · rw [if_neg e, if_neg e]
theorem VInv.within (hFT : F ≤ T) (hT : T ≤ R.length) (h : VInv (F : Int) ((R.take T).drop F) l) : ∀ x ∈ l, 0 ≤ x.1 ∧ x.2 ≤ (R.length : Int) := fun x hx => by
  have h1 := h.bd x hx
  have hC : ((R.take T).drop F).length = T - F := by rw [List.length_drop, List.length_take]; omega
  omega
end
end Go.Proofs.YtcmefibipoidhaaDoor

/-! Visible, of a rope that holds a row. -/
namespace Go.Proofs.YtcmefibipoidhaaDoor
open Go.RowKit Go.Lib
set_option maxRecDepth 100000

/-- The list of the visible cells lo to hi - 1 of a row. -/
structure VisL (R : List (Int × Int)) (lo hi : Nat) (l : List (Int × Int)) : Prop where
  srt : Srt l
  within : ∀ x ∈ l, 0 ≤ x.1 ∧ x.2 ≤ (R.length : Int)
  few : l.length ≤ R.length
  cnt : sumL l = (hi : Int) - (lo : Int)
  hides : visR (bmp l 1 0 R) = (visR R).take lo ++ (visR R).drop hi
theorem visL_of {R : List (Int × Int)} (hN : Nonneg R) {F T lo hi : Nat} (hFT : F ≤ T) (hT : T ≤ R.length) {l : List (Int × Int)} (h : VInv (F : Int) ((R.take T).drop F) l)
    (e1 : visR (R.take F) = (visR R).take lo) (e2 : visR (R.drop T) = (visR R).drop hi) (e3 : ((visR ((R.take T).drop F)).length : Int) = (hi : Int) - (lo : Int)) : VisL R lo hi l :=
  ⟨h.srt, h.within hFT hT, by have := h.few; rw [List.length_drop, List.length_take] at this; omega, by rw [h.cnt, e3], by rw [h.hides hN hFT hT, e1, e2]⟩
theorem vinv_gv {l : List (List Int × Int)} {F T : Nat} : VInv (F : Int) (((rowOf l).take T).drop F) ((gv l 0 (F : Int) (T : Int)).foldl vst []) := by
  have hc := gv_cont l 0 (F : Int) (T : Int)
  have h := VInv.all (gv l 0 (F : Int) (T : Int)) (vinv_nil (F : Int)) (by
    rw [show (F : Int) + (([] : List (Int × Int)).length : Int) = max (F : Int) 0 by simp]
    exact hc)
  rw [gv_cells, List.nil_append] at h
  simpa using h
theorem place_mono {R : List (Int × Int)} {p q : Nat} (h : p ≤ q) (hq : q ≤ vis R) : place R p ≤ place R q := by
  have h1 := place_vis R p (by omega)
  have h2 := place_vis R q hq
  by_cases e : place R p ≤ place R q
  · exact e
  · have h3 := vis_take_mono R (show place R q + 1 ≤ place R p by omega)
    by_cases hl : q < vis R
    · have hlt := place_lt R q hl
      have hz := place_zero R q hl
      rw [List.getD_eq_getElem?_getD, List.getElem?_eq_getElem hlt] at hz
      simp only [Option.getD_some] at hz
      have h4 := vis_take_succ R (place R q) _ (List.getElem?_eq_getElem hlt)
      rw [if_pos hz] at h4
      omega
    · have := place_end R q (by omega)
      have := place_le R p
      omega
theorem vis_behind {R : List (Int × Int)} {q : Nat} (hl : q < vis R) : vis (R.take (place R q + 1)) = q + 1 := by
  have hlt := place_lt R q hl
  have hz := place_zero R q hl
  rw [List.getD_eq_getElem?_getD, List.getElem?_eq_getElem hlt] at hz
  simp only [Option.getD_some] at hz
  have h4 := vis_take_succ R (place R q) _ (List.getElem?_eq_getElem hlt)
  rw [if_pos hz, place_vis R q (by omega)] at h4
  exact h4
theorem Holds.visible {w2 : World} {q : Nat} {R : List (Int × Int)} {W : World} (h : Holds w2 q R W) (ho : ∀ c ∈ R, okR c.1) (hsm : R.length ≤ 31000) (lo hi : Nat) (h1 : lo ≤ hi) (h2 : hi ≤ vis R) :
    Calls Tryd.prog 18 #[.pointer (some ⟨q, 0, none⟩), .int .i64 (lo : Int), .int .i64 (hi : Int)] W fun e W' => ∃ a cap l, e = .returned (.tuple #[.slice a l.length cap, .int .i64 0]) ∧ Rw pieceV 2 W' a l.length cap l ∧ VisL R lo hi l ∧ Holds w2 q R W' ∧ Below W.heap.size W W' := by
  have h' := h
  obtain ⟨t, k1, k2, rfl, k3⟩ := h
  have hN : Nonneg t.row := k2.lo
  obtain ⟨F, T, hst, hvl⟩ : ∃ F T : Nat, (∀ X, Below W.heap.size W X → Calls Tryd.prog 40 #[.pointer (some ⟨q, 0, none⟩), .int .i64 (lo : Int), .int .i64 (hi : Int)] X fun e w' => e = .returned (.tuple #[.int .i64 (F : Int), .int .i64 (T : Int), .int .i64 0]) ∧ Below X.heap.size X w') ∧ VisL t.row lo hi ((gv t.lv 0 (F : Int) (T : Int)).foldl vst []) := by
    by_cases e : lo = hi
    · subst e
      refine ⟨0, 0, fun X hX => stretch_same (k1.below hX) k2.good lo h2, ?_⟩
      have hv := vinv_gv (l := t.lv) (F := 0) (T := 0)
      rw [← Tr.row_lv] at hv
      have := hv.hides hN (Nat.le_refl _) (Nat.zero_le _)
      refine ⟨hv.srt, hv.within (Nat.le_refl _) (Nat.zero_le _), Nat.le_trans hv.few (by simp), by rw [hv.cnt]; simp [visR], ?_⟩
      rw [this, List.take_append_drop]
      simp [visR]
    · obtain ⟨b, rfl⟩ : ∃ b, hi = b + 1 := ⟨hi - 1, by omega⟩
      refine ⟨place t.row lo, place t.row b + 1, fun X hX => ?_, ?_⟩
      · exact stretch_any (k1.below hX) k2.good lo b (by omega) (by omega)
      · have hv := vinv_gv (l := t.lv) (F := place t.row lo) (T := place t.row b + 1)
        rw [← Tr.row_lv] at hv
        have hm := place_mono (R := t.row) (show lo ≤ b by omega) (by omega)
        have hlt := place_lt t.row b (by omega)
        have s1 := visR_split hN (place t.row lo)
        have s2 := visR_split hN (place t.row b + 1)
        rw [place_vis t.row lo (by omega)] at s1
        rw [vis_behind (by omega)] at s2
        have hlen1 : (visR (t.row.take (place t.row lo))).length = lo := by rw [visR_vis fun x hx => hN x (List.mem_of_mem_take hx), place_vis t.row lo (by omega)]
        have hlen2 : (visR (t.row.take (place t.row b + 1))).length = b + 1 := by rw [visR_vis fun x hx => hN x (List.mem_of_mem_take hx), vis_behind (by omega)]
        have e1 : t.row.take (place t.row b + 1) = t.row.take (place t.row lo) ++ (t.row.take (place t.row b + 1)).drop (place t.row lo) := by
          conv => lhs; rw [← List.take_append_drop (place t.row lo) (t.row.take (place t.row b + 1))]
          rw [List.take_take, Nat.min_eq_left (by omega)]
        have hlen3 : (visR (t.row.take (place t.row b + 1))).length = (visR (t.row.take (place t.row lo))).length + (visR ((t.row.take (place t.row b + 1)).drop (place t.row lo))).length := by
          conv => lhs; rw [e1]
          rw [visR_append, List.length_append]
        exact visL_of hN (by omega) (by omega) hv s1.1.symm s2.2.symm (by omega)
  refine (visible_any k1 k2 (okl_row ho) hsm lo hi F T hst).mono fun e W' ⟨v, he, hown, hb⟩ => ?_
  obtain ⟨a, cap, rfl⟩ := hown.shape
  exact ⟨a, cap, _, he, hown.rw_ layP, hvl, h'.still hb, hb⟩
end Go.Proofs.YtcmefibipoidhaaDoor
