import Derived.Test.YtggdocnnbgcniaaDoorRrAC
import Derived.Test.YtggdocnnbgcniaaDoorStr
namespace Go.Proofs.YtggdocnnbgcniaaDoor
open Go.RowKit Go.Lib Go.Shelf
set_option maxRecDepth 100000
attribute [local go_sem] Oper.semAt_some

/-- The visible runes of a row. -/
def visR (l : List (Int × Int)) : List Int := (l.filter fun c => decide (c.2 ≤ 0)).map (·.1)
theorem visR_append (l k : List (Int × Int)) : visR (l ++ k) = visR l ++ visR k := by simp [visR]
/-- The visible runes of pieces. -/
def txG (ys : List (Int × List Int × Int)) : List Int := ys.flatMap fun y => if y.2.2 ≤ 0 then y.2.1 else []
theorem txG_append (l k : List (Int × List Int × Int)) : txG (l ++ k) = txG l ++ txG k := by simp [txG]
theorem visR_one (rs : List Int) (h : Int) : visR (rs.map fun c => (c, h)) = if h ≤ 0 then rs else [] := by
  unfold visR
  by_cases e : h ≤ 0
  · rw [if_pos e, List.filter_eq_self.2 (by simp [e]), List.map_map]
    exact List.map_id rs
  · rw [if_neg e, List.filter_eq_nil_iff.2 (by simp; intro _ _; omega)]
    rfl
theorem visR_cellsG : ∀ ys : List (Int × List Int × Int), visR (cellsG ys) = txG ys
  | [] => rfl
  | y :: ys => by
    have e : cellsG (y :: ys) = (y.2.1.map fun c => (c, y.2.2)) ++ cellsG ys := by simp [cellsG]
    have e2 : txG (y :: ys) = (if y.2.2 ≤ 0 then y.2.1 else []) ++ txG ys := by simp [txG]
    rw [e, visR_append, visR_one, visR_cellsG ys, e2]
theorem visR_sub (l : List (Int × Int)) : ∀ r ∈ visR l, ∃ c ∈ l, c.1 = r := fun r hr => by
  unfold visR at hr
  obtain ⟨c, hc, rfl⟩ := List.mem_map.1 hr
  exact ⟨c, (List.mem_filter.1 hc).1, rfl⟩
theorem visR_len (l : List (Int × Int)) : (visR l).length ≤ l.length := by
  unfold visR
  rw [List.length_map]
  exact List.length_filter_le _ _
theorem txG_pre {l k : List (Int × List Int × Int)} (h : l <+: k) : (txG l).length ≤ (txG k).length := by
  obtain ⟨m, rfl⟩ := h
  rw [txG_append, List.length_append]
  omega
/-- A row cut out. -/
def cutL (l : List (Int × Int)) (lo hi : Int) : List (Int × Int) := (l.take hi.toNat).drop lo.toNat
theorem encVs_bytes (rs : List Int) : encVs rs = Lib.byteCells (encs rs) := by
  unfold encVs encs Lib.byteCells encV
  induction rs with
  | nil => rfl
  | cons r rs ih => simp only [List.flatMap_cons, List.map_append, ih]
theorem builderAtF_keep {B b : Nat} {p : Value} {bs : List Value} {A C : World} {row : Option Nat} (h : Lib.BuilderAtF 109 5 B b p bs A) (hg : A.grownBy C row) (hr : ∀ r, row = some r → ∃ o : Obj, A.heap[r]? = some o ∧ o.isCells = false) : Lib.BuilderAtF 109 5 B b p bs C := by
  obtain ⟨hB, v, hb, hown, hne⟩ := h
  refine ⟨hB, v, (hg.block b (Array.getElem?_eq_some_iff.1 hb).1 (fun e => ?_)).trans hb, hown.kept hg ?_, hne⟩
  · obtain ⟨o, ho, hc⟩ := hr b e.symm
    rw [hb] at ho
    cases ho
    simp [Obj.isCells] at hc
  · by_cases e : v.ownBlock = row
    · left
      cases row with
      | none => exact e
      | some r =>
        obtain ⟨o, ho, hc⟩ := hr r rfl
        obtain ⟨c, fz, hh⟩ := Lib.ownsRowF_kind hown r e
        rw [hh] at ho
        cases ho
        simp [Obj.isCells] at hc
    · exact .inr e
theorem isBuilderF_keep {B b : Nat} {bs : List Value} {A C : World} {row : Option Nat} (h : Lib.IsBuilderF 109 5 B b bs A) (hg : A.grownBy C row) (hr : ∀ r, row = some r → ∃ o : Obj, A.heap[r]? = some o ∧ o.isCells = false) : Lib.IsBuilderF 109 5 B b bs C :=
  h.elim (fun x => .inl (builderAtF_keep x hg hr)) (fun x => .inr (builderAtF_keep x hg hr))
theorem isBuilderF_below {B b : Nat} {bs : List Value} {A C : World} (h : Lib.IsBuilderF 109 5 B b bs A) (hb : Below A.heap.size A C) : Lib.IsBuilderF 109 5 B b bs C :=
  isBuilderF_keep h (grown_of_below hb) (fun r e => by cases e)
theorem isBuilderF_new (w : World) : Lib.IsBuilderF 109 5 w.heap.size w.heap.size [] (w.alloc (.cells #[.pointer none, .slice none 0 0] 109)) :=
  .inl ⟨Nat.le_refl _, _, World.alloc_heap_new _ _, World.ownsRowF_nil _ _ _ _, by simp [Value.ownBlock]⟩
theorem keepsFrom_others {B b : Nat} {w w' : World} (h : Lib.OthersKept 5 (some b) w w') (hb : ∃ cs fz, w.heap[b]? = some (.cells cs 109 fz)) (hs : w.heap.size ≤ w'.heap.size) : KeepsFrom B w w' := by
  obtain ⟨cs, fz, hb⟩ := hb
  refine ⟨hs, fun k ob _ hk hc => h k ob hk (fun e => ?_) (fun c fz e => ?_)⟩
  · cases e; rw [hb] at hk; cases hk; simp [Obj.isCells] at hc
  · subst e; simp [Obj.isCells] at hc
theorem keepsFrom_below {B : Nat} {w w' : World} (h : Below w.heap.size w w') : KeepsFrom B w w' := ⟨h.size, fun k _ _ hk _ => (h.block k (Array.getElem?_eq_some_iff.1 hk).1).trans hk⟩
theorem keepsFrom_trans {B : Nat} {a b c : World} (h : KeepsFrom B a b) (k : KeepsFrom B b c) : KeepsFrom B a c := ⟨Nat.le_trans h.size k.size, fun i o hi ho hc => k.same i o hi (h.same i o hi ho hc) hc⟩
set_option maxHeartbeats 4000000 in
theorem textOf_any {w : World} {q : Nat} {t : Tr} (h : RopeAt w q t) (hR : t.Rp) (hO : Okl t.lv) (lo hi : Int) :
    Calls Tryd.prog 26 #[.pointer (some ⟨q, 0, none⟩), .int .i64 lo, .int .i64 hi] w fun e w' => ∃ s, e = .returned (.string s) ∧ s.data.toList = encs (visR (cutL t.row lo hi)) ∧ Below w.heap.size w w' := by
  refine (callsIn_wide (n := 6)).1 ?_
  have hlen := hR.len
  have HP : Hid (∀ W, Below w.heap.size w W → Calls Tryd.prog 33 #[.pointer (some ⟨q, 0, none⟩), .int .i64 lo, .int .i64 hi] W fun e w' => ∃ lb, e = .returned (.func (.func 57) #[] lb) ∧ Below W.heap.size W w' ∧
      ∀ n, SeqV Fence.wide n Tryd.prog 57 lb Pc.encs KpT Pc.V (fun xs => xs.map Pc.dat = gv t.lv 0 lo hi) (fun xs => xs.map Pc.dat <+: gv t.lv 0 lo hi) w') := fun W hW => pieces_any (h.below hW) hR hO lo hi
  clear h hR hO
  refine callsIn_of_wp_marks Tryd.func26 rfl trivial ?_ rfl
  simp only [Tryd.ntmps26, List.size_toArray, List.length_cons, List.length_nil, Nat.reduceAdd, Nat.reduceSub, Array.replicate_succ, Array.replicate_zero, List.push_toArray, List.append_toArray, List.nil_append, List.cons_append]
  gi_wp2
  refine ⟨trivial, (callsIn_wide.2 (HP.out _ ((Below.refl _ w).alloc (Nat.le_refl _) _))).mono ?_⟩
  rintro e w1 ⟨lb, rfl, hb1, hseq⟩
  have hB1 : Below w.heap.size w w1 := ((Below.refl _ w).alloc (Nat.le_refl _) _).trans (hb1.mono (by simp [World.size_alloc]))
  have hbu := isBuilderF_below (isBuilderF_new w) hb1
  clear hb1
  gi_wp2
  have HGC : Hid (visR (cutL t.row lo hi) = txG (gv t.lv 0 lo hi)) := by
    show _ = _
    rw [← visR_cellsG, gv_cells, ← Tr.row_lv, Int.sub_zero, Int.sub_zero]
    rfl
  have hGL : (txG (gv t.lv 0 lo hi)).length ≤ 1048576 := by
    rw [← HGC.out]
    refine Nat.le_trans (visR_len _) ?_
    unfold cutL
    rw [List.length_drop, List.length_take]
    omega
  refine rangeV (α := Pc) rfl rfl (by decide) (gf := 57) (lb := lb) rfl trivial (enters_of Tryd.func57 (by kernel_rfl) rfl) (hseq 5) KpT.trans kpT_b (Below.refl _ _) (fun _ => rfl)
    (fun (pre : List Pc) W => Lib.IsBuilderF 109 5 w.heap.size w.heap.size (encVs (txG (pre.map Pc.dat))) W ∧ Below w.heap.size w W ∧ ∀ r ∈ txG (pre.map Pc.dat), okR r) (fun _ _ _ => False)
    (fun s X Y row hs hg hr => ⟨isBuilderF_keep hs.1 hg (fun r e => (hr r e).2), ownFrom_below (β := Unit) (Nat.le_refl _) hB1.size () X Y row hs.2.1 hg hr, hs.2.2⟩)
    (fun c s X Y row hs hg hr => hs) (fun x => pc_own _ x) ⟨hbu, hB1, by simp [txG]⟩
    (fun x => { tmps := #[.pointer (some ⟨q, 0, none⟩), .int .i64 lo, .int .i64 hi, undef, undef, undef, .string { data := #[] }, .pointer (some ⟨w.heap.size, 0, none⟩), undef, .pointer (some ⟨x.g, 0, none⟩), .pointer (some ⟨q, 0, none⟩), .int .i64 lo, .int .i64 hi, .func (.func 57) #[] lb, .int .i64 x.at_, .pointer (some ⟨x.g, 0, none⟩), undef, undef, undef, undef, undef, undef, undef, undef, undef], defers := [] }) ?assign ?body ?done ?stop
  case assign =>
    intro lp x W K hK
    simp only [Pc.encs]
    gi_wp2
    exact hK
  case body =>
    rintro lp pre x W ⟨hbw, hB, hok⟩ ⟨st, hA, hfine, h32, hokx⟩ hsp
    obtain ⟨c0, c1, c2, c3, c4, c5, c6, c7, c8, c9⟩ := hA.ten
    have HS := smShown_any (Tr.leaf x.rs x.h st).sm W
    have hne : 0 < x.rs.length := by have := hfine.wf.pos; simpa [Tr.row] using this
    have HT : Hid (txG ((pre ++ [x]).map Pc.dat) = txG (pre.map Pc.dat) ++ if x.h ≤ 0 then x.rs else []) := by
      show _ = _
      rw [List.map_append, txG_append]
      simp [txG, Pc.dat]
    have HSL : Hid ((txG ((pre ++ [x]).map Pc.dat)).length ≤ 1048576) := Nat.le_trans (txG_pre hsp) hGL
    have HOK : Hid (∀ r ∈ txG (pre.map Pc.dat), okR r) := hok
    have HOKX : Hid (∀ r ∈ x.rs, okR r) := hokx
    have HA : Hid (At W (Tr.leaf x.rs x.h st) x.g) := hA
    clear hok hokx hA hsp hfine
    gi_wp2
    by_cases hh : x.h ≤ 0
    · have hsh : (Tr.leaf x.rs x.h st).sm.shown = (x.rs.length : Int) := by
        show (if 0 < x.h then (0 : Int) else (x.rs.length : Int)) = _
        rw [if_neg (by omega)]
      rw [hsh] at HS
      refine ⟨trivial, CallsIn.inRound _ ((callsIn_wide.2 HS).mono ?_)⟩
      rintro e W2 ⟨rfl, hb2⟩
      clear c0 c1 c2 c3 c4 c5 c6 c7 c8 c9 HS
      have hbw2 := isBuilderF_below hbw hb2
      have HW := write_any (B := w.heap.size) (b := w.heap.size) (HA.out.below hb2) (fun r hr => (HOKX.out r hr).1) h32 hbw2 (by
        have h1 := encVs_len (rs := txG (pre.map Pc.dat)) (fun r hr => (HOK.out r hr).1)
        have h2 := HSL.out
        rw [HT.out, List.length_append] at h2
        omega) (by have := hB.size; have := hb2.size; omega)
      have hbk := isBuilderF_block hbw2
      gi_wp2
      refine ⟨trivial, CallsIn.inRound _ ((callsIn_wide.2 HW).mono ?_)⟩
      rintro e W3 ⟨⟨v, rfl⟩, h3, hb3, ho3⟩
      gi_wp2
      refine ⟨keepsFrom_trans (keepsFrom_below hb2) (keepsFrom_others ho3 hbk hb3.size), (KpT.below hb2).trans (KpT.others ho3 hbk hb3.size), ?_, (hB.trans (hb2.mono hB.size)).trans hb3, ?_⟩
      · rw [HT.out, if_pos hh, encVs_append]; exact h3
      · rw [HT.out, if_pos hh]
        intro r hr
        rcases List.mem_append.1 hr with h | h
        · exact HOK.out r h
        · exact HOKX.out r h
    · have hsh : (Tr.leaf x.rs x.h st).sm.shown = 0 := by
        show (if 0 < x.h then (0 : Int) else (x.rs.length : Int)) = _
        rw [if_pos (by omega)]
      rw [hsh] at HS
      refine ⟨trivial, CallsIn.inRound _ ((callsIn_wide.2 HS).mono ?_)⟩
      rintro e W2 ⟨rfl, hb2⟩
      clear c0 c1 c2 c3 c4 c5 c6 c7 c8 c9 HS
      have hbw2 := isBuilderF_below hbw hb2
      gi_wp2
      refine ⟨keepsFrom_below hb2, KpT.below hb2, ?_, hB.trans (hb2.mono hB.size), ?_⟩
      · rw [HT.out, if_neg (show ¬ x.h ≤ 0 by omega), List.append_nil]; exact hbw2
      · rw [HT.out, if_neg (show ¬ x.h ≤ 0 by omega), List.append_nil]; exact HOK.out
  case done =>
    rintro D ys W hD hS ⟨hbw, hB, hok⟩ hKd
    rw [hS, ← HGC.out, encVs_bytes] at hbw
    have HST := Tryd.Builder_String_any_k w.heap.size w.heap.size _ W hbw hB.size
    have hbk := isBuilderF_block hbw
    clear hbw hS hok
    gi_wp2
    refine ⟨trivial, (callsIn_wide.2 HST).mono ?_⟩
    rintro e W2 ⟨rfl, _, hb2, ho2⟩
    have hKd2 : W2.heap[D]? = some (.deferred (some [])) := ho2 D _ hKd (fun e => by cases e; obtain ⟨cs, fz, hbk⟩ := hbk; rw [hbk] at hKd; cases hKd) (fun c fz e => by cases e)
    gi_wp2
    refine ⟨by simp, .inl ⟨_, _, rfl, run_takeDeferred hKd2, ?_⟩⟩
    refine ⟨_, results_tmp rfl _ _ _, _, rfl, by simp, ?_⟩
    exact (hB.trans hb2).grown (grownBy_putObj' W2 D _) (by have := hB.size; have := hb2.size; omega) (fun k hk => by cases hk; have := hB1.size; omega)
  case stop =>
    rintro D c pre W hD hSp hf hKd
    exact hf.elim
end Go.Proofs.YtggdocnnbgcniaaDoor
