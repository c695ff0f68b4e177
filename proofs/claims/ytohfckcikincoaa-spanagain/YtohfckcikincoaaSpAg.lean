import Derived.Test.YtohfckcikincoaaSpOne
import Derived.Test.YtohfckcikincoaaSpWh
import Derived.Test.YtohfckcikincoaaSpFi
import Derived.Laws.EntriesVeiled
namespace Go.Proofs.Ytohfckcikincoaa
open Go.RowKit Go.Lib Go.Shelf
set_option maxRecDepth 100000
attribute [local go_sem] Oper.semAt_some

/-- All but the blocks from lo to hi - 1 is as it was. -/
structure KeptOut (lo hi : Nat) (w w' : World) : Prop where
  os : w'.os = w.os
  tape : w'.tape = w.tape
  output : w'.output = w.output
  size : w'.heap.size = w.heap.size
  block : ∀ k, k < lo ∨ hi ≤ k → w'.heap[k]? = w.heap[k]?
theorem KeptOut.refl (lo hi : Nat) (w : World) : KeptOut lo hi w w := ⟨rfl, rfl, rfl, rfl, fun _ _ => rfl⟩
theorem KeptOut.set {lo hi : Nat} {w w' : World} (h : KeptOut lo hi w w') {p : Addr} (h1 : lo ≤ p.block) (h2 : p.block < hi) (u : Value) : KeptOut lo hi w (w'.setCell p u) :=
  ⟨h.os, h.tape, h.output, by simp [World.setCell, h.size], fun k hk => (Below.heap_setCell _ _ _ _ (by omega)).trans (h.block k hk)⟩
theorem KeptOut.below {lo hi : Nat} {w w' : World} (h : KeptOut lo hi w w') : Below lo w w' := ⟨h.os, h.tape, h.output, Nat.le_of_eq h.size.symm, fun k hk => h.block k (.inl hk)⟩
theorem Own.keptOut {lo hi B : Nat} {w w' : World} {v : Value} {l : List (Int × Int)} (h : Own w B v l) (hk : KeptOut lo hi w w') (hB : hi ≤ B) : Own w' B v l := by
  refine ⟨h.1, ?_⟩
  rcases h.2 with h0 | ⟨g, cap, cur, e, h1, hh, rest⟩
  · exact .inl h0
  · exact .inr ⟨g, cap, cur, e, h1, (hk.block g (.inr (by omega))).trans hh, rest⟩
theorem cell_of_heap {w w' : World} {b o : Nat} (h : w'.heap[b]? = w.heap[b]?) : w'.cell? ⟨b, o, none⟩ = w.cell? ⟨b, o, none⟩ := by simp [World.cell?, h]
theorem want_next {M want pre : List Int} {k : Nat} (hw : M.take k = want) (hp : pre <+: M) (hl : pre.length < want.length) : pre ++ [want.getD pre.length 0] <+: M := by
  have hk : pre.length < M.length := by rw [← hw, List.length_take] at hl; omega
  have hk2 : pre.length < k := by rw [← hw, List.length_take] at hl; omega
  have e1 : want.getD pre.length 0 = M[pre.length] := by
    rw [List.getD_eq_getElem?_getD, ← hw, List.getElem?_take, if_pos hk2, List.getElem?_eq_getElem hk]; rfl
  have e2 := List.prefix_iff_eq_take.1 hp
  have e3 : pre ++ [M[pre.length]] = M.take (pre.length + 1) := by rw [List.take_succ_eq_append_getElem hk, ← e2]
  rw [e1, e3]
  exact List.take_prefix _ _
theorem want_over {M want pre : List Int} {k : Nat} (hw : M.take k = want) (hp : pre <+: M) (hl : want.length ≤ pre.length) (hk : pre.length < k) : pre = M := by
  have h1 := hp.length_le
  have h2 : want.length = min k M.length := by rw [← hw, List.length_take]
  exact hp.eq_of_length (by omega)
theorem flat_setAt (l : List (Int × Int)) (i : Nat) (x y : Int) : ((flat l).set (i * 2) (.int .i64 x)).set (i * 2 + 1) (.int .i64 y) = flat (l.set i (x, y)) := by
  induction l generalizing i with
  | nil => simp [flat]
  | cons r t ih =>
    cases i with
    | zero => simp [flat]
    | succ i =>
      have := ih i
      simp only [flat, List.flatMap_cons, List.set_cons_succ, List.cons_append, List.nil_append, show (i + 1) * 2 = i * 2 + 1 + 1 by omega] at this ⊢
      rw [← this]
theorem own_setAt {w : World} {B g n cap : Nat} {l : List (Int × Int)} (h : Own w B (.slice (some ⟨g, 0, none⟩) n cap) l) (i : Nat) (x y : Int) :
    Own ((w.setCell ⟨g, i * 2, none⟩ (.int .i64 x)).setCell ⟨g, i * 2 + 1, none⟩ (.int .i64 y)) B (.slice (some ⟨g, 0, none⟩) n cap) (l.set i (x, y)) := by
  have hlen := h.rng.len
  have h' : w.ownsRow B 38 2 (.slice (some ⟨g, 0, none⟩) n cap) n (flat l) := by
    unfold Own at h
    rw [hlen] at h
    exact h
  have h1 := (World.ownsRow.stored h' (i * 2) (.int .i64 x)).1
  have h2 := (World.ownsRow.stored h1 (i * 2 + 1) (.int .i64 y)).1
  rw [flat_setAt] at h2
  unfold Own
  rw [List.length_set, hlen]
  exact h2
theorem allPl_take_le (L : List (Int × Int)) (k : Nat) : ((allPl L).take k).length ≤ k := by rw [List.length_take]; omega
set_option maxHeartbeats 16000000 in
theorem spanAgain_any {w : World} {v : Value} {a : Option Addr} {na ca : Nat} {la : List (Int × Int)} {b : Option Addr} {nb cb : Nat} {lb : List (Int × Int)} {pa : Option Addr} {np cp : Nat} {zs : List Int} {at_ n : Int} (hi : InR w v a na ca la b nb cb lb pa np cp zs at_ n) :
    Calls Try.prog 7 #[v] w fun e w' => e = .returned (.bool true) ∧ Below w.heap.size w w' := by
  have hra := hi.ra
  have hv := hi.val
  subst hv
  clear hi
  obtain ⟨K, hK⟩ : ∃ K, min (max n 1) 60 = K := ⟨_, rfl⟩
  have hK0 : 1 ≤ K := by omega
  have hK1 : K ≤ 60 := by omega
  have hmx : ∀ ats ty (w : World), (Builtin.max_ ats ty #[.int .i64 n, .int .i64 1]).run Try.prog w = .ok (.int .i64 (max n 1)) w := fun ats ty w => max_run ats ty n 1 w
  have hmn : ∀ ats ty (w : World), (Builtin.min_ ats ty #[.int .i64 (max n 1), .int .i64 60]).run Try.prog w = .ok (.int .i64 K) w := fun ats ty w => by rw [min_run, hK]
  have qf : ∀ (w : World) (f : Fn) (x y : Array Value), (binOp .eql 49 (.func f x y) .nilFunc).run Try.prog w = .ok (.bool false) w := fun w f x y => run_eql_func_nil w _ _ _ _ f x y Try.underlying49
  clear hK
  refine (callsIn_wide (n := 14)).1 ?_
  have hB0 : Below w.heap.size w ((w.alloc (.cells #[.slice a na ca, .slice b nb cb, .slice pa np cp, .int .i64 at_, .int .i64 n] 25)).alloc (.cells #[.bool false] 4)) := ((Below.refl _ _).alloc (Nat.le_refl _) _).alloc (by simp) _
  have bR0 : Boxed ((w.alloc (.cells #[.slice a na ca, .slice b nb cb, .slice pa np cp, .int .i64 at_, .int .i64 n] 25)).alloc (.cells #[.bool false] 4)) (w.heap.size + 1) 4 (.bool false) := by
    have := Boxed.new (w.alloc (.cells #[.slice a na ca, .slice b nb cb, .slice pa np cp, .int .i64 at_, .int .i64 n] 25)) 4 (.bool false)
    rwa [World.size_alloc] at this
  have cN0 : ((w.alloc (.cells #[.slice a na ca, .slice b nb cb, .slice pa np cp, .int .i64 at_, .int .i64 n] 25)).alloc (.cells #[.bool false] 4)).cell? ⟨w.heap.size, 4, none⟩ = some (.int .i64 n) :=
    ((Below.refl (w.heap.size + 1) (w.alloc (.cells #[.slice a na ca, .slice b nb cb, .slice pa np cp, .int .i64 at_, .int .i64 n] 25))).alloc (by simp) _).cell (p := ⟨w.heap.size, 4, none⟩) (by simp) |>.trans (World.cell?_alloc_mark _ _ _ _ _)
  have hsz0 : ((w.alloc (.cells #[.slice a na ca, .slice b nb cb, .slice pa np cp, .int .i64 at_, .int .i64 n] 25)).alloc (.cells #[.bool false] 4)).heap.size = w.heap.size + 2 := by simp
  refine callsIn_of_wp_marks Try.func7 rfl trivial ?_ rfl
  simp only [Try.ntmps7, List.size_toArray, List.length_cons, List.length_nil, Nat.reduceAdd, Nat.reduceSub, Array.replicate_succ, Array.replicate_zero, List.push_toArray, List.append_toArray, List.nil_append, List.cons_append]
  gi_wp2
  obtain ⟨W0, hW0⟩ : ∃ W0, (w.alloc (.cells #[.slice a na ca, .slice b nb cb, .slice pa np cp, .int .i64 at_, .int .i64 n] 25)).alloc (.cells #[.bool false] 4) = W0 := ⟨_, rfl⟩
  rw [hW0] at hB0 bR0 cN0 hsz0 ⊢
  clear hW0
  refine ⟨trivial, (callsIn_wide.2 (right_any (hra.below hB0))).mono ?_⟩
  rintro e w1 ⟨o1, no1, co1, p1, rfl, ho1, hb1, HP1, hn1⟩
  gi_wp2
  refine ⟨trivial, (callsIn_wide.2 (lawCopied_any ho1.rng (by omega))).mono ?_⟩
  rintro e w2 ⟨a2, cap2, rfl, ho2, hb2⟩
  gi_wp2
  refine ⟨trivial, (callsIn_wide.2 (make_parts ho2.rng (by omega) HP1.out)).mono ?_⟩
  rintro e w3 ⟨A, a3, cap3, rfl, hoA, hb3, hLA, _⟩
  have hb03 := (hb1.trans (hb2.mono hb1.size)).trans (hb3.mono (hb1.trans (hb2.mono hb1.size)).size)
  clear hb1 hb2 hb3 ho1 ho2 HP1 hra
  gi_wp2
  refine ⟨trivial, (callsIn_wide.2 (num_any _ _)).mono ?_⟩
  rintro e w4 ⟨rfl, rfl⟩
  gi_wp2
  refine ⟨trivial, (callsIn_wide.2 (awake_any _)).mono ?_⟩
  rintro e w5 ⟨rfl, hb5⟩
  have hb05 := hb03.trans (hb5.mono hb03.size)
  replace hoA := hoA.below hb5
  have bR5 : Boxed w5 (w.heap.size + 1) 4 (.bool false) := (hb05.block _ (by omega)).trans bR0
  have cN5 := (hb05.cell (p := ⟨w.heap.size, 4, none⟩) (by simp; omega)).trans cN0
  have hB5 := hB0.trans (hb05.mono hB0.size)
  have hs5 := hb05.size
  clear hb03 hb5 hb05 cN0 bR0 hB0
  have hfA := hLA.few
  have HLA : Hid (Lst A) := hLA
  gi_wp2
  have hb6' := (Below.refl w5.heap.size w5).alloc (Nat.le_refl _) (.cells #[.int .i64 K] 3)
  have bK6 := Boxed.new w5 3 (.int .i64 K)
  refine ⟨trivial, (callsIn_wide.2 (first_any (hoA.below hb6').rng K (by omega) (by omega))).mono ?_⟩
  rintro e w6 ⟨v6, rfl, hw6, hb6⟩
  rw [heldL_ok hLA] at hw6
  have hlW := allPl_take_le A K.toNat
  have HWT : Hid (∃ M, (allPl A).take K.toNat = M) := ⟨_, rfl⟩
  obtain ⟨want, hwant⟩ : ∃ M, (allPl A).take K.toNat = M := ⟨_, rfl⟩
  rw [hwant] at hw6 hlW
  obtain ⟨aw, cw, rfl⟩ := hw6.shape
  have HWant : Hid ((allPl A).take K.toNat = want) := hwant
  have hb56 := hb6'.trans (hb6.mono (by simp))
  have bK6' : Boxed w6 w5.heap.size 3 (.int .i64 K) := (hb6.block _ (by simp)).trans bK6
  have bR6 : Boxed w6 (w.heap.size + 1) 4 (.bool false) := (hb56.block _ (by omega)).trans bR5
  have hB6 := hB5.trans (hb56.mono hB5.size)
  have hs6 : w5.heap.size < w6.heap.size := by have := hb6.size; simp at this; omega
  replace hoA := hoA.below hb56
  have hUA := hoA.rng.under
  have hUW := hw6.rng.under
  clear hb6' hb6 hb56 bK6 bR5 hB5 cN5 HWT hwant hLA
  gi_wp2
  have hb7 := (Below.refl w6.heap.size w6).alloc (Nat.le_refl _) (.cells #[.slice aw want.length cw] 23)
  have bW7 := Boxed.new w6 23 (.slice aw want.length cw)
  refine ⟨trivial, (callsIn_wide.2 (copied_own (hoA.below hb7) hfA)).mono ?_⟩
  rintro e w8 ⟨a8, c8, rfl, ho8, hb8⟩
  have hb68 := hb7.trans (hb8.mono (by simp))
  have bW8 : Boxed w8 w6.heap.size 23 (.slice aw want.length cw) := (hb8.block _ (by simp)).trans bW7
  have bK8 : Boxed w8 w5.heap.size 3 (.int .i64 K) := (hb68.block _ hs6).trans bK6'
  have bR8 : Boxed w8 (w.heap.size + 1) 4 (.bool false) := (hb68.block _ (by omega)).trans bR6
  have hB8 := hB6.trans (hb68.mono hB6.size)
  have hw8 := hw6.below hb68
  have hs8 : w6.heap.size < w8.heap.size := by have := hb8.size; simp at this; omega
  replace hoA := hoA.below hb68
  rw [World.size_alloc] at ho8
  clear hb7 hb8 hb68 bW7 bK6' bR6 hB6 hw6
  gi_wp2
  refine ⟨trivial, (callsIn_wide.2 (each_any ho8.rng)).mono ?_⟩
  rintro e w9 ⟨a9, n9, c9, rfl, hc9, hs9, hO9, hb9⟩
  rw [heldL_ok HLA.out] at hO9
  have bW9 : Boxed w9 w6.heap.size 23 (.slice aw want.length cw) := (hb9.block _ hs8).trans bW8
  have bK9 : Boxed w9 w5.heap.size 3 (.int .i64 K) := (hb9.block _ (by omega)).trans bK8
  have bR9 : Boxed w9 (w.heap.size + 1) 4 (.bool false) := (hb9.block _ (by omega)).trans bR8
  have hB9 := hB8.trans (hb9.mono hB8.size)
  have hw9 := hw8.below hb9
  have ho9 := ho8.below hb9
  replace hoA := hoA.below hb9
  have H8 : Hid (∀ g, a8 = some ⟨g, 0, none⟩ → 0 < A.length → g < w8.heap.size) := fun g hg hp => by
    obtain ⟨g', e, _, h2, _⟩ := own_ptr ho8 hp
    rw [hg] at e
    cases e
    exact h2
  have bH9 := hc9
  clear hb9 bW8 bK8 bR8 hB8 hw8 ho8
  gi_wp2
  obtain ⟨w10, hw10⟩ : ∃ w10, w9.alloc (.cells #[Value.func (Fn.func 49) #[] #[Value.pointer (some { block := w8.heap.size, off := 0 })]] 49) = w10 := ⟨_, rfl⟩
  have hb10 : Below w9.heap.size w9 w10 := by rw [← hw10]; exact (Below.refl _ _).alloc (Nat.le_refl _) _
  have bE10 : Boxed w10 w9.heap.size 49 (.func (.func 49) #[] #[.pointer (some ⟨w8.heap.size, 0, none⟩)]) := by rw [← hw10]; exact Boxed.new _ _ _
  have hs10 : w10.heap.size = w9.heap.size + 1 := by rw [← hw10]; simp
  rw [hw10]
  clear hw10
  gi_loopw [9] (fun vi wr => ∃ (i : Nat) (X : List (Int × Int)), i ≤ A.length ∧ vi = .int .i64 i ∧ Own wr (w6.heap.size + 1) (.slice a8 A.length c8) X ∧ X.length = A.length ∧ KeptOut (w6.heap.size + 1) w8.heap.size w10 wr) (fun i _ => A.length - (intOf i).toNat)
  case atStart => exact ⟨0, A, Nat.zero_le _, rfl, ho9.below hb10, rfl, KeptOut.refl _ _ _⟩
  case round =>
    obtain ⟨i, X, hiA, rfl, hoX, hXl, hko⟩ := hrel
    by_cases hlt : i < A.length
    · obtain ⟨g8, rfl, hg1, hg2, hfz⟩ := own_ptr hoX (by omega)
      obtain ⟨g, off, e, hg, hc, hd⟩ := hoX.rng.cells i hlt
      cases e
      have f0 := hfz (i * 2)
      have f1 := hfz (i * 2 + 1)
      simp only [Nat.zero_add] at hc hd
      have hg8 := H8.out g8 rfl (by omega)
      gi_wp2
      exact ⟨⟨i + 1, X.set i ((i : Int), (i : Int) + 1), by omega, by go_num, own_setAt hoX i _ _, by rw [List.length_set]; exact hXl, (hko.set (p := ⟨g8, i * 2, none⟩) hg1 hg8 _).set (p := ⟨g8, i * 2 + 1, none⟩) hg1 hg8 _⟩, by simp [intOf]; omega⟩
    · have hbk := hb10
      have bE : Boxed wr w9.heap.size 49 (.func (.func 49) #[] #[.pointer (some ⟨w8.heap.size, 0, none⟩)]) := (hko.block _ (by omega)).trans bE10
      have bW : Boxed wr w6.heap.size 23 (.slice aw want.length cw) := (hko.block _ (by omega)).trans ((hb10.block _ (by omega)).trans bW9)
      have bK : Boxed wr w5.heap.size 3 (.int .i64 K) := (hko.block _ (by omega)).trans ((hb10.block _ (by omega)).trans bK9)
      have bR : Boxed wr (w.heap.size + 1) 4 (.bool false) := (hko.block _ (by omega)).trans ((hb10.block _ (by omega)).trans bR9)
      have hlo : Below (w6.heap.size + 1) w9 wr := (hb10.mono (by omega)).trans hko.below
      have rA : Rng wr a3 A.length cap3 A := hoA.rng.belowB (hUA.mono (by omega)) hlo
      have rW : RngI wr aw want.length cw want := hw9.rng.belowB (hUW.mono (by omega)) hlo
      have hBw : Below w.heap.size w wr := hB9.trans (hlo.mono (by omega))
      have cH : wr.cell? ⟨w8.heap.size, 0, none⟩ = some (.slice a9 n9 c9) := (cell_of_heap ((hko.block _ (by omega)).trans (hb10.block _ (by omega)))).trans hc9
      have hOH : Own wr (w8.heap.size + 1) (.slice a9 n9 c9) A := (hO9.below hb10).keptOut hko (by omega)
      have hH : w8.heap.size < wr.heap.size := by have := hko.size; omega
      have hsr : w9.heap.size < wr.heap.size := by have := hko.size; omega
      clear hoX hko hbk hlo hb10 bE10 bW9 bK9 bR9 hB9 hw9 ho9 hoA hO9 hc9 H8 bH9 hUA hUW hXl hiA
      have cE := bE.cell
      have cK := bK.cell
      have cW := bW.cell
      have hlt' : decide (i < A.length) = false := decide_eq_false hlt
      gi_wp2
      have bN0 := Boxed.new wr 3 (.int .i64 0)
      have hbn := (Below.refl wr.heap.size wr).alloc (Nat.le_refl _) (.cells #[.int .i64 0] 3)
      have hsn : (wr.alloc (.cells #[.int .i64 0] 3)).heap.size = wr.heap.size + 1 := by simp
      have cHn := (hbn.cell (p := ⟨w8.heap.size, 0, none⟩) hH).trans cH
      have hOn := hOH.below hbn
      obtain ⟨Wn, hWn⟩ : ∃ Wn, wr.alloc (.cells #[.int .i64 0] 3) = Wn := ⟨_, rfl⟩
      rw [hWn] at bN0 hbn hsn cHn hOn ⊢
      clear hWn
      refine wpIn_rangeFunc_ownH rfl (by decide) (gf := 49) (lb := #[.pointer (some ⟨w8.heap.size, 0, none⟩)]) rfl trivial (enters_of Try.func49 (by kernel_rfl) rfl)
        (iter_stops 13 (by decide) w8.heap.size (w8.heap.size + 1) a9 n9 c9 A HLA.out Wn (by omega) cHn hOn) KeepsR.trans keepsR_b (Below.refl _ _) (fun _ => rfl)
        (fun (pre : List Int) W => Boxed W wr.heap.size 3 (.int .i64 (pre.length : Int)) ∧ Below wr.heap.size wr W ∧ Hid (pre <+: allPl A) ∧ (pre.length : Int) < K)
        (fun c (pre : List Int) W => (c = .ret ∧ ¬ pre <+: allPl A) ∨ (c = .exit 2 ∧ (pre.length : Int) = K ∧ Boxed W wr.heap.size 3 (.int .i64 (pre.length : Int)) ∧ Below wr.heap.size wr W))
        (fun s X Y row hs hg hr => ⟨box_keep hs.1 hg hr, ownFrom_below (β := Unit) (Nat.le_refl _) (by omega) () X Y row hs.2.1 hg hr, hs.2.2⟩)
        (fun c s X Y row hs hg hr => by
          rcases hs with hs | ⟨h1, h2, h3, h4⟩
          · exact .inl hs
          · exact .inr ⟨h1, h2, box_keep h3 hg hr, ownFrom_below (β := Unit) (Nat.le_refl _) (by omega) () X Y row h4 hg hr⟩)
        ⟨bN0, hbn, List.nil_prefix, by simp; omega⟩
        (fun x a' _ => a' = { tmps := #[Value.agg #[Value.slice a na ca, Value.slice b nb cb, Value.slice pa np cp, Value.int IntKind.i64 at_, Value.int IntKind.i64 n], Value.pointer (some { block := w.heap.size, off := 0 }), Value.pointer (some { block := w.heap.size + 1, off := 0 }), Value.slice a3 A.length cap3, Value.int IntKind.i64 0, Value.pointer (some { block := w5.heap.size, off := 0 }), Value.pointer (some { block := w6.heap.size, off := 0 }), Value.slice a8 A.length c8, Value.pointer (some { block := w9.heap.size, off := 0 }), Value.int IntKind.i64 ↑i, Value.pointer (some { block := wr.heap.size, off := 0 }), .int .i64 x, undef, undef, Value.tuple #[Value.slice a3 A.length cap3, Value.int IntKind.i64 0], Value.pointer (some { block := w.heap.size, off := 0 }), Value.slice a na ca, Value.slice o1 no1 co1, Value.slice a2 no1 cap2, Value.tuple #[Value.slice a3 A.length cap3, Value.int IntKind.i64 0], Value.slice a3 A.length cap3, Value.int IntKind.i64 0, Value.int IntKind.i64 0, Value.int IntKind.i64 0, Value.bool false, Value.bool false, Value.bool true, Value.bool false, Value.bool false, Value.pointer (some { block := w.heap.size, off := 4 }), Value.int IntKind.i64 n, Value.int IntKind.i64 (max n 1), Value.int IntKind.i64 K, Value.slice a3 A.length cap3, Value.int IntKind.i64 K, Value.slice aw want.length cw, Value.slice a3 A.length cap3, Value.slice a8 A.length c8, Value.slice a8 A.length c8, Value.func (Fn.func 49) #[] #[Value.pointer (some { block := w8.heap.size, off := 0 })], Value.func (Fn.func 49) #[] #[Value.pointer (some { block := w8.heap.size, off := 0 })], Value.bool false, Value.int IntKind.i64 ↑i, Value.slice a8 A.length c8, Value.int IntKind.i64 ↑A.length, Value.bool false, u46, u47, u48, u49, u50, u51, u52, u53, u54, Value.func (Fn.func 49) #[] #[Value.pointer (some { block := w8.heap.size, off := 0 })], .int .i64 x, undef, undef, undef, undef, undef, undef, undef, undef, undef, undef, undef, undef, undef, undef, undef, undef, undef, undef, undef, undef, undef, undef, undef, undef, undef, undef, undef, undef, undef, undef, undef, undef, undef, undef, undef, undef, undef, undef, undef, undef, undef, undef, undef, undef, undef, undef, undef, undef], defers := [] })
        (fun _ _ _ _ _ _ hs _ _ => hs)
        ?assign ?body ?done ?stop
      case assign =>
        rintro lp pre x W Kc hI hKc
        gi_wp2
        exact hKc _ _ (KeepsFrom.refl _ _) (KeepsR.refl _) hI rfl
      case body =>
        rintro lp pre x a' W hlp ⟨r, hr⟩ ⟨bN, hBW, hpre, hplt⟩ rfl hN
        have hsW := hBW.size
        have bRW : Boxed W (w.heap.size + 1) 4 (.bool false) := (hBW.block _ (by omega)).trans bR
        have cN := bN.cell
        have fN := bN.frozen
        have cRW := bRW.cell
        have fRW := bRW.frozen
        have cEW := (hBW.cell (p := ⟨w9.heap.size, 0, none⟩) hsr).trans cE
        have cWW := (hBW.cell (p := ⟨w6.heap.size, 0, none⟩) (by simp; omega)).trans cW
        have cKW := (hBW.cell (p := ⟨w5.heap.size, 0, none⟩) (by simp; omega)).trans cK
        by_cases hwl : pre.length < want.length
        · obtain ⟨gw, ow, rfl, hgw, hcw⟩ := rW.cells pre.length hwl
          have c0 := (hBW.cell (p := ⟨gw, ow + pre.length, none⟩) hgw).trans hcw
          have HNX : Hid (pre ++ [want.getD pre.length 0] <+: allPl A) := want_next HWant.out hpre.out hwl
          have e1 : decide (want.length ≤ pre.length) = false := decide_eq_false (by omega)
          generalize hy : want.getD pre.length 0 = y at *
          clear hcw
          by_cases hx : x = y
          · subst hx
            have bN2 := bN.set (.int .i64 ((pre.length : Int) + 1))
            have hB2 := hBW.setCell (p := ⟨wr.heap.size, 0, none⟩) (Nat.le_refl _) (.int .i64 ((pre.length : Int) + 1))
            have k2 := keepsR_set (v := .int .i64 ((pre.length : Int) + 1)) bN (by decide)
            have kf2 := (KeepsOthers.setCell W ⟨wr.heap.size, 0, none⟩ (.int .i64 ((pre.length : Int) + 1))).from Wn.heap.size
            have cE2 := (hB2.cell (p := ⟨w9.heap.size, 0, none⟩) hsr).trans cE
            have hs2 : (W.setCell ⟨wr.heap.size, 0, none⟩ (.int .i64 ((pre.length : Int) + 1))).heap.size = W.heap.size := by simp [World.setCell]
            have hB3 := hB2.alloc (show wr.heap.size ≤ (W.setCell ⟨wr.heap.size, 0, none⟩ (.int .i64 ((pre.length : Int) + 1))).heap.size by omega) (.cells #[.int .i64 0] 3)
            have cE3 := (hB3.cell (p := ⟨w9.heap.size, 0, none⟩) hsr).trans cE
            have bI3 : Boxed ((W.setCell ⟨wr.heap.size, 0, none⟩ (.int .i64 ((pre.length : Int) + 1))).alloc (.cells #[.int .i64 0] 3)) W.heap.size 3 (.int .i64 0) := by
              have := Boxed.new (W.setCell ⟨wr.heap.size, 0, none⟩ (.int .i64 ((pre.length : Int) + 1))) 3 (.int .i64 0)
              rwa [hs2] at this
            have bN3 := bN2.alloc (.cells #[.int .i64 0] 3)
            have hs3 : ((W.setCell ⟨wr.heap.size, 0, none⟩ (.int .i64 ((pre.length : Int) + 1))).alloc (.cells #[.int .i64 0] 3)).heap.size = W.heap.size + 1 := by simp [hs2]
            have HKF3 : Hid (KeepsFrom Wn.heap.size W ((W.setCell ⟨wr.heap.size, 0, none⟩ (.int .i64 ((pre.length : Int) + 1))).alloc (.cells #[.int .i64 0] 3))) := kf2.trans ((KeepsOthers.alloc _ _).from _)
            have HKR3 : Hid (KeepsR W ((W.setCell ⟨wr.heap.size, 0, none⟩ (.int .i64 ((pre.length : Int) + 1))).alloc (.cells #[.int .i64 0] 3))) := k2.trans (KeepsR.below ((Below.refl _ _).alloc (Nat.le_refl _) _))
            have hr3 : ((W.setCell ⟨wr.heap.size, 0, none⟩ (.int .i64 ((pre.length : Int) + 1))).alloc (.cells #[.int .i64 0] 3)).heap[lp]? = some (.loop r) :=
              (Below.heap_alloc _ _ lp (by have := (Array.getElem?_eq_some_iff.1 hr).1; omega)).trans ((Below.heap_setCell _ _ _ _ (by simp; omega)).trans hr)
            have hlpW := (Array.getElem?_eq_some_iff.1 hr).1
            clear k2 kf2 hB2 cE2
            gi_wp2
            clear cRW fRW cEW cWW cKW cN fN c0 hBW bRW bN bN2 e1
            obtain ⟨W3, hW3⟩ : ∃ W3, (W.setCell ⟨wr.heap.size, 0, none⟩ (.int .i64 ((pre.length : Int) + 1))).alloc (.cells #[.int .i64 0] 3) = W3 := ⟨_, rfl⟩
            rw [hW3] at bI3 bN3 hs3 HKF3 HKR3 hr3 hB3 cE3 ⊢
            clear hW3 hs2
            have cH3 := (hB3.cell (p := ⟨w8.heap.size, 0, none⟩) hH).trans cH
            have hO3 := hOH.below hB3
            refine wpIn_rangeFunc_ownN (l₀ := lp) (r₀ := r) rfl hr3 (by decide) (gf := 49) (lb := #[.pointer (some ⟨w8.heap.size, 0, none⟩)]) rfl trivial (enters_of Try.func49 (by kernel_rfl) rfl)
              ((iter_stops 11 (by decide) w8.heap.size (w8.heap.size + 1) a9 n9 c9 A HLA.out W3 (by omega) cH3 hO3).inRound lp) KeepsR.trans keepsR_b (Below.refl _ _) (fun _ => rfl)
              (fun (pre2 : List Int) W' => Boxed W' W.heap.size 3 (.int .i64 (pre2.length : Int)) ∧ Below W.heap.size W3 W' ∧ Hid (pre2 <+: allPl A) ∧ (pre2.length : Int) < (pre.length : Int) + 1)
              (fun c (pre2 : List Int) W' => (c = .ret ∧ ¬ pre2 <+: allPl A) ∨ (c = .exit 4 ∧ (pre2.length : Int) = (pre.length : Int) + 1 ∧ Boxed W' W.heap.size 3 (.int .i64 (pre2.length : Int)) ∧ Below W.heap.size W3 W'))
              (fun s X Y row hs hg hr => ⟨box_keep hs.1 hg hr, ownFrom_below (β := Unit) (by omega) (by omega) () X Y row hs.2.1 hg hr, hs.2.2⟩)
              (fun c s X Y row hs hg hr => by
                rcases hs with hs | ⟨h1, h2, h3, h4⟩
                · exact .inl hs
                · exact .inr ⟨h1, h2, box_keep h3 hg hr, ownFrom_below (β := Unit) (by omega) (by omega) () X Y row h4 hg hr⟩)
              ⟨bI3, Below.refl _ _, List.nil_prefix, by simp <;> omega⟩
              (fun y a'' _ => a'' = { tmps := #[Value.agg #[Value.slice a na ca, Value.slice b nb cb, Value.slice pa np cp, Value.int IntKind.i64 at_, Value.int IntKind.i64 n], Value.pointer (some { block := w.heap.size, off := 0 }), Value.pointer (some { block := w.heap.size + 1, off := 0 }), Value.slice a3 A.length cap3, Value.int IntKind.i64 0, Value.pointer (some { block := w5.heap.size, off := 0 }), Value.pointer (some { block := w6.heap.size, off := 0 }), Value.slice a8 A.length c8, Value.pointer (some { block := w9.heap.size, off := 0 }), Value.int IntKind.i64 ↑i, Value.pointer (some { block := wr.heap.size, off := 0 }), Value.int IntKind.i64 x, Value.pointer (some { block := W.heap.size, off := 0 }), .int .i64 y, Value.tuple #[Value.slice a3 A.length cap3, Value.int IntKind.i64 0], Value.pointer (some { block := w.heap.size, off := 0 }), Value.slice a na ca, Value.slice o1 no1 co1, Value.slice a2 no1 cap2, Value.tuple #[Value.slice a3 A.length cap3, Value.int IntKind.i64 0], Value.slice a3 A.length cap3, Value.int IntKind.i64 0, Value.int IntKind.i64 0, Value.int IntKind.i64 0, Value.bool false, Value.bool false, Value.bool true, Value.bool false, Value.bool false, Value.pointer (some { block := w.heap.size, off := 4 }), Value.int IntKind.i64 n, Value.int IntKind.i64 (max n 1), Value.int IntKind.i64 K, Value.slice a3 A.length cap3, Value.int IntKind.i64 K, Value.slice (some { block := gw, off := ow }) want.length cw, Value.slice a3 A.length cap3, Value.slice a8 A.length c8, Value.slice a8 A.length c8, Value.func (Fn.func 49) #[] #[Value.pointer (some { block := w8.heap.size, off := 0 })], Value.func (Fn.func 49) #[] #[Value.pointer (some { block := w8.heap.size, off := 0 })], Value.bool false, Value.int IntKind.i64 ↑i, Value.slice a8 A.length c8, Value.int IntKind.i64 ↑A.length, Value.bool false, u46, u47, u48, u49, u50, u51, u52, u53, u54, Value.func (Fn.func 49) #[] #[Value.pointer (some { block := w8.heap.size, off := 0 })], Value.int IntKind.i64 x, Value.int IntKind.i64 ↑pre.length, Value.slice (some { block := gw, off := ow }) want.length cw, Value.int IntKind.i64 ↑want.length, Value.bool false, Value.bool false, Value.int IntKind.i64 x, Value.slice (some { block := gw, off := ow }) want.length cw, Value.int IntKind.i64 ↑pre.length, Value.pointer (some { block := gw, off := ow + pre.length }), Value.int IntKind.i64 x, Value.bool false, Value.bool false, Value.int IntKind.i64 ↑pre.length, Value.int IntKind.i64 (↑pre.length + 1), Value.func (Fn.func 49) #[] #[Value.pointer (some { block := w8.heap.size, off := 0 })], .int .i64 y, undef, undef, undef, undef, undef, undef, undef, undef, undef, undef, undef, undef, undef, undef, undef, undef, undef, undef, undef, undef, undef, undef, undef, undef, undef, undef, undef, undef, undef, undef, undef, undef], defers := [] })
              (fun _ _ _ _ _ _ hs _ _ => hs)
              ?assign2 ?body2 ?done2 ?stop2
            case assign2 =>
              rintro lp2 pre2 y W' Kc hI hKc
              gi_wp2
              exact hKc _ _ (KeepsFrom.refl _ _) (KeepsR.refl _) hI rfl
            case body2 =>
              rintro lp2 pre2 y a'' W' hlp2 _ ⟨bI', hBW', hpre2, hlt2⟩ rfl hN2
              have hBwr := hB3.trans (hBW'.mono (by omega))
              have hwl2 : pre2.length < want.length := by omega
              obtain ⟨g', o', e', hg', hcw'⟩ := rW.cells pre2.length hwl2
              cases e'
              have c0' := (hBwr.cell (p := ⟨gw, ow + pre2.length, none⟩) hgw).trans hcw'
              have HNX2 : Hid (pre2 ++ [want.getD pre2.length 0] <+: allPl A) := want_next HWant.out hpre2.out hwl2
              have e1' : decide (want.length ≤ pre2.length) = false := decide_eq_false (by omega)
              generalize want.getD pre2.length 0 = z at *
              have cI := bI'.cell
              have fI := bI'.frozen
              have bN' : Boxed W' wr.heap.size 3 (.int .i64 ((pre.length : Int) + 1)) := (hBW'.block _ (by omega)).trans bN3
              have cN' := bN'.cell
              have bR' : Boxed W' (w.heap.size + 1) 4 (.bool false) := (hBwr.block _ (by omega)).trans bR
              have cR' := bR'.cell
              have fR' := bR'.frozen
              have cW' := (hBwr.cell (p := ⟨w6.heap.size, 0, none⟩) (by simp; omega)).trans cW
              clear hcw'
              by_cases hx2 : y = z
              · subst hx2
                have bI2 := bI'.set (.int .i64 ((pre2.length : Int) + 1))
                have hB2' := hBW'.setCell (p := ⟨W.heap.size, 0, none⟩) (Nat.le_refl _) (.int .i64 ((pre2.length : Int) + 1))
                have k2' := keepsR_set (v := .int .i64 ((pre2.length : Int) + 1)) bI' (by decide)
                have cI2 := bI2.cell
                have cN2 := (bN'.other (show wr.heap.size ≠ W.heap.size by omega) (.int .i64 ((pre2.length : Int) + 1))).cell
                by_cases hge : pre.length ≤ pre2.length
                · have eg : decide (pre.length ≤ pre2.length) = true := decide_eq_true hge
                  gi_wp2
                  all_goals try omega
                  exact ⟨(KeepsOthers.setCell _ _ _).from _, .inr ⟨rfl, by simp; omega, by simpa using bI2, hB2'⟩⟩
                · have eg : decide (pre.length ≤ pre2.length) = false := decide_eq_false hge
                  gi_wp2
                  all_goals try omega
                  exact ⟨(KeepsOthers.setCell _ _ _).from _, k2', by simpa using bI2, hB2', HNX2.out, by simp; omega⟩
              · have e2 : (y == z) = false := by simp [hx2]
                have hno2 : ¬ pre2 ++ [y] <+: allPl A := fun hh => hx2 (pre_next hh HNX2.out)
                gi_wp2
                exact ⟨(KeepsOthers.setCell _ _ _).from _, .inl ⟨rfl, hno2⟩⟩
            case done2 =>
              rintro ys W' rfl ⟨bI', hBW', hpre2, hlt2⟩
              have h1 := HNX.out.length_le
              simp at h1
              omega
            case stop2 =>
              rintro c pre2 W' hSp (⟨rfl, hno2⟩ | ⟨rfl, hlen2, bI', hBW'⟩)
              · exact absurd hSp hno2
              · have hBwr := hB3.trans (hBW'.mono (by omega))
                have bN' : Boxed W' wr.heap.size 3 (.int .i64 ((pre.length : Int) + 1)) := (hBW'.block _ (by omega)).trans bN3
                have cN' := bN'.cell
                have cI := bI'.cell
                rw [hlen2] at cI
                have cK' := (hBwr.cell (p := ⟨w5.heap.size, 0, none⟩) (by simp; omega)).trans cK
                have kF : KeepsFrom Wn.heap.size W W' := HKF3.out.trans ⟨hBW'.size, fun k o hk h0 ho => by
                  have hkl := (Array.getElem?_eq_some_iff.1 h0).1
                  by_cases e : k = W.heap.size
                  · subst e
                    rw [show W3.heap[W.heap.size]? = _ from bI3] at h0
                    cases h0
                    simp [Obj.isCells] at ho
                  · exact (hBW'.block k (by omega)).trans h0⟩
                have kR : KeepsR W W' := fun g cs zz hg => (hBW'.block g (Array.getElem?_eq_some_iff.1 hg).1).trans (HKR3.out g cs zz hg)
                by_cases hkk : K ≤ (pre.length : Int) + 1
                · have eg : decide (K ≤ (pre.length : Int) + 1) = true := decide_eq_true hkk
                  gi_wp2
                  all_goals try omega
                  exact ⟨(by first | exact kF | (rw [← hsn]; exact kF)), .inr ⟨rfl, by simp; omega, by simpa using bN', hBwr⟩⟩
                · have eg : decide (K ≤ (pre.length : Int) + 1) = false := decide_eq_false hkk
                  gi_wp2
                  all_goals try omega
                  exact ⟨(by first | exact kF | (rw [← hsn]; exact kF)), kR, by simpa using bN', hBwr, HNX.out, by simp; omega⟩
          · have e2 : (x == y) = false := by simp [hx]
            have hno : ¬ pre ++ [x] <+: allPl A := fun hh => hx (pre_next hh HNX.out)
            gi_wp2
            exact ⟨(KeepsOthers.setCell _ _ _).from _, .inl ⟨rfl, hno⟩⟩
        · have e1 : decide (want.length ≤ pre.length) = true := decide_eq_true (by omega)
          have hno : ¬ pre ++ [x] <+: allPl A := by
            have := want_over HWant.out hpre.out (by omega) (by omega)
            rw [this]
            exact pre_over
          gi_wp2
          exact ⟨(KeepsOthers.setCell _ _ _).from _, .inl ⟨rfl, hno⟩⟩
      case done =>
        rintro D ys W hD rfl ⟨bN, hBW, hpre, hplt⟩ hKd
        have hwl : want.length = (allPl A).length := by rw [← HWant.out, List.take_of_length_le (by omega)]
        have hsW := hBW.size
        have bRW : Boxed W (w.heap.size + 1) 4 (.bool false) := (hBW.block _ (by omega)).trans bR
        have cN := bN.cell
        have cEW := (hBW.cell (p := ⟨w9.heap.size, 0, none⟩) hsr).trans cE
        have cWW := (hBW.cell (p := ⟨w6.heap.size, 0, none⟩) (by simp; omega)).trans cW
        have cHW := (hBW.cell (p := ⟨w8.heap.size, 0, none⟩) hH).trans cH
        have hOW := hOH.below hBW
        have rAW := rA.below hBW
        rw [← hwl] at cN
        gi_wp2
        refine ⟨trivial, (callsIn_wide.2 (whole_any rAW HLA.out (by omega) cHW hOW)).mono ?_⟩
        rintro e W' ⟨rfl, hbw⟩
        have bR' : Boxed W' (w.heap.size + 1) 4 (.bool false) := (hbw.block _ (by omega)).trans bRW
        have cR' := bR'.cell
        have fR' := bR'.frozen
        have hKd' : W'.heap[D]? = some (.deferred (some [])) := (hbw.block D (Array.getElem?_eq_some_iff.1 hKd).1).trans hKd
        have hB' : Below w.heap.size w W' := (hBw.trans (hBW.mono (by omega))).trans (hbw.mono (by omega))
        gi_wp2
        have hK' := (KeepsOthers.setCell W' ⟨w.heap.size + 1, 0, none⟩ (.bool true)).same D _ hKd' rfl
        refine ⟨by simp, .inl ⟨_, _, rfl, run_takeDeferred hK', ?_⟩⟩
        have hc5 := cell_kept (bR'.set (.bool true)).cell (grownBy_putObj' _ D (.deferred none)) (fun r e => by cases e; exact ⟨_, hK', rfl⟩)
        refine ⟨.bool true, ?_, rfl, (hB'.setCell (p := ⟨w.heap.size + 1, 0, none⟩) (by simp) _).trans (belowK_b (w := w) (Nat.le_refl _) _ D _ _ (by omega) hK' rfl rfl)⟩
        simp [results, Try.f7, go_sem, hc5]
      case stop =>
        rintro D c pre W hD hSp (⟨rfl, hno⟩ | ⟨rfl, hlen, bN, hBW⟩) hKd
        · exact absurd hSp hno
        have hwl : want.length = pre.length := by
          have h1 := hSp.length_le
          rw [← HWant.out, List.length_take]
          omega
        have hsW := hBW.size
        have bRW : Boxed W (w.heap.size + 1) 4 (.bool false) := (hBW.block _ (by omega)).trans bR
        have cN := bN.cell
        have cEW := (hBW.cell (p := ⟨w9.heap.size, 0, none⟩) hsr).trans cE
        have cWW := (hBW.cell (p := ⟨w6.heap.size, 0, none⟩) (by simp; omega)).trans cW
        have cHW := (hBW.cell (p := ⟨w8.heap.size, 0, none⟩) hH).trans cH
        have hOW := hOH.below hBW
        have rAW := rA.below hBW
        rw [← hwl] at cN
        gi_wp2
        refine ⟨trivial, (callsIn_wide.2 (whole_any rAW HLA.out (by omega) cHW hOW)).mono ?_⟩
        rintro e W' ⟨rfl, hbw⟩
        have bR' : Boxed W' (w.heap.size + 1) 4 (.bool false) := (hbw.block _ (by omega)).trans bRW
        have cR' := bR'.cell
        have fR' := bR'.frozen
        have hKd' : W'.heap[D]? = some (.deferred (some [])) := (hbw.block D (Array.getElem?_eq_some_iff.1 hKd).1).trans hKd
        have hB' : Below w.heap.size w W' := (hBw.trans (hBW.mono (by omega))).trans (hbw.mono (by omega))
        gi_wp2
        have hK' := (KeepsOthers.setCell W' ⟨w.heap.size + 1, 0, none⟩ (.bool true)).same D _ hKd' rfl
        refine ⟨by simp, .inl ⟨_, _, rfl, run_takeDeferred hK', ?_⟩⟩
        have hc5 := cell_kept (bR'.set (.bool true)).cell (grownBy_putObj' _ D (.deferred none)) (fun r e => by cases e; exact ⟨_, hK', rfl⟩)
        refine ⟨.bool true, ?_, rfl, (hB'.setCell (p := ⟨w.heap.size + 1, 0, none⟩) (by simp) _).trans (belowK_b (w := w) (Nat.le_refl _) _ D _ _ (by omega) hK' rfl rfl)⟩
        simp [results, Try.f7, go_sem, hc5]
end Go.Proofs.Ytohfckcikincoaa
