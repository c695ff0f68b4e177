import Derived.Test.YtjnglghhcbdpmaaSpOne
import Derived.Test.YtjnglghhcbdpmaaSpPs
import Derived.Test.YtjnglghhcbdpmaaSpRs
import Derived.Test.YtjnglghhcbdpmaaSpBp
import Derived.Test.YtjnglghhcbdpmaaSpU
namespace Go.Proofs.Ytjnglghhcbdpmaa
open Go.RowKit Go.Lib Go.Shelf
set_option maxRecDepth 100000
attribute [local go_sem] Oper.semAt_some

theorem addr_add0 (g off j : Nat) : (⟨g, off, none⟩ : Addr).add j = ⟨g, off + j, none⟩ := by unfold Addr.add; split <;> simp_all
theorem cell_newL (w : World) (vs : List Value) (t : TypeId) : ∀ j u, vs[j]? = some u → (w.alloc (.cells vs.toArray t)).cell? ((⟨w.heap.size, 0, none⟩ : Addr).add j) = some u := fun j u hu => by
  rw [addr_add0]
  have hh := heap_alloc_new w (.cells vs.toArray t)
  simp only [World.cell?, hh]
  simpa using hu
/-- 'append(list, x, y, z)' -/
theorem append_three {w : World} {B : Nat} {a : Option Addr} {n cap : Nat} {l : List (Int × Int)} (h : Own w B (.slice a n cap) l) (hB : B ≤ w.heap.size) (x y z : Int × Int) (hs : n ≤ 8388608) (ty : TypeId) :
    ∃ g cap' w', (Builtin.append_ #[22, 22] ty #[.slice a n cap, .slice (some ⟨w.heap.size, 0, none⟩) 3 3]).run Try.prog (w.alloc (.cells #[.int .i64 x.1, .int .i64 x.2, .int .i64 y.1, .int .i64 y.2, .int .i64 z.1, .int .i64 z.2] 39)) = .ok (.slice (some ⟨g, 0, none⟩) (n + 3) cap') w' ∧
      Own w' B (.slice (some ⟨g, 0, none⟩) (n + 3) cap') (l ++ [x, y, z]) ∧ Below B w w' := by
  have hn := h.rng.len
  obtain ⟨i, hi0, hz, hsz, hby⟩ := info_parts rngInfo
  have hown : (w.alloc (.cells #[.int .i64 x.1, .int .i64 x.2, .int .i64 y.1, .int .i64 y.2, .int .i64 z.1, .int .i64 z.2] 39)).ownsRow B 39 2 (.slice a n cap) n (flat l) := by
    unfold Own at h
    rw [hn] at h
    exact World.ownsRow.alloc h _
  obtain ⟨g, cap', w', hr, ho, hgr, hlie, hlt⟩ := run_append_lies (P := Try.prog) (w.alloc (.cells #[.int .i64 x.1, .int .i64 x.2, .int .i64 y.1, .int .i64 y.2, .int .i64 z.1, .int .i64 z.2] 39)) 22 ty B 39 i _ 2 16 Try.underlying22 hi0 hz hsz hby rfl (by decide) (.slice a n cap) n (flat l) hown ⟨w.heap.size, 0, none⟩ 3 3 [.int .i64 x.1, .int .i64 x.2, .int .i64 y.1, .int .i64 y.2, .int .i64 z.1, .int .i64 z.2] rfl (cell_newL _ _ _) (fun u hu => by simp at hu; rcases hu with rfl | rfl | rfl | rfl | rfl | rfl <;> rfl)
    (by decide) (by simp only [maxLen]; omega) (by omega) (by simp; omega) (w.heap.size + 1) (by simp)
  refine ⟨g, cap', w', hr, ?_, ?_⟩
  · unfold Own
    rw [List.length_append, hn, flat_append]
    simpa [flat] using ho
  · exact ((Below.refl B w).alloc hB _).trans (below_grown hgr (fun k hk => (World.ownsRow.lt hown k hk).1) (by simp; omega))
/-- The mark of element i of list k. -/
def markR (k i : Nat) : Int × Int := (-1000 * ((k : Int) + 1), -(i : Int) - 1)
set_option maxHeartbeats 1000000 in
theorem marked_any (k i : Nat) (hk : k ≤ 1000) (hi : i ≤ 1048576) (w : World) :
    Calls Try.prog 13 #[.int .i64 k, .int .i64 i] w fun e w' => e = .returned (.agg #[.int .i64 (markR k i).1, .int .i64 (markR k i).2]) ∧ Below w.heap.size w w' := by
  unfold markR
  have u1 : IntKind.i64.wrap (-1000 * ((k : Int) + 1)) = -1000 * ((k : Int) + 1) := IntWalk.i64_in _ (by omega)
  have u2 : IntKind.i64.wrap (-(i : Int)) = -(i : Int) := IntWalk.i64_in _ (by omega)
  have u3 : IntKind.i64.wrap (-(i : Int) - 1) = -(i : Int) - 1 := IntWalk.i64_in _ (by omega)
  go_enter Try.func13, Try.ntmps13
  go_wp2_with fail
  have hc := cell_newL w [.int .i64 (-1000 * ((k : Int) + 1)), .int .i64 (-(i : Int) - 1)] 39
  have hc0 := hc 0 _ rfl
  have hc1 := hc 1 _ rfl
  simp only [addr_add0, Nat.zero_add] at hc0 hc1
  refine bodyPost_ret (v := .agg #[.int .i64 (-1000 * ((k : Int) + 1)), .int .i64 (-(i : Int) - 1)]) ?_ rfl ⟨rfl, (Below.refl _ _).alloc (Nat.le_refl _) _⟩
  simp [results, Try.f13, go_sem, hc0, hc1]
theorem elemR : Try.prog.elem 22 = 39 := by kernel_rfl
theorem cutR_high (W : World) (a : Option Addr) (n cap k : Nat) (hk : k ≤ cap) : (Instr.slice 22 (.slice a n cap) none (some (.int .i64 (k : Int))) none).run Try.prog W = .ok (.slice a k cap) W := by
  obtain ⟨i, hi, hz, hsz, hby⟩ := info_parts rngInfo
  have := run_slice_h (P := Try.prog) W 22 a n cap (by rw [elemR]; exact Try.underlying22) .i64 (k : Int) (by omega) (by omega)
  rw [this, elemR]
  simp [sizeOf, typeInfo, hi, hsz, sliced, Addr.add]
set_option maxHeartbeats 1000000 in
theorem roomy_any {w : World} {a : Option Addr} {n cap : Nat} {l : List (Int × Int)} (h : Rng w a n cap l) (hn : n ≤ 32768) :
    Calls Try.prog 9 #[.slice a n cap] w fun e w' => ∃ g cap', e = .returned (.tuple #[.slice (some ⟨g, 0, none⟩) n cap', .slice (some ⟨g, 0, none⟩) (n + 3) cap']) ∧ Own w' w.heap.size (.slice (some ⟨g, 0, none⟩) (n + 3) cap') (l ++ [(-7, -8), (-9, -10), (-11, -12)]) ∧ Below w.heap.size w w' := by
  have HC := lawCopied_any h (by omega)
  go_enter Try.func9, Try.ntmps9
  go_wp2_with fail
  refine HC.mono ?_
  rintro e w1 ⟨a1, cap1, rfl, ho1, hb1⟩
  obtain ⟨g, cap2, w2, hr, ho2, hb2⟩ := append_three ho1 hb1.size (-7, -8) (-9, -10) (-11, -12) (by omega) 22
  have hcut : ∀ W : World, (Instr.slice 22 (.slice (some ⟨g, 0, none⟩) (n + 3) cap2) none (some (.int .i64 (n : Int))) none).run Try.prog W = .ok (.slice (some ⟨g, 0, none⟩) n cap2) W := fun W => cutR_high W _ _ _ n (by have := ho2.rng.room; omega)
  clear HC h
  go_wp2_with (at_builtin; refine wpList_append_hr rfl _ _ 22 rfl _ _ rfl rfl hr ?_)
  go_ret2
  exact ⟨g, cap2, rfl, ho2, hb1.trans hb2⟩
set_option maxHeartbeats 4000000 in
theorem asked_any {w : World} {a : Option Addr} {m cap : Nat} {l : List (Int × Int)} (h : Rng w a m cap l) (at_ n : Int) (hn : n ≤ 9223372036854775807) :
    Calls Try.prog 10 #[.slice a m cap, .int .i64 at_, .int .i64 n] w fun e w' => (∃ v, e = .returned v) ∧ Below w.heap.size w w' := by
  have qf : ∀ (w : World) (f : Fn) (x y : Array Value), (binOp .eql 53 (.func f x y) .nilFunc).run Try.prog w = .ok (.bool false) w := fun w f x y => run_eql_func_nil w _ _ _ _ f x y Try.underlying53
  refine (callsIn_wide (n := 6)).1 ?_
  refine callsIn_of_wp_marks Try.func10 rfl trivial ?_ rfl
  simp only [Try.ntmps10, List.size_toArray, List.length_cons, List.length_nil, Nat.reduceAdd, Nat.reduceSub, Array.replicate_succ, Array.replicate_zero, List.push_toArray, List.append_toArray, List.nil_append, List.cons_append]
  gi_wp2
  refine ⟨trivial, (callsIn_wide.2 (check_any h)).mono ?_⟩
  rintro e w1 ⟨rfl, hb1⟩
  gi_wp2
  refine ⟨trivial, (callsIn_wide.2 (count_any (h.below hb1))).mono ?_⟩
  rintro e w2 ⟨rfl, hb2⟩
  have hB2 := hb1.trans (hb2.mono hb1.size)
  gi_wp2
  refine ⟨trivial, (callsIn_wide.2 (rank_any (h.below hB2) at_)).mono ?_⟩
  rintro e w3 ⟨rfl, hb3⟩
  have hB3 := hB2.trans (hb3.mono hB2.size)
  gi_wp2
  refine ⟨trivial, (callsIn_wide.2 (nth_any (h.below hB3) n hn)).mono ?_⟩
  rintro e w4 ⟨rfl, hb4⟩
  have hB4 := hB3.trans (hb4.mono hB3.size)
  gi_wp2
  refine ⟨trivial, (callsIn_wide.2 (each_any (h.below hB4))).mono ?_⟩
  rintro e w5 ⟨a5, n5, c5, rfl, hc5, hs5, hO5, hb5⟩
  have hB5 := hB4.trans (hb5.mono hB4.size)
  clear hb1 hb2 hb3 hb4 hb5 hB2 hB3 h
  gi_wp2
  have bL := Boxed.new w5 3 (.int .i64 50)
  have hbl := (Below.refl w5.heap.size w5).alloc (Nat.le_refl _) (.cells #[.int .i64 50] 3)
  have hsl : (w5.alloc (.cells #[.int .i64 50] 3)).heap.size = w5.heap.size + 1 := by simp
  have cl := (hbl.cell (p := ⟨w4.heap.size, 0, none⟩) hs5).trans hc5
  have hOl := hO5.below hbl
  obtain ⟨Wl, hWl⟩ : ∃ Wl, w5.alloc (.cells #[.int .i64 50] 3) = Wl := ⟨_, rfl⟩
  rw [hWl] at bL hbl hsl cl hOl ⊢
  clear hWl
  have hs45 := hB5.size
  refine wpIn_rangeFunc_ownG rfl (by decide) (gf := 38) (lb := #[.pointer (some ⟨w4.heap.size, 0, none⟩)]) rfl trivial (enters_of Try.func38 (by kernel_rfl) rfl)
    (each_stops 5 (by decide) w4.heap.size (w4.heap.size + 1) a5 n5 c5 l Wl (by omega) cl hOl) KeepsR.trans keepsR_b (Below.refl _ _) (fun _ => rfl)
    (fun (pre : List Int) W => Boxed W w5.heap.size 3 (.int .i64 (50 - (pre.length : Int))) ∧ Below w5.heap.size w5 W ∧ (pre.length : Int) < 50)
    (fun c (_ : List Int) W => c = .exit 0 ∧ Below w5.heap.size w5 W)
    (fun s X Y row hs hg hr => ⟨box_keep hs.1 hg hr, ownFrom_below (β := Unit) (Nat.le_refl _) (by omega) () X Y row hs.2.1 hg hr, hs.2.2⟩)
    (fun c s X Y row hs hg hr => ⟨hs.1, ownFrom_below (β := Unit) (Nat.le_refl _) (by omega) () X Y row hs.2 hg hr⟩)
    ⟨by simpa using bL, hbl, by simp⟩
    (fun x => { tmps := #[Value.slice a m cap, Value.int IntKind.i64 at_, Value.int IntKind.i64 n, undef, undef, undef, Value.func (Fn.func 38) #[] #[Value.pointer (some { block := w4.heap.size, off := 0 })], Value.pointer (some { block := w5.heap.size, off := 0 }), Value.slice a m cap, Value.tuple #[Value.int IntKind.i64 (checkL l).fst, Value.int IntKind.i64 (checkL l).snd], Value.slice a m cap, Value.tuple #[Value.int IntKind.i64 (rankAns l 1048576).fst, Value.int IntKind.i64 (rankAns l 1048576).snd], Value.slice a m cap, Value.int IntKind.i64 at_, Value.tuple #[Value.int IntKind.i64 (rankAns l at_).fst, Value.int IntKind.i64 (rankAns l at_).snd], Value.slice a m cap, Value.int IntKind.i64 n, Value.tuple #[Value.int IntKind.i64 (nthAns l n).fst, Value.int IntKind.i64 (nthAns l n).snd], Value.slice a m cap, Value.func (Fn.func 38) #[] #[Value.pointer (some { block := w4.heap.size, off := 0 })], Value.func (Fn.func 38) #[] #[Value.pointer (some { block := w4.heap.size, off := 0 })], Value.bool false, Value.func (Fn.func 38) #[] #[Value.pointer (some { block := w4.heap.size, off := 0 })], .int .i64 x, undef, undef, undef, undef], defers := [] }) ?assign ?body ?done ?stop
  case assign =>
    intro lp x W K hK
    gi_wp2
    simpa [Array.zip, Array.zipWith, Array.zipWithMAux] using hK
  case body =>
    rintro lp pre x W ⟨bL', hBW, hlt⟩ hN
    have cL := bL'.cell
    have fL := bL'.frozen
    have u1 : IntKind.i64.wrap (50 - (pre.length : Int) - 1) = 50 - (pre.length : Int) - 1 := IntWalk.i64_in _ (by omega)
    have bL2 := bL'.set (.int .i64 (50 - (pre.length : Int) - 1))
    have cL2 := bL2.cell
    have hB2 := hBW.setCell (p := ⟨w5.heap.size, 0, none⟩) (Nat.le_refl _) (.int .i64 (50 - (pre.length : Int) - 1))
    have k2 := keepsR_set (v := .int .i64 (50 - (pre.length : Int) - 1)) bL' (by decide)
    have eN : (50 - ((pre ++ [x]).length : Int)) = 50 - (pre.length : Int) - 1 := by simp; omega
    gi_wp2
    · exact ⟨(KeepsOthers.setCell _ _ _).from _, rfl, hB2⟩
    · exact ⟨(KeepsOthers.setCell _ _ _).from _, k2, by rw [eN]; exact bL2, hB2, by simp; omega⟩
  case done =>
    rintro D ys W hD rfl ⟨bL', hBW, hlt⟩ hKd
    gi_wp2
    refine ⟨by simp, .inl ⟨_, _, rfl, run_takeDeferred hKd, ?_⟩⟩
    exact ⟨_, results_none rfl _ _ _, ⟨_, rfl⟩, (hB5.trans (hBW.mono hs45)).trans (belowK_b (w := w) (Nat.le_refl _) W D _ _ (by omega) hKd rfl rfl)⟩
  case stop =>
    rintro D c pre W hD hSp ⟨rfl, hBW⟩ hKd
    gi_wp2
    refine ⟨by simp, .inl ⟨_, _, rfl, run_takeDeferred hKd, ?_⟩⟩
    exact ⟨_, results_none rfl _ _ _, ⟨_, rfl⟩, (hB5.trans (hBW.mono hs45)).trans (belowK_b (w := w) (Nat.le_refl _) W D _ _ (by omega) hKd rfl rfl)⟩

/-! ### What the calls that answer lists answer -/
structure AnsSpec (A B : List (Int × Int)) (at_ n : Int) (U : Nat → List (Int × Int)) : Prop where
  s0 : ∃ c, SpecS (makeCode A) (fun q => Lies A q) c (U 0)
  s1 : ∃ c, SpecS (codeOf A B) (fun q => Lies A q ∨ Lies B q) c (U 1)
  s2 : ∃ c, SpecS (codeOf A B) (fun q => Lies A q ∧ Lies B q) c (U 2)
  s3 : ∃ c, SpecS (codeOf A B) (fun q => Lies A q ∧ ¬ Lies B q) c (U 3)
  s4 : ∃ c, SpecS (throughCode A at_ n) (throughS A at_ n) c (U 4)
  s5 : ∃ c, SpecB (backCode A at_ n) (backS A at_ n) (backT A at_ n) c (U 5) (U 6)
theorem AnsSpec.unique {A B : List (Int × Int)} {at_ n : Int} {U V : Nat → List (Int × Int)} (h : AnsSpec A B at_ n U) (h' : AnsSpec A B at_ n V) (k : Nat) (hk : k < 7) : U k = V k := by
  obtain ⟨_, a0⟩ := h.s0
  obtain ⟨_, a1⟩ := h.s1
  obtain ⟨_, a2⟩ := h.s2
  obtain ⟨_, a3⟩ := h.s3
  obtain ⟨_, a4⟩ := h.s4
  obtain ⟨_, a5⟩ := h.s5
  obtain ⟨_, b0⟩ := h'.s0
  obtain ⟨_, b1⟩ := h'.s1
  obtain ⟨_, b2⟩ := h'.s2
  obtain ⟨_, b3⟩ := h'.s3
  obtain ⟨_, b4⟩ := h'.s4
  obtain ⟨_, b5⟩ := h'.s5
  match k, hk with
  | 0, _ => exact (a0.unique b0).2
  | 1, _ => exact (a1.unique b1).2
  | 2, _ => exact (a2.unique b2).2
  | 3, _ => exact (a3.unique b3).2
  | 4, _ => exact (a4.unique b4).2
  | 5, _ => exact (a5.unique b5).2.1
  | 6, _ => exact (a5.unique b5).2.2
/-- Seven lists of one's own, no two of which share a block. -/
structure Seven (w : World) (B : Nat) (v : Nat → Value) (U : Nat → List (Int × Int)) : Prop where
  own : ∀ k, k < 7 → Own w B (v k) (U k)
  apart : ∀ j k, j < 7 → k < 7 → j ≠ k → Apart (v j) (v k)
theorem apart_later {w : World} {B : Nat} {u v : Value} {l k : List (Int × Int)} {B' : Nat} {w' : World} (h : Own w B u l) (h' : Own w' B' v k) (hB : w.heap.size ≤ B') : Apart u v := fun g hu hv => by
  have h1 := (World.ownsRow.lt h _ hu).2
  have h2 := (World.ownsRow.lt h' _ hv).1
  omega
end Go.Proofs.Ytjnglghhcbdpmaa
