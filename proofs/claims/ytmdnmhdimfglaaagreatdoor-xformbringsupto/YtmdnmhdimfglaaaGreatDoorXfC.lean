import Derived.Test.YtmdnmhdimfglaaaGreatDoorGaE
import Derived.Test.YtmdnmhdimfglaaaGreatDoorGaJ
namespace Go.Proofs.YtmdnmhdimfglaaaGreatDoor
open Go.RowKit Go.Lib
set_option maxRecDepth 100000
theorem kindO : Kind Tryz.prog 23 34 9 96 := kind_of Tryz.underlying23 (z := .agg #[.int .i64 0, .int .i64 0, .int .i64 0, .int .i64 0, .string ⟨#[]⟩, .slice none 0 0, .int .i64 0, .int .i64 0, .bool false]) (by kernel_rfl) rfl
def OwnRs (W : World) (B : Nat) (L : List OpM) : Prop := ∀ x ∈ L, OwnF rangeV 2 91 W B (.slice x.2.1 x.2.2.1 x.2.2.2) x.1.l
theorem OwnF.ptr {α : Type} {f : α → List Value} {k : Nat} {T : TypeId} {w : World} {B : Nat} {v : Value} {l : List α} (h : OwnF f k T w B v l) (hn : 0 < l.length) : ∃ g cap, v = .slice (some ⟨g, 0, none⟩) l.length cap ∧ B ≤ g ∧ g < w.heap.size ∧ l.length ≤ cap ∧ cap ≤ maxLen ∧ ∀ j, w.frozen? ⟨g, j, none⟩ = false := by
  rcases h.2 with ⟨e, h0⟩ | ⟨g, cap, cur, e, hb, hh, h1, h2, _⟩
  · omega
  · exact ⟨g, cap, e, hb, (Array.getElem?_eq_some_iff.1 hh).1, h1, h2, fun j => frozen_of_row w g j cur _ hh⟩
theorem set9_at (A M : List Value) (o : Nat) (v0 v1 v2 v3 v4 v5 v6 v7 v8 : Value) :
    ((((((((((A ++ M).set (A.length + o) (v0)).set (A.length + o + 1) (v1)).set (A.length + o + 2) (v2)).set (A.length + o + 3) (v3)).set (A.length + o + 4) (v4)).set (A.length + o + 5) (v5)).set (A.length + o + 6) (v6)).set (A.length + o + 7) (v7)).set (A.length + o + 8) (v8)) = A ++ (((((((((M.set (o) (v0)).set (o + 1) (v1)).set (o + 2) (v2)).set (o + 3) (v3)).set (o + 4) (v4)).set (o + 5) (v5)).set (o + 6) (v6)).set (o + 7) (v7)).set (o + 8) (v8)) := by
  have h : ∀ (N : List Value) (k : Nat) (v : Value), (A ++ N).set (A.length + o + k) v = A ++ N.set (o + k) v := fun N k v => by
    rw [List.set_append_right _ _ (by omega), show A.length + o + k - A.length = o + k by omega]
  have h0 : ∀ (N : List Value) (v : Value), (A ++ N).set (A.length + o) v = A ++ N.set o v := fun N v => h N 0 v
  rw [h0, h, h, h, h, h, h, h, h]
theorem flatO_set : ∀ (L : List OpM) (j : Nat) (x : OpM), j < L.length → ((((((((((flatF opF L).set (j * 9) (.int .i64 x.1.c)).set (j * 9 + 1) (.int .i64 x.1.n)).set (j * 9 + 2) (.int .i64 x.1.k)).set (j * 9 + 3) (.int .i64 x.1.p)).set (j * 9 + 4) (.string x.1.s)).set (j * 9 + 5) (.slice x.2.1 x.2.2.1 x.2.2.2)).set (j * 9 + 6) (.int .i64 x.1.tc)).set (j * 9 + 7) (.int .i64 x.1.tn)).set (j * 9 + 8) (.bool x.1.on)) = flatF opF (L.set j x)
  | [], j, x, h => by simp at h
  | c :: L, 0, x, h => rfl
  | c :: L, j + 1, x, h => by
    have ih := flatO_set L j x (by simpa using h)
    have e : flatF opF (c :: L) = opF c ++ flatF opF L := by simp [flatF]
    have e2 : (j + 1) * 9 = (opF c).length + j * 9 := by simp [opF]; omega
    rw [e, e2, set9_at, ih]
    simp [flatF]
theorem OwnF.put {W : World} {B g n cap : Nat} {L : List OpM} (h : OwnF opF 9 34 W B (.slice (some ⟨g, 0, none⟩) n cap) L) (j : Nat) (hj : j < n) (x : OpM) :
    ∃ W9, (((((((((W.setCell ⟨g, j * 9, none⟩ (.int .i64 x.1.c)).setCell ⟨g, j * 9 + 1, none⟩ (.int .i64 x.1.n)).setCell ⟨g, j * 9 + 2, none⟩ (.int .i64 x.1.k)).setCell ⟨g, j * 9 + 3, none⟩ (.int .i64 x.1.p)).setCell ⟨g, j * 9 + 4, none⟩ (.string x.1.s)).setCell ⟨g, j * 9 + 5, none⟩ (.slice x.2.1 x.2.2.1 x.2.2.2)).setCell ⟨g, j * 9 + 6, none⟩ (.int .i64 x.1.tc)).setCell ⟨g, j * 9 + 7, none⟩ (.int .i64 x.1.tn)).setCell ⟨g, j * 9 + 8, none⟩ (.bool x.1.on)) = W9 ∧ OwnF opF 9 34 W9 B (.slice (some ⟨g, 0, none⟩) n cap) (L.set j x) ∧ But g W W9 ∧ Below g W W9 := by
  have hn : n = L.length := by obtain ⟨a, c, e⟩ := h.shape; simp at e; exact e.2.1
  subst hn
  refine ⟨_, rfl, ?_, ((((((((But.set _ _ _ _).trans (But.set _ _ _ _)).trans (But.set _ _ _ _)).trans (But.set _ _ _ _)).trans (But.set _ _ _ _)).trans (But.set _ _ _ _)).trans (But.set _ _ _ _)).trans (But.set _ _ _ _)).trans (But.set _ _ _ _),
    ((((((((((Below.refl g W).setCell (Nat.le_refl _) _).setCell (Nat.le_refl _) _).setCell (Nat.le_refl _) _).setCell (Nat.le_refl _) _).setCell (Nat.le_refl _) _).setCell (Nat.le_refl _) _).setCell (Nat.le_refl _) _).setCell (Nat.le_refl _) _).setCell (Nat.le_refl _) _)⟩
  have h0 := (World.ownsRow.stored h (j * 9) (.int .i64 x.1.c)).1
  have h1 := (World.ownsRow.stored h0 (j * 9 + 1) (.int .i64 x.1.n)).1
  have h2 := (World.ownsRow.stored h1 (j * 9 + 2) (.int .i64 x.1.k)).1
  have h3 := (World.ownsRow.stored h2 (j * 9 + 3) (.int .i64 x.1.p)).1
  have h4 := (World.ownsRow.stored h3 (j * 9 + 4) (.string x.1.s)).1
  have h5 := (World.ownsRow.stored h4 (j * 9 + 5) (.slice x.2.1 x.2.2.1 x.2.2.2)).1
  have h6 := (World.ownsRow.stored h5 (j * 9 + 6) (.int .i64 x.1.tc)).1
  have h7 := (World.ownsRow.stored h6 (j * 9 + 7) (.int .i64 x.1.tn)).1
  have h8 := (World.ownsRow.stored h7 (j * 9 + 8) (.bool x.1.on)).1
  rw [flatO_set L j x hj] at h8
  unfold OwnF
  rw [List.length_set]
  exact h8
theorem OwnF.fz {α : Type} {f : α → List Value} {k : Nat} {T : TypeId} {W : World} {B g n cap : Nat} {L : List α} (h : OwnF f k T W B (.slice (some ⟨g, 0, none⟩) n cap) L) (j : Nat) : W.frozen? ⟨g, j, none⟩ = false := by
  rcases h.2 with ⟨e, _⟩ | ⟨g', cap', cur, e, _, hh, _⟩
  · cases e
  · cases e
    exact frozen_of_row W g j cur _ hh
theorem set_same {L : List OpM} {j : Nat} {x y : OpM} (hx : L[j]? = some x) (h : y.1 = x.1) : (L.set j y).map (·.1) = L.map (·.1) := by
  refine List.ext_getElem? fun k => ?_
  rw [List.getElem?_map, List.getElem?_map, List.getElem?_set]
  by_cases hk : j = k
  · subst hk
    rw [if_pos rfl, if_pos (List.getElem?_eq_some_iff.1 hx).1, hx]
    simp [h]
  · rw [if_neg hk]
def Alt (a : Option Addr) (w w' : World) : Prop := Below 0 w w' ∧ ∀ k, k < w.heap.size → (∀ ad, a = some ad → ad.block ≠ k) → w'.heap[k]? = w.heap[k]?
theorem Alt.refl (a : Option Addr) (w : World) : Alt a w w := ⟨Below.refl _ _, fun _ _ _ => rfl⟩
theorem Alt.of_below {a : Option Addr} {w w' : World} (h : Below w.heap.size w w') : Alt a w w' := ⟨h.mono (Nat.zero_le _), fun k hk _ => h.block k hk⟩
theorem Alt.trans {a : Option Addr} {w w' w'' : World} (h : Alt a w w') (g : Alt a w' w'') : Alt a w w'' := ⟨h.1.trans g.1, fun k hk ha => (g.2 k (Nat.lt_of_lt_of_le hk h.1.size) ha).trans (h.2 k hk ha)⟩
theorem Alt.below {a : Option Addr} {w w' : World} {B : Nat} (h : Alt a w w') (hB : B ≤ w.heap.size) (ha : ∀ ad, a = some ad → B ≤ ad.block) : Below B w w' :=
  ⟨h.1.os, h.1.tape, h.1.output, h.1.size, fun k hk => h.2 k (by omega) (fun ad e => by have := ha ad e; omega)⟩
theorem Alt.of_but {g : Nat} {w w' : World} (hB : Below 0 w w') (h : But g w w') : Alt (some ⟨g, 0, none⟩) w w' := ⟨hB, fun k _ ha => h.2 k (fun e => ha _ rfl e.symm)⟩
theorem Alt.rng {a : Option Addr} {w w' : World} (h : Alt a w w') {b : Option Addr} {n cap : Nat} {l : List (Int × Int)} (hr : Sp.Rng w b n cap l) (hne : 0 < n → ∀ ad ad0, b = some ad → a = some ad0 → ad.block ≠ ad0.block) : Sp.Rng w' b n cap l :=
  ⟨hr.len, hr.room, fun j hj => by
    obtain ⟨g, off, hb, hg, h1, h2⟩ := hr.cells j hj
    have e := h.2 g hg (fun ad ha e => hne (by omega) _ ad hb ha e.symm)
    refine ⟨g, off, hb, Nat.lt_of_lt_of_le hg h.1.size, ?_, ?_⟩
    · unfold World.cell? at h1 ⊢; simp only at h1 ⊢; rw [e]; exact h1
    · unfold World.cell? at h2 ⊢; simp only at h2 ⊢; rw [e]; exact h2⟩
def Apt (a : Option Addr) (x : OpM) : Prop := 0 < x.2.2.1 → ∀ ad ad0, x.2.1 = some ad → a = some ad0 → ad.block ≠ ad0.block
structure Rdy (w : World) (x : OpM) : Prop where
  rng : Sp.Rng w x.2.1 x.2.2.1 x.2.2.2 x.1.l
  few : x.1.l.length ≤ 1000000000
  size : x.1.s.size ≤ 281474976710656
theorem Rdy.alt {a : Option Addr} {w w' : World} {x : OpM} (h : Rdy w x) (hA : Alt a w w') (hx : Apt a x) : Rdy w' x := ⟨hA.rng h.rng hx, h.few, h.size⟩
theorem Rdy.below {w w' : World} {x : OpM} (h : Rdy w x) (hb : Below w.heap.size w w') : Rdy w' x := ⟨h.rng.below hb, h.few, h.size⟩
theorem own_apt {w : World} {B : Nat} {x : OpM} (h : OwnF rangeV 2 91 w B (.slice x.2.1 x.2.2.1 x.2.2.2) x.1.l) {a : Option Addr} (ha : ∀ ad, a = some ad → ad.block < B) : Apt a x := fun hn ad ad0 e e0 => by
  have := h.ge (g := ad.block) (by rw [e]; rfl)
  have := ha ad0 e0
  omega
theorem rng_apt {w : World} {x : OpM} (h : Sp.Rng w x.2.1 x.2.2.1 x.2.2.2 x.1.l) {a : Option Addr} (ha : ∀ ad, a = some ad → w.heap.size ≤ ad.block) : Apt a x := fun hn ad ad0 e e0 => by
  obtain ⟨g, off, e2, hg, _⟩ := h.cells 0 hn
  rw [e] at e2
  cases e2
  have := ha ad0 e0
  simp only
  omega
theorem run_eql_slice_nil {t e : TypeId} (a : Option Addr) (l c : Nat) (h : Tryz.prog.underlying t = some (.slice e)) (w : World) : (binOp .eql t (.slice a l c) (.slice none 0 0)).run Tryz.prog w = .ok (.bool a.isNone) w := by
  simp only [binOp]
  simp [run_equal_slice_nil w t e a l c h]
set_option maxHeartbeats 1000000 in
theorem cloneOps_any {w : World} {a : Option Addr} {n cap : Nat} {B : Nat} {L : List OpM} (h : OwnF opF 9 34 w B (.slice a n cap) L) (hn : n ≤ 1048576) :
    Calls Tryz.prog 11 #[.slice a n cap] w fun e w' => ∃ a' cap', e = .returned (.slice a' n cap') ∧ OwnF opF 9 34 w' w.heap.size (.slice a' n cap') L ∧ Below w.heap.size w w' := by
  have hl := (h.rw_ layO).len
  have hw := h.rw_ layO
  rcases h.2 with ⟨e, h0⟩ | ⟨g, cap', cur, e, _⟩
  · cases e
    obtain rfl : L = [] := List.eq_nil_of_length_eq_zero h0
    have en := fun w => run_eql_slice_nil none 0 0 Tryz.underlying23 w
    clear hw
    clear h
    go_enter Tryz.func11, Tryz.ntmps11
    go_wp2_with fail
    go_ret
    exact ⟨none, 0, by simp, ownF_nil _ _, Below.refl _ _⟩
  · cases e
    have hb0 : Below w.heap.size w (w.alloc (.cells #[] 34)) := (Below.refl _ _).alloc (Nat.le_refl _) _
    have ho0 : OwnF opF 9 34 (w.alloc (.cells #[] 34)) w.heap.size (.slice (some ⟨w.heap.size, 0, none⟩) 0 0) [] := ⟨rfl, .inr ⟨w.heap.size, 0, #[], rfl, Nat.le_refl _, alloc_last _ _ _ rfl, Nat.le_refl _, by decide, rfl, rfl⟩⟩
    obtain ⟨a', cap', w', hr, ho, hb, _⟩ := appendF_all kindO layO ho0 (by simp) (hw.below hb0) (by simp; omega) (by simp; omega) 23
    simp only [List.length_nil, List.nil_append, Nat.zero_add] at hr ho
    have hB := hb0.trans hb
    have en := fun w => run_eql_slice_nil (some ⟨g, 0, none⟩) L.length cap Tryz.underlying23 w
    simp only [Option.isNone_some] at en
    clear h ho0 hb hw
    go_enter Tryz.func11, Tryz.ntmps11
    go_wp2_with (at_builtin; refine wpList_append_hr rfl _ _ 23 rfl _ _ rfl rfl hr ?_)
    go_ret
    exact ⟨_, _, rfl, ho, hB⟩
set_option maxHeartbeats 8000000 in
theorem allApart_any {w : World} {a : Option Addr} {B n cap : Nat} {L : List OpM} (h : OwnF opF 9 34 w B (.slice a n cap) L) (hL : ∀ x ∈ L, Rdy w x ∧ Apt a x) :
    Calls Tryz.prog 13 #[.slice a n cap] w fun e w' => ∃ L', e = .returned (.slice a n cap) ∧ OwnF opF 9 34 w' B (.slice a n cap) L' ∧ L'.map (·.1) = L.map (·.1) ∧ OwnRs w' w.heap.size L' ∧ Alt a w w' := by
  have hrm := (h.rw_ layO).room
  simp only [maxLen] at hrm
  have hln := (h.rw_ layO).len
  have HL : Hid (∀ x ∈ L, Rdy w x ∧ Apt a x) := hL
  have HH : Hid (OwnF opF 9 34 w B (.slice a n cap) L) := h
  have HGW : Hid (∀ ad : Addr, a = some ad → ad.block < w.heap.size) := fun ad e => by
    subst e
    exact h.lt rfl
  clear hL h
  go_enter Tryz.func13, Tryz.ntmps13
  go_wp2_with fail
  go_loopw [3, 6] (fun v3 vi W => ∃ (j : Nat) (L' : List OpM), vi = .int .i64 j ∧ j ≤ n ∧ Hid (OwnF opF 9 34 W B (.slice a n cap) L' ∧ L'.map (·.1) = L.map (·.1) ∧ (∀ k x, k < j → L'[k]? = some x → OwnF rangeV 2 91 W w.heap.size (.slice x.2.1 x.2.2.1 x.2.2.2) x.1.l) ∧ (∀ k, j ≤ k → L'[k]? = L[k]?)) ∧ Alt a w W) (fun _ vi _ => n - (RowKit.intOf vi).toNat)
  case atStart => exact ⟨0, L, rfl, Nat.zero_le _, ⟨HH.out, rfl, fun k x hk => absurd hk (Nat.not_lt_zero _), fun _ _ => rfl⟩, Alt.refl _ _⟩
  case round =>
    obtain ⟨j, L', rfl, hjn, HI, hA⟩ := hrel
    by_cases hj : j < n
    · obtain ⟨ho, hm, hold, hnew⟩ := HI.out
      have hlen : L'.length = n := by have := congrArg List.length hm; simp at this; omega
      obtain ⟨g, cp, e, hBg, hgl, _, _, hfz⟩ := ho.ptr (by omega)
      simp only [Value.slice.injEq] at e
      obtain ⟨rfl, hnl, rfl⟩ := e
      clear hnl
      obtain ⟨g', off, x, ha', _, hx, c0, c1, c2, c3, c4, c5, c6, c7, c8⟩ := (ho.rw_ layO).at9 (Below.refl _ _) j hj
      cases ha'
      simp only [Nat.zero_add] at c0 c1 c2 c3 c4 c5 c6 c7 c8
      have hxL : L[j]? = some x := by rw [← hnew j (Nat.le_refl _)]; exact hx
      obtain ⟨hrd, hap⟩ := HL.out x (List.mem_of_getElem? hxL)
      have hrd2 := hrd.alt hA hap
      have HCl : Hid (Calls Tryz.prog 20 #[opVal x.1 (.slice x.2.1 x.2.2.1 x.2.2.2)] wr fun e w' => ∃ a' cap', e = .returned (opVal x.1 (.slice a' x.2.2.1 cap')) ∧ OwnF rangeV 2 91 w' wr.heap.size (.slice a' x.2.2.1 cap') x.1.l ∧ Below wr.heap.size wr w') := (opClone_any hrd2.rng (by have := hrd2.rng.len; have := hrd2.few; omega) hrd2.size).mono fun e2 w5 ⟨a', cap', he, ho5, hb5⟩ => ⟨a', cap', he, ho5.mono (by omega), hb5⟩
      have f0 := hfz (j * 9)
      have f1 := hfz (j * 9 + 1)
      have f2 := hfz (j * 9 + 2)
      have f3 := hfz (j * 9 + 3)
      have f4 := hfz (j * 9 + 4)
      have f5 := hfz (j * 9 + 5)
      have f6 := hfz (j * 9 + 6)
      have f7 := hfz (j * 9 + 7)
      have f8 := hfz (j * 9 + 8)
      have hxm : (L'.map (·.1))[j]? = some x.1 := by rw [List.getElem?_map, hx]; rfl
      clear hrd hap hrd2
      obtain ⟨⟨oc, on_, ok, op_, os, ol, otc, otn, oo⟩, xa, xm, xcap⟩ := x
      simp only [opVal] at c0 c1 c2 c3 c4 c5 c6 c7 c8 HCl
      have HX : Hid (L'[j]? = some (⟨oc, on_, ok, op_, os, ol, otc, otn, oo⟩, (xa, xm, xcap))) := hx
      clear hm hold hnew hx hxL hxm hlen hfz
      have b1 : (j : Int) < (n : Int) := by omega
      have b0 : (0 : Int) ≤ (j : Int) := by omega
      have b3 : (n : Int) ≤ 9223372036854775807 := by omega
      go_wp2_with fail
      refine HCl.out.mono ?_
      rintro e2 w5 ⟨ya, yc, rfl, hoy, hb5⟩
      have ho5 := ho.below hb5
      obtain ⟨W9, e9, ho9, hK9, hB9⟩ := ho5.put j hj (⟨oc, on_, ok, op_, os, ol, otc, otn, oo⟩, (ya, xm, yc))
      simp only at e9
      have g0 := (hb5.cell (p := ⟨g, j * 9, none⟩) hgl).trans c0
      have q0 := ho5.fz (j * 9)
      have g1 := (hb5.cell (p := ⟨g, j * 9 + 1, none⟩) hgl).trans c1
      have q1 := ho5.fz (j * 9 + 1)
      have g2 := (hb5.cell (p := ⟨g, j * 9 + 2, none⟩) hgl).trans c2
      have q2 := ho5.fz (j * 9 + 2)
      have g3 := (hb5.cell (p := ⟨g, j * 9 + 3, none⟩) hgl).trans c3
      have q3 := ho5.fz (j * 9 + 3)
      have g4 := (hb5.cell (p := ⟨g, j * 9 + 4, none⟩) hgl).trans c4
      have q4 := ho5.fz (j * 9 + 4)
      have g5 := (hb5.cell (p := ⟨g, j * 9 + 5, none⟩) hgl).trans c5
      have q5 := ho5.fz (j * 9 + 5)
      have g6 := (hb5.cell (p := ⟨g, j * 9 + 6, none⟩) hgl).trans c6
      have q6 := ho5.fz (j * 9 + 6)
      have g7 := (hb5.cell (p := ⟨g, j * 9 + 7, none⟩) hgl).trans c7
      have q7 := ho5.fz (j * 9 + 7)
      have g8 := (hb5.cell (p := ⟨g, j * 9 + 8, none⟩) hgl).trans c8
      have q8 := ho5.fz (j * 9 + 8)
      have hgw : g < w.heap.size := HGW.out _ rfl
      have HN : Hid (OwnF opF 9 34 W9 B (.slice (some ⟨g, 0, none⟩) n cap) (L'.set j (⟨oc, on_, ok, op_, os, ol, otc, otn, oo⟩, (ya, xm, yc))) ∧ (L'.set j (⟨oc, on_, ok, op_, os, ol, otc, otn, oo⟩, (ya, xm, yc))).map (·.1) = L.map (·.1) ∧ (∀ k x, k < j + 1 → (L'.set j (⟨oc, on_, ok, op_, os, ol, otc, otn, oo⟩, (ya, xm, yc)))[k]? = some x → OwnF rangeV 2 91 W9 w.heap.size (.slice x.2.1 x.2.2.1 x.2.2.2) x.1.l) ∧ (∀ k, j + 1 ≤ k → (L'.set j (⟨oc, on_, ok, op_, os, ol, otc, otn, oo⟩, (ya, xm, yc)))[k]? = L[k]?)) := by
        obtain ⟨_, hm, hold, hnew⟩ := HI.out
        have hlen : L'.length = n := by have := congrArg List.length hm; simp at this; omega
        refine ⟨ho9, (set_same (y := (⟨oc, on_, ok, op_, os, ol, otc, otn, oo⟩, (ya, xm, yc))) HX.out rfl).trans hm, fun k x hk hkx => ?_, fun k hk => ?_⟩
        · rw [List.getElem?_set] at hkx
          by_cases hjk : j = k
          · subst hjk
            rw [if_pos rfl, if_pos (by omega)] at hkx
            cases hkx
            exact (hK9.own hoy hgl).mono hA.1.size
          · rw [if_neg hjk] at hkx
            exact hK9.own ((hold k x (by omega) hkx).below hb5) hgw
        · rw [List.getElem?_set, if_neg (by omega)]
          exact hnew k (by omega)
      have hA9 : Alt (some ⟨g, 0, none⟩) w W9 := (hA.trans (Alt.of_below hb5)).trans (Alt.of_but (hB9.mono (Nat.zero_le _)) hK9)
      clear HI ho HX HCl ho5 ho9 hoy c0 f0 c1 f1 c2 f2 c3 f3 c4 f4 c5 f5 c6 f6 c7 f7 c8 f8
      go_wp2_with fail
      try rw [e9]
      go_roundw
      case rel => exact ⟨j + 1, _, by go_num, by omega, HN, hA9⟩
      case measure => simp [RowKit.intOf]; omega
    · obtain rfl : j = n := by omega
      obtain ⟨ho, hm, hold, hnew⟩ := HI.out
      have HF : Hid (OwnRs wr w.heap.size L') := fun x hx => by
        obtain ⟨k, hk⟩ := List.getElem?_of_mem hx
        have hlen : L'.length = j := by have := congrArg List.length hm; simp at this; omega
        exact hold k x (by have := (List.getElem?_eq_some_iff.1 hk).1; omega) hk
      have b1 : decide ((j : Int) < (j : Int)) = false := decide_eq_false (by omega)
      have HM : Hid (L'.map (·.1) = L.map (·.1)) := hm
      clear hold hnew hm
      go_wp2_with fail
      go_ret
      exact ⟨rfl, L', ho, HM.out, HF.out, hA⟩
end Go.Proofs.YtmdnmhdimfglaaaGreatDoor
