import Derived.Test.YtdmhajlhpieedaaLcE
/-! bag: a step that is no Send. -/
namespace Go.Proofs.Ytdmhajlhpieedaa
open Go.RowKit Go.Lib Go.Shelf
set_option maxRecDepth 100000

/-- A step in memory. -/
structure Sp where
  kind : Int
  which : Int
  k : Int
  at_ : Int
  mask : UInt8
  pa : Option Addr
  pn : Nat
  pc : Nat
def Sp.val (s : Sp) : Value := .agg #[.int .i64 s.kind, .int .i64 s.which, .int .i64 s.k, .int .i64 s.at_, .int .u8 (s.mask.toNat : Int), .slice s.pa s.pn s.pc]
theorem box6 {W : World} {b : Nat} {T : TypeId} {v0 v1 v2 v3 v4 v5 : Value} (h : W.heap[b]? = some (.cells #[v0, v1, v2, v3, v4, v5] T)) : W.cell? ⟨b, 0, none⟩ = some v0 ∧ W.cell? ⟨b, 1, none⟩ = some v1 ∧ W.cell? ⟨b, 2, none⟩ = some v2 ∧ W.cell? ⟨b, 3, none⟩ = some v3 ∧ W.cell? ⟨b, 4, none⟩ = some v4 ∧ W.cell? ⟨b, 5, none⟩ = some v5 := by
  simp only [Lib.cell_of_heap h]
  exact ⟨rfl, rfl, rfl, rfl, rfl, rfl⟩
/-- What a step of the bag leaves. -/
def BagP (W0 : World) (q : Nat) (L : List Sn) (v' : Value) (w' : World) : Prop := ∃ L', Bg W0 w' q (bagS L') v' L' ∧ L'.length ≤ L.length + 20 ∧ ∀ s ∈ L', s.bs.length ≤ 1048576
/-- Where a step of the bag begins. -/
structure Bz (W0 W W1 : World) (q : Nat) (L : List Sn) (a : Option Addr) (n c kk : Nat) (sp : Sp) : Prop where
  bg : Bg W0 W1 q (bagS L) (.slice a n c) L
  nk : ∃ K, St W0 K W1 q (bagS L) ∧ (∀ g, (Value.slice a n c).ownBlock = some g → ¬ K g) ∧ ¬ K W.heap.size
  len : L.length = n
  ek : kk = pickZ sp.k (n + 1)
  kn : kk ≤ n
  bx : W1.heap[W.heap.size]? = some (.cells #[.int .i64 sp.kind, .int .i64 sp.which, .int .i64 sp.k, .int .i64 sp.at_, .int .u8 (sp.mask.toNat : Int), .slice sp.pa sp.pn sp.pc] 51)
  al : W.alloc (.cells #[.int .i64 sp.kind, .int .i64 sp.which, .int .i64 sp.k, .int .i64 sp.at_, .int .u8 (sp.mask.toNat : Int), .slice sp.pa sp.pn sp.pc] 51) = W1
  pk : ∀ w, Calls Try.prog 15 #[.int .i64 sp.k, .int .i64 ((n : Int) + 1)] w fun e w' => e = .returned (.int .i64 (kk : Int)) ∧ w' = w
theorem bz_of {W0 W : World} {q : Nat} {v : Value} {L : List Sn} (h : Bg W0 W q (bagS L) v L) (hL : L.length ≤ 3000) (sp : Sp) : ∃ W1 a n c kk, v = .slice a n c ∧ Bz W0 W W1 q L a n c kk sp := by
  obtain ⟨a, c, ev, _, _⟩ := h.shape
  have hB : Below W.heap.size W (W.alloc (.cells #[.int .i64 sp.kind, .int .i64 sp.which, .int .i64 sp.k, .int .i64 sp.at_, .int .u8 (sp.mask.toNat : Int), .slice sp.pa sp.pn sp.pc] 51)) := (Below.refl _ _).alloc (Nat.le_refl _) _
  refine ⟨_, a, L.length, c, pickZ sp.k (L.length + 1), ev, ⟨ev ▸ h.below hB, ?_, rfl, rfl, by have := pickZ_lt sp.k (L.length + 1) (by omega); omega, heap_alloc_new W _, rfl, fun w => ?_⟩⟩
  · obtain ⟨K, h1, h2⟩ := h.ex
    exact ⟨K, h1.below hB, ev ▸ h2, fun e => by have := (h1.new _ e).2; omega⟩
  have hp := pick_any sp.k (L.length + 1) (by omega) (by omega) w
  rw [Int.natCast_add] at hp
  exact hp
theorem modify_bs {L : List Sn} {k : Nat} {f : Sn → Sn} {N : Nat} (h : ∀ s ∈ L, s.bs.length ≤ N) (hf : ∀ s, (f s).bs.length = s.bs.length) : ∀ s ∈ L.modify k f, s.bs.length ≤ N := by
  intro s hs
  obtain ⟨i, hi⟩ := List.getElem?_of_mem hs
  rw [List.getElem?_modify] at hi
  cases hq : L[i]? with
  | none => rw [hq] at hi; simp at hi
  | some t =>
    rw [hq] at hi
    simp only [Option.map_eq_map, Option.map_some, Option.some.injEq] at hi
    have ht := h t (List.mem_of_getElem? hq)
    subst hi
    split
    · rw [hf]; exact ht
    · exact ht
theorem delNone {L : List Sn} {k : Nat} (h : hitF (bagS L) (k : Int) = none) : delS (bagS L) (k : Int) = bagS L := by
  unfold delS
  have : (bagS L).fl.filter (fun f => decide ((f.num : Int) ≠ (k : Int))) = (bagS L).fl := by
    rw [List.filter_eq_self]
    intro f hf
    have := List.find?_eq_none.1 h f hf
    simpa using this
  rw [this]
set_option maxHeartbeats 4000000 in
theorem step_deliver {W0 W W1 : World} {q : Nat} {L : List Sn} {a : Option Addr} {n c kk : Nat} {sp : Sp} (z : Bz W0 W W1 q L a n c kk sp) (hL : L.length ≤ 3000) (hb : ∀ s ∈ L, s.bs.length ≤ 1048576) (hk : sp.kind = 2) : Calls Try.prog 18 #[.pointer (some ⟨q, 0, none⟩), .slice a n c, sp.val] W fun e w' => ∃ v', e = .returned (.tuple #[v', .bool true]) ∧ BagP W0 q L v' w' := by
  obtain ⟨r0, r1, r2, r3, r4, r5⟩ := box6 z.bx
  have hal := z.al
  have HPK : Hid (∀ w, Calls Try.prog 15 #[.int .i64 sp.k, .int .i64 ((n : Int) + 1)] w fun e w' => e = .returned (.int .i64 (kk : Int)) ∧ w' = w) := z.pk
  have en : IntKind.i64.wrap ((n : Int) + 1) = (n : Int) + 1 := IntWalk.i64_in _ (by have := z.len; omega)
  have HZ : Hid (Bz W0 W W1 q L a n c kk sp ∧ L.length ≤ 3000 ∧ ∀ s ∈ L, s.bs.length ≤ 1048576) := ⟨z, hL, hb⟩
  unfold Sp.val
  rw [hk] at r0 hal ⊢
  have hbr := brought_any z.bg kk
  have HB : Hid (Calls Try.prog 20 #[.pointer (some ⟨q, 0, none⟩), .slice a n c, .int .i64 (kk : Int)] W1 fun e w' => e = .returned (.bool true) ∧ BagP W0 q L (.slice a n c) w') := hbr.mono (by
    rintro e w' ⟨e1, e2⟩
    exact ⟨e1, _, e2, by rw [List.length_modify]; omega, modify_bs hb (fun _ => rfl)⟩)
  clear hbr
  by_cases hkl : kk < n
  · have hkL : kk < L.length := by have := z.len; omega
    have hs : L[kk]? = some L[kk] := List.getElem?_eq_getElem hkL
    obtain ⟨g, c', ev, _, ⟨c0, c1, c2, c3, c4, c5⟩, cf, cg, cur, hcur⟩ := z.bg.at hs
    simp only [Value.slice.injEq] at ev
    obtain ⟨rfl, -, rfl⟩ := ev
    have g1 : (kk : Int) < (n : Int) := by omega
    generalize L[kk].here = hb0 at c5
    clear hs c0 c1 c2 c3 c4 cf cg hcur
    clear z hL hb r1 r3 r5
    go_enter Try.func18, Try.ntmps18
    go_wp2_with fail
    refine (HPK.out _).mono ?_
    rintro e w' ⟨rfl, hw⟩
    obtain rfl := hw.symm
    clear hw
    go_wp2_with fail
    refine HB.out.mono ?_
    rintro e w2 ⟨rfl, hp⟩
    have hp' : Hid (BagP W0 q L (.slice (some ⟨g, 0, none⟩) n c) w2) := hp
    clear hp
    go_wp2_with fail
    go_ret2
    exact ⟨_, rfl, hp'.out⟩
  · have g1 : ¬ (kk : Int) < (n : Int) := by omega
    clear z hL hb r1 r3 r5
    go_enter Try.func18, Try.ntmps18
    go_wp2_with fail
    refine (HPK.out _).mono ?_
    rintro e w' ⟨rfl, hw⟩
    obtain rfl := hw.symm
    clear hw
    go_wp2_with fail
    refine HB.out.mono ?_
    rintro e w2 ⟨rfl, hp⟩
    have hp' : Hid (BagP W0 q L (.slice a n c) w2) := hp
    clear hp
    go_wp2_with fail
    go_ret2
    exact ⟨_, rfl, hp'.out⟩
set_option maxHeartbeats 4000000 in
theorem step_drop {W0 W W1 : World} {q : Nat} {L : List Sn} {a : Option Addr} {n c kk : Nat} {sp : Sp} (z : Bz W0 W W1 q L a n c kk sp) (hL : L.length ≤ 3000) (hb : ∀ s ∈ L, s.bs.length ≤ 1048576) (hk : sp.kind = 3) {s : Sn} (hs : L[kk]? = some s) (hh : s.here = true) : Calls Try.prog 18 #[.pointer (some ⟨q, 0, none⟩), .slice a n c, sp.val] W fun e w' => ∃ v', e = .returned (.tuple #[v', .bool true]) ∧ BagP W0 q L v' w' := by
  obtain ⟨r0, r1, r2, r3, r4, r5⟩ := box6 z.bx
  have hal := z.al
  have HPK : Hid (∀ w, Calls Try.prog 15 #[.int .i64 sp.k, .int .i64 ((n : Int) + 1)] w fun e w' => e = .returned (.int .i64 (kk : Int)) ∧ w' = w) := z.pk
  have en : IntKind.i64.wrap ((n : Int) + 1) = (n : Int) + 1 := IntWalk.i64_in _ (by have := z.len; omega)
  have HZ : Hid (Bz W0 W W1 q L a n c kk sp ∧ L.length ≤ 3000 ∧ ∀ s ∈ L, s.bs.length ≤ 1048576) := ⟨z, hL, hb⟩
  unfold Sp.val
  have hkl : kk < n := by have h1 := (List.getElem?_eq_some_iff.1 hs).1; have := z.len; omega
  obtain ⟨g, c', ev, _, ⟨c0, c1, c2, c3, c4, c5⟩, cf, cg, cur, hcur⟩ := z.bg.at hs
  simp only [Value.slice.injEq] at ev
  obtain ⟨rfl, -, rfl⟩ := ev
  rw [hh] at c5
  have g1 : (kk : Int) < (n : Int) := by omega
  rw [hk] at r0 hal ⊢
  have hdr := z.bg.drop (kk : Int)
  have hhit : (hitF (bagS L) (kk : Int)).isSome = true := by rw [bag_hit, hs]; simp [hh]
  have HB : Hid (Calls Try.prog 17 #[.pointer (some ⟨q, 0, none⟩), .int .i64 (kk : Int)] W1 fun e w' => e = .returned (.int .i64 0) ∧ Bg W0 w' q (bagS (L.set kk (hide s))) (.slice (some ⟨g, 0, none⟩) n c) L) := hdr.mono (by
    rintro e w' ⟨e1, e2⟩
    rw [bag_del, modify_set hide L kk s hs] at e2
    exact ⟨by rw [e1, dropE, hhit]; rfl, e2⟩)
  have HS : Hid (L[kk]? = some s ∧ s.here = true) := ⟨hs, hh⟩
  clear hdr hhit hs hh c0 c1 c2 c3 c4 cf cg hcur
  clear z hL hb r1 r3 r5
  go_enter Try.func18, Try.ntmps18
  go_wp2_with fail
  refine (HPK.out _).mono ?_
  rintro e w' ⟨rfl, hw⟩
  obtain rfl := hw.symm
  clear hw
  go_wp2_with fail
  refine HB.out.mono ?_
  rintro e w2 ⟨rfl, h2⟩
  obtain ⟨g', c', ev, _, ⟨d0, d1, d2, d3, d4, d5⟩, df, dg, cur2, hcur2⟩ := h2.at HS.out.1
  simp only [Value.slice.injEq, Option.some.injEq, Addr.mk.injEq, and_true] at ev
  obtain ⟨rfl, -, rfl⟩ := ev
  have df5 := df (kk * 6 + 5)
  obtain ⟨W3, hW3⟩ : ∃ W3, w2.setCell ⟨g, kk * 6 + 5, none⟩ (.bool false) = W3 := ⟨_, rfl⟩
  have HB3 : Hid (BagP W0 q L (.slice (some ⟨g, 0, none⟩) n c) W3) := ⟨L.set kk (hide s), h2.set (j := 5) (s' := hide s) HS.out.1 (by decide) (by simp [snv, hide]) hW3, by rw [List.length_set]; omega, by rw [← modify_set hide L kk s HS.out.1]; exact modify_bs HZ.out.2.2 (fun _ => rfl)⟩
  clear h2 d0 d1 d2 d3 d4 df dg hcur2 HS
  go_wp2_with fail
  go_ret2
  exact ⟨_, rfl, HB3.out⟩
set_option maxHeartbeats 4000000 in
theorem step_dropNo {W0 W W1 : World} {q : Nat} {L : List Sn} {a : Option Addr} {n c kk : Nat} {sp : Sp} (z : Bz W0 W W1 q L a n c kk sp) (hL : L.length ≤ 3000) (hb : ∀ s ∈ L, s.bs.length ≤ 1048576) (hk : sp.kind = 3) (hno : ∀ s, L[kk]? = some s → s.here = false) : Calls Try.prog 18 #[.pointer (some ⟨q, 0, none⟩), .slice a n c, sp.val] W fun e w' => ∃ v', e = .returned (.tuple #[v', .bool true]) ∧ BagP W0 q L v' w' := by
  obtain ⟨r0, r1, r2, r3, r4, r5⟩ := box6 z.bx
  have hal := z.al
  have HPK : Hid (∀ w, Calls Try.prog 15 #[.int .i64 sp.k, .int .i64 ((n : Int) + 1)] w fun e w' => e = .returned (.int .i64 (kk : Int)) ∧ w' = w) := z.pk
  have en : IntKind.i64.wrap ((n : Int) + 1) = (n : Int) + 1 := IntWalk.i64_in _ (by have := z.len; omega)
  have HZ : Hid (Bz W0 W W1 q L a n c kk sp ∧ L.length ≤ 3000 ∧ ∀ s ∈ L, s.bs.length ≤ 1048576) := ⟨z, hL, hb⟩
  unfold Sp.val
  have hhit : hitF (bagS L) (kk : Int) = none := by
    rw [bag_hit]
    cases hq : L[kk]? with
    | none => rfl
    | some s => simp [hno s hq]
  rw [hk] at r0 hal ⊢
  have hdr := z.bg.drop (kk : Int)
  have HB : Hid (∀ a', a = a' → Calls Try.prog 17 #[.pointer (some ⟨q, 0, none⟩), .int .i64 (kk : Int)] W1 fun e w' => e = .returned (.int .i64 160) ∧ BagP W0 q L (.slice a' n c) w') := fun a' ea => hdr.mono (by
    rintro e w' ⟨e1, e2⟩
    rw [delNone hhit] at e2
    exact ⟨by rw [e1, dropE, hhit]; rfl, L, ea ▸ e2, by omega, hb⟩)
  clear hdr hhit
  by_cases hkl : kk < n
  · have hkL : kk < L.length := by have := z.len; omega
    have hs : L[kk]? = some L[kk] := List.getElem?_eq_getElem hkL
    have hh := hno _ hs
    obtain ⟨g, c', ev, _, ⟨c0, c1, c2, c3, c4, c5⟩, cf, cg, cur, hcur⟩ := z.bg.at hs
    simp only [Value.slice.injEq] at ev
    obtain ⟨rfl, -, rfl⟩ := ev
    rw [hh] at c5
    have g1 : (kk : Int) < (n : Int) := by omega
    clear hs hh hno c0 c1 c2 c3 c4 cf cg hcur
    have HB1 := HB.out _ rfl
    clear HB
    clear z hL hb r1 r3 r5
    go_enter Try.func18, Try.ntmps18
    go_wp2_with fail
    refine (HPK.out _).mono ?_
    rintro e w' ⟨rfl, hw⟩
    obtain rfl := hw.symm
    clear hw
    go_wp2_with fail
    refine HB1.mono ?_
    rintro e w2 ⟨rfl, h2⟩
    have HP2 : Hid (BagP W0 q L _ w2) := h2
    clear h2 HB1
    go_wp2_with fail
    go_ret2
    exact ⟨_, rfl, HP2.out⟩
  · have g1 : ¬ (kk : Int) < (n : Int) := by omega
    clear hno
    have HB1 := HB.out _ rfl
    clear HB
    clear z hL hb r1 r3 r5
    go_enter Try.func18, Try.ntmps18
    go_wp2_with fail
    refine (HPK.out _).mono ?_
    rintro e w' ⟨rfl, hw⟩
    obtain rfl := hw.symm
    clear hw
    go_wp2_with fail
    refine HB1.mono ?_
    rintro e w2 ⟨rfl, h2⟩
    have HP2 : Hid (BagP W0 q L _ w2) := h2
    clear h2 HB1
    go_wp2_with fail
    go_ret2
    exact ⟨_, rfl, HP2.out⟩
set_option maxHeartbeats 4000000 in
theorem step_copy {W0 W W1 : World} {q : Nat} {L : List Sn} {a : Option Addr} {n c kk : Nat} {sp : Sp} (z : Bz W0 W W1 q L a n c kk sp) (hL : L.length ≤ 3000) (hb : ∀ s ∈ L, s.bs.length ≤ 1048576) (hk : sp.kind = 4) {s : Sn} (hs : L[kk]? = some s) (hh : s.here = true) : Calls Try.prog 18 #[.pointer (some ⟨q, 0, none⟩), .slice a n c, sp.val] W fun e w' => ∃ v', e = .returned (.tuple #[v', .bool true]) ∧ BagP W0 q L v' w' := by
  obtain ⟨r0, r1, r2, r3, r4, r5⟩ := box6 z.bx
  have hal := z.al
  have HPK : Hid (∀ w, Calls Try.prog 15 #[.int .i64 sp.k, .int .i64 ((n : Int) + 1)] w fun e w' => e = .returned (.int .i64 (kk : Int)) ∧ w' = w) := z.pk
  have en : IntKind.i64.wrap ((n : Int) + 1) = (n : Int) + 1 := IntWalk.i64_in _ (by have := z.len; omega)
  have HZ : Hid (Bz W0 W W1 q L a n c kk sp ∧ L.length ≤ 3000 ∧ ∀ s ∈ L, s.bs.length ≤ 1048576) := ⟨z, hL, hb⟩
  unfold Sp.val
  have hkl : kk < n := by have h1 := (List.getElem?_eq_some_iff.1 hs).1; have := z.len; omega
  obtain ⟨g, c', ev, _, ⟨c0, c1, c2, c3, c4, c5⟩, cf, cg, cur, hcur⟩ := z.bg.at hs
  simp only [Value.slice.injEq] at ev
  obtain ⟨rfl, -, rfl⟩ := ev
  rw [hh] at c5
  have g1 : (kk : Int) < (n : Int) := by omega
  rw [hk] at r0 hal ⊢
  have hcp := z.bg.copy (kk : Int) (fun f hf => by have := fgs_bs L 0 1048576 hb f hf; omega) (by show L.length + 1 ≤ _; omega)
  obtain ⟨hc1, hc2⟩ := bag_copy L kk s hs hh (by omega)
  have HB : Hid (Calls Try.prog 16 #[.pointer (some ⟨q, 0, none⟩), .int .i64 (kk : Int)] W1 fun e w' => e = .returned (.tuple #[.int .i64 (n : Int), .int .i64 0]) ∧ Bg W0 w' q (bagS (L ++ [s])) (.slice (some ⟨g, 0, none⟩) n c) L) := hcp.mono (by
    rintro e w' ⟨e1, e2⟩
    rw [hc1] at e2
    refine ⟨?_, e2⟩
    rw [e1, copyV, hc2, if_pos rfl]
    show Ending.returned (.tuple #[.int .i64 (L.length : Int), _]) = _
    rw [z.len])
  have HS : Hid (L[kk]? = some s ∧ s.here = true) := ⟨hs, hh⟩
  clear hcp hc1 hc2 hs hh c0 c1 c2 c3 c4 cf cg hcur
  clear z hL hb r1 r3 r5
  go_enter Try.func18, Try.ntmps18
  go_wp2_with fail
  refine (HPK.out _).mono ?_
  rintro e w' ⟨rfl, hw⟩
  obtain rfl := hw.symm
  clear hw
  go_wp2_with fail
  refine HB.out.mono ?_
  rintro e w2 ⟨rfl, h2⟩
  obtain ⟨g', c', ev, _, ⟨d0, d1, d2, d3, d4, d5⟩, df, dg, cur2, hcur2⟩ := h2.at HS.out.1
  simp only [Value.slice.injEq, Option.some.injEq, Addr.mk.injEq, and_true] at ev
  obtain ⟨rfl, -, rfl⟩ := ev
  obtain ⟨g9, c9, W9, hr9, h9, _⟩ := h2.app s #[.int .i64 s.fr, .int .i64 s.tt, .slice s.a s.n s.cap, .string ⟨s.bs.toArray⟩, .bool s.sp, .bool s.here] rfl (by have := HZ.out.2.1; omega) 47
  rw [HZ.out.1.len] at hr9 h9
  have HB3 : Hid (BagP W0 q L (.slice (some ⟨g9, 0, none⟩) (n + 1) c9) W9) := ⟨L ++ [s], h9, by simp, fun s' hs' => by
    rcases List.mem_append.1 hs' with h | h
    · exact HZ.out.2.2 s' h
    · simp at h; subst h; exact HZ.out.2.2 _ (List.mem_of_getElem? HS.out.1)⟩
  have en1 : RowKit.wrap64 (n : Int) = (n : Int) := IntWalk.wrap64_in _ (by have := HZ.out.1.len; have := HZ.out.2.1; omega)
  have bn : ((n : Int) == (n : Int)) = true := by simp
  obtain ⟨Y, hY⟩ : ∃ Y : ByteArray, ⟨s.bs.toArray⟩ = Y := ⟨_, rfl⟩
  rw [hY] at d3 hr9
  clear h2 df dg hcur2 h9 hY
  go_wp2_with (first | (refine wpList_append_hr rfl _ _ 47 rfl _ _ rfl rfl hr9 ?_) | fail)
  go_ret2
  exact ⟨_, rfl, HB3.out⟩
set_option maxHeartbeats 4000000 in
theorem step_copyNo {W0 W W1 : World} {q : Nat} {L : List Sn} {a : Option Addr} {n c kk : Nat} {sp : Sp} (z : Bz W0 W W1 q L a n c kk sp) (hL : L.length ≤ 3000) (hb : ∀ s ∈ L, s.bs.length ≤ 1048576) (hk : sp.kind = 4) (hno : ∀ s, L[kk]? = some s → s.here = false) : Calls Try.prog 18 #[.pointer (some ⟨q, 0, none⟩), .slice a n c, sp.val] W fun e w' => ∃ v', e = .returned (.tuple #[v', .bool true]) ∧ BagP W0 q L v' w' := by
  obtain ⟨r0, r1, r2, r3, r4, r5⟩ := box6 z.bx
  have hal := z.al
  have HPK : Hid (∀ w, Calls Try.prog 15 #[.int .i64 sp.k, .int .i64 ((n : Int) + 1)] w fun e w' => e = .returned (.int .i64 (kk : Int)) ∧ w' = w) := z.pk
  have en : IntKind.i64.wrap ((n : Int) + 1) = (n : Int) + 1 := IntWalk.i64_in _ (by have := z.len; omega)
  have HZ : Hid (Bz W0 W W1 q L a n c kk sp ∧ L.length ≤ 3000 ∧ ∀ s ∈ L, s.bs.length ≤ 1048576) := ⟨z, hL, hb⟩
  unfold Sp.val
  have hhit : hitF (bagS L) (kk : Int) = none := by
    rw [bag_hit]
    cases hq : L[kk]? with
    | none => rfl
    | some s => simp [hno s hq]
  rw [hk] at r0 hal ⊢
  have hdr := z.bg.copy (kk : Int) (fun f hf => by have := fgs_bs L 0 1048576 hb f hf; omega) (by show L.length + 1 ≤ _; omega)
  have HB : Hid (∀ a', a = a' → Calls Try.prog 16 #[.pointer (some ⟨q, 0, none⟩), .int .i64 (kk : Int)] W1 fun e w' => e = .returned (.tuple #[.int .i64 0, .int .i64 160]) ∧ BagP W0 q L (.slice a' n c) w') := fun a' ea => hdr.mono (by
    rintro e w' ⟨e1, e2⟩
    have e3 : copyE (bagS L) (kk : Int) = 160 := by rw [copyE, hhit]
    rw [copyS, hhit] at e2
    exact ⟨by rw [e1, copyV, e3]; rfl, L, ea ▸ e2, by omega, hb⟩)
  clear hdr hhit
  by_cases hkl : kk < n
  · have hkL : kk < L.length := by have := z.len; omega
    have hs : L[kk]? = some L[kk] := List.getElem?_eq_getElem hkL
    have hh := hno _ hs
    obtain ⟨g, c', ev, _, ⟨c0, c1, c2, c3, c4, c5⟩, cf, cg, cur, hcur⟩ := z.bg.at hs
    simp only [Value.slice.injEq] at ev
    obtain ⟨rfl, -, rfl⟩ := ev
    rw [hh] at c5
    have g1 : (kk : Int) < (n : Int) := by omega
    clear hs hh hno c0 c1 c2 c3 c4 cf cg hcur
    have HB1 := HB.out _ rfl
    clear HB
    clear z hL hb r1 r3 r5
    go_enter Try.func18, Try.ntmps18
    go_wp2_with fail
    refine (HPK.out _).mono ?_
    rintro e w' ⟨rfl, hw⟩
    obtain rfl := hw.symm
    clear hw
    go_wp2_with fail
    refine HB1.mono ?_
    rintro e w2 ⟨rfl, h2⟩
    have HP2 : Hid (BagP W0 q L _ w2) := h2
    clear h2 HB1
    go_wp2_with fail
    go_ret2
    exact ⟨_, rfl, HP2.out⟩
  · have g1 : ¬ (kk : Int) < (n : Int) := by omega
    clear hno
    have HB1 := HB.out _ rfl
    clear HB
    clear z hL hb r1 r3 r5
    go_enter Try.func18, Try.ntmps18
    go_wp2_with fail
    refine (HPK.out _).mono ?_
    rintro e w' ⟨rfl, hw⟩
    obtain rfl := hw.symm
    clear hw
    go_wp2_with fail
    refine HB1.mono ?_
    rintro e w2 ⟨rfl, h2⟩
    have HP2 : Hid (BagP W0 q L _ w2) := h2
    clear h2 HB1
    go_wp2_with fail
    go_ret2
    exact ⟨_, rfl, HP2.out⟩
end Go.Proofs.Ytdmhajlhpieedaa
