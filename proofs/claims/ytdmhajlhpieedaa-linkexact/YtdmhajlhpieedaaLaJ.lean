import Derived.Test.YtdmhajlhpieedaaLaI
/-! Drop, Deliver, Copy. -/
namespace Go.Proofs.Ytdmhajlhpieedaa
open Go.RowKit Go.Lib Go.Shelf
set_option maxRecDepth 100000

/-- A store of what is there already. -/
theorem setCell_self {W : World} {b i : Nat} {v : Value} (h : W.cell? ⟨b, i, none⟩ = some v) : W.setCell ⟨b, i, none⟩ v = W := by
  unfold World.setCell
  unfold World.cell? at h
  obtain ⟨heap, t, d, os, out⟩ := W
  simp only at *
  congr 1
  refine Array.ext_getElem? fun k => ?_
  rw [Array.getElem?_modify]
  by_cases hk : b = k
  · subst hk
    rw [if_pos rfl]
    cases hb : heap[b]? with
    | none => rfl
    | some o =>
      rw [hb] at h
      cases o with
      | cells c T fr =>
        simp at h
        simp only [Option.map_some, Option.isSome_none]
        congr 2
        obtain ⟨hi, rfl⟩ := Array.getElem?_eq_some_iff.1 h
        simp
        refine Array.ext (by simp) fun j h1 h2 => ?_
        rw [Array.getElem_setIfInBounds]
        split
        · subst_vars; rfl
        · rfl
      | _ => rfl
  · rw [if_neg hk]

theorem CutP.from {W W1 W' : World} {q : Nat} {S : Lk} {rv : Value} {l r : List X} (hB : Below W.heap.size W W1) (h : CutP W1 q S rv l r W') : CutP W q S rv l r W' := by
  obtain ⟨rv', h1, h2, h3⟩ := h
  exact ⟨rv', h1, (Chg.of_below hB).trans h2, h3⟩
theorem BegP.from {W W1 W' : World} {q : Nat} {S : Lk} {rv : Value} {xs : List X} {f : Fg} (hB : Below W.heap.size W W1) (h : BegP W1 q S rv xs f W') : BegP W q S rv xs f W' := by
  obtain ⟨rv', x, h0, h1, h2, h3, h4⟩ := h
  have := hB.size
  exact ⟨rv', x, h0, h1, (Chg.of_below hB).trans h2, fun g hg => (h3 g hg).imp id (fun h => by omega), fun g hg => by have := h4 g hg; omega⟩
theorem CutP.nx {W W' : World} {q : Nat} {S : Lk} {rv : Value} {l r : List X} {x : X} (h : CutP W q S rv l r W') : Nx W W' q rv (l ++ x :: r) (cutS S l r) := by
  obtain ⟨rv', h1, h2, h3⟩ := h
  refine ⟨rv', l ++ r, h1, h2.mono (fun g _ e => by rcases e with e | e; exact .inl e; exact .inr (.inl e)), fun g hg => .inl ?_⟩
  rcases hg with e | e | ⟨y, hy, e⟩
  · exact .inl e
  · exact .inr (.inl (by rw [← h3]; exact e))
  · exact .inr (.inr ⟨y, mem_mid hy, e⟩)
theorem BegP.nx {W W' : World} {q : Nat} {S : Lk} {rv : Value} {xs : List X} {f : Fg} (h : BegP W q S rv xs f W') : Nx W W' q rv xs (begS S f) := by
  obtain ⟨rv', x, h0, h1, h2, h3, h4⟩ := h
  refine ⟨rv', xs ++ [x], h1, h2.mono (fun g _ e => by rcases e with e | e; exact .inl e; exact .inr (.inl e)), fun g hg => ?_⟩
  rcases hg with e | e | ⟨y, hy, e⟩
  · exact .inl (.inl e)
  · rcases h3 g e with e | e
    · exact .inl (.inr (.inl e))
    · exact .inr e
  · rcases List.mem_append.1 hy with hy | hy
    · exact .inl (.inr (.inr ⟨y, hy, e⟩))
    · simp only [List.mem_singleton] at hy
      subst hy
      exact .inr (h4 g e)
/-- The bytes of a flight that has left. -/
theorem CutP.own {W W' : World} {q : Nat} {S : Lk} {rv : Value} {l r : List X} {x : X} (h : LinkAt W q S rv (l ++ x :: r)) (hC : CutP W q S rv l r W') : OwnF byU 1 5 W' 0 x.v x.bs := by
  obtain ⟨rv', h1, h2, h3⟩ := hC
  have hx : x ∈ l ++ x :: r := by simp
  exact (h.own x hx).chg h2 (fun g hg e => by
    rcases e with rfl | e
    · exact h.q_ne_g hx hg rfl
    · exact h.r_ne_g e hx hg rfl)
section
variable {W : World} {q : Nat} {S : Lk} {rv : Value} {xs l r : List X} {x : X}
theorem LinkAt.le (h : LinkAt W q S rv xs) (hO : S.Ok) : xs.length ≤ 1048576 := by
  have h1 := hO.most
  have h2 := hO.len
  have h3 := h.len
  omega
set_option maxHeartbeats 1000000 in
theorem drop_hit (h : LinkAt W q S rv (l ++ x :: r)) (hO : S.Ok) (k : Int) (hk : (x.num : Int) = k) : Calls Try.prog 17 #[.pointer (some ⟨q, 0, none⟩), .int .i64 k] W fun e w' => e = .returned (.int .i64 0) ∧ CutP W q S rv l r w' := by
  have HF : Hid (Calls Try.prog 28 #[.pointer (some ⟨q, 0, none⟩), .int .i64 k] W fun e w' => e = .returned (.tuple #[.int .i64 (l.length : Int), .int .i64 0]) ∧ Below W.heap.size W w') := find_hit h hO k hk
  have HC : Hid (∀ w, Below W.heap.size W w → Calls Try.prog 29 #[.pointer (some ⟨q, 0, none⟩), .int .i64 (l.length : Int)] w fun e w' => e = .returned (.tuple #[]) ∧ CutP W q S rv l r w') := fun w hB => (cut_any (h.below hB) (h.le hO) rfl).mono (by rintro e w' ⟨h1, h2⟩; exact ⟨h1, h2.from hB⟩)
  clear h hO hk
  go_enter Try.func17, Try.ntmps17
  go_wp2_with fail
  refine HF.out.mono ?_
  rintro e w1 ⟨rfl, hb⟩
  have HC1 := HC.out w1 hb
  clear HC hb
  go_wp2_with fail
  refine HC1.mono ?_
  rintro e w2 ⟨rfl, hp⟩
  have hp' : Hid (CutP W q S rv l r w2) := hp
  clear hp HC1
  go_wp2_with fail
  go_ret
  exact ⟨rfl, hp'.out⟩
set_option maxHeartbeats 1000000 in
theorem drop_miss (h : LinkAt W q S rv xs) (hO : S.Ok) (k : Int) (hk : ∀ x ∈ xs, (x.num : Int) ≠ k) : Calls Try.prog 17 #[.pointer (some ⟨q, 0, none⟩), .int .i64 k] W fun e w' => e = .returned (.int .i64 160) ∧ Below W.heap.size W w' := by
  have HF : Hid (Calls Try.prog 28 #[.pointer (some ⟨q, 0, none⟩), .int .i64 k] W fun e w' => e = .returned (.tuple #[.int .i64 0, .int .i64 160]) ∧ Below W.heap.size W w') := find_miss h hO k hk
  clear h hO hk
  go_enter Try.func17, Try.ntmps17
  go_wp2_with fail
  refine HF.out.mono ?_
  rintro e w1 ⟨rfl, hb⟩
  have hb' : Hid (Below W.heap.size W w1) := hb
  clear hb
  go_wp2_with fail
  go_ret
  exact ⟨rfl, hb'.out⟩
theorem five_cells {T : TypeId} {b : Nat} {w : World} {v0 v1 v2 v3 v4 : Value} (h : w.heap[b]? = some (.cells #[v0, v1, v2, v3, v4] T)) : (w.cell? ⟨b, 0, none⟩ = some v0 ∧ w.cell? ⟨b, 1, none⟩ = some v1 ∧ w.cell? ⟨b, 2, none⟩ = some v2 ∧ w.cell? ⟨b, 3, none⟩ = some v3 ∧ w.cell? ⟨b, 4, none⟩ = some v4) ∧ (w.frozen? ⟨b, 0, none⟩ = false ∧ w.frozen? ⟨b, 1, none⟩ = false ∧ w.frozen? ⟨b, 2, none⟩ = false ∧ w.frozen? ⟨b, 3, none⟩ = false ∧ w.frozen? ⟨b, 4, none⟩ = false) :=
  ⟨box5 h, Lib.frozen_of_heap h 0, Lib.frozen_of_heap h 1, Lib.frozen_of_heap h 2, Lib.frozen_of_heap h 3, Lib.frozen_of_heap h 4⟩
def zv : Value := .agg #[.int .i64 0, .int .i64 0, .int .i64 0, .slice none 0 0, .bool false]
set_option maxHeartbeats 2000000 in
theorem deliver_miss (h : LinkAt W q S rv xs) (hO : S.Ok) (k : Int) (hk : ∀ x ∈ xs, (x.num : Int) ≠ k) : Calls Try.prog 33 #[.pointer (some ⟨q, 0, none⟩), .int .i64 k] W fun e w' => e = .returned (.tuple #[zv, .int .i64 160]) ∧ Below W.heap.size W w' := by
  obtain ⟨W0, hW0⟩ : ∃ W0, W.alloc (.cells #[.int .i64 0, .int .i64 0, .int .i64 0, .slice none 0 0, .bool false] 73) = W0 := ⟨_, rfl⟩
  have hB0 : Below W.heap.size W W0 := by rw [← hW0]; exact (Below.refl _ _).alloc (Nat.le_refl _) _
  have hx0 : W0.heap[W.heap.size]? = some (.cells #[.int .i64 0, .int .i64 0, .int .i64 0, .slice none 0 0, .bool false] 73) := by rw [← hW0]; exact heap_alloc_new W _
  have hs0 : W.heap.size < W0.heap.size := by rw [← hW0]; simp
  have HF : Hid (Calls Try.prog 28 #[.pointer (some ⟨q, 0, none⟩), .int .i64 k] W0 fun e w' => e = .returned (.tuple #[.int .i64 0, .int .i64 160]) ∧ Below W0.heap.size W0 w') := find_miss (h.below hB0) hO k hk
  have HB0 : Hid (Below W.heap.size W W0 ∧ W.heap.size < W0.heap.size) := ⟨hB0, hs0⟩
  have HX0 : Hid (W0.heap[W.heap.size]? = some (.cells #[.int .i64 0, .int .i64 0, .int .i64 0, .slice none 0 0, .bool false] 73)) := hx0
  clear h hO hk hB0 hx0 hs0
  go_enter Try.func33, Try.ntmps33
  go_wp2_with fail
  refine HF.out.mono ?_
  rintro e w1 ⟨rfl, hb⟩
  have hx1 := (hb.block W.heap.size HB0.out.2).trans HX0.out
  obtain ⟨⟨r0, r1, r2, r3, r4⟩, z0, z1, z2, z3, z4⟩ := five_cells hx1
  have e0 := setCell_self r0
  have e1 := setCell_self r1
  have e2 := setCell_self r2
  have e3 := setCell_self r3
  have e4 := setCell_self r4
  have hb' : Hid (Below W.heap.size W w1) := HB0.out.1.trans (hb.mono HB0.out.1.size)
  clear hb hx1
  go_wp2_with fail
  refine bodyPost_ret (v := .tuple #[zv, .int .i64 160]) (by simp [results, Try.results33, go_sem, r0, r1, r2, r3, r4, zv]) rfl ?_
  exact ⟨rfl, hb'.out⟩
set_option maxHeartbeats 4000000 in
theorem deliver_hit (h : LinkAt W q S rv (l ++ x :: r)) (hO : S.Ok) (k : Int) (hk : (x.num : Int) = k) : Calls Try.prog 33 #[.pointer (some ⟨q, 0, none⟩), .int .i64 k] W fun e w' => e = .returned (.tuple #[x.val, .int .i64 0]) ∧ CutP W q S rv l r w' := by
  obtain ⟨W0, hW0⟩ : ∃ W0, W.alloc (.cells #[.int .i64 0, .int .i64 0, .int .i64 0, .slice none 0 0, .bool false] 73) = W0 := ⟨_, rfl⟩
  have hB0 : Below W.heap.size W W0 := by rw [← hW0]; exact (Below.refl _ _).alloc (Nat.le_refl _) _
  have hx0 : W0.heap[W.heap.size]? = some (.cells #[.int .i64 0, .int .i64 0, .int .i64 0, .slice none 0 0, .bool false] 73) := by rw [← hW0]; exact heap_alloc_new W _
  have hs0 : W.heap.size < W0.heap.size := by rw [← hW0]; simp
  have HF : Hid (Calls Try.prog 28 #[.pointer (some ⟨q, 0, none⟩), .int .i64 k] W0 fun e w' => e = .returned (.tuple #[.int .i64 (l.length : Int), .int .i64 0]) ∧ Below W0.heap.size W0 w') := find_hit (h.below hB0) hO k hk
  have HL : Hid (LinkAt W q S rv (l ++ x :: r) ∧ (l ++ x :: r).length ≤ 1048576) := ⟨h, h.le hO⟩
  have HLt : Hid (∀ g, rv.ownBlock = some g → g < W.heap.size) := fun g hg => h.row.lt hg
  have HB0 : Hid (Below W.heap.size W W0 ∧ W.heap.size < W0.heap.size) := ⟨hB0, hs0⟩
  have HX0 : Hid (W0.heap[W.heap.size]? = some (.cells #[.int .i64 0, .int .i64 0, .int .i64 0, .slice none 0 0, .bool false] 73)) := hx0
  have hlen : l.length ≤ 1048576 := by have := h.le hO; simp at this; omega
  clear h hO hk hB0 hx0 hs0
  go_enter Try.func33, Try.ntmps33
  go_wp2_with fail
  refine HF.out.mono ?_
  rintro e w1 ⟨rfl, hb⟩
  have hB1 : Below W.heap.size W w1 := HB0.out.1.trans (hb.mono HB0.out.1.size)
  have hx1 := (hb.block W.heap.size HB0.out.2).trans HX0.out
  have hL1 := HL.out.1.below hB1
  obtain ⟨a, cap, erv, hcap, hcm⟩ := hL1.row.shape
  have hR1 := hL1.row
  rw [erv] at hR1
  obtain ⟨g, off, x', ha, hg, hx', hc⟩ := (hR1.rw_ layV).at l.length (by simp)
  obtain rfl : x' = x := by simp at hx'; exact hx'.symm
  have hq1 := (box4 hL1.box).2.2.2
  subst ha
  obtain ⟨n, hn⟩ : ∃ n, (l ++ x' :: r).length = n := ⟨_, rfl⟩
  rw [erv, hn] at hq1
  have c0 := hc 0 _ rfl
  have c1 := hc 1 _ rfl
  have c2 := hc 2 _ rfl
  have c3 := hc 3 _ rfl
  have c4 := hc 4 _ rfl
  have hln : l.length < n := by rw [← hn]; simp
  obtain ⟨i, hi⟩ : ∃ i, l.length = i := ⟨_, rfl⟩
  obtain ⟨W2, hW2⟩ : ∃ W2, w1.alloc (.cells #[.int .i64 (x'.num : Int), .int .i64 x'.fr, .int .i64 x'.tt, .slice x'.a x'.bs.length x'.cap, .bool x'.sp] 73) = W2 := ⟨_, rfl⟩
  have hB2 : Below w1.heap.size w1 W2 := by rw [← hW2]; exact (Below.refl _ _).alloc (Nat.le_refl _) _
  have hs2 : w1.heap.size < W2.heap.size := by rw [← hW2]; simp
  have hx2 : W2.heap[w1.heap.size]? = some (.cells #[.int .i64 (x'.num : Int), .int .i64 x'.fr, .int .i64 x'.tt, .slice x'.a x'.bs.length x'.cap, .bool x'.sp] 73) := by rw [← hW2]; exact heap_alloc_new w1 _
  have hy2 := (hB2.block W.heap.size (by have := hb.size; have := HB0.out.2; omega)).trans hx1
  have hBW2 : Below W.heap.size W W2 := hB1.trans (hB2.mono hB1.size)
  have HC : Hid (Calls Try.prog 29 #[.pointer (some ⟨q, 0, none⟩), .int .i64 (i : Int)] W2 fun e w' => e = .returned (.tuple #[]) ∧ CutP W q S rv l r w' ∧ w'.heap[w1.heap.size]? = some (.cells #[.int .i64 (x'.num : Int), .int .i64 x'.fr, .int .i64 x'.tt, .slice x'.a x'.bs.length x'.cap, .bool x'.sp] 73) ∧ w'.heap[W.heap.size]? = some (.cells #[.int .i64 0, .int .i64 0, .int .i64 0, .slice none 0 0, .bool false] 73)) :=
    (cut_any (hL1.below hB2) HL.out.2 hi).mono (by
      rintro e w' ⟨h1, h2⟩
      have h3 := h2.from hBW2
      have hD : ∀ g, W.heap.size ≤ g → ¬ (g = q ∨ rv.ownBlock = some g) := fun g hg e => by
        rcases e with rfl | e
        · have := HL.out.1.qlt; omega
        · have := HL.out.1.row.lt e; omega
      obtain ⟨rv', _, hC, _⟩ := h2
      exact ⟨h1, h3, hC.block hx2 (hD _ hB1.size), hC.block hy2 (hD _ (Nat.le_refl _))⟩)
  rw [hi] at hlen hln c0 c1 c2 c3 c4
  have hw : Hid (W.heap.size < w1.heap.size) := Nat.lt_of_lt_of_le HB0.out.2 hb.size
  simp only [Nat.add_zero] at c0
  rw [hi]
  clear hb hx1 hB1 hL1 hR1 hc hx' hB2 hs2 hx2 hy2 hBW2 erv hcap hcm hn hi hg HL HX0 HB0 HF
  go_wp2_with fail
  refine HC.out.mono ?_
  rintro e w3 ⟨rfl, hp, hbx, hby⟩
  obtain ⟨⟨r0, r1, r2, r3, r4⟩, z0, z1, z2, z3, z4⟩ := five_cells hby
  obtain ⟨⟨y0, y1, y2, y3, y4⟩, _⟩ := five_cells hbx
  obtain ⟨W9, hW9, hx9, hC9⟩ := set5 (A := []) (B := []) (o := 0) (W := w3) (g := W.heap.size) (by simpa using hby) rfl (.int .i64 (x'.num : Int)) (.int .i64 x'.fr) (.int .i64 x'.tt) (.slice x'.a x'.bs.length x'.cap) (.bool x'.sp)
  simp only [Nat.zero_add] at hW9
  have HP : Hid (CutP W q S rv l r W9 ∧ W9.heap[W.heap.size]? = some (.cells #[.int .i64 (x'.num : Int), .int .i64 x'.fr, .int .i64 x'.tt, .slice x'.a x'.bs.length x'.cap, .bool x'.sp] 73)) := by
    refine ⟨?_, by simpa using hx9⟩
    obtain ⟨rv', h1, h2, h3⟩ := hp
    refine ⟨rv', h1.chg hC9 (fun g hg e => ?_), h2.then hC9 (fun g e => .inr (by omega)), h3⟩
    subst e
    rcases hg with rfl | e | ⟨y, hy, e⟩
    · have := h1.box
      rw [hby] at this; simp at this
    · skip
      rw [h3] at e
      exact absurd (HLt.out _ e) (Nat.lt_irrefl _)
    · obtain ⟨cur, hcur⟩ := own_block (h1.own y hy) e
      rw [hby] at hcur; simp at hcur
  obtain ⟨⟨s0, s1, s2, s3, s4⟩, _⟩ := five_cells HP.out.2
  clear hp hbx hby hx9 hC9
  go_wp2_with fail
  refine bodyPost_ret (v := .tuple #[x'.val, .int .i64 0]) (by simp [results, Try.results33, go_sem, s0, s1, s2, s3, s4, X.val]) rfl ?_
  exact ⟨rfl, HP.out.1⟩
set_option maxHeartbeats 1000000 in
theorem copy_miss (h : LinkAt W q S rv xs) (hO : S.Ok) (k : Int) (hk : ∀ x ∈ xs, (x.num : Int) ≠ k) : Calls Try.prog 16 #[.pointer (some ⟨q, 0, none⟩), .int .i64 k] W fun e w' => e = .returned (.tuple #[.int .i64 0, .int .i64 160]) ∧ Below W.heap.size W w' := by
  have HF : Hid (Calls Try.prog 28 #[.pointer (some ⟨q, 0, none⟩), .int .i64 k] W fun e w' => e = .returned (.tuple #[.int .i64 0, .int .i64 160]) ∧ Below W.heap.size W w') := find_miss h hO k hk
  clear h hO hk
  go_enter Try.func16, Try.ntmps16
  go_wp2_with fail
  refine HF.out.mono ?_
  rintro e w1 ⟨rfl, hb⟩
  have hb' : Hid (Below W.heap.size W w1) := hb
  clear hb
  go_wp2_with fail
  go_ret2
  exact ⟨rfl, hb'.out⟩
set_option maxHeartbeats 1000000 in
theorem copy_full (h : LinkAt W q S rv (l ++ x :: r)) (hO : S.Ok) (k : Int) (hk : (x.num : Int) = k) (hfull : S.fl.length = S.most) : Calls Try.prog 16 #[.pointer (some ⟨q, 0, none⟩), .int .i64 k] W fun e w' => e = .returned (.tuple #[.int .i64 0, .int .i64 161]) ∧ Below W.heap.size W w' := by
  have HF : Hid (Calls Try.prog 28 #[.pointer (some ⟨q, 0, none⟩), .int .i64 k] W fun e w' => e = .returned (.tuple #[.int .i64 (l.length : Int), .int .i64 0]) ∧ Below W.heap.size W w') := find_hit h hO k hk
  obtain ⟨d, hd⟩ : ∃ d : Int, (S.most : Int) - ((l ++ x :: r).length : Int) = d := ⟨_, rfl⟩
  have hd1 : d < 1 := by have := h.len; omega
  have HR : Hid (∀ w, Below W.heap.size W w → Calls Try.prog 26 #[.pointer (some ⟨q, 0, none⟩)] w fun e w' => e = .returned (.int .i64 d) ∧ Below W.heap.size W w') := fun w hB => (room_any (h.below hB) hO).mono (by rintro e w' ⟨h1, h2⟩; exact ⟨by rw [h1, hd], hB.trans (h2.mono hB.size)⟩)
  clear h hO hk hd hfull
  go_enter Try.func16, Try.ntmps16
  go_wp2_with fail
  refine HF.out.mono ?_
  rintro e w1 ⟨rfl, hb⟩
  have HR1 := HR.out w1 hb
  clear hb HR
  go_wp2_with fail
  refine HR1.mono ?_
  rintro e w2 ⟨rfl, hb⟩
  have hb' : Hid (Below W.heap.size W w2) := hb
  clear hb HR1
  go_wp2_with fail
  go_ret2
  exact ⟨rfl, hb'.out⟩
set_option maxHeartbeats 4000000 in
theorem copy_hit (h : LinkAt W q S rv (l ++ x :: r)) (hO : S.Ok) (k : Int) (hk : (x.num : Int) = k) (hfull : S.fl.length < S.most) (hbl : x.bs.length ≤ 281474976710656) : Calls Try.prog 16 #[.pointer (some ⟨q, 0, none⟩), .int .i64 k] W fun e w' => e = .returned (.tuple #[.int .i64 (S.next : Int), .int .i64 0]) ∧ BegP W q S rv (l ++ x :: r) ⟨S.next, x.fr, x.tt, x.bs, x.sp⟩ w' := by
  have HF : Hid (Calls Try.prog 28 #[.pointer (some ⟨q, 0, none⟩), .int .i64 k] W fun e w' => e = .returned (.tuple #[.int .i64 (l.length : Int), .int .i64 0]) ∧ Below W.heap.size W w') := find_hit h hO k hk
  obtain ⟨d, hd⟩ : ∃ d : Int, (S.most : Int) - ((l ++ x :: r).length : Int) = d := ⟨_, rfl⟩
  have hll := h.len
  have hd1 : ¬ d < 1 := by omega
  have HR : Hid (∀ w, Below W.heap.size W w → Calls Try.prog 26 #[.pointer (some ⟨q, 0, none⟩)] w fun e w' => e = .returned (.int .i64 d) ∧ Below W.heap.size W w') := fun w hB => (room_any (h.below hB) hO).mono (by rintro e w' ⟨h1, h2⟩; exact ⟨by rw [h1, hd], hB.trans (h2.mono hB.size)⟩)
  have HL : Hid (LinkAt W q S rv (l ++ x :: r) ∧ S.Ok ∧ (l ++ x :: r).length + 1 ≤ 1048576 ∧ x.bs.length ≤ 281474976710656) := ⟨h, hO, by have := hO.most; omega, hbl⟩
  have hlen : l.length ≤ 1048576 := by have := h.le hO; simp at this; omega
  clear h hO hk hd hfull hll hbl
  go_enter Try.func16, Try.ntmps16
  go_wp2_with fail
  refine HF.out.mono ?_
  rintro e w1 ⟨rfl, hb⟩
  have HR1 := HR.out w1 hb
  clear hb HR
  go_wp2_with fail
  refine HR1.mono ?_
  rintro e w2 ⟨rfl, hb⟩
  clear HR1
  have hL2 := HL.out.1.below hb
  obtain ⟨a, cap, erv, hcap, hcm⟩ := hL2.row.shape
  have hR2 := hL2.row
  rw [erv] at hR2
  obtain ⟨g, off, x', ha, hg, hx', hc⟩ := (hR2.rw_ layV).at l.length (by simp)
  obtain rfl : x = x' := by simp at hx'; exact hx'
  have k3 := (box4 hL2.box).2.2.2
  subst ha
  obtain ⟨n, hn⟩ : ∃ n, (l ++ x :: r).length = n := ⟨_, rfl⟩
  rw [erv, hn] at k3
  have c1 := hc 1 _ rfl
  have c2 := hc 2 _ rfl
  have c3 := hc 3 _ rfl
  have c4 := hc 4 _ rfl
  have hln : l.length < n := by rw [← hn]; simp
  have hBd : Below w2.heap.size w2 w2.drew := (Below.refl _ w2).drew
  have HG : Hid (Calls Try.prog 27 #[.pointer (some ⟨q, 0, none⟩), .agg #[.int .i64 x.fr, .int .i64 x.tt, .slice x.a x.bs.length x.cap], .bool x.sp] w2.drew fun e W' => e = .returned (.int .i64 (S.next : Int)) ∧ BegP W q S rv (l ++ x :: r) ⟨S.next, x.fr, x.tt, x.bs, x.sp⟩ W') :=
    (begin_any (hL2.below hBd) HL.out.2.1 HL.out.2.2.1 x.fr x.tt (((hL2.below hBd).own x (by simp)).rw_ layU) HL.out.2.2.2 x.sp).mono (by
      rintro e w' ⟨h1, h2⟩
      exact ⟨h1, h2.from (hb.trans (hBd.mono hb.size))⟩)
  obtain ⟨i, hi⟩ : ∃ i, l.length = i := ⟨_, rfl⟩
  rw [hi] at hlen hln c1 c2 c3 c4
  rw [hi]
  clear hb hL2 hR2 hc hx' erv hcap hcm hn hi hg HL HF hBd
  go_wp2_with fail
  refine wp_region_any (by kernel_rfl) ?_
  show wpAny _ _ _ _ _ _ _ w2.drew
  refine takeA (i := 0) (d := some 20) (v := ?vT1) rfl rfl (by kernel_rfl) (by kernel_rfl) (by kernel_rfl) (fun _ _ _ h => h) (Or.inl ⟨by rfl, ?hyT1⟩) ?rstT1
  case hyT1 => (intro w; go_simp; (try with_reducible rfl))
  try simp only [Act.put, List.setIfInBounds_toArray, List.set_cons_zero, List.set_cons_succ]
  refine takeA (i := 1) (d := some 21) (v := ?vT2) rfl rfl (by kernel_rfl) (by kernel_rfl) (by kernel_rfl) (fun _ _ _ h => h) (Or.inl ⟨by rfl, ?hyT2⟩) ?rstT2
  case hyT2 => (intro w; go_simp; (try with_reducible rfl))
  try simp only [Act.put, List.setIfInBounds_toArray, List.set_cons_zero, List.set_cons_succ]
  refine takeA (i := 2) (d := some 22) (v := ?vT3) rfl rfl (by kernel_rfl) (by kernel_rfl) (by kernel_rfl) (fun _ _ _ h => h) (Or.inl ⟨by rfl, ?hyT3⟩) ?rstT3
  case hyT3 => (intro w; go_simp; (try with_reducible rfl))
  try simp only [Act.put, List.setIfInBounds_toArray, List.set_cons_zero, List.set_cons_succ]
  refine takeA (i := 3) (d := some 23) (v := ?vT4) rfl rfl (by kernel_rfl) (by kernel_rfl) (by kernel_rfl) (fun _ _ _ h => h) (Or.inl ⟨by rfl, ?hyT4⟩) ?rstT4
  case hyT4 => (intro w; go_simp; (try with_reducible rfl))
  try simp only [Act.put, List.setIfInBounds_toArray, List.set_cons_zero, List.set_cons_succ]
  refine takeA (i := 5) (d := some 25) (v := ?vT5) rfl rfl (by kernel_rfl) (by kernel_rfl) (by kernel_rfl) (fun _ _ _ h => h) (Or.inl ⟨by rfl, ?hyT5⟩) ?rstT5
  case hyT5 => (intro w; go_simp; (try with_reducible rfl))
  try simp only [Act.put, List.setIfInBounds_toArray, List.set_cons_zero, List.set_cons_succ]
  refine takeA (i := 9) (d := some 29) (v := ?vT6) rfl rfl (by kernel_rfl) (by kernel_rfl) (by kernel_rfl) (fun _ _ _ h => h) (Or.inl ⟨by rfl, ?hyT6⟩) ?rstT6
  case hyT6 => (intro w; go_simp; (try with_reducible rfl))
  try simp only [Act.put, List.setIfInBounds_toArray, List.set_cons_zero, List.set_cons_succ]
  refine takeA (i := 10) (d := some 30) (v := ?vT7) rfl rfl (by kernel_rfl) (by kernel_rfl) (by kernel_rfl) (fun _ _ _ h => h) (Or.inl ⟨by rfl, ?hyT7⟩) ?rstT7
  case hyT7 => (intro w; go_simp; (try with_reducible rfl))
  try simp only [Act.put, List.setIfInBounds_toArray, List.set_cons_zero, List.set_cons_succ]
  refine takeA (i := 11) (d := some 31) (v := ?vT8) rfl rfl (by kernel_rfl) (by kernel_rfl) (by kernel_rfl) (fun _ _ _ h => h) (Or.inl ⟨by rfl, ?hyT8⟩) ?rstT8
  case hyT8 => (intro w; go_simp; (try with_reducible rfl))
  try simp only [Act.put, List.setIfInBounds_toArray, List.set_cons_zero, List.set_cons_succ]
  refine takeA (i := 13) (d := some 33) (v := ?vT9) rfl rfl (by kernel_rfl) (by kernel_rfl) (by kernel_rfl) (fun _ _ _ h => h) (Or.inl ⟨by rfl, ?hyT9⟩) ?rstT9
  case hyT9 => (intro w; go_simp; (try with_reducible rfl))
  try simp only [Act.put, List.setIfInBounds_toArray, List.set_cons_zero, List.set_cons_succ]
  refine wpAny_ready (rs := [4, 12]) (by kernel_rfl) (by simp) (consS rfl (fun K hK => ?bA10) (consS rfl (fun K hK => ?bB10) AllReady.nil))
  case bA10 =>
    go_simp
    refine hK.out _ _ ?_
    clear hK K
    try simp only [Act.put, List.setIfInBounds_toArray, List.set_cons_zero, List.set_cons_succ]
    refine takeA (i := 6) (d := some 26) (v := ?vT11) rfl rfl (by kernel_rfl) (by kernel_rfl) (by kernel_rfl) (fun _ _ _ h => h) (Or.inl ⟨by rfl, ?hyT11⟩) ?rstT11
    case hyT11 => (intro w; go_simp; (try with_reducible rfl))
    try simp only [Act.put, List.setIfInBounds_toArray, List.set_cons_zero, List.set_cons_succ]
    refine takeA (i := 7) (d := some 27) (v := ?vT12) rfl rfl (by kernel_rfl) (by kernel_rfl) (by kernel_rfl) (fun _ _ _ h => h) (Or.inl ⟨by rfl, ?hyT12⟩) ?rstT12
    case hyT12 => (intro w; go_simp; (try with_reducible rfl))
    try simp only [Act.put, List.setIfInBounds_toArray, List.set_cons_zero, List.set_cons_succ]
    refine wpAny_ready (rs := [8, 12]) (by kernel_rfl) (by simp) (consS rfl (fun K hK => ?bA13) (consS rfl (fun K hK => ?bB13) AllReady.nil))
    case bA13 =>
      go_simp
      refine hK.out _ _ ?_
      clear hK K
      try simp only [Act.put, List.setIfInBounds_toArray, List.set_cons_zero, List.set_cons_succ]
      refine wpAny_ready (rs := [12]) (by kernel_rfl) (by simp) (consS rfl (fun K hK => ?_) AllReady.nil)
      go_simp
      refine hK.out _ _ ?_
      clear hK K
      try simp only [Act.put, List.setIfInBounds_toArray, List.set_cons_zero, List.set_cons_succ]
      refine takeA (i := 14) (d := some 34) (v := ?vT15) rfl rfl (by kernel_rfl) (by kernel_rfl) (by kernel_rfl) (fun _ _ _ h => h) (Or.inl ⟨by rfl, ?hyT15⟩) ?rstT15
      case hyT15 => (intro w; go_simp; (try with_reducible rfl))
      try simp only [Act.put, List.setIfInBounds_toArray, List.set_cons_zero, List.set_cons_succ]
      refine takeA (i := 15) (d := some 35) (v := ?vT16) rfl rfl (by kernel_rfl) (by kernel_rfl) (by kernel_rfl) (fun _ _ _ h => h) (Or.inl ⟨by rfl, ?hyT16⟩) ?rstT16
      case hyT16 => (intro w; go_simp; (try with_reducible rfl))
      try simp only [Act.put, List.setIfInBounds_toArray, List.set_cons_zero, List.set_cons_succ]
      refine wpAny_ready (rs := [16]) (by kernel_rfl) (by simp) (consS rfl (fun K hK => ?_) AllReady.nil)
      go_simp
      refine hK.out _ _ ?_
      clear hK K
      try simp only [Act.put, List.setIfInBounds_toArray, List.set_cons_zero, List.set_cons_succ]
      refine wpAny_ready (rs := [17]) (by kernel_rfl) (by simp) (consS rfl (fun K hK => ?_) AllReady.nil)
      go_simp
      refine HG.out.mono ?_
      rintro e w3 ⟨rfl, hp⟩
      have hp' : Hid (BegP W q S rv (l ++ x :: r) ⟨S.next, x.fr, x.tt, x.bs, x.sp⟩ w3) := hp
      clear hp
      dsimp only
      refine hK.out _ _ ?_
      clear hK K
      try simp only [Act.put, List.setIfInBounds_toArray, List.set_cons_zero, List.set_cons_succ]
      refine takeA (i := 18) (d := some 4) (v := ?vT18) rfl rfl (by kernel_rfl) (by kernel_rfl) (by kernel_rfl) (fun _ _ _ h => h) (Or.inl ⟨by rfl, ?hyT18⟩) ?rstT18
      case hyT18 => (intro w; go_simp; (try with_reducible rfl))
      try simp only [Act.put, List.setIfInBounds_toArray, List.set_cons_zero, List.set_cons_succ]
      refine takeA (i := 19) (d := some 5) (v := ?vT19) rfl rfl (by kernel_rfl) (by kernel_rfl) (by kernel_rfl) (fun _ _ _ h => h) (Or.inl ⟨by rfl, ?hyT19⟩) ?rstT19
      case hyT19 => (intro w; go_simp; (try with_reducible rfl))
      try simp only [Act.put, List.setIfInBounds_toArray, List.set_cons_zero, List.set_cons_succ]
      refine wpAny_done (by kernel_rfl) ?_ _
      go_wp2_with fail
      go_ret2
      exact ⟨rfl, hp'.out⟩
    case bB13 =>
      go_simp
      refine hK.out _ _ ?_
      clear hK K
      try simp only [Act.put, List.setIfInBounds_toArray, List.set_cons_zero, List.set_cons_succ]
      refine takeA (i := 14) (d := some 34) (v := ?vT20) rfl rfl (by kernel_rfl) (by kernel_rfl) (by kernel_rfl) (fun _ _ _ h => h) (Or.inl ⟨by rfl, ?hyT20⟩) ?rstT20
      case hyT20 => (intro w; go_simp; (try with_reducible rfl))
      try simp only [Act.put, List.setIfInBounds_toArray, List.set_cons_zero, List.set_cons_succ]
      refine takeA (i := 15) (d := some 35) (v := ?vT21) rfl rfl (by kernel_rfl) (by kernel_rfl) (by kernel_rfl) (fun _ _ _ h => h) (Or.inl ⟨by rfl, ?hyT21⟩) ?rstT21
      case hyT21 => (intro w; go_simp; (try with_reducible rfl))
      try simp only [Act.put, List.setIfInBounds_toArray, List.set_cons_zero, List.set_cons_succ]
      refine wpAny_ready (rs := [8, 16]) (by kernel_rfl) (by simp) (consS rfl (fun K hK => ?bA22) (consS rfl (fun K hK => ?bB22) AllReady.nil))
      case bA22 =>
        go_simp
        refine hK.out _ _ ?_
        clear hK K
        try simp only [Act.put, List.setIfInBounds_toArray, List.set_cons_zero, List.set_cons_succ]
        refine wpAny_ready (rs := [16]) (by kernel_rfl) (by simp) (consS rfl (fun K hK => ?_) AllReady.nil)
        go_simp
        refine hK.out _ _ ?_
        clear hK K
        try simp only [Act.put, List.setIfInBounds_toArray, List.set_cons_zero, List.set_cons_succ]
        refine wpAny_ready (rs := [17]) (by kernel_rfl) (by simp) (consS rfl (fun K hK => ?_) AllReady.nil)
        go_simp
        refine HG.out.mono ?_
        rintro e w3 ⟨rfl, hp⟩
        have hp' : Hid (BegP W q S rv (l ++ x :: r) ⟨S.next, x.fr, x.tt, x.bs, x.sp⟩ w3) := hp
        clear hp
        dsimp only
        refine hK.out _ _ ?_
        clear hK K
        try simp only [Act.put, List.setIfInBounds_toArray, List.set_cons_zero, List.set_cons_succ]
        refine takeA (i := 18) (d := some 4) (v := ?vT24) rfl rfl (by kernel_rfl) (by kernel_rfl) (by kernel_rfl) (fun _ _ _ h => h) (Or.inl ⟨by rfl, ?hyT24⟩) ?rstT24
        case hyT24 => (intro w; go_simp; (try with_reducible rfl))
        try simp only [Act.put, List.setIfInBounds_toArray, List.set_cons_zero, List.set_cons_succ]
        refine takeA (i := 19) (d := some 5) (v := ?vT25) rfl rfl (by kernel_rfl) (by kernel_rfl) (by kernel_rfl) (fun _ _ _ h => h) (Or.inl ⟨by rfl, ?hyT25⟩) ?rstT25
        case hyT25 => (intro w; go_simp; (try with_reducible rfl))
        try simp only [Act.put, List.setIfInBounds_toArray, List.set_cons_zero, List.set_cons_succ]
        refine wpAny_done (by kernel_rfl) ?_ _
        go_wp2_with fail
        go_ret2
        exact ⟨rfl, hp'.out⟩
      case bB22 =>
        go_simp
        refine hK.out _ _ ?_
        clear hK K
        try simp only [Act.put, List.setIfInBounds_toArray, List.set_cons_zero, List.set_cons_succ]
        refine wpAny_ready (rs := [8]) (by kernel_rfl) (by simp) (consS rfl (fun K hK => ?_) AllReady.nil)
        go_simp
        refine hK.out _ _ ?_
        clear hK K
        try simp only [Act.put, List.setIfInBounds_toArray, List.set_cons_zero, List.set_cons_succ]
        refine wpAny_ready (rs := [17]) (by kernel_rfl) (by simp) (consS rfl (fun K hK => ?_) AllReady.nil)
        go_simp
        refine HG.out.mono ?_
        rintro e w3 ⟨rfl, hp⟩
        have hp' : Hid (BegP W q S rv (l ++ x :: r) ⟨S.next, x.fr, x.tt, x.bs, x.sp⟩ w3) := hp
        clear hp
        dsimp only
        refine hK.out _ _ ?_
        clear hK K
        try simp only [Act.put, List.setIfInBounds_toArray, List.set_cons_zero, List.set_cons_succ]
        refine takeA (i := 18) (d := some 4) (v := ?vT27) rfl rfl (by kernel_rfl) (by kernel_rfl) (by kernel_rfl) (fun _ _ _ h => h) (Or.inl ⟨by rfl, ?hyT27⟩) ?rstT27
        case hyT27 => (intro w; go_simp; (try with_reducible rfl))
        try simp only [Act.put, List.setIfInBounds_toArray, List.set_cons_zero, List.set_cons_succ]
        refine takeA (i := 19) (d := some 5) (v := ?vT28) rfl rfl (by kernel_rfl) (by kernel_rfl) (by kernel_rfl) (fun _ _ _ h => h) (Or.inl ⟨by rfl, ?hyT28⟩) ?rstT28
        case hyT28 => (intro w; go_simp; (try with_reducible rfl))
        try simp only [Act.put, List.setIfInBounds_toArray, List.set_cons_zero, List.set_cons_succ]
        refine wpAny_done (by kernel_rfl) ?_ _
        go_wp2_with fail
        go_ret2
        exact ⟨rfl, hp'.out⟩
  case bB10 =>
    go_simp
    refine hK.out _ _ ?_
    clear hK K
    try simp only [Act.put, List.setIfInBounds_toArray, List.set_cons_zero, List.set_cons_succ]
    refine takeA (i := 14) (d := some 34) (v := ?vT29) rfl rfl (by kernel_rfl) (by kernel_rfl) (by kernel_rfl) (fun _ _ _ h => h) (Or.inl ⟨by rfl, ?hyT29⟩) ?rstT29
    case hyT29 => (intro w; go_simp; (try with_reducible rfl))
    try simp only [Act.put, List.setIfInBounds_toArray, List.set_cons_zero, List.set_cons_succ]
    refine takeA (i := 15) (d := some 35) (v := ?vT30) rfl rfl (by kernel_rfl) (by kernel_rfl) (by kernel_rfl) (fun _ _ _ h => h) (Or.inl ⟨by rfl, ?hyT30⟩) ?rstT30
    case hyT30 => (intro w; go_simp; (try with_reducible rfl))
    try simp only [Act.put, List.setIfInBounds_toArray, List.set_cons_zero, List.set_cons_succ]
    refine wpAny_ready (rs := [4, 16]) (by kernel_rfl) (by simp) (consS rfl (fun K hK => ?bA31) (consS rfl (fun K hK => ?bB31) AllReady.nil))
    case bA31 =>
      go_simp
      refine hK.out _ _ ?_
      clear hK K
      try simp only [Act.put, List.setIfInBounds_toArray, List.set_cons_zero, List.set_cons_succ]
      refine takeA (i := 6) (d := some 26) (v := ?vT32) rfl rfl (by kernel_rfl) (by kernel_rfl) (by kernel_rfl) (fun _ _ _ h => h) (Or.inl ⟨by rfl, ?hyT32⟩) ?rstT32
      case hyT32 => (intro w; go_simp; (try with_reducible rfl))
      try simp only [Act.put, List.setIfInBounds_toArray, List.set_cons_zero, List.set_cons_succ]
      refine takeA (i := 7) (d := some 27) (v := ?vT33) rfl rfl (by kernel_rfl) (by kernel_rfl) (by kernel_rfl) (fun _ _ _ h => h) (Or.inl ⟨by rfl, ?hyT33⟩) ?rstT33
      case hyT33 => (intro w; go_simp; (try with_reducible rfl))
      try simp only [Act.put, List.setIfInBounds_toArray, List.set_cons_zero, List.set_cons_succ]
      refine wpAny_ready (rs := [8, 16]) (by kernel_rfl) (by simp) (consS rfl (fun K hK => ?bA34) (consS rfl (fun K hK => ?bB34) AllReady.nil))
      case bA34 =>
        go_simp
        refine hK.out _ _ ?_
        clear hK K
        try simp only [Act.put, List.setIfInBounds_toArray, List.set_cons_zero, List.set_cons_succ]
        refine wpAny_ready (rs := [16]) (by kernel_rfl) (by simp) (consS rfl (fun K hK => ?_) AllReady.nil)
        go_simp
        refine hK.out _ _ ?_
        clear hK K
        try simp only [Act.put, List.setIfInBounds_toArray, List.set_cons_zero, List.set_cons_succ]
        refine wpAny_ready (rs := [17]) (by kernel_rfl) (by simp) (consS rfl (fun K hK => ?_) AllReady.nil)
        go_simp
        refine HG.out.mono ?_
        rintro e w3 ⟨rfl, hp⟩
        have hp' : Hid (BegP W q S rv (l ++ x :: r) ⟨S.next, x.fr, x.tt, x.bs, x.sp⟩ w3) := hp
        clear hp
        dsimp only
        refine hK.out _ _ ?_
        clear hK K
        try simp only [Act.put, List.setIfInBounds_toArray, List.set_cons_zero, List.set_cons_succ]
        refine takeA (i := 18) (d := some 4) (v := ?vT36) rfl rfl (by kernel_rfl) (by kernel_rfl) (by kernel_rfl) (fun _ _ _ h => h) (Or.inl ⟨by rfl, ?hyT36⟩) ?rstT36
        case hyT36 => (intro w; go_simp; (try with_reducible rfl))
        try simp only [Act.put, List.setIfInBounds_toArray, List.set_cons_zero, List.set_cons_succ]
        refine takeA (i := 19) (d := some 5) (v := ?vT37) rfl rfl (by kernel_rfl) (by kernel_rfl) (by kernel_rfl) (fun _ _ _ h => h) (Or.inl ⟨by rfl, ?hyT37⟩) ?rstT37
        case hyT37 => (intro w; go_simp; (try with_reducible rfl))
        try simp only [Act.put, List.setIfInBounds_toArray, List.set_cons_zero, List.set_cons_succ]
        refine wpAny_done (by kernel_rfl) ?_ _
        go_wp2_with fail
        go_ret2
        exact ⟨rfl, hp'.out⟩
      case bB34 =>
        go_simp
        refine hK.out _ _ ?_
        clear hK K
        try simp only [Act.put, List.setIfInBounds_toArray, List.set_cons_zero, List.set_cons_succ]
        refine wpAny_ready (rs := [8]) (by kernel_rfl) (by simp) (consS rfl (fun K hK => ?_) AllReady.nil)
        go_simp
        refine hK.out _ _ ?_
        clear hK K
        try simp only [Act.put, List.setIfInBounds_toArray, List.set_cons_zero, List.set_cons_succ]
        refine wpAny_ready (rs := [17]) (by kernel_rfl) (by simp) (consS rfl (fun K hK => ?_) AllReady.nil)
        go_simp
        refine HG.out.mono ?_
        rintro e w3 ⟨rfl, hp⟩
        have hp' : Hid (BegP W q S rv (l ++ x :: r) ⟨S.next, x.fr, x.tt, x.bs, x.sp⟩ w3) := hp
        clear hp
        dsimp only
        refine hK.out _ _ ?_
        clear hK K
        try simp only [Act.put, List.setIfInBounds_toArray, List.set_cons_zero, List.set_cons_succ]
        refine takeA (i := 18) (d := some 4) (v := ?vT39) rfl rfl (by kernel_rfl) (by kernel_rfl) (by kernel_rfl) (fun _ _ _ h => h) (Or.inl ⟨by rfl, ?hyT39⟩) ?rstT39
        case hyT39 => (intro w; go_simp; (try with_reducible rfl))
        try simp only [Act.put, List.setIfInBounds_toArray, List.set_cons_zero, List.set_cons_succ]
        refine takeA (i := 19) (d := some 5) (v := ?vT40) rfl rfl (by kernel_rfl) (by kernel_rfl) (by kernel_rfl) (fun _ _ _ h => h) (Or.inl ⟨by rfl, ?hyT40⟩) ?rstT40
        case hyT40 => (intro w; go_simp; (try with_reducible rfl))
        try simp only [Act.put, List.setIfInBounds_toArray, List.set_cons_zero, List.set_cons_succ]
        refine wpAny_done (by kernel_rfl) ?_ _
        go_wp2_with fail
        go_ret2
        exact ⟨rfl, hp'.out⟩
    case bB31 =>
      go_simp
      refine hK.out _ _ ?_
      clear hK K
      try simp only [Act.put, List.setIfInBounds_toArray, List.set_cons_zero, List.set_cons_succ]
      refine wpAny_ready (rs := [4]) (by kernel_rfl) (by simp) (consS rfl (fun K hK => ?_) AllReady.nil)
      go_simp
      refine hK.out _ _ ?_
      clear hK K
      try simp only [Act.put, List.setIfInBounds_toArray, List.set_cons_zero, List.set_cons_succ]
      refine takeA (i := 6) (d := some 26) (v := ?vT42) rfl rfl (by kernel_rfl) (by kernel_rfl) (by kernel_rfl) (fun _ _ _ h => h) (Or.inl ⟨by rfl, ?hyT42⟩) ?rstT42
      case hyT42 => (intro w; go_simp; (try with_reducible rfl))
      try simp only [Act.put, List.setIfInBounds_toArray, List.set_cons_zero, List.set_cons_succ]
      refine takeA (i := 7) (d := some 27) (v := ?vT43) rfl rfl (by kernel_rfl) (by kernel_rfl) (by kernel_rfl) (fun _ _ _ h => h) (Or.inl ⟨by rfl, ?hyT43⟩) ?rstT43
      case hyT43 => (intro w; go_simp; (try with_reducible rfl))
      try simp only [Act.put, List.setIfInBounds_toArray, List.set_cons_zero, List.set_cons_succ]
      refine wpAny_ready (rs := [8]) (by kernel_rfl) (by simp) (consS rfl (fun K hK => ?_) AllReady.nil)
      go_simp
      refine hK.out _ _ ?_
      clear hK K
      try simp only [Act.put, List.setIfInBounds_toArray, List.set_cons_zero, List.set_cons_succ]
      refine wpAny_ready (rs := [17]) (by kernel_rfl) (by simp) (consS rfl (fun K hK => ?_) AllReady.nil)
      go_simp
      refine HG.out.mono ?_
      rintro e w3 ⟨rfl, hp⟩
      have hp' : Hid (BegP W q S rv (l ++ x :: r) ⟨S.next, x.fr, x.tt, x.bs, x.sp⟩ w3) := hp
      clear hp
      dsimp only
      refine hK.out _ _ ?_
      clear hK K
      try simp only [Act.put, List.setIfInBounds_toArray, List.set_cons_zero, List.set_cons_succ]
      refine takeA (i := 18) (d := some 4) (v := ?vT45) rfl rfl (by kernel_rfl) (by kernel_rfl) (by kernel_rfl) (fun _ _ _ h => h) (Or.inl ⟨by rfl, ?hyT45⟩) ?rstT45
      case hyT45 => (intro w; go_simp; (try with_reducible rfl))
      try simp only [Act.put, List.setIfInBounds_toArray, List.set_cons_zero, List.set_cons_succ]
      refine takeA (i := 19) (d := some 5) (v := ?vT46) rfl rfl (by kernel_rfl) (by kernel_rfl) (by kernel_rfl) (fun _ _ _ h => h) (Or.inl ⟨by rfl, ?hyT46⟩) ?rstT46
      case hyT46 => (intro w; go_simp; (try with_reducible rfl))
      try simp only [Act.put, List.setIfInBounds_toArray, List.set_cons_zero, List.set_cons_succ]
      refine wpAny_done (by kernel_rfl) ?_ _
      go_wp2_with fail
      go_ret2
      exact ⟨rfl, hp'.out⟩
end
end Go.Proofs.Ytdmhajlhpieedaa
