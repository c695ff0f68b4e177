import Derived.Test.YtdmhajlhpieedaaLdM
/-! sends, as memory: what stands around each of its calls. -/
namespace Go.Proofs.Ytdmhajlhpieedaa
open Go.RowKit Go.Lib Go.Shelf
set_option maxRecDepth 100000

/-- The tail of a row of bytes. -/
theorem rw_tail {W : World} {g m k cap : Nat} {l t : List UInt8} (h : Rw byU 1 W (some ⟨g, 0, none⟩) (m + k) cap (l ++ t)) (hl : l.length = m) (hk : 0 < k) : Rw byU 1 W (some ⟨g, m, none⟩) k (cap - m) t := by
  have hr := h.room
  have hlen := h.len
  rw [List.length_append] at hlen
  have h1 := hr.1
  have h2 := hr.2
  refine ⟨by omega, ⟨by omega, by omega⟩, fun h0 => ?_⟩
  obtain ⟨g', off, e, hg, hc⟩ := h.cells (by omega)
  simp only [Option.some.injEq, Addr.mk.injEq, and_true] at e
  obtain ⟨rfl, rfl⟩ := e
  refine ⟨g, m, rfl, hg, fun i x hi j v hv => ?_⟩
  have := hc (m + i) x (by rw [List.getElem?_append_right (by omega), hl, Nat.add_sub_cancel_left]; exact hi) j v hv
  simpa [Nat.add_mul, Nat.add_assoc] using this
/-- 'b[m:]' -/
theorem cutLow (W : World) (g n cap m : Nat) (hm : m < n) (hn : n ≤ cap) : (Instr.slice 34 (.slice (some ⟨g, 0, none⟩) n cap) (some (.int .i64 (m : Int))) none none).run Try.prog W = .ok (.slice (some ⟨g, m, none⟩) (n - m) (cap - m)) W := by
  obtain ⟨i, z, hi, hz, hsz, hby, _⟩ := kindU.info
  have := run_slice_l (P := Try.prog) W 34 (some ⟨g, 0, none⟩) n cap (by rw [elemU]; exact kindU.under) .i64 (m : Int) (by omega) (by omega)
  rw [this, elemU]
  simp [sizeOf, typeInfo, hi, hsz, sliced, Addr.add]
  rw [if_neg (by omega)]
  by_cases e : m = 0
  · subst e; rfl
  · rw [if_neg e]
/-- What was handed in, as it stands behind the calls. -/
structure HDX (B : Nat) (W : World) (v : Value) (zs : List Pk) : Prop where
  row : OffF pkv 3 36 W v zs
  ge : ∀ g, v.ownBlock = some g → B ≤ g
  by_ : ∀ z ∈ zs, HB W B z
theorem HDX.chg {B : Nat} {W W' : World} {v : Value} {zs : List Pk} {D : Nat → Prop} (h : HDX B W v zs) (hC : Chg D W W') (hd : ∀ g, B ≤ g → ¬ D g) : HDX B W' v zs :=
  ⟨h.row.chg hC (fun g hg => hd g (h.ge g hg)), h.ge, fun z hz => (h.by_ z hz).chg hC (fun g hg => hd g (by obtain ⟨g', e1, e2, _⟩ := h.by_ z hz; rw [hg] at e1; cases e1; exact e2))⟩
theorem HDX.below {B : Nat} {W W' : World} {v : Value} {zs : List Pk} (h : HDX B W v zs) (hB : Below W.heap.size W W') : HDX B W' v zs :=
  ⟨h.row.chg (D := fun g => W.heap.size ≤ g) (Chg.of_below hB) (fun g hg e => by have := h.row.lt hg; omega), h.ge, fun z hz => (h.by_ z hz).chg (D := fun g => W.heap.size ≤ g) (Chg.of_below hB) (fun g hg e => by obtain ⟨g', e1, _, e3, _⟩ := h.by_ z hz; rw [hg] at e1; cases e1; omega)⟩
/-- What sends is handed. -/
structure SndIn (K J : Nat → Prop) (W : World) (a : Option Addr) (n c : Nat) (ps : List Pk) (S : Lk) : Prop where
  pk : PsAt W a n c ps
  aw : AwN W (fun g => K g ∨ J g) n a
  by_ : ∀ p ∈ ps, AwN W (fun g => K g ∨ J g) p.bs.length p.a ∧ p.bs.length ≤ 140737488355328
  hn : n ≤ 1099511627776
  nx : S.next + n ≤ 1152921504606846976
section
variable {K J : Nat → Prop} {W W1 w2 w3 w4 : World} {q r n c : Nat} {S S' : Lk} {a : Option Addr} {ps zs : List Pk} {v : Value}
theorem HDI.same (h : HDI W1 ps n v w2 zs) (hl : ps.length = n) : zs.map Pk.d = ps.map Pk.d := by
  have := h.eq
  rw [List.take_of_length_le (by omega)] at this
  exact this
theorem HDI.hdx (h : HDI W1 ps n v w2 zs) : HDX W1.heap.size w2 v zs := ⟨h.row, h.ge, h.by_⟩
/-- The program's Send of what was handed in. -/
theorem sends_l (hD : Duo K J W1 q r S) (hi : SndIn K J W1 a n c ps S) (h : HDI W1 ps n v w2 zs) : ∃ a6 cap6, v = .slice a6 n cap6 ∧ Calls Try.prog 13 #[.pointer (some ⟨q, 0, none⟩), .slice a6 n cap6] w2 fun e w' => e = .returned (sendV S ps) ∧ Lft K w2 q (sendR S ps) w' := by
  have hs := h.same hi.pk.row.len
  have hzl : zs.length = n := by have := congrArg List.length hs; rw [List.length_map, List.length_map, hi.pk.row.len] at this; exact this
  obtain ⟨a6, cap6, e6, _, _⟩ := h.row.shape
  rw [hzl] at e6
  have hR := h.row
  rw [e6] at hR
  refine ⟨a6, cap6, e6, ?_⟩
  rw [← sendV_d hs, ← sendR_d hs]
  have hn := hi.hn
  refine sendK (hD.below h.bel).l ⟨hR.rw_ layP, fun z hz => ⟨(h.by_ z hz).rw_, ?_⟩⟩ (fun g hg => ?_) (fun z hz g hg => ?_) (by omega) (by have := hi.nx; omega)
  · have hz2 : z.d ∈ ps.map Pk.d := by rw [← hs]; exact List.mem_map.2 ⟨z, hz, rfl⟩
    obtain ⟨p, hp, e⟩ := List.mem_map.1 hz2
    simp only [Pk.d, Prod.mk.injEq] at e
    have := (hi.by_ p hp).2
    rw [← e.2.2]; omega
  · have h1 : v.ownBlock = some g.block := by rw [e6, hg]; rfl
    exact ⟨h.row.lt h1, fun e => by have := h.ge _ h1; have := hD.kl _ e; omega⟩
  · obtain ⟨g', e1, e2, e3, _⟩ := h.by_ z hz
    rw [hg] at e1
    cases e1
    exact ⟨e3, fun e => by have := hD.kl _ e; simp only at this; omega⟩
/-- The reference's Send of the packets themselves. -/
theorem sends_r (hD : Duo K J W1 q r S) (hi : SndIn K J W1 a n c ps S) (hB : Below W1.heap.size W1 w2) (hl : Lft K w2 q S' w3) : Calls Try.prog 50 #[.pointer (some ⟨r, 0, none⟩), .slice a n c] w3 fun e w' => e = .returned (sendV S ps) ∧ RLft J w3 r (sendR S ps) w' := by
  have hC : Chg K W1 w3 := (Chg.of_below hB).trans hl.2
  have hs := hC.size
  have hn := hi.hn
  exact rsendK ((hD.below hB).mid hl) (hi.pk.chgN hC (fun h0 g hg e => (hi.aw h0 g hg).2 (.inl e)) (fun p hp h0 g hg e => ((hi.by_ p hp).1 h0 g hg).2 (.inl e))) (fun h0 g hg => ⟨Nat.lt_of_lt_of_le (hi.aw h0 g hg).1 hs, fun e => (hi.aw h0 g hg).2 (.inr e)⟩) (fun p hp => ⟨fun h0 g hg => ⟨Nat.lt_of_lt_of_le ((hi.by_ p hp).1 h0 g hg).1 hs, fun e => ((hi.by_ p hp).1 h0 g hg).2 (.inr e)⟩, (hi.by_ p hp).2⟩) (by omega) hi.nx
/-- Both behind it. -/
theorem sends_x (hD : Duo K J W1 q r S) (h : HDI W1 ps n v w2 zs) (hl : Lft K w2 q S' w3) (hr : RLft J w3 r S' w4) : HDX W1.heap.size w4 v zs :=
  (h.hdx.chg hl.2 (fun g hg e => by have := hD.kl g e; omega)).chg hr.2 (fun g hg e => by have := hD.jl g e; omega)
theorem sends_same (hD : Duo K J W1 q r S) (hi : SndIn K J W1 a n c ps S) {a6 : Option Addr} {cap6 : Nat} (h : HDI W1 ps n (.slice a6 n cap6) w2 zs) (hl : Lft K w2 q S' w3) (hr : RLft J w3 r S' w4) : Calls Try.prog 51 #[.slice a6 n cap6, .slice a n c] w4 fun e w' => e = .returned (.bool true) ∧ Below w4.heap.size w4 w' := by
  have hx := sends_x hD h hl hr
  have hC : Chg (fun g => K g ∨ J g) W1 w4 := ((Chg.of_below h.bel).trans (hl.2.mono (fun g _ e => .inl e))).trans (hr.2.mono (fun g _ e => .inr e))
  have hp := hi.pk.chgN hC (fun h0 g hg => (hi.aw h0 g hg).2) (fun p hp h0 g hg => ((hi.by_ p hp).1 h0 g hg).2)
  exact samePackets_true (hx.row.rw_ layP) (fun z hz => (hx.by_ z hz).rw_) hp.row (fun p hpp => (hp.bytes p hpp).1) (h.same hi.pk.row.len) hi.hn
end
end Go.Proofs.Ytdmhajlhpieedaa

/-! sends: what was handed in is written over. -/
namespace Go.Proofs.Ytdmhajlhpieedaa
open Go.RowKit Go.Lib Go.Shelf
set_option maxRecDepth 100000

theorem heap_setCell_any {W : World} {b b' i : Nat} {cs : Array Value} {T : TypeId} {fz : Nat × Nat} (h : W.heap[b]? = some (.cells cs T fz)) (u : Value) : ∃ cs', (W.setCell ⟨b', i, none⟩ u).heap[b]? = some (.cells cs' T fz) ∧ cs'.size = cs.size := by
  by_cases e : b' = b
  · subst e
    exact ⟨cs.setIfInBounds i u, by simp [World.setCell, Array.getElem?_modify, h], by simp⟩
  · exact ⟨cs, by simp [World.setCell, Array.getElem?_modify, h, e], rfl⟩
/-- Bytes that may be written over. -/
def WB (W : World) (B : Nat → Prop) (x : Pk) : Prop := 0 < x.bs.length → ∃ g, x.a = some ⟨g, 0, none⟩ ∧ B g ∧ (∃ (cur : Array Value) (fz : Nat × Nat), W.heap[g]? = some (.cells cur 5 fz) ∧ x.bs.length ≤ cur.size ∧ x.bs.length + 2 ≤ 9223372036854775807) ∧ ∀ j, j < x.bs.length → W.frozen? ⟨g, j, none⟩ = false
theorem HB.wb {W : World} {B : Nat} {P : Nat → Prop} {z : Pk} (h : HB W B z) (hP : ∀ g, z.a = some ⟨g, 0, none⟩ → P g) : WB W P z := fun h0 => by
  obtain ⟨g, h1, h2, h3, h4, ⟨cur, fz, h5⟩, h6⟩ := h
  refine ⟨g, h1, hP g h1, ⟨cur, fz, h5, ?_, by have := h4.room; have h8 := this.1; have h9 := this.2; simp only [maxLen] at h9; omega⟩, fun j hj => h6 j (by omega)⟩
  obtain ⟨g', off, x, e, _, hx, hc⟩ := h4.at (z.bs.length - 1) (by omega)
  simp only [Option.some.injEq, Addr.mk.injEq, and_true] at e
  obtain ⟨rfl, rfl⟩ := e
  have := hc 0 _ rfl
  simp only [World.cell?, h5] at this
  have h7 := (Array.getElem?_eq_some_iff.1 this).1
  omega
theorem WB.set {W : World} {B : Nat → Prop} {x : Pk} (h : WB W B x) (g' j' : Nat) (u : Value) : WB (W.setCell ⟨g', j', none⟩ u) B x := fun h0 => by
  obtain ⟨g, h1, h2, ⟨cur, fz, h3, h4⟩, h5⟩ := h h0
  obtain ⟨cs', h6, h7⟩ := heap_setCell_any (b' := g') (i := j') h3 u
  exact ⟨g, h1, h2, ⟨cs', fz, h6, by omega, h4.2⟩, fun j hj => (World.frozen?_setCell _ _ _ _).trans (h5 j hj)⟩
theorem WB.cell {W : World} {B : Nat → Prop} {g : Nat} {x : Pk} (h : WB W B x) (ha : x.a = some ⟨g, 0, none⟩) {j : Nat} (hj : j < x.bs.length) : (∃ u, W.cell? ⟨g, j, none⟩ = some u) ∧ W.frozen? ⟨g, j, none⟩ = false ∧ B g ∧ ∃ (cur : Array Value) (fz : Nat × Nat), W.heap[g]? = some (.cells cur 5 fz) := by
  obtain ⟨g', h1, h2, ⟨cur, fz, h3, h4⟩, h5⟩ := h (by omega)
  rw [ha] at h1
  cases h1
  refine ⟨⟨cur[j]'(by omega), ?_⟩, h5 j hj, h2, cur, fz, h3⟩
  simp only [World.cell?, h3]
  exact Array.getElem?_eq_getElem (by omega)
theorem set3o {W : World} {g o : Nat} {T : TypeId} {A B : List Value} {u0 u1 u2 : Value} (hh : W.heap[g]? = some (.cells (A ++ [u0, u1, u2] ++ B).toArray T)) (hA : A.length = o) (v0 v1 v2 : Value) :
    ∃ W9, ((W.setCell ⟨g, o, none⟩ v0).setCell ⟨g, o + 1, none⟩ v1).setCell ⟨g, o + 2, none⟩ v2 = W9 ∧ W9.heap[g]? = some (.cells (A ++ [v0, v1, v2] ++ B).toArray T) ∧ Chg (fun k => k = g) W W9 := by
  subst hA
  have e0 := heap_setCell_cells hh A.length v0
  have e1 := heap_setCell_cells e0 (A.length + 1) v1
  have e2 := heap_setCell_cells e1 (A.length + 2) v2
  have hs : ∀ (i : Nat) (W : World) (u : Value), Chg (fun k => k = g) W (W.setCell ⟨g, i, none⟩ u) := fun i W u => Chg.set (D := fun k => k = g) (q := g) i W u rfl
  refine ⟨_, rfl, ?_, ((hs _ _ _).trans (hs _ _ _)).trans (hs _ _ _)⟩
  rw [e2]
  congr 2
  simp [List.setIfInBounds_toArray, List.append_assoc]
/-- What was handed in, while it is written over. -/
structure HDW (B : Nat → Prop) (n : Nat) (W : World) (v : Value) (xs : List Pk) : Prop where
  row : OffF pkv 3 36 W v xs
  len : xs.length = n
  ge : ∀ g, v.ownBlock = some g → B g
  by_ : ∀ x ∈ xs, WB W B x
theorem HDX.hdw {B n : Nat} {P : Nat → Prop} {W : World} {v : Value} {zs : List Pk} (h : HDX B W v zs) (hl : zs.length = n) (hv : ∀ g, v.ownBlock = some g → P g) (hz : ∀ z ∈ zs, ∀ g, z.a = some ⟨g, 0, none⟩ → P g) : HDW P n W v zs := ⟨h.row, hl, hv, fun z hzz => (h.by_ z hzz).wb (hz z hzz)⟩
/-- A byte is written over. -/
theorem HDW.byte {B : Nat → Prop} {n g j : Nat} {W : World} {v : Value} {xs : List Pk} {x : Pk} (h : HDW B n W v xs) (hx : x ∈ xs) (ha : x.a = some ⟨g, 0, none⟩) (hj : j < x.bs.length) (u : Value) : HDW B n (W.setCell ⟨g, j, none⟩ u) v xs := by
  obtain ⟨_, _, _, cur, fz, hh⟩ := (h.by_ x hx).cell ha hj
  refine ⟨h.row.chg (Chg.set (D := fun k => k = g) (q := g) j W u rfl) (fun k hk e => ?_), h.len, h.ge, fun y hy => (h.by_ y hy).set g j u⟩
  subst e
  obtain ⟨cur2, h2⟩ := h.row.block hk
  rw [hh] at h2; simp at h2
/-- A packet of the row is written over. -/
theorem HDW.wipe {B : Nat → Prop} {n g o cap i : Nat} {W : World} {xs : List Pk} (h : HDW B n W (.slice (some ⟨g, o, none⟩) n cap) xs) (hi : i < n) :
    ∃ W9 xs', ((W.setCell ⟨g, o + i * 3, none⟩ (.int .i64 (-1))).setCell ⟨g, o + i * 3 + 1, none⟩ (.int .i64 (-1))).setCell ⟨g, o + i * 3 + 2, none⟩ (.slice none 0 0) = W9 ∧ HDW B n W9 (.slice (some ⟨g, o, none⟩) n cap) xs' ∧ Chg (fun k => k = g) W W9 ∧
      (W.frozen? ⟨g, o + i * 3, none⟩ = false ∧ W.frozen? ⟨g, o + i * 3 + 1, none⟩ = false ∧ W.frozen? ⟨g, o + i * 3 + 2, none⟩ = false) := by
  have hl := h.len
  obtain ⟨l, x, t, hxs, hll⟩ : ∃ l x t, xs = l ++ x :: t ∧ l.length = i := ⟨xs.take i, xs[i], xs.drop (i + 1), by rw [List.getElem_cons_drop, List.take_append_drop], by rw [List.length_take]; omega⟩
  subst hxs
  rcases h.row with ⟨e0, e1⟩ | ⟨g', pre, post, cap', e, hh, hp, hl1, hl2⟩
  · simp at e1
  · simp only [Value.slice.injEq, Option.some.injEq, Addr.mk.injEq, and_true] at e
    obtain ⟨⟨rfl, rfl⟩, e2, rfl⟩ := e
    have hlf := flatF_length layP l
    have hh' : W.heap[g]? = some (.cells ((pre ++ flatF pkv l) ++ [Value.int .i64 x.fr, Value.int .i64 x.tt, Value.slice x.a x.bs.length x.cap] ++ (flatF pkv t ++ post)).toArray 36) := by
      rw [hh]; simp [flatF, pkv, List.append_assoc]
    have hol : (pre ++ flatF pkv l).length = pre.length + i * 3 := by rw [List.length_append, hlf, hll]
    obtain ⟨W9, hW9, hx9, hC9⟩ := set3o hh' hol (.int .i64 (-1)) (.int .i64 (-1)) (.slice none 0 0)
    refine ⟨W9, l ++ ⟨-1, -1, none, 0, []⟩ :: t, hW9, ⟨.inr ⟨g, pre, post, cap, by simp at e2 ⊢; omega, ?_, by rw [hp]; simp, by simpa using hl1, hl2⟩, by simpa using hl, h.ge, fun y hy => ?_⟩, hC9, Lib.frozen_of_heap hh _, Lib.frozen_of_heap hh _, Lib.frozen_of_heap hh _⟩
    · rw [hx9]; simp [flatF, pkv, List.append_assoc]
    · have hk : ∀ y, y ∈ l ++ x :: t → WB W9 B y := fun y hy => by rw [← hW9]; exact (((h.by_ y hy).set _ _ _).set _ _ _).set _ _ _
      rcases List.mem_append.1 hy with hy | hy
      · exact hk y (by simp [hy])
      · rcases List.mem_cons.1 hy with rfl | hy
        · intro h0; simp at h0
        · exact hk y (by simp [hy])
/-- Where what was handed in lies: behind all of both links, ahead of what Send made. -/
theorem HDI.place {W1 w2 : World} {ps zs : List Pk} {n : Nat} {v : Value} (h : HDI W1 ps n v w2 zs) : (∀ g, v.ownBlock = some g → W1.heap.size ≤ g ∧ g < w2.heap.size) ∧ ∀ z ∈ zs, ∀ g, z.a = some ⟨g, 0, none⟩ → W1.heap.size ≤ g ∧ g < w2.heap.size :=
  ⟨fun g hg => ⟨h.ge g hg, h.row.lt hg⟩, fun z hz g hg => by
    obtain ⟨g', e1, e2, e3, _⟩ := h.by_ z hz
    rw [hg] at e1
    cases e1
    exact ⟨e2, e3⟩⟩
/-- Both links stand where only that is written over. -/
theorem DuoP.wiped {K J : Nat → Prop} {W w2 w5 w6 : World} {q r : Nat} {S S' : Lk} (hD : Duo K J W q r S) (hB : Below W.heap.size W w2) (hp : DuoP K J w2 q r S' w5) (hC : Chg (fun g => W.heap.size ≤ g ∧ g < w2.heap.size) w5 w6) : DuoP K J W q r S' w6 := by
  obtain ⟨K', J', h1, h2, h3, h4⟩ := hp
  have hs := hB.size
  have hs4 := h4.size
  have hk : ∀ g, K' g → ¬ (W.heap.size ≤ g ∧ g < w2.heap.size) := fun g hg e => by
    rcases h2 g hg with h | h
    · have := hD.kl g h; omega
    · omega
  have hj : ∀ g, J' g → ¬ (W.heap.size ≤ g ∧ g < w2.heap.size) := fun g hg e => by
    rcases h3 g hg with h | h
    · have := hD.jl g h; omega
    · omega
  refine ⟨K', J', ⟨h1.l.chg hC hk, h1.f.chg hC hj, fun g hg => Nat.lt_of_lt_of_le (h1.kl g hg) hC.size, fun g hg => Nat.lt_of_lt_of_le (h1.jl g hg) hC.size, h1.kj⟩, fun g hg => (h2 g hg).imp id (fun e => by omega), fun g hg => (h3 g hg).imp id (fun e => by omega), ((Chg.of_below hB).trans h4).then hC (fun g e => .inr e.1)⟩
end Go.Proofs.Ytdmhajlhpieedaa
