import Derived.Test.YtjcfeaekhefpfaaDjE
/-! DiskNewMemory's disk among what lies clear of it. -/
namespace Go.Proofs.Ytjcfeaekhefpfaa.Nm
open Go.RowKit Go.Lib Go.Sort Go.Shelf
set_option maxRecDepth 100000
structure NS (w0 W : World) (F : Nat → Prop) (p : Nat) (S : Dk) : Prop where
  df : DF F W p S
  below : Below w0.heap.size w0 W
  flt : ∀ g, F g → g < W.heap.size
  low : ∀ g, g < w0.heap.size → F g
section
variable {w0 W W' : World} {F G D : Nat → Prop} {p : Nat} {S : Dk}
theorem NS.size (h : NS w0 W F p S) : w0.heap.size ≤ W.heap.size := h.below.size
theorem NS.grow (h : NS w0 W F p S) (hb : Below W.heap.size W W') : NS w0 W' F p S :=
  ⟨h.df.below hb, h.below.trans (hb.mono h.size), fun g hg => Nat.lt_of_lt_of_le (h.flt g hg) hb.size, h.low⟩
/-- What is new may be held clear, too. -/
theorem NS.more (h : NS w0 W F p S) (hb : Below W.heap.size W W') (hG : ∀ g, G g → F g ∨ (W.heap.size ≤ g ∧ g < W'.heap.size)) (hF : ∀ g, F g → G g) : NS w0 W' G p S :=
  ⟨h.df.more (fun g hg => (hG g hg).imp id (fun h => h.1)) hb, h.below.trans (hb.mono h.size), fun g hg => by
    rcases hG g hg with h1 | h1
    · exact Nat.lt_of_lt_of_le (h.flt g h1) hb.size
    · exact h1.2, fun g hg => hF g (h.low g hg)⟩
/-- What is clear of the disk is written. -/
theorem NS.chg (h : NS w0 W F p S) (hC : Chg D W W') (hD : ∀ g, D g → F g) (hD0 : ∀ g, D g → w0.heap.size ≤ g) : NS w0 W' F p S :=
  ⟨h.df.chg hC hD, h.below.trans (hC.below hD0 h.size), fun g hg => Nat.lt_of_lt_of_le (h.flt g hg) hC.size, h.low⟩
theorem NS.append (h : NS w0 W F p S) (hO : S.Ok) (nm : List UInt8) (hr : readyP S nm = 0) (hl : nm.length ≤ 281474976710656) {a : Option Addr} {m cap : Nat} {bs : List UInt8} (hb : Rw byU 1 W a m cap bs) {S' : Dk} (hS : (appP S nm bs).1 = S') :
    Calls Try.prog 9 #[.pointer (some ⟨p, 0, none⟩), .string ⟨nm.toArray⟩, .slice a m cap] W fun e w' => (∃ x y, e = .returned (.tuple #[.int .i64 x, .int .i64 y])) ∧ NS w0 w' F p S' ∧ Chg (fun g => ¬ F g) W w' := by
  refine (df_append h.df h.flt hO nm hr hl hb).mono ?_
  rintro e w' ⟨he, k1, k2⟩
  rw [hS] at k1
  refine ⟨⟨_, _, he⟩, ⟨k1, h.below.trans (k2.below (fun g hg => Nat.le_of_not_lt (fun hl => hg (h.low g hl))) h.size), fun g hg => Nat.lt_of_lt_of_le (h.flt g hg) k2.size, h.low⟩, k2⟩
end
theorem fil2_cells {W w' : World} {g cap : Nat} {v u : Fv} {fa fb : Fl} (h : Fil2 W w' g cap v u fa fb) : w'.cell? ⟨g, 0, none⟩ = some (.string ⟨fa.nm.toArray⟩) ∧ w'.cell? ⟨g, 1, none⟩ = some (.slice v.a v.n v.cap) ∧ w'.cell? ⟨g, 3, none⟩ = some (.string ⟨fb.nm.toArray⟩) ∧ w'.cell? ⟨g, 4, none⟩ = some (.slice u.a u.n u.cap) ∧ 2 ≤ cap := by
  obtain ⟨g', off, e1, _, hc⟩ := h.row.cells (by omega)
  simp only [Option.some.injEq, Addr.mk.injEq, and_true] at e1
  obtain ⟨rfl, rfl⟩ := e1
  have c0 := hc 0 v (by simp) 0 _ rfl
  have c1 := hc 0 v (by simp) 1 _ rfl
  have c3 := hc 1 u (by simp) 0 _ rfl
  have c4 := hc 1 u (by simp) 1 _ rfl
  rw [h.nmv] at c0
  rw [h.nmu] at c3
  exact ⟨c0, c1, c3, c4, h.row.room.1⟩
theorem rw_lits {α : Type} {f : α → List Value} {k : Nat} (hf : Lay f k) (w : World) (l : List α) (cs : Array Value) (hcs : flatF f l = cs.toList) (t : TypeId) (n : Nat) (hn : l.length = n) (hl : n ≤ 1000) : Rw f k (w.alloc (.cells cs t)) (some ⟨w.heap.size, 0, none⟩) n n l := by
  have hh := heap_alloc_new w (.cells cs t)
  refine ⟨hn, ⟨Nat.le_refl _, by simp only [maxLen]; omega⟩, fun _ => ⟨w.heap.size, 0, rfl, (Array.getElem?_eq_some_iff.1 hh).1, fun j x hj i v hv => ?_⟩⟩
  have hi : i < k := by have := (List.getElem?_eq_some_iff.1 hv).1; rw [hf.len] at this; exact this
  have h1 := flatF_get hf l j x hj i hi
  rw [hcs] at h1
  simp only [World.cell?, hh, Nat.zero_add]
  rw [hv] at h1
  simpa using h1
theorem pair6 {α : Type} {R : α → α → Prop} {a b c d e f : α} (h1 : R a b) (h2 : R a c) (h3 : R a d) (h4 : R a e) (h5 : R a f) (h6 : R b c) (h7 : R b d) (h8 : R b e) (h9 : R b f) (h10 : R c d) (h11 : R c e) (h12 : R c f) (h13 : R d e) (h14 : R d f) (h15 : R e f) : [a, b, c, d, e, f].Pairwise R := by
  simp only [List.pairwise_cons, List.mem_cons, List.not_mem_nil, or_false, forall_eq_or_imp, forall_eq, List.Pairwise.nil, and_true, false_implies, implies_true]
  exact ⟨⟨h1, h2, h3, h4, h5⟩, ⟨h6, h7, h8, h9⟩, ⟨h10, h11, h12⟩, ⟨h13, h14⟩, h15⟩
/-- []byte of one letter. -/
theorem lit1 (w : World) (c : UInt8) (v : Int) (hv : v = (c.toNat : Int)) : ∃ V, (convert 22 22 (.slice (some ⟨w.heap.size, 0, none⟩) 1 1)).run Try.prog (w.alloc (.cells #[.int .u8 v] 5)) = .ok (.slice (some ⟨w.heap.size, 0, none⟩) 1 1) V ∧ Rw byU 1 V (some ⟨w.heap.size, 0, none⟩) 1 1 [c] ∧ Below w.heap.size w V := by
  subst hv
  have hcv := Lib.run_convert_bytes_const (P := Try.prog) w 22 5 #[.int .u8 (c.toNat : Int)] 1 1 Try.underlying22 Try.underlying5
  obtain ⟨h1, h2⟩ := lit_rw w [c] #[.int .u8 (c.toNat : Int)] rfl 1 rfl (1, 2)
  exact ⟨_, hcv, h1, h2⟩
/-- A row's letters, the last two written behind. -/
theorem put2 {w : World} {a : Option Addr} {n c B : Nat} {X : List UInt8} (h : OwnF byU 1 5 w B (.slice a n c) X) (hB : B ≤ w.heap.size) (hn : X.length = n) (hb : n ≤ 1048576) (u v : UInt8) (iu iv : Int) (hu : iu = (u.toNat : Int)) (hv : iv = (v.toNat : Int)) :
    ∃ gx cx wX, (Builtin.append_ #[22, 22] 22 #[.slice a n c, .slice (some ⟨w.heap.size, 0, none⟩) 2 2]).run Try.prog (w.alloc (.cells #[.int .u8 iu, .int .u8 iv] 5)) = .ok (.slice (some ⟨gx, 0, none⟩) (n + 2) cx) wX ∧ OwnF byU 1 5 wX B (.slice (some ⟨gx, 0, none⟩) (n + 2) cx) (X ++ [u, v]) ∧ Below B w wX ∧ Rw byU 1 wX (some ⟨gx, 0, none⟩) (n + 1) cx (X ++ [u]) ∧ n + 2 ≤ cx := by
  subst hu
  subst hv
  have hb2 : Below w.heap.size w (w.alloc (.cells #[.int .u8 (u.toNat : Int), .int .u8 (v.toNat : Int)] 5)) := (Below.refl _ _).alloc (Nat.le_refl _) _
  have hlit : Rw byU 1 (w.alloc (.cells #[.int .u8 (u.toNat : Int), .int .u8 (v.toNat : Int)] 5)) (some ⟨w.heap.size, 0, none⟩) 2 2 [u, v] := rw_lit2 layU w u v _ rfl _
  obtain ⟨gx, cx, wX, hrX, hoX, hbX, _⟩ := appendF kindU layU (h.below hb2) (by simp; omega) hlit (by omega) (by rw [hn]; omega) (by rw [hn]; omega) 22
  rw [hn] at hrX hoX
  have hrw := hoX.rw_ layU
  have htk : (X ++ [u, v]).take (n + 1) = X ++ [u] := by
    have e1 : X ++ [u, v] = (X ++ [u]) ++ [v] := by simp
    have e2 : (X ++ [u]).length = n + 1 := by simp [hn]
    rw [e1, List.take_append_of_le_length (by omega), List.take_of_length_le (by omega)]
  have h1 := hrw.take (n + 1) (by omega)
  rw [htk] at h1
  exact ⟨gx, cx, wX, hrX, hoX, (hb2.mono hB).trans hbX, h1, hrw.room.1⟩
/-- The six rows that DiskNewMemory holds: apart, and all theirs. -/
theorem rows6 {W8 W9 W10 W11 W12 D W13 : World} {ra sa : Option Addr} {n1 rc sc g1 c1 g2 c2 : Nat} {v1 u1 v2 u2 : Fv} {fa fb : Fl} {A : List UInt8} (h1 : OwnF byU 1 5 W9 W8.heap.size (.slice ra n1 rc) A) (b1 : Below W8.heap.size W8 W9) (h2 : OwnF byU 1 5 W10 W9.heap.size (.slice sa n1 sc) A) (b2 : Below W9.heap.size W9 W10) (h3 : Fil2 W10 W11 g1 c1 v1 u1 fa fb) (h4 : Fil2 W11 W12 g2 c2 v2 u2 fa fb) (b5 : Below W12.heap.size W12 D) (b6 : Below D.heap.size D W13) (hA : A.length ≤ 1048577) (ha : fa.bs.length ≤ 1048577) (hb : fb.bs.length ≤ 1048577) :
    (∀ x ∈ ([(ra, n1, rc), (sa, n1, sc), (v1.a, v1.n, v1.cap), (u1.a, u1.n, u1.cap), (v2.a, v2.n, v2.cap), (u2.a, u2.n, u2.cap)] : List Sl), (∃ l, OwnF byU 1 5 W13 W8.heap.size x.v l) ∧ x.2.1 ≤ 1073741824 ∧ ∀ g, x.v.ownBlock = some g → W8.heap.size ≤ g ∧ g < D.heap.size) ∧
      ([(ra, n1, rc), (sa, n1, sc), (v1.a, v1.n, v1.cap), (u1.a, u1.n, u1.cap), (v2.a, v2.n, v2.cap), (u2.a, u2.n, u2.cap)] : List Sl).Pairwise (fun x y => ∀ g, x.v.ownBlock = some g → y.v.ownBlock ≠ some g) := by
  have s1 := b1.size
  have s2 := b2.size
  have s3 := h3.below.size
  have s4 := h4.below.size
  have s5 := b5.size
  have l1 := (h1.rw_ layU).len
  have l2 := (h2.rw_ layU).len
  have l3 := (h3.ov.rw_ layU).len
  have l4 := (h3.ou.rw_ layU).len
  have l5 := (h4.ov.rw_ layU).len
  have l6 := (h4.ou.rw_ layU).len
  have c12 : Below W12.heap.size W12 W13 := b5.trans (b6.mono s5)
  have c11 : Below W11.heap.size W11 W13 := h4.below.trans (c12.mono s4)
  have c10 : Below W10.heap.size W10 W13 := h3.below.trans (c11.mono s3)
  have c9 : Below W9.heap.size W9 W13 := b2.trans (c10.mono s2)
  refine ⟨fun x hx => ?_, ?_⟩
  · simp only [List.mem_cons, List.not_mem_nil, or_false] at hx
    rcases hx with rfl | rfl | rfl | rfl | rfl | rfl
    · exact ⟨⟨_, h1.below c9⟩, by show n1 ≤ _; omega, fun g hg => ⟨h1.ge hg, by have := h1.lt hg; omega⟩⟩
    · exact ⟨⟨_, (h2.below c10).mono s1⟩, by show n1 ≤ _; omega, fun g hg => ⟨by have := h2.ge hg; omega, by have := h2.lt hg; omega⟩⟩
    · exact ⟨⟨_, (h3.ov.below c11).mono (by omega)⟩, by show v1.n ≤ _; omega, fun g hg => ⟨by have := h3.ov.ge hg; omega, by have := h3.ov.lt hg; omega⟩⟩
    · exact ⟨⟨_, (h3.ou.below c11).mono (by omega)⟩, by show u1.n ≤ _; omega, fun g hg => ⟨by have := h3.ou.ge hg; omega, by have := h3.ou.lt hg; omega⟩⟩
    · exact ⟨⟨_, (h4.ov.below c12).mono (by omega)⟩, by show v2.n ≤ _; omega, fun g hg => ⟨by have := h4.ov.ge hg; omega, by have := h4.ov.lt hg; omega⟩⟩
    · exact ⟨⟨_, (h4.ou.below c12).mono (by omega)⟩, by show u2.n ≤ _; omega, fun g hg => ⟨by have := h4.ou.ge hg; omega, by have := h4.ou.lt hg; omega⟩⟩
  · have k12 : ∀ g, (Value.slice ra n1 rc).ownBlock = some g → ∀ {v : Value}, (∀ g, v.ownBlock = some g → W9.heap.size ≤ g) → v.ownBlock ≠ some g := fun g hg v hv e => by have := h1.lt hg; have := hv g e; omega
    have k3 : ∀ g, (Value.slice sa n1 sc).ownBlock = some g → ∀ {v : Value}, (∀ g, v.ownBlock = some g → W10.heap.size ≤ g) → v.ownBlock ≠ some g := fun g hg v hv e => by have := h2.lt hg; have := hv g e; omega
    have k4 : ∀ g, g < W11.heap.size → ∀ {v : Value}, (∀ g, v.ownBlock = some g → W11.heap.size ≤ g) → v.ownBlock ≠ some g := fun g hg v hv e => by have := hv g e; omega
    refine pair6 ?_ ?_ ?_ ?_ ?_ ?_ ?_ ?_ ?_ ?_ ?_ ?_ ?_ ?_ ?_
    · exact fun g hg => k12 g hg (fun g hg => h2.ge hg)
    · exact fun g hg => k12 g hg (fun g hg => by have := h3.ov.ge hg; omega)
    · exact fun g hg => k12 g hg (fun g hg => by have := h3.ou.ge hg; omega)
    · exact fun g hg => k12 g hg (fun g hg => by have := h4.ov.ge hg; omega)
    · exact fun g hg => k12 g hg (fun g hg => by have := h4.ou.ge hg; omega)
    · exact fun g hg => k3 g hg (fun g hg => h3.ov.ge hg)
    · exact fun g hg => k3 g hg (fun g hg => h3.ou.ge hg)
    · exact fun g hg => k3 g hg (fun g hg => by have := h4.ov.ge hg; omega)
    · exact fun g hg => k3 g hg (fun g hg => by have := h4.ou.ge hg; omega)
    · exact h3.ap
    · exact fun g hg => k4 g (h3.ov.lt hg) (fun g hg => h4.ov.ge hg)
    · exact fun g hg => k4 g (h3.ov.lt hg) (fun g hg => h4.ou.ge hg)
    · exact fun g hg => k4 g (h3.ou.lt hg) (fun g hg => h4.ov.ge hg)
    · exact fun g hg => k4 g (h3.ou.lt hg) (fun g hg => h4.ou.ge hg)
    · exact h4.ap
end Go.Proofs.Ytjcfeaekhefpfaa.Nm
