import Derived.Test.YtchkeckblpmehaaWxQ
import Derived.Test.YtchkeckblpmehaaWdA
/-! Two pairs and the lists that were handed out. -/
namespace Go.Proofs.Ytchkeckblpmehaa
open Go.RowKit Go.Lib
set_option maxRecDepth 100000
structure Pa where
  q : Nat
  b : Nat
  r : Nat
  v : Value
  S : Wn Int
def PaAt (B : Nat) (W : World) (p : Pa) : Prop := WinI W p.q p.b p.S ∧ RfW W B p.r p.v p.S
def PaB (p : Pa) (g : Nat) : Prop := PB p.q p.b p.r p.v g
theorem PaAt.lt {B : Nat} {W : World} {p : Pa} (h : PaAt B W p) {g : Nat} (hg : PaB p g) : g < W.heap.size := (PI.refl h.1 h.2).lt hg
theorem PaAt.chg {B : Nat} {W W' : World} {p : Pa} {D : Nat → Prop} (h : PaAt B W p) (hC : Chg D W W') (hD : ∀ g, PaB p g → ¬ D g) : PaAt B W' p :=
  ⟨h.1.chg hC (hD _ (.inl (.inl rfl))) (hD _ (.inl (.inr rfl))), h.2.chg hC (fun g hg => hD g (.inr hg))⟩
structure JS (B : Nat) (w W : World) (p : Pa) (o : Option Pa) (qh : Nat) (va vb : Value) (ps : List Hp) (n : Nat) : Prop where
  p0 : PaAt B W p
  p1 : ∀ p', o = some p' → PaAt B W p' ∧ (∀ g, PaB p g → ¬ PaB p' g) ∧ (∀ g, PaB p' g → B ≤ g) ∧ msz p'.S ≤ 1048576 + n
  ge : ∀ g, PaB p g → B ≤ g
  hd : HdAt W B qh va vb ps
  hge : ∀ g, HB qh va vb ps g → B ≤ g
  sz : msz p.S ≤ 1048576 + n
  len : ps.length ≤ 2 * n
  few : ∀ x ∈ ps, x.l.length ≤ 1048578
  below : Below B w W
  base : B ≤ W.heap.size
section
variable {B : Nat} {w W W' : World} {p p' : Pa} {o : Option Pa} {qh : Nat} {va vb : Value} {ps : List Hp} {n : Nat}
theorem JS.grow (h : JS B w W p o qh va vb ps n) (hb : Below W.heap.size W W') : JS B w W' p o qh va vb ps n := by
  have hC : Chg (fun _ => False) W W' := Chg.of_below hb
  exact ⟨h.p0.chg hC (fun _ _ f => f), fun p' hp => ⟨(h.p1 p' hp).1.chg hC (fun _ _ f => f), (h.p1 p' hp).2⟩, h.ge, h.hd.below hb, h.hge, h.sz, h.len, h.few, h.below.trans (hb.mono h.base), Nat.le_trans h.base hb.size⟩
theorem JS.drewN (h : JS B w W p o qh va vb ps n) (k : Nat) : JS B w (W.drewN k) p o qh va vb ps n := h.grow (below_drewN (Below.refl _ _) k)
theorem JS.swap (h : JS B w W p (some p') qh va vb ps n) : JS B w W p' (some p) qh va vb ps n := by
  obtain ⟨k1, k2, k3, k4⟩ := h.p1 p' rfl
  exact ⟨k1, fun x hx => by cases hx; exact ⟨h.p0, fun g hg hg' => k2 g hg' hg, h.ge, h.sz⟩, k3, h.hd, h.hge, k4, h.len, h.few, h.below, h.base⟩
theorem JS.mono {m : Nat} (h : JS B w W p o qh va vb ps n) (hm : n ≤ m) : JS B w W p o qh va vb ps m :=
  ⟨h.p0, fun p' hp => ⟨(h.p1 p' hp).1, (h.p1 p' hp).2.1, (h.p1 p' hp).2.2.1, by have := (h.p1 p' hp).2.2.2; omega⟩, h.ge, h.hd, h.hge, by have := h.sz; omega, by have := h.len; omega, h.few, h.below, h.base⟩
/-- A step on the first pair. -/
theorem JS.play {S' : Wn Int} {v' va' vb' : Value} {ps' : List Hp} (h : JS B w W p o qh va vb ps n) (k : PH W W' B p.q p.b p.r p.v S' v' B qh va vb ps va' vb' ps') (hs : msz S' ≤ msz p.S + 1) : JS B w W' ⟨p.q, p.b, p.r, v', S'⟩ o qh va' vb' ps' (n + 1) := by
  have hnew : ∀ g, PaB ⟨p.q, p.b, p.r, v', S'⟩ g → PaB p g ∨ W.heap.size ≤ g := fun g hg => by
    rcases hg with hg | (hg | hg)
    · exact .inl (.inl hg)
    · exact .inl (.inr (.inl hg))
    · rcases k.own g hg with h1 | h1
      · exact .inl (.inr (.inr h1))
      · exact .inr h1
  have hbase := h.base
  refine ⟨⟨k.win, k.ref⟩, fun x hx => ?_, fun g hg => ?_, k.hd, fun g hg => ?_, ?_, ?_, fun x hx => ?_, ?_, Nat.le_trans h.base k.chg.size⟩
  · obtain ⟨k1, k2, k3, k4⟩ := h.p1 x hx
    refine ⟨k1.chg k.chg (fun g hg hd => ?_), fun g hg hg' => ?_, k3, by omega⟩
    · rcases hd with hd | hd
      · exact k2 g hd hg
      · exact held_pair k1.1 k1.2 h.hd hd hg
    · rcases hnew g hg with h1 | h1
      · exact k2 g h1 hg'
      · have := k1.lt hg'
        omega
  · rcases hnew g hg with h1 | h1
    · exact h.ge g h1
    · omega
  · rcases k.hb g hg with h1 | h1
    · exact h.hge g h1
    · omega
  · have := h.sz
    show msz S' ≤ _
    omega
  · have := h.len
    have := k.len
    omega
  · rcases k.few x hx with h1 | h1
    · exact h.few x h1
    · exact h1
  · exact h.below.trans (k.chg.below (fun g hg => by
      rcases hg with hg | hg
      · exact h.ge g hg
      · exact h.hge g hg) h.base)
/-- plays on the first pair. -/
theorem JS.plays (h : JS B w W p o qh va vb ps n) (hn : n ≤ 200) (kd wh N xv : Int) (hN : N ≤ 9223372036854775807) :
    Calls Try.prog 5 #[.pointer (some ⟨p.q, 0, none⟩), .pointer (some ⟨p.r, 0, none⟩), .agg #[.int .i64 kd, .int .i64 wh, .int .i64 N, .int .i64 xv], .pointer (some ⟨qh, 0, none⟩)] W fun e W' => e = .returned (.bool true) ∧ ∃ v' S' va' vb' ps', JS B w W' ⟨p.q, p.b, p.r, v', S'⟩ o qh va' vb' ps' (n + 1) := by
  have h1 := h.sz
  have h2 := h.len
  refine Calls.mono (plays_ok h.p0.1 h.p0.2 h.hd (by omega) (by omega) kd wh N xv hN) ?_
  rintro e W' ⟨he, S', v', va', vb', ps', k1, k2⟩
  exact ⟨he, v', S', va', vb', ps', h.play k1 k2⟩
theorem JS.told (h : JS B w W p o qh va vb ps n) (hn : n ≤ 200) :
    Calls Try.prog 7 #[.pointer (some ⟨p.q, 0, none⟩), .pointer (some ⟨p.r, 0, none⟩), .pointer (some ⟨qh, 0, none⟩)] W fun e W' => e = .returned (.bool true) ∧ ∃ va' vb' ps', JS B w W' p o qh va' vb' ps' (n + 1) := by
  have h1 := h.sz
  have h2 := h.len
  have h3 : p.S.nx ≤ 4611686018427387904 := by unfold msz at h1; omega
  refine Calls.mono (told_ok h.p0.1 h.p0.2 h.hd h3 (by omega)) ?_
  rintro e W' ⟨he, k⟩
  obtain ⟨va', vb', ps', k1⟩ := HNw.ph h.p0.1 h.p0.2 h.hd k
  exact ⟨he, va', vb', ps', h.play k1 (by omega)⟩
theorem JS.hold (h : JS B w W p o qh va vb ps n) (hn : n ≤ 200) :
    Calls Try.prog 6 #[.pointer (some ⟨qh, 0, none⟩)] W fun e W' => e = .returned (.bool true) ∧ ∃ k, W' = W.drewN k :=
  hold_ok h.hd (by have := h.len; omega) (fun x hx => by have := h.few x hx; omega)
end
/-- What opened has made, as a pair. -/
theorem pair_new {W : World} {n s : Int} {q b r : Nat} (h1 : WinI W q b ⟨n, s, []⟩) (h2 : W.heap[r]? = some (.cells #[.int .i64 n, .int .i64 s, .slice none 0 0] 64)) {B : Nat} (hB : B ≤ W.heap.size) : PaAt B W ⟨q, b, r, .slice none 0 0, ⟨n, s, []⟩⟩ := ⟨h1, h2, ownF_nil _ _, hB⟩
end Go.Proofs.Ytchkeckblpmehaa
