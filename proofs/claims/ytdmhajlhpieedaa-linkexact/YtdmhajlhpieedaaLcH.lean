import Derived.Test.YtdmhajlhpieedaaLcG
/-! bag: what a Send's loop makes, in memory. -/
namespace Go.Proofs.Ytdmhajlhpieedaa
open Go.RowKit Go.Lib Go.Shelf
set_option maxRecDepth 100000

def stepBox (sp : Sp) : Obj := .cells #[.int .i64 sp.kind, .int .i64 sp.which, .int .i64 sp.k, .int .i64 sp.at_, .int .u8 (sp.mask.toNat : Int), .slice sp.pa sp.pn sp.pc] 51
/-- A packet that was made: its bytes lie apart. -/
structure MadeP (K : Nat → Prop) (wr : World) (v1 v16 : Value) (p : Pk) : Prop where
  rw_ : Rw byU 1 wr p.a p.bs.length p.cap p.bs
  le : p.bs.length ≤ 1048576
  aw : ∀ g, p.a = some g → g.block < wr.heap.size ∧ ¬ K g.block ∧ v1.ownBlock ≠ some g.block ∧ v16.ownBlock ≠ some g.block
  nd : (0 ≤ p.fr ∧ p.fr < 3) ∧ (0 ≤ p.tt ∧ p.tt < 3)
structure SI (W0 : World) (K : Nat → Prop) (b5 q : Nat) (L : List Sn) (sp : Sp) (wr : World) (v1 v16 : Value) (pl : List Pk) : Prop where
  st : St W0 K wr q (bagS L)
  l : OwnF snv 6 46 wr W0.heap.size v1 (L ++ pl.map Pk.sn)
  p : OwnF pkv 3 36 wr W0.heap.size v16 pl
  vk : ∀ g, v1.ownBlock = some g → ¬ K g
  pk : ∀ g, v16.ownBlock = some g → ¬ K g
  by_ : ∀ p ∈ pl, MadeP K wr v1 v16 p
  bx : wr.heap[b5]? = some (stepBox sp)
  nb : ¬ K b5
theorem own_type {α : Type} {f : α → List Value} {k : Nat} {T : TypeId} {W : World} {B : Nat} {v : Value} {l : List α} (h : OwnF f k T W B v l) {g : Nat} (hg : v.ownBlock = some g) : ∃ cur : Array Value, W.heap[g]? = some (.cells cur T) := by
  rcases h.2 with ⟨rfl, _⟩ | ⟨g', cap, cur, rfl, _, hh, _⟩
  · simp [Value.ownBlock] at hg
  · simp [Value.ownBlock] at hg; subst hg
    exact ⟨_, hh⟩
section
variable {W0 W W' : World} {K : Nat → Prop} {b5 q : Nat} {L : List Sn} {sp : Sp} {v1 v16 : Value} {pl : List Pk}
theorem SI.below (h : SI W0 K b5 q L sp W v1 v16 pl) (hB : Below W.heap.size W W') : SI W0 K b5 q L sp W' v1 v16 pl := by
  have hs := hB.size
  refine ⟨h.st.below hB, h.l.below hB, h.p.below hB, h.vk, h.pk, fun p hp => ?_, (hB.block _ (Array.getElem?_eq_some_iff.1 h.bx).1).trans h.bx, h.nb⟩
  have h1 := h.by_ p hp
  exact ⟨h1.rw_.below hB, h1.le, fun g hg => by have := h1.aw g hg; exact ⟨by omega, this.2⟩, h1.nd⟩
theorem SI.lp (h : SI W0 K b5 q L sp W v1 v16 pl) {g : Nat} (hg : v1.ownBlock = some g) : v16.ownBlock ≠ some g := fun e => by
  obtain ⟨c1, h1⟩ := own_type h.l hg
  obtain ⟨c2, h2⟩ := own_type h.p e
  rw [h1] at h2; simp at h2
theorem SI.lb (h : SI W0 K b5 q L sp W v1 v16 pl) : v1.ownBlock ≠ some b5 := fun e => by
  obtain ⟨c1, h1⟩ := own_type h.l e
  have h2 := h.bx
  rw [h1] at h2; simp [stepBox] at h2
theorem SI.pb (h : SI W0 K b5 q L sp W v1 v16 pl) : v16.ownBlock ≠ some b5 := fun e => by
  obtain ⟨c1, h1⟩ := own_type h.p e
  have h2 := h.bx
  rw [h1] at h2; simp [stepBox] at h2
theorem st_chg {S : Lk} {v : Value} (h : St W0 K W q S) (hv : ∀ g, v.ownBlock = some g → ¬ K g ∧ W0.heap.size ≤ g) (hC : Chg (fun g => v.ownBlock = some g) W W') : St W0 K W' q S :=
  ⟨h.lnk.chg hC (fun x hx e => (hv x e).1 hx), fun x hx => ⟨(h.new x hx).1, Nat.lt_of_lt_of_le (h.new x hx).2 hC.size⟩, h.bel.trans (hC.below (fun x e => (hv x e).2) h.bel.size)⟩
/-- The packet is appended to the statement's packets. -/
theorem SI.appP (h : SI W0 K b5 q L sp W v1 v16 pl) (p : Pk) (hp : MadeP K W v1 v16 p) (hl : pl.length + 1 ≤ 1000) : ∃ g c W', (Builtin.append_ #[41, 41] 41 #[v16, .slice (some ⟨W.heap.size, 0, none⟩) 1 1]).run Try.prog (W.alloc (.cells #[.int .i64 p.fr, .int .i64 p.tt, .slice p.a p.bs.length p.cap] 36)) = .ok (.slice (some ⟨g, 0, none⟩) (pl.length + 1) c) W' ∧
    (St W0 K W' q (bagS L) ∧ OwnF snv 6 46 W' W0.heap.size v1 (L ++ pl.map Pk.sn) ∧ OwnF pkv 3 36 W' W0.heap.size (.slice (some ⟨g, 0, none⟩) (pl.length + 1) c) (pl ++ [p]) ∧ ¬ K g ∧ v1.ownBlock ≠ some g ∧ (∀ y ∈ pl ++ [p], MadeP K W' v1 (.slice (some ⟨g, 0, none⟩) (pl.length + 1) c) y) ∧ W'.heap[b5]? = some (stepBox sp)) ∧ Chg (fun k => v16.ownBlock = some k) W W' := by
  obtain ⟨g, c, W', hr, ho, hb, hk, hs, hat⟩ := appendF_one (P := Try.prog) kindP layP h.p h.st.bel.size p #[.int .i64 p.fr, .int .i64 p.tt, .slice p.a p.bs.length p.cap] rfl 36 (by omega) (by omega) 41
  have hC : Chg (fun k => v16.ownBlock = some k) W W' := ⟨hb.mono (Nat.zero_le _), fun k hk1 hk2 => hk k hk1 hk2⟩
  have hsz := hC.size
  have hgk : ¬ K g := fun e => by
    rcases hat with h3 | h3
    · exact h.pk _ h3 e
    · have := (h.st.new _ e).2; omega
  refine ⟨g, c, W', hr, ⟨st_chg h.st (fun x hx => ⟨h.pk x hx, h.p.ge hx⟩) hC, h.l.chg hC (fun x hx e => h.lp hx e), ho, hgk, fun e => ?_, fun y hy => ?_, hC.block h.bx h.pb⟩, hC⟩
  · rcases hat with h3 | h3
    · exact h.lp e h3
    · have := h.l.lt e; omega
  · have h1 : MadeP K W v1 v16 y := by
      rcases List.mem_append.1 hy with hy | hy
      · exact h.by_ y hy
      · simp only [List.mem_singleton] at hy; subst hy; exact hp
    refine ⟨h1.rw_.chgS hC (fun _ a ha => (h1.aw a ha).2.2.2), h1.le, fun a ha => ?_, h1.nd⟩
    have h2 := h1.aw a ha
    refine ⟨by omega, h2.2.1, h2.2.2.1, fun e => ?_⟩
    simp [Value.ownBlock] at e
    rcases hat with h3 | h3
    · exact h2.2.2.2 (by rw [h3, e])
    · omega
/-- And to its list. -/
theorem SI.appL {g c : Nat} {W' : World} {p : Pk} (hi : pl.length + 1 ≤ 1000) (hL : L.length ≤ 3000) (h : St W0 K W' q (bagS L) ∧ OwnF snv 6 46 W' W0.heap.size v1 (L ++ pl.map Pk.sn) ∧ OwnF pkv 3 36 W' W0.heap.size (.slice (some ⟨g, 0, none⟩) (pl.length + 1) c) (pl ++ [p]) ∧ ¬ K g ∧ v1.ownBlock ≠ some g ∧ (∀ y ∈ pl ++ [p], MadeP K W' v1 (.slice (some ⟨g, 0, none⟩) (pl.length + 1) c) y) ∧ W'.heap[b5]? = some (stepBox sp)) (hv1 : ∀ x, v1.ownBlock = some x → ¬ K x) (hnb : ¬ K b5) :
    ∃ g2 c2 W2, (Builtin.append_ #[47, 47] 47 #[v1, .slice (some ⟨W'.heap.size, 0, none⟩) 1 1]).run Try.prog (W'.alloc (.cells #[.int .i64 p.fr, .int .i64 p.tt, .slice p.a p.bs.length p.cap, .string ⟨p.bs.toArray⟩, .bool false, .bool true] 46)) = .ok (.slice (some ⟨g2, 0, none⟩) (L.length + pl.length + 1) c2) W2 ∧ SI W0 K b5 q L sp W2 (.slice (some ⟨g2, 0, none⟩) (L.length + pl.length + 1) c2) (.slice (some ⟨g, 0, none⟩) (pl.length + 1) c) (pl ++ [p]) := by
  obtain ⟨h1, h2, h3, h4, h5, h6, h7⟩ := h
  have hll : (L ++ pl.map Pk.sn).length = L.length + pl.length := by simp
  obtain ⟨g2, c2, W2, hr, ho, hb, hk, hs, hat⟩ := appendF_one (P := Try.prog) kindN layN h2 h1.bel.size p.sn #[.int .i64 p.fr, .int .i64 p.tt, .slice p.a p.bs.length p.cap, .string ⟨p.bs.toArray⟩, .bool false, .bool true] rfl 46 (by rw [hll]; omega) (by rw [hll]; omega) 47
  rw [hll] at hr ho
  have hC : Chg (fun k => v1.ownBlock = some k) W' W2 := ⟨hb.mono (Nat.zero_le _), fun k hk1 hk2 => hk k hk1 hk2⟩
  have hsz := hC.size
  have hlb : v1.ownBlock ≠ some b5 := fun e => by
    obtain ⟨c1, h8⟩ := own_type h2 e
    rw [h8] at h7; simp [stepBox] at h7
  refine ⟨g2, c2, W2, hr, st_chg h1 (fun x hx => ⟨hv1 x hx, h2.ge hx⟩) hC, ?_, h3.chg hC (fun x hx e => ?_), fun x hx e => ?_, fun x hx e => ?_, fun y hy => ?_, hC.block h7 hlb, hnb⟩
  · rw [List.map_append, ← List.append_assoc]
    exact ho
  · simp [Value.ownBlock] at hx
    subst hx
    exact h5 e
  · simp [Value.ownBlock] at hx
    subst hx
    rcases hat with h8 | h8
    · exact hv1 _ h8 e
    · have := (h1.new _ e).2; omega
  · simp [Value.ownBlock] at hx
    subst hx
    exact h4 e
  · have h8 := h6 y hy
    refine ⟨h8.rw_.chgS hC (fun _ a ha => (h8.aw a ha).2.2.1), h8.le, fun a ha => ?_, h8.nd⟩
    have h9 := h8.aw a ha
    refine ⟨by omega, h9.2.1, fun e => ?_, h9.2.2.2⟩
    simp [Value.ownBlock] at e
    rcases hat with h10 | h10
    · exact h9.2.2.1 (by rw [h10, e])
    · omega
end
end Go.Proofs.Ytdmhajlhpieedaa
