import Derived.Test.YtdmhajlhpieedaaLdJK
/-! The program's link and the reference's side by side; Send of packets that say the same. -/
namespace Go.Proofs.Ytdmhajlhpieedaa
open Go.RowKit Go.Lib Go.Shelf
set_option maxRecDepth 100000

theorem sendS_d : ∀ (zs ps : List Pk) (S : Lk), zs.map Pk.d = ps.map Pk.d → sendS S zs = sendS S ps
  | [], [], _, _ => rfl
  | [], _ :: _, _, h => by simp at h
  | _ :: _, [], _, h => by simp at h
  | z :: zs, p :: ps, S, h => by
    simp only [List.map_cons, List.cons.injEq, Pk.d, Prod.mk.injEq] at h
    obtain ⟨⟨h1, h2, h3⟩, h4⟩ := h
    rw [sendS, sendS, h1, h2, h3]
    exact sendS_d zs ps _ h4
theorem all_d {S : Lk} : ∀ (zs ps : List Pk), zs.map Pk.d = ps.map Pk.d → zs.all (goodP S) = ps.all (goodP S)
  | [], [], _ => rfl
  | [], _ :: _, h => by simp at h
  | _ :: _, [], h => by simp at h
  | z :: zs, p :: ps, h => by
    simp only [List.map_cons, List.cons.injEq, Pk.d, Prod.mk.injEq] at h
    obtain ⟨⟨h1, h2, h3⟩, h4⟩ := h
    rw [List.all_cons, List.all_cons, all_d zs ps h4, goodP, goodP, h1, h2]
theorem sendE_d {S : Lk} {zs ps : List Pk} (h : zs.map Pk.d = ps.map Pk.d) : sendE S zs = sendE S ps := by
  have hl : zs.length = ps.length := by have := congrArg List.length h; simpa using this
  unfold sendE
  rw [all_d zs ps h, hl]
theorem sendV_d {S : Lk} {zs ps : List Pk} (h : zs.map Pk.d = ps.map Pk.d) : sendV S zs = sendV S ps := by rw [sendV, sendV, sendE_d h]
theorem sendR_d {S : Lk} {zs ps : List Pk} (h : zs.map Pk.d = ps.map Pk.d) : sendR S zs = sendR S ps := by rw [sendR, sendR, sendE_d h, sendS_d zs ps S h]
/-- The head of a row of bytes. -/
theorem rw_head {W : World} {g m k cap : Nat} {l t : List UInt8} (h : Rw byU 1 W (some ⟨g, 0, none⟩) (m + k) cap (l ++ t)) (hl : l.length = m) : Rw byU 1 W (some ⟨g, 0, none⟩) m cap l := by
  have hr := h.room
  refine ⟨hl, ⟨by have := hr.1; omega, hr.2⟩, fun h0 => ?_⟩
  obtain ⟨g', off, e, hg, hc⟩ := h.cells (by omega)
  refine ⟨g', off, e, hg, fun i x hi j v hv => hc i x ?_ j v hv⟩
  rw [List.getElem?_append_left (List.getElem?_eq_some_iff.1 hi).1]
  exact hi
theorem HB.rw_ {W : World} {B : Nat} {z : Pk} (h : HB W B z) : Rw byU 1 W z.a z.bs.length z.cap z.bs := by
  obtain ⟨g, h1, _, _, h4, _⟩ := h
  rw [h1]
  exact rw_head h4 rfl
/-- The program's link and the reference's, with the same plain data. -/
structure Duo (K J : Nat → Prop) (W : World) (q r : Nat) (S : Lk) : Prop where
  l : LnkK K W q S
  f : RefK J W r S
  kl : ∀ g, K g → g < W.heap.size
  jl : ∀ g, J g → g < W.heap.size
  kj : ∀ g, K g → ¬ J g
/-- What a step leaves of both. -/
def DuoP (K J : Nat → Prop) (W : World) (q r : Nat) (S' : Lk) (W' : World) : Prop := ∃ K' J', Duo K' J' W' q r S' ∧ (∀ g, K' g → K g ∨ W.heap.size ≤ g) ∧ (∀ g, J' g → J g ∨ W.heap.size ≤ g) ∧ Chg (fun g => K g ∨ J g) W W'
section
variable {K J : Nat → Prop} {W W1 W2 : World} {q r : Nat} {S S' : Lk}
theorem Duo.below (h : Duo K J W q r S) (hB : Below W.heap.size W W1) : Duo K J W1 q r S :=
  ⟨h.l.below hB, h.f.below hB, fun g hg => Nat.lt_of_lt_of_le (h.kl g hg) hB.size, fun g hg => Nat.lt_of_lt_of_le (h.jl g hg) hB.size, h.kj⟩
theorem Duo.p (h : Duo K J W q r S) (hB : Below W.heap.size W W1) : DuoP K J W q r S W1 := ⟨K, J, h.below hB, fun _ hg => .inl hg, fun _ hg => .inl hg, Chg.of_below hB⟩
/-- The reference's, after a call of the program's. -/
theorem Duo.mid (h : Duo K J W q r S) (hl : Lft K W q S' W1) : RefK J W1 r S := h.f.chg hl.2 (fun g hg hk => h.kj g hk hg)
theorem Duo.step (h : Duo K J W q r S) (hl : Lft K W q S' W1) (hr : RLft J W1 r S' W2) : DuoP K J W q r S' W2 := by
  have s1 := hl.2.size
  have s2 := hr.2.size
  refine ⟨grow K W W1, grow J W1 W2, ⟨hl.1.chg hr.2 (fun g hg hj => ?_), hr.1, fun g hg => ?_, fun g hg => ?_, fun g hg hj => ?_⟩, fun g hg => ?_, fun g hg => ?_, ?_⟩
  · rcases hg with hg | ⟨hg, _⟩
    · exact h.kj g hg hj
    · have := h.jl g hj; omega
  · rcases hg with hg | ⟨_, hg⟩
    · have := h.kl g hg; omega
    · omega
  · rcases hg with hg | ⟨_, hg⟩
    · have := h.jl g hg; omega
    · omega
  · rcases hg with hg | ⟨hg, hg2⟩
    · rcases hj with hj | ⟨hj, _⟩
      · exact h.kj g hg hj
      · have := h.kl g hg; omega
    · rcases hj with hj | ⟨hj, _⟩
      · have := h.jl g hj; omega
      · omega
  · rcases hg with hg | ⟨hg, _⟩
    · exact .inl hg
    · exact .inr hg
  · rcases hg with hg | ⟨hg, _⟩
    · exact .inl hg
    · exact .inr (by omega)
  · exact (hl.2.mono (fun g _ e => .inl e)).trans (hr.2.mono (fun g _ e => .inr e))
theorem DuoP.from {W0 : World} (hB : Below W0.heap.size W0 W) (hp : DuoP K J W q r S' W1) : DuoP K J W0 q r S' W1 := by
  obtain ⟨K', J', h1, h2, h3, h4⟩ := hp
  have := hB.size
  exact ⟨K', J', h1, fun g hg => (h2 g hg).imp id (fun e => by omega), fun g hg => (h3 g hg).imp id (fun e => by omega), (Chg.of_below hB).trans h4⟩
theorem DuoP.then_ (hp : DuoP K J W q r S' W1) (hB : Below W1.heap.size W1 W2) : DuoP K J W q r S' W2 := by
  obtain ⟨K', J', h1, h2, h3, h4⟩ := hp
  exact ⟨K', J', h1.below hB, h2, h3, h4.trans (Chg.of_below hB)⟩
end
end Go.Proofs.Ytdmhajlhpieedaa
