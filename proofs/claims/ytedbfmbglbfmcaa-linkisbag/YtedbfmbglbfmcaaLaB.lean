import Derived.Test.YtedbfmbglbfmcaaLaA
/-! Rows that lie anywhere within their block: an append, one element taken out. -/
namespace Go.Proofs.Ytedbfmbglbfmcaa
open Go.RowKit Go.Lib
set_option maxRecDepth 100000

/-- A slice whose block is pre, the row's cells, post: nobody else's. -/
def OffF {α : Type} (f : α → List Value) (k : Nat) (T : TypeId) (W : World) (v : Value) (l : List α) : Prop :=
  (v = .slice none 0 0 ∧ l = []) ∨ ∃ g pre post cap, v = .slice (some ⟨g, pre.length, none⟩) l.length cap ∧ W.heap[g]? = some (.cells (pre ++ flatF f l ++ post).toArray T) ∧ post.length = (cap - l.length) * k ∧ l.length ≤ cap ∧ cap ≤ maxLen
section
variable {α : Type} {f : α → List Value} {k : Nat} {T : TypeId}
theorem offF_nil (W : World) : OffF f k T W (.slice none 0 0) [] := .inl ⟨rfl, rfl⟩
theorem OffF.shape {W : World} {v : Value} {l : List α} (h : OffF f k T W v l) : ∃ a cap, v = .slice a l.length cap ∧ l.length ≤ cap ∧ cap ≤ maxLen := by
  rcases h with ⟨rfl, rfl⟩ | ⟨g, pre, post, cap, rfl, _, _, h1, h2⟩
  · exact ⟨_, _, rfl, Nat.le_refl _, Nat.zero_le _⟩
  · exact ⟨_, _, rfl, h1, h2⟩
theorem OffF.lt {W : World} {v : Value} {l : List α} (h : OffF f k T W v l) {g : Nat} (hg : v.ownBlock = some g) : g < W.heap.size := by
  rcases h with ⟨rfl, rfl⟩ | ⟨g', pre, post, cap, rfl, hh, _⟩
  · simp [Value.ownBlock] at hg
  · simp [Value.ownBlock] at hg; subst hg
    exact (Array.getElem?_eq_some_iff.1 hh).1
theorem OffF.block {W : World} {v : Value} {l : List α} (h : OffF f k T W v l) {g : Nat} (hg : v.ownBlock = some g) : ∃ cur : Array Value, W.heap[g]? = some (.cells cur T) := by
  rcases h with ⟨rfl, rfl⟩ | ⟨g', pre, post, cap, rfl, hh, _⟩
  · simp [Value.ownBlock] at hg
  · simp [Value.ownBlock] at hg; subst hg
    exact ⟨_, hh⟩
theorem OffF.chg {D : Nat → Prop} {W W' : World} {v : Value} {l : List α} (h : OffF f k T W v l) (hC : Chg D W W') (hd : ∀ g, v.ownBlock = some g → ¬ D g) : OffF f k T W' v l := by
  rcases h with h | ⟨g, pre, post, cap, rfl, hh, rest⟩
  · exact .inl h
  · exact .inr ⟨g, pre, post, cap, rfl, hC.block hh (hd g rfl), rest⟩
theorem mid_get {γ : Type} (a b c : List γ) (j : Nat) (hj : j < b.length) : (a ++ b ++ c)[a.length + j]? = b[j]? := by
  rw [List.append_assoc, List.getElem?_append_right (by omega), Nat.add_sub_cancel_left, List.getElem?_append_left hj]
theorem OffF.rw_ (hf : Lay f k) {W : World} {a : Option Addr} {n cap : Nat} {l : List α} (h : OffF f k T W (.slice a n cap) l) : Rw f k W a n cap l := by
  rcases h with ⟨e, rfl⟩ | ⟨g, pre, post, cap', e, hh, hp, h1, h2⟩
  · simp only [Value.slice.injEq] at e
    obtain ⟨rfl, rfl, rfl⟩ := e
    exact rw_nil W
  · simp only [Value.slice.injEq] at e
    obtain ⟨rfl, rfl, rfl⟩ := e
    refine ⟨rfl, ⟨h1, h2⟩, fun h0 => ⟨g, pre.length, rfl, (Array.getElem?_eq_some_iff.1 hh).1, fun j x hj i v hv => ?_⟩⟩
    have hi : i < k := by
      have := hf.len x
      rcases Nat.lt_or_ge i (f x).length with h' | h'
      · omega
      · rw [List.getElem?_eq_none h'] at hv; cases hv
    have hjl : j < l.length := by
      rcases Nat.lt_or_ge j l.length with h' | h'
      · exact h'
      · rw [List.getElem?_eq_none h'] at hj; cases hj
    have hlt : j * k + i < (flatF f l).length := by
      rw [flatF_length hf]
      have : (j + 1) * k ≤ l.length * k := Nat.mul_le_mul_right k hjl
      rw [Nat.add_mul] at this; omega
    simp only [World.cell?, hh]
    rw [Nat.add_assoc, List.getElem?_toArray, mid_get _ _ _ _ hlt, flatF_get hf l j x hj i hi, hv]
    rfl
theorem OwnF.offF {w : World} {B : Nat} {v : Value} {l : List α} (h : OwnF f k T w B v l) : OffF f k T w v l := by
  rcases h.2 with ⟨e, h0⟩ | ⟨g, cap, cur, e, _, hh, hn, hm, hsz, htk⟩
  · exact .inl ⟨e, List.length_eq_zero_iff.1 h0⟩
  · refine .inr ⟨g, [], cur.toList.drop (l.length * k), cap, e, ?_, ?_, hn, hm⟩
    · rw [hh, List.nil_append, ← htk, List.take_append_drop]
    · rw [List.length_drop, Array.length_toList, hsz, Nat.sub_mul]
/-- What an append's law leaves in the block. -/
theorem seg_put {γ : Type} (pre xs ys post : List γ) : (pre ++ xs ++ post).take (pre.length + xs.length) ++ ys ++ (pre ++ xs ++ post).drop (pre.length + xs.length + ys.length) = pre ++ (xs ++ ys) ++ post.drop ys.length := by
  have e1 : (pre ++ xs ++ post).take (pre.length + xs.length) = pre ++ xs := by
    rw [List.take_append_of_le_length (by simp), List.take_of_length_le (by simp)]
  have e2 : (pre ++ xs ++ post).drop (pre.length + xs.length + ys.length) = post.drop ys.length := by
    rw [List.drop_append, List.drop_eq_nil_of_le (by simp), List.nil_append]
    congr 1
    simp
  rw [e1, e2]
  simp [List.append_assoc]
/-- 'append' with room, the row anywhere in its block. -/
theorem run_append_off {P : Program} {S : TypeId} {by_ : Nat} (hK : Kind P S T k by_) (hf : Lay f k) {w : World} {g n cap : Nat} {pre post : List Value} {l ys : List α} (hh : w.heap[g]? = some (.cells (pre ++ flatF f l ++ post).toArray T)) (hn : l.length = n)
    (a : Addr) (m c : Nat) (hm : ys.length = m) (hy : ∀ j u, (flatF f ys)[j]? = some u → w.cell? (a.add j) = some u) (hroom : n + m ≤ cap) (hfit : (flatF f ys).length ≤ post.length) (ty : TypeId) :
    (Builtin.append_ #[S, S] ty #[.slice (some ⟨g, pre.length, none⟩) n cap, .slice (some a) m c]).run P w = .ok (.slice (some ⟨g, pre.length, none⟩) (n + m) cap) (w.setRow g (pre ++ flatF f (l ++ ys) ++ post.drop (flatF f ys).length).toArray) := by
  obtain ⟨i, z, hi, hz, hsz, hby, hzc⟩ := hK.info
  have hl : (flatF f ys).length = m * i.size := by rw [flatF_length hf, hm, hsz]
  have hfc := run_firstCells_some (P := P) w i.size m a m c (flatF f ys) hl hy
  have hst := run_storeCells_at P g (pre.length + n * i.size) T (flatF f ys) 0 _ w hh (by
    have := flatF_length hf l
    simp only [List.size_toArray, List.length_append, Nat.add_zero]
    rw [hsz, ← hn, ← this]; omega) (flatF_one hf ys)
  simp only [Nat.add_zero] at hst
  have e1 : n * i.size = (flatF f l).length := by rw [flatF_length hf, hn, hsz]
  rw [e1, seg_put] at hst
  rw [flatF_append]
  simp [Builtin.append_, run_underlying hK.under, sizeOf, typeInfo, hi, Builtin.lenOf, hroom, hfc, Addr.add_lit, hst, e1]
end
end Go.Proofs.Ytedbfmbglbfmcaa
