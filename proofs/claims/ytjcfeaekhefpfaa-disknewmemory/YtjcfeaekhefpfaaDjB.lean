import Derived.Test.YtjcfeaekhefpfaaDaK
/-! The sentences' filled. -/
namespace Go.Proofs.Ytjcfeaekhefpfaa.Nm
open Go.RowKit Go.Lib
set_option maxRecDepth 100000
abbrev Sl := Option Addr × Nat × Nat
def slV (x : Sl) : List Value := [.slice x.1 x.2.1 x.2.2]
theorem laySl : Lay slV 1 := ⟨fun _ => rfl, by decide, fun x u hu => by simp [slV] at hu; subst hu; rfl⟩
theorem kindSl : Kind Try.prog 40 22 1 24 := kind_of Try.underlying40 (z := .slice none 0 0) (by kernel_rfl) rfl
def Sl.v (x : Sl) : Value := .slice x.1 x.2.1 x.2.2
def mkB (k : Nat) : UInt8 := UInt8.ofNat (200 + k)
theorem mkB_nat (k : Nat) (hk : k ≤ 55) : ((mkB k).toNat : Int) = 200 + (k : Int) := by
  unfold mkB
  rw [UInt8.toNat_ofNat']
  omega
theorem str_cat (a b : List UInt8) : (⟨a.toArray⟩ : ByteArray) ++ ⟨b.toArray⟩ = ⟨(a ++ b).toArray⟩ := by
  apply ByteArray.ext
  simp
theorem str_size (a : List UInt8) : (⟨a.toArray⟩ : ByteArray).size = a.length := by simp [ByteArray.size]
theorem str_bne (s : ByteArray) : (s != s) = false := by rw [bne, (MapKept.bytes_beq s s).2 rfl]; rfl
theorem str_beq (s : ByteArray) : (s == s) = true := (MapKept.bytes_beq s s).2 rfl
theorem box3 {W : World} {b : Nat} {T : TypeId} {v0 v1 v2 : Value} (h : W.heap[b]? = some (.cells #[v0, v1, v2] T)) : W.cell? ⟨b, 0, none⟩ = some v0 ∧ W.cell? ⟨b, 1, none⟩ = some v1 ∧ W.cell? ⟨b, 2, none⟩ = some v2 := by
  simp only [Lib.cell_of_heap h]
  exact ⟨rfl, rfl, rfl⟩
theorem flat_byU (l : List UInt8) : flatF byU l = l.map (fun b => Value.int .u8 (b.toNat : Int)) := by
  induction l with
  | nil => rfl
  | cons x l ih => simp [flatF, byU] at ih ⊢; exact ih
theorem own_setU {w : World} {B g n cap : Nat} {l : List UInt8} (h : OwnF byU 1 5 w B (.slice (some ⟨g, 0, none⟩) n cap) l) (i : Nat) (hi : i < n) (x : UInt8) :
    OwnF byU 1 5 (w.setCell ⟨g, i, none⟩ (.int .u8 (x.toNat : Int))) B (.slice (some ⟨g, 0, none⟩) n cap) (l.set i x) ∧ w.frozen? ⟨g, i, none⟩ = false := by
  rcases h.2 with ⟨e, _⟩ | ⟨g1, cap1, cur, e, hB, hh, hn, hm, hc, ht⟩
  · cases e
  · simp only [Value.slice.injEq, Option.some.injEq, Addr.mk.injEq, and_true] at e
    obtain ⟨rfl, rfl, rfl⟩ := e
    refine ⟨⟨by rw [flat_byU]; simp, .inr ⟨g, cap, _, by rw [List.length_set], hB, heap_setCell_cells hh i _, by rw [List.length_set]; exact hn, hm, by simpa using hc, ?_⟩⟩, Lib.frozen_of_heap hh i⟩
    rw [List.length_set, flat_byU, List.map_set, ← flat_byU, ← ht]
    simp [List.take_set]
theorem rw_lit2 {α : Type} {f : α → List Value} {k : Nat} (hf : Lay f k) (w : World) (x y : α) (cs : Array Value) (hcs : f x ++ f y = cs.toList) (t : TypeId) : Rw f k (w.alloc (.cells cs t)) (some ⟨w.heap.size, 0, none⟩) 2 2 [x, y] := by
  refine ⟨rfl, ⟨Nat.le_refl _, by simp [maxLen]⟩, fun _ => ⟨w.heap.size, 0, rfl, by simp, fun j z hj i v hv => ?_⟩⟩
  have hh := heap_alloc_new w (.cells cs t)
  have hlx := hf.len x
  simp only [World.cell?, hh]
  have hc : cs[0 + j * k + i]? = (f x ++ f y)[0 + j * k + i]? := by rw [hcs]; simp
  rw [hc]
  match j, hj with
  | 0, hj =>
    simp at hj; subst hj
    have hi : i < (f x).length := (List.getElem?_eq_some_iff.1 hv).1
    rw [Nat.zero_mul, Nat.zero_add, List.getElem?_append_left (by simpa using hi)]
    simpa using hv
  | 1, hj =>
    simp at hj; subst hj
    rw [Nat.one_mul, Nat.zero_add, List.getElem?_append_right (by omega), hlx, Nat.add_sub_cancel_left]
    exact hv
  | j + 2, hj => simp at hj
theorem own_addr {α : Type} {f : α → List Value} {k : Nat} {T : TypeId} {w : World} {B n c : Nat} {a : Option Addr} {l : List α} (h : OwnF f k T w B (.slice a n c) l) (hn : 0 < n) : ∃ g, a = some ⟨g, 0, none⟩ := by
  rcases h.2 with ⟨e, _⟩ | ⟨g, cap, cur, e, _⟩
  · simp only [Value.slice.injEq] at e
    omega
  · simp only [Value.slice.injEq] at e
    exact ⟨g, e.1⟩
theorem chg_keeps {B : Nat} {w w' : World} {v : Value} (hb : Below B w w') (hk : Keeps w w' v) : Chg (fun g => v.ownBlock = some g) w w' :=
  ⟨⟨hb.os, hb.tape, hb.output, hb.size, fun _ hk => absurd hk (Nat.not_lt_zero _)⟩, fun g hlt hne => hk g hlt hne⟩
theorem own_type {α β : Type} {f : α → List Value} {f' : β → List Value} {k k' : Nat} {T T' : TypeId} {w : World} {B B' : Nat} {v v' : Value} {l : List α} {l' : List β} (h : OwnF f k T w B v l) (h' : OwnF f' k' T' w B' v' l') (hT : T ≠ T') {g : Nat} (hg : v.ownBlock = some g) : v'.ownBlock ≠ some g := by
  intro hg'
  rcases h.2 with ⟨rfl, _⟩ | ⟨g1, cap, cur, rfl, _, hh, _⟩
  · simp [Value.ownBlock] at hg
  · rcases h'.2 with ⟨rfl, _⟩ | ⟨g2, cap', cur', rfl, _, hh', _⟩
    · simp [Value.ownBlock] at hg'
    · simp [Value.ownBlock] at hg hg'
      subst hg
      subst hg'
      rw [hh] at hh'
      simp only [Option.some.injEq, Obj.cells.injEq] at hh'
      exact hT hh'.2.1
theorem own_ne_box {α : Type} {f : α → List Value} {k : Nat} {T T' : TypeId} {w : World} {B q : Nat} {v : Value} {l : List α} {cs : Array Value} (h : OwnF f k T w B v l) (hq : w.heap[q]? = some (.cells cs T')) (hT : T ≠ T') : v.ownBlock ≠ some q := by
  intro hg
  rcases h.2 with ⟨rfl, _⟩ | ⟨g1, cap, cur, rfl, _, hh, _⟩
  · simp [Value.ownBlock] at hg
  · simp [Value.ownBlock] at hg
    subst hg
    rw [hq] at hh
    simp only [Option.some.injEq, Obj.cells.injEq] at hh
    exact hT hh.2.1.symm
theorem rep_step {α : Type} {l : List α} {i : Nat} (mk : α) (hi : i < l.length) : (List.replicate i mk ++ l.drop i).set i mk = List.replicate (i + 1) mk ++ l.drop (i + 1) := by
  have h1 : (l.drop i).set 0 mk = mk :: l.drop (i + 1) := by rw [List.drop_eq_getElem_cons hi]; rfl
  rw [List.set_append_right _ _ (by simp), List.length_replicate, Nat.sub_self, h1, List.replicate_succ', List.append_assoc]
  rfl
section
variable {α : Type} {f : α → List Value} {k : Nat} {T : TypeId}
theorem appendF_both {P : Program} {S : TypeId} {by_ : Nat} (hK : Kind P S T k by_) (hf : Lay f k) {w : World} {B : Nat} {v : Value} {l : List α} (h : OwnF f k T w B v l) (hB : B ≤ w.heap.size)
    {b : Option Addr} {m capb : Nat} {ys : List α} (hy : Rw f k w b m capb ys) (hm : 0 < m) (hs : (l.length + m) * by_ ≤ 140737488355328) (hs2 : l.length + m ≤ 9223372036854775807) (ty : TypeId) :
    ∃ g cap' w', (Builtin.append_ #[S, S] ty #[v, .slice b m capb]).run P w = .ok (.slice (some ⟨g, 0, none⟩) (l.length + m) cap') w' ∧ OwnF f k T w' B (.slice (some ⟨g, 0, none⟩) (l.length + m) cap') (l ++ ys) ∧ OwnF f k T w' B v l ∧ Below B w w' ∧ Keeps w w' v ∧ (v.ownBlock = some g ∨ g = w.heap.size) := by
  obtain ⟨g, cap', w', hr, ho, hb, hk, hat⟩ := appendF hK hf h hB hy hm hs hs2 ty
  refine ⟨g, cap', w', hr, ho, ?_, hb, hk, hat⟩
  obtain ⟨i, z, hi, hz, hsz, hby, hzc⟩ := hK.info
  obtain ⟨ga, off, rfl, hg, hc⟩ := hy.row hf hm
  have hl1 : (flatF f ys).length = m * k := by rw [flatF_length hf, hy.len]
  have h0 := h
  rcases h.2 with ⟨rfl, h1⟩ | ⟨g0, cap, cur, rfl, hBg, hh, hnc, hcm, hcs, htake⟩
  · have : l = [] := List.length_eq_zero_iff.1 h1
    subst this
    exact ownF_nil _ _
  · by_cases hroom : l.length + m ≤ cap
    · have hr2 := run_append_room (P := P) w S ty T i hK.under hi g0 l.length cap cur hh ⟨ga, off, none⟩ m capb (flatF f ys) (by rw [hsz]; exact hl1) hc (flatF_one hf ys) hroom (by rw [hsz, hl1, hcs, ← Nat.add_mul]; exact Nat.mul_le_mul_right _ hroom)
      rw [hr2] at hr
      cases hr
      rcases ho.2 with ⟨e, _⟩ | ⟨g1, cap1, cur1, e, hB1, hh1, hn1, hm1, hc1, ht1⟩
      · cases e
      · simp only [Value.slice.injEq, Option.some.injEq, Addr.mk.injEq, and_true] at e
        obtain ⟨rfl, _, rfl⟩ := e
        refine ⟨h0.1, .inr ⟨_, _, cur1, rfl, hB1, hh1, hnc, hcm, hc1, ?_⟩⟩
        have h2 : (flatF f l).length = l.length * k := flatF_length hf l
        have h3 := congrArg (List.take (l.length * k)) ht1
        have h4 : l.length * k ≤ (l ++ ys).length * k := by rw [List.length_append]; exact Nat.mul_le_mul_right _ (by omega)
        rw [List.take_take, Nat.min_eq_left h4, flatF_append, List.take_append_of_le_length (by omega), List.take_of_length_le (l := flatF f l) (by omega)] at h3
        exact h3
    · have hr2 := run_append_grow (P := P) w S ty T i z hK.under hi hz ⟨g0, 0, none⟩ l.length cap (flatF f l) (by rw [hsz]; exact h0.1) (h0.cells (g := g0) rfl) ⟨ga, off, none⟩ m capb (flatF f ys) (by rw [hsz]; exact hl1) hc (by omega) (by omega) (by rw [hby]; exact growslice_fits (by omega) hs)
      rw [hr2] at hr
      cases hr
      exact h0.below ((⟨rfl, rfl, rfl, Nat.le_refl _, fun _ _ => rfl⟩ : Below w.heap.size w w.drew).alloc (Nat.le_refl _) _)
end
end Go.Proofs.Ytjcfeaekhefpfaa.Nm
