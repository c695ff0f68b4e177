import Derived.Test.YtchkeckblpmehaaWxH
/-! A row of ints takes two more; it and the row from before go into a row of rows. -/
namespace Go.Proofs.Ytchkeckblpmehaa
open Go.RowKit Go.Lib
theorem rw_lit2 {α : Type} {f : α → List Value} {k : Nat} (hf : Lay f k) (w : World) (x y : α) (cs : Array Value) (hcs : f x ++ f y = cs.toList) (t : TypeId) : Rw f k (w.alloc (.cells cs t)) (some ⟨w.heap.size, 0, none⟩) 2 2 [x, y] := by
  refine ⟨rfl, ⟨Nat.le_refl _, by simp [maxLen]⟩, fun _ => ⟨w.heap.size, 0, rfl, by simp, fun j z hj i v hv => ?_⟩⟩
  have hh := heap_alloc_new w (.cells cs t)
  have hlx := hf.len x
  simp only [World.cell?, hh]
  have hc : cs[0 + j * k + i]? = (f x ++ f y)[0 + j * k + i]? := by rw [hcs]; simp
  rw [hc]
  match j, hj with
  | 0, hj =>
    simp at hj; subst hj
    have hi : i < (f x).length := (List.getElem?_eq_some_iff.1 hv).1
    rw [Nat.zero_mul, Nat.zero_add, List.getElem?_append_left (by simpa using hi)]
    simpa using hv
  | 1, hj =>
    simp at hj; subst hj
    rw [Nat.one_mul, Nat.zero_add, List.getElem?_append_right (by omega), hlx, Nat.add_sub_cancel_left]
    exact hv
  | j + 2, hj => simp at hj
theorem chg_keeps {B : Nat} {w w' : World} {v : Value} (hb : Below B w w') (hk : Keeps w w' v) : Chg (fun g => v.ownBlock = some g) w w' :=
  ⟨⟨hb.os, hb.tape, hb.output, hb.size, fun _ hk => absurd hk (Nat.not_lt_zero _)⟩, fun g hlt hne => hk g hlt hne⟩
theorem own_type {α β : Type} {f : α → List Value} {f' : β → List Value} {k k' : Nat} {T T' : TypeId} {w : World} {B B' : Nat} {v v' : Value} {l : List α} {l' : List β} (h : OwnF f k T w B v l) (h' : OwnF f' k' T' w B' v' l') (hT : T ≠ T') {g : Nat} (hg : v.ownBlock = some g) : v'.ownBlock ≠ some g := by
  intro hg'
  rcases h.2 with ⟨rfl, _⟩ | ⟨g1, cap, cur, rfl, _, hh, _⟩
  · simp [Value.ownBlock] at hg
  · rcases h'.2 with ⟨rfl, _⟩ | ⟨g2, cap', cur', rfl, _, hh', _⟩
    · simp [Value.ownBlock] at hg'
    · simp [Value.ownBlock] at hg hg'
      subst hg
      subst hg'
      rw [hh] at hh'
      simp only [Option.some.injEq, Obj.cells.injEq] at hh'
      exact hT hh'.2.1
theorem own_ne_box {α : Type} {f : α → List Value} {k : Nat} {T T' : TypeId} {w : World} {B q : Nat} {v : Value} {l : List α} {cs : Array Value} (h : OwnF f k T w B v l) (hq : w.heap[q]? = some (.cells cs T')) (hT : T ≠ T') : v.ownBlock ≠ some q := by
  intro hg
  rcases h.2 with ⟨rfl, _⟩ | ⟨g1, cap, cur, rfl, _, hh, _⟩
  · simp [Value.ownBlock] at hg
  · simp [Value.ownBlock] at hg
    subst hg
    rw [hq] at hh
    simp only [Option.some.injEq, Obj.cells.injEq] at hh
    exact hT hh.2.1.symm
def slV (x : Option Addr × Nat × Nat) : List Value := [.slice x.1 x.2.1 x.2.2]
theorem laySl : Lay slV 1 := ⟨fun _ => rfl, by decide, fun x u hu => by simp [slV] at hu; subst hu; rfl⟩
theorem ownF_congr {α β : Type} {f : α → List Value} {f' : β → List Value} {k : Nat} {T : TypeId} {w : World} {B : Nat} {v : Value} {l : List α} {l' : List β} (h : OwnF f k T w B v l) (hl : l.length = l'.length) (he : flatF f l = flatF f' l') : OwnF f' k T w B v l' := by
  unfold OwnF at h ⊢
  rw [← hl, ← he]
  exact h
theorem grow2 {w : World} {B C q : Nat} {a la : Option Addr} {n c i lc : Nat} {xs : List (Option Addr × Nat × Nat)} {l : List Int} {cs : Array Value} {mk : Int} (hx : OwnF slV 1 56 w B (.slice a n c) xs) (hl : OwnF intV 1 3 w C (.slice la i lc) l) (hq : w.heap[q]? = some (.cells cs 28))
    (hxn : xs.length = n) (hln : l.length = i) (hn : n ≤ 1073741824) (hi : i ≤ 1073741824) (hB : B ≤ w.heap.size) (hC : C ≤ w.heap.size) :
    ∃ g1 c1 Z2 g2 c2 Z4, (Builtin.append_ #[56, 56] 56 #[.slice la i lc, .slice (some ⟨w.heap.size, 0, none⟩) 2 2]).run Try.prog (w.alloc (.cells #[.int .i64 mk, .int .i64 mk] 3)) = .ok (.slice (some ⟨g1, 0, none⟩) (i + 2) c1) Z2 ∧
      (Builtin.append_ #[26, 26] 26 #[.slice a n c, .slice (some ⟨Z2.heap.size, 0, none⟩) 2 2]).run Try.prog (Z2.alloc (.cells #[.slice la i lc, .slice (some ⟨g1, 0, none⟩) (i + 2) c1] 56)) = .ok (.slice (some ⟨g2, 0, none⟩) (n + 2) c2) Z4 ∧
      (w.alloc (.cells #[.int .i64 mk, .int .i64 mk] 3)).heap[q]? = some (.cells cs 28) ∧ Z2.heap[q]? = some (.cells cs 28) ∧ (Z2.alloc (.cells #[.slice la i lc, .slice (some ⟨g1, 0, none⟩) (i + 2) c1] 56)).heap[q]? = some (.cells cs 28) ∧ Z4.heap[q]? = some (.cells cs 28) ∧
      OwnF slV 1 56 Z4 B (.slice (some ⟨g2, 0, none⟩) (n + 2) c2) (xs ++ [(la, i, lc), (some ⟨g1, 0, none⟩, i + 2, c1)]) ∧ OwnF intV 1 3 Z4 C (.slice la i lc) l ∧ OwnF intV 1 3 Z4 C (.slice (some ⟨g1, 0, none⟩) (i + 2) c1) (l ++ [mk, mk]) ∧
      Chg (fun g => (Value.slice a n c).ownBlock = some g ∨ (Value.slice la i lc).ownBlock = some g) w Z4 ∧ ((Value.slice la i lc).ownBlock = some g1 ∨ w.heap.size ≤ g1) ∧ ((Value.slice a n c).ownBlock = some g2 ∨ w.heap.size ≤ g2) := by
  have hT : (3 : TypeId) ≠ 56 := by decide
  have hT2 : (3 : TypeId) ≠ 28 := by decide
  have hT3 : (56 : TypeId) ≠ 28 := by decide
  obtain ⟨Z1, hZ1⟩ : ∃ Z1, w.alloc (.cells #[.int .i64 mk, .int .i64 mk] 3) = Z1 := ⟨_, rfl⟩
  have hb1 : Below w.heap.size w Z1 := by rw [← hZ1]; exact (Below.refl _ _).alloc (Nat.le_refl _) _
  have hs1 : Z1.heap.size = w.heap.size + 1 := by rw [← hZ1]; simp
  have hlit : Rw intV 1 Z1 (some ⟨w.heap.size, 0, none⟩) 2 2 [mk, mk] := by rw [← hZ1]; exact rw_lit2 layI w mk mk _ rfl _
  have hl1 := hl.below hb1
  have hx1 := hx.below hb1
  have hq1 : Z1.heap[q]? = some (.cells cs 28) := (hb1.block q (Array.getElem?_eq_some_iff.1 hq).1).trans hq
  obtain ⟨g1, c1, Z2, hr1, ho1, hp1, hb2, hk2, hat1⟩ := appendF_both kindNm layI hl1 (by omega) hlit (by omega) (by rw [hln]; omega) (by rw [hln]; omega) 56
  rw [hln] at hr1 ho1
  have hC2 := chg_keeps hb2 hk2
  have hx2 : OwnF slV 1 56 Z2 B (.slice a n c) xs := hx1.chgX hC2 (fun g hg e => own_type hl1 hx1 hT e hg)
  have hq2 : Z2.heap[q]? = some (.cells cs 28) := hC2.block hq1 (own_ne_box hl1 hq1 hT2)
  obtain ⟨Z3, hZ3⟩ : ∃ Z3, Z2.alloc (.cells #[.slice la i lc, .slice (some ⟨g1, 0, none⟩) (i + 2) c1] 56) = Z3 := ⟨_, rfl⟩
  have hb3 : Below Z2.heap.size Z2 Z3 := by rw [← hZ3]; exact (Below.refl _ _).alloc (Nat.le_refl _) _
  have hlit3 : Rw slV 1 Z3 (some ⟨Z2.heap.size, 0, none⟩) 2 2 [(la, i, lc), (some ⟨g1, 0, none⟩, i + 2, c1)] := by rw [← hZ3]; exact rw_lit2 laySl Z2 (la, i, lc) (some ⟨g1, 0, none⟩, i + 2, c1) _ rfl _
  have hx3 := hx2.below hb3
  have hq3 : Z3.heap[q]? = some (.cells cs 28) := (hb3.block q (Array.getElem?_eq_some_iff.1 hq2).1).trans hq2
  have s2 := hC2.size
  have s3 := hb3.size
  obtain ⟨g2, c2, Z4, hr2, ho2, hb4, hk4, hat2⟩ := appendF (f := slV) kindGot laySl hx3 (by omega) hlit3 (by omega) (by rw [hxn]; omega) (by rw [hxn]; omega) 26
  rw [hxn] at hr2 ho2
  have hC4 := chg_keeps hb4 hk4
  have hq4 : Z4.heap[q]? = some (.cells cs 28) := hC4.block hq3 (own_ne_box hx3 hq3 hT3)
  have hl3 := hp1.below hb3
  have ho3 := ho1.below hb3
  rw [hZ1]
  refine ⟨g1, c1, Z2, g2, c2, Z4, hr1, by rw [hZ3]; exact hr2, hq1, hq2, by rw [hZ3]; exact hq3, hq4, ho2, hl3.chgX hC4 (fun g hg e => own_type hl3 hx3 hT hg e), ho3.chgX hC4 (fun g hg e => own_type ho3 hx3 hT hg e), ?_, ?_, ?_⟩
  · exact (((Chg.of_below hb1).trans (hC2.mono fun g _ hg => .inr hg)).trans (Chg.of_below hb3)).trans (hC4.mono fun g _ hg => .inl hg)
  · rcases hat1 with e | e
    · exact .inl e
    · exact .inr (by omega)
  · rcases hat2 with e | e
    · exact .inl e
    · exact .inr (by omega)
end Go.Proofs.Ytchkeckblpmehaa
