import Derived.Test.YtokclnjaglklhaaDoorRpL
namespace Go.Proofs.YtokclnjaglklhaaDoor
open Go.RowKit Go.Lib
set_option maxRecDepth 100000

/-- A tree in the world, all of whose blocks are of D. -/
def AtD (w : World) (D : Nat → Prop) : Tr → Nat → Prop
  | .nil, g => D g ∧ NodeAt w g Tr.nil.sm (.slice none 0 0) (.pointer none) (.pointer none) 0
  | .leaf rs h st, g => D g ∧ ∃ a cap, NodeAt w g (Tr.leaf rs h st).sm (.slice a rs.length cap) (.pointer none) (.pointer none) st ∧ RwN w a rs.length cap rs ∧ (0 < rs.length → ∀ gr off, a = some ⟨gr, off, none⟩ → D gr)
  | .node l r st, g => D g ∧ ∃ gl gr, NodeAt w g (Tr.node l r st).sm (.slice none 0 0) (.pointer (some ⟨gl, 0, none⟩)) (.pointer (some ⟨gr, 0, none⟩)) st ∧ AtD w D l gl ∧ AtD w D r gr
theorem AtD.at {w : World} {D : Nat → Prop} : ∀ {t : Tr} {g : Nat}, AtD w D t g → At w t g
  | .nil, _, h => h.2
  | .leaf _ _ _, _, ⟨_, a, cap, h1, h2, _⟩ => ⟨a, cap, h1, h2⟩
  | .node _ _ _, _, ⟨_, gl, gr, h1, h2, h3⟩ => ⟨gl, gr, h1, AtD.at h2, AtD.at h3⟩
theorem At.d {w : World} : ∀ {t : Tr} {g : Nat}, At w t g → AtD w (fun b => b < w.heap.size) t g
  | .nil, _, h => ⟨NodeAt.lt h, h⟩
  | .leaf rs _ _, _, ⟨a, cap, h1, h2⟩ => ⟨h1.lt, a, cap, h1, h2, fun h0 gr off e => by
      obtain ⟨g', off', e', hg, _⟩ := h2.rw_.cells h0
      rw [e] at e'
      cases e'
      exact hg⟩
  | .node _ _ _, _, ⟨gl, gr, h1, h2, h3⟩ => ⟨h1.lt, gl, gr, h1, At.d h2, At.d h3⟩
theorem Rw.keep {α : Type} {f : α → List Value} {k : Nat} {w w' : World} {a : Option Addr} {n cap : Nat} {l : List α} (h : Rw f k w a n cap l) (hk : 0 < n → ∀ g off, a = some ⟨g, off, none⟩ → w'.heap[g]? = w.heap[g]?) (hs : w.heap.size ≤ w'.heap.size) : Rw f k w' a n cap l :=
  ⟨h.len, h.room, fun hn => by
    obtain ⟨g, off, ha, hg, hc⟩ := h.cells hn
    exact ⟨g, off, ha, by omega, fun j x hj i v hv => (World.cell?_of_block (w := w) (w' := w') (a := ⟨g, off + j * k + i, none⟩) (hk hn g off ha)).trans (hc j x hj i v hv)⟩⟩
theorem RwN.keep {w w' : World} {a : Option Addr} {n cap : Nat} {rs : List Int} (h : RwN w a n cap rs) (hk : 0 < n → ∀ g off, a = some ⟨g, off, none⟩ → w'.heap[g]? = w.heap[g]?) (hs : w.heap.size ≤ w'.heap.size) : RwN w' a n cap rs :=
  ⟨h.rw_.keep hk hs, fun h0 g off e => by
    obtain ⟨cs, fr, hh⟩ := h.typ h0 g off e
    exact ⟨cs, fr, (hk h0 g off e).trans hh⟩⟩
theorem AtD.keep {w w' : World} {D : Nat → Prop} (hk : ∀ b, D b → w'.heap[b]? = w.heap[b]?) (hs : w.heap.size ≤ w'.heap.size) : ∀ {t : Tr} {g : Nat}, AtD w D t g → AtD w' D t g
  | .nil, _, ⟨hd, h⟩ => ⟨hd, (hk _ hd).trans h⟩
  | .leaf _ _ _, _, ⟨hd, a, cap, h1, h2, h3⟩ => ⟨hd, a, cap, (hk _ hd).trans h1, h2.keep (fun h0 g off e => hk _ (h3 h0 g off e)) hs, h3⟩
  | .node _ _ _, _, ⟨hd, gl, gr, h1, h2, h3⟩ => ⟨hd, gl, gr, (hk _ hd).trans h1, AtD.keep hk hs h2, AtD.keep hk hs h3⟩
theorem AtD.mono {w : World} {D E : Nat → Prop} (hm : ∀ b, D b → E b) : ∀ {t : Tr} {g : Nat}, AtD w D t g → AtD w E t g
  | .nil, _, ⟨hd, h⟩ => ⟨hm _ hd, h⟩
  | .leaf _ _ _, _, ⟨hd, a, cap, h1, h2, h3⟩ => ⟨hm _ hd, a, cap, h1, h2, fun h0 g off e => hm _ (h3 h0 g off e)⟩
  | .node _ _ _, _, ⟨hd, gl, gr, h1, h2, h3⟩ => ⟨hm _ hd, gl, gr, h1, AtD.mono hm h2, AtD.mono hm h3⟩
/-- Trees at these blocks, all of D. -/
def AtsD (w : World) (D : Nat → Prop) (ts : List Tr) (gs : List Nat) : Prop := ts.length = gs.length ∧ ∀ (j : Nat) (t : Tr) (g : Nat), ts[j]? = some t → gs[j]? = some g → AtD w D t g
theorem AtsD.ats {w : World} {D : Nat → Prop} {ts : List Tr} {gs : List Nat} (h : AtsD w D ts gs) : Ats w ts gs := ⟨h.1, fun j t g h1 h2 => (h.2 j t g h1 h2).at⟩
theorem atsD_nil (w : World) (D : Nat → Prop) : AtsD w D [] [] := ⟨rfl, fun j t g h => by simp at h⟩
theorem AtsD.keep {w w' : World} {D : Nat → Prop} {ts : List Tr} {gs : List Nat} (h : AtsD w D ts gs) (hk : ∀ b, D b → w'.heap[b]? = w.heap[b]?) (hs : w.heap.size ≤ w'.heap.size) : AtsD w' D ts gs := ⟨h.1, fun j t g h1 h2 => (h.2 j t g h1 h2).keep hk hs⟩
theorem AtsD.mono {w : World} {D E : Nat → Prop} {ts : List Tr} {gs : List Nat} (h : AtsD w D ts gs) (hm : ∀ b, D b → E b) : AtsD w E ts gs := ⟨h.1, fun j t g h1 h2 => (h.2 j t g h1 h2).mono hm⟩
theorem AtsD.append {w : World} {D : Nat → Prop} {ts us : List Tr} {gs hs : List Nat} (h : AtsD w D ts gs) (k : AtsD w D us hs) : AtsD w D (ts ++ us) (gs ++ hs) := by
  have hl := h.1
  refine ⟨by simp [h.1, k.1], fun j t g h1 h2 => ?_⟩
  by_cases hj : j < ts.length
  · rw [List.getElem?_append_left hj] at h1
    rw [List.getElem?_append_left (by omega)] at h2
    exact h.2 j t g h1 h2
  · rw [List.getElem?_append_right (by omega)] at h1
    rw [List.getElem?_append_right (by omega), ← hl] at h2
    exact k.2 _ t g h1 h2
theorem AtsD.one {w : World} {D : Nat → Prop} {t : Tr} {g : Nat} (h : AtD w D t g) : AtsD w D [t] [g] := ⟨rfl, fun j t' g' h1 h2 => by
  match j, h1, h2 with
  | 0, h1, h2 => simp at h1 h2; subst h1; subst h2; exact h⟩
set_option maxHeartbeats 1000000 in
theorem piece_d {w : World} {a : Option Addr} {n cap : Nat} {rs : List Int} (h : RwN w a n cap rs) (hid : Int) (hn : n ≤ 2097152) (D : Nat → Prop) (hD : ∀ b, w.heap.size ≤ b → D b) (hDa : 0 < n → ∀ gr off, a = some ⟨gr, off, none⟩ → D gr) :
    Calls Tryd.prog 33 #[.slice a n cap, .int .i64 hid] w fun e w' => ∃ g, e = .returned (ptr g) ∧ AtD w' D (mkPiece rs hid) g ∧ Below w.heap.size w w' := by
  have hlen := h.rw_.len
  unfold ptr
  by_cases h0 : n = 0
  · subst h0
    obtain rfl : rs = [] := List.eq_nil_of_length_eq_zero hlen
    rw [mkPiece_nil]
    go_enter Tryd.func33, Tryd.ntmps33
    go_wp2_with fail
    go_ret
    exact ⟨w.heap.size, rfl, ⟨hD _ (Nat.le_refl _), heap_alloc_new _ _⟩, (Below.refl _ _).alloc (Nat.le_refl _) _⟩
  · have hz : ((n : Int) == 0) = false := by rw [beq_eq_false_iff_ne]; omega
    have hne : rs ≠ [] := by intro e; rw [e] at hlen; simp at hlen; omega
    rw [mkPiece_leaf hid hne]
    have HRW : Hid (RwN w a n cap rs) := h
    have HL : Hid (rs.length = n) := hlen
    clear h0 h hlen
    go_enter Tryd.func33, Tryd.ntmps33
    go_wp2_with fail
    go_ret
    have hB : Below w.heap.size w ((w.alloc (.cells #[.int .i64 (n : Int), .int .i64 hid] 63)).alloc (.cells (nodeCells (pieceSm n hid) (.slice a n cap) (.pointer none) (.pointer none) 0) 68)) := ((Below.refl _ _).alloc (Nat.le_refl _) _).alloc (by simp) _
    refine ⟨w.heap.size + 1, rfl, ⟨hD _ (by omega), a, cap, ?_, ?_, ?_⟩, hB⟩
    · rw [HL.out]
      simp only [Tr.sm]
      rw [HL.out]
      have := heap_alloc_new (w.alloc (.cells #[.int .i64 (n : Int), .int .i64 hid] 63)) (.cells (nodeCells (pieceSm n hid) (.slice a n cap) (.pointer none) (.pointer none) 0) 68)
      simp only [World.size_alloc] at this
      exact this
    · rw [HL.out]
      exact HRW.out.below hB
    · rw [HL.out]
      exact hDa
section
variable {α β : Type} {f : α → List Value} {k : Nat} {T : TypeId} {f2 : β → List Value} {k2 : Nat} {T2 : TypeId}
theorem own_apart {w : World} {B B2 : Nat} {v v2 : Value} {l : List α} {l2 : List β} (h : OwnF f k T w B v l) (h2 : OwnF f2 k2 T2 w B2 v2 l2) (hT : T ≠ T2) : ∀ g, v.ownBlock = some g → v2.ownBlock ≠ some g := by
  intro g e e2
  rcases h.2 with ⟨rfl, _⟩ | ⟨g', cap, cur, rfl, h1, hh, rest⟩
  · simp [Value.ownBlock] at e
  · rcases h2.2 with ⟨rfl, _⟩ | ⟨g2, cap2, cur2, rfl, h12, hh2, rest2⟩
    · simp [Value.ownBlock] at e2
    · simp only [Value.ownBlock, Option.some.injEq] at e e2
      subst e
      subst e2
      rw [hh] at hh2
      simp at hh2
      exact hT hh2.2
end
/-- How a text's runes are cut. -/
structure Chunks (rs : List Int) (h : Int) (ts : List Tr) : Prop where
  cut : ∃ F cur, (∀ x ∈ F, x.length = 32) ∧ cur ≠ [] ∧ cur.length ≤ 32 ∧ F.flatten ++ cur = rs ∧ ts = (F ++ [cur]).map fun x => Tr.leaf x h 0
theorem Chunks.each {rs : List Int} {h : Int} {ts : List Tr} (hc : Chunks rs h ts) (hl : 0 ≤ h ∧ h ≤ 1048576) : ∀ t ∈ ts, t.isLeaf ∧ t.Bd := by
  obtain ⟨F, cur, hF, hne, _, _, rfl⟩ := hc.cut
  intro t ht
  obtain ⟨x, hx, rfl⟩ := List.mem_map.1 ht
  have hb : Lim h := by unfold Lim; omega
  refine ⟨?_, hb, by rw [Int.sub_zero]; exact hb⟩
  show x ≠ []
  rcases List.mem_append.1 hx with hx | hx
  · intro e; have := hF x hx; rw [e] at this; simp at this
  · simp at hx; subst hx; exact hne
theorem lvs_leaves (F : List (List Int)) (h : Int) : lvs (F.map fun x => Tr.leaf x h 0) = F.map fun x => (x, h) := by
  induction F with
  | nil => rfl
  | cons x t ih => simp only [lvs, List.map_cons, List.flatMap_cons, Tr.lv] at ih ⊢; rw [ih]; rfl
theorem rowOf_flat (F : List (List Int)) (h : Int) : rowOf (F.map fun x => (x, h)) = F.flatten.map fun c => (c, h) := by
  induction F with
  | nil => rfl
  | cons x t ih => simp only [rowOf, List.map_cons, List.flatMap_cons, List.flatten_cons, List.map_append] at ih ⊢; rw [ih]
theorem Chunks.row {rs : List Int} {h : Int} {ts : List Tr} (hc : Chunks rs h ts) : rowOf (lvs ts) = rs.map fun c => (c, h) := by
  obtain ⟨F, cur, hF, hne, _, hfl, rfl⟩ := hc.cut
  rw [lvs_leaves, rowOf_flat, List.flatten_append]
  simp only [List.flatten_cons, List.flatten_nil, List.append_nil]
  rw [hfl]
theorem flatten_ge : ∀ (F : List (List Int)), (∀ x ∈ F, x.length = 32) → F.length ≤ F.flatten.length
  | [], _ => by simp
  | x :: t, hF => by
    have h1 := hF x (by simp)
    have h2 := flatten_ge t (fun y hy => hF y (by simp [hy]))
    simp only [List.flatten_cons, List.length_append, List.length_cons]
    omega
theorem Chunks.len {rs : List Int} {h : Int} {ts : List Tr} (hc : Chunks rs h ts) : ts.length ≤ rs.length ∧ 0 < ts.length := by
  obtain ⟨F, cur, hF, hne, _, hfl, rfl⟩ := hc.cut
  have := flatten_ge F hF
  have hp : 0 < cur.length := List.length_pos_iff.2 hne
  rw [← hfl]
  simp only [List.length_map, List.length_append, List.length_cons, List.length_nil]
  omega
end Go.Proofs.YtokclnjaglklhaaDoor
