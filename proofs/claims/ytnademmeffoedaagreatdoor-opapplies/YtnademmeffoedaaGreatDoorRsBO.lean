import Derived.Test.YtnademmeffoedaaGreatDoorRqMN
import Derived.Test.YtnademmeffoedaaGreatDoorRpPR
import Derived.Test.YtnademmeffoedaaGreatDoorRrAC
namespace Go.Proofs.YtnademmeffoedaaGreatDoor
set_option maxRecDepth 100000
abbrev RunSt := List (List Int × Int) × List Int × Int
def cst (s : RunSt) (c : Int × Int) : RunSt := if s.2.1 ≠ [] ∧ c.2 ≠ s.2.2 then (s.1 ++ [(s.2.1, s.2.2)], [c.1], c.2) else (s.1, s.2.1 ++ [c.1], c.2)
def cstR (R : List (Int × Int)) : RunSt := R.foldl cst ([], [], 0)
def runsOfRow (R : List (Int × Int)) : List (List Int × Int) := if (cstR R).2.1 = [] then (cstR R).1 else (cstR R).1 ++ [((cstR R).2.1, (cstR R).2.2)]
def stp (s : RunSt) (y : Int × List Int × Int) : RunSt := if 0 < y.1 ∧ y.2.2 ≠ s.2.2 then (s.1 ++ [(s.2.1, s.2.2)], y.2.1, y.2.2) else (s.1, s.2.1 ++ y.2.1, y.2.2)
theorem cst_same (h : Int) : ∀ (rs : List Int) (D : List (List Int × Int)) (cur : List Int), cur ≠ [] → (rs.map fun c => (c, h)).foldl cst (D, cur, h) = (D, cur ++ rs, h)
  | [], D, cur, _ => by simp
  | r :: rs, D, cur, hc => by
    have e : cst (D, cur, h) (r, h) = (D, cur ++ [r], h) := by unfold cst; rw [if_neg (by simp)]
    rw [List.map_cons, List.foldl_cons, e, cst_same h rs D (cur ++ [r]) (by simp)]
    simp
theorem cst_piece (s : RunSt) (rs : List Int) (h : Int) (hr : rs ≠ []) : (rs.map fun c => (c, h)).foldl cst s = if s.2.1 ≠ [] ∧ h ≠ s.2.2 then (s.1 ++ [(s.2.1, s.2.2)], rs, h) else (s.1, s.2.1 ++ rs, h) := by
  cases rs with
  | nil => exact absurd rfl hr
  | cons r rs =>
    rw [List.map_cons, List.foldl_cons]
    by_cases c : s.2.1 ≠ [] ∧ h ≠ s.2.2
    · have e : cst s (r, h) = (s.1 ++ [(s.2.1, s.2.2)], [r], h) := by unfold cst; rw [if_pos c]
      rw [e, if_pos c, cst_same h rs _ [r] (by simp)]
      simp
    · have e : cst s (r, h) = (s.1, s.2.1 ++ [r], h) := by unfold cst; rw [if_neg c]
      rw [e, if_neg c, cst_same h rs _ (s.2.1 ++ [r]) (by simp)]
      simp
def pls : List (List Int × Int) → Int → List (Int × List Int × Int)
  | [], _ => []
  | p :: t, f => (f, p.1, p.2) :: pls t (f + p.1.length)
theorem gv_whole : ∀ (l : List (List Int × Int)) (f hi : Int), (∀ p ∈ l, p.1 ≠ []) → 0 ≤ f → f + (rowOf l).length ≤ hi → gv l f 0 hi = pls l f
  | [], _, _, _, _, _ => rfl
  | p :: t, f, hi, hp, h0, h1 => by
    have e : ((rowOf (p :: t)).length : Int) = p.1.length + (rowOf t).length := by rw [rowOf_cons, List.length_append, List.length_map]; omega
    have hne := List.length_pos_iff.2 (hp p (by simp))
    rw [e] at h1
    simp only [gv, pls]
    rw [gv_whole t (f + p.1.length) hi (fun q hq => hp q (by simp [hq])) (by omega) (by omega)]
    have m1 : max 0 f = f := by omega
    have m2 : min hi (f + (p.1.length : Int)) = f + (p.1.length : Int) := by omega
    unfold one
    rw [m1, m2, if_pos (by omega)]
    have e2 : (f + (p.1.length : Int) - f).toNat = p.1.length := by omega
    have e3 : (f - f).toNat = 0 := by omega
    rw [e2, e3, List.take_length, List.drop_zero]
    rfl
theorem stp_cells : ∀ (l : List (List Int × Int)) (f : Int) (s : RunSt), (∀ p ∈ l, p.1 ≠ []) → 0 ≤ f → (0 < f ↔ s.2.1 ≠ []) → (pls l f).foldl stp s = (rowOf l).foldl cst s
  | [], _, _, _, _, _ => by simp [pls, rowOf]
  | p :: t, f, s, hp, h0, hf => by
    have hne := hp p (by simp)
    have hpos := List.length_pos_iff.2 hne
    have e : stp s (f, p.1, p.2) = (p.1.map fun c => (c, p.2)).foldl cst s := by
      rw [cst_piece s p.1 p.2 hne]
      unfold stp
      simp only [hf]
    rw [pls, List.foldl_cons, rowOf_cons, List.foldl_append, e]
    refine stp_cells t _ _ (fun q hq => hp q (by simp [hq])) (by omega) ?_
    rw [cst_piece s p.1 p.2 hne]
    refine ⟨fun _ => ?_, fun _ => by omega⟩
    split
    · exact hne
    · simp only
      intro e2
      exact hne (List.append_eq_nil_iff.1 e2).2
theorem runs_three (a b c : List Int) (h k m : Int) (ha : a ≠ []) (hb : b ≠ []) (hc : c ≠ []) (h1 : k ≠ h) (h2 : m ≠ k) :
    runsOfRow ((a.map fun x => (x, h)) ++ (b.map fun x => (x, k)) ++ (c.map fun x => (x, m))) = [(a, h), (b, k), (c, m)] := by
  have e : cstR ((a.map fun x => (x, h)) ++ (b.map fun x => (x, k)) ++ (c.map fun x => (x, m))) = ([(a, h), (b, k)], c, m) := by
    unfold cstR
    rw [List.foldl_append, List.foldl_append, cst_piece _ a h ha, if_neg (by simp), cst_piece _ b k hb, if_pos (by simp [ha, h1]), cst_piece _ c m hc, if_pos (by simp [hb, h2])]
    simp
  unfold runsOfRow
  rw [e]
  simp [hc]
end Go.Proofs.YtnademmeffoedaaGreatDoor

namespace Go.Proofs.YtnademmeffoedaaGreatDoor
open Go.RowKit Go.Lib
set_option maxRecDepth 100000
theorem isBuilderF_parts {B b : Nat} {bs : List Value} {w : World} (h : Lib.IsBuilderF 87 5 B b bs w) : B ≤ b ∧ ∃ p a cap, w.heap[b]? = some (.cells #[p, .slice a bs.length cap] 87 (0, 0)) ∧ w.ownsRowF B 5 1 (.slice a bs.length cap) bs.length bs := by
  have key : ∀ p, Lib.BuilderAtF 87 5 B b p bs w → B ≤ b ∧ ∃ p a cap, w.heap[b]? = some (.cells #[p, .slice a bs.length cap] 87 (0, 0)) ∧ w.ownsRowF B 5 1 (.slice a bs.length cap) bs.length bs := fun p ⟨hB, v, hb, ho, _⟩ => by
    rcases ho.2 with ⟨e, h0⟩ | ⟨g, cap, cur, fz, e, _⟩
    · subst e
      refine ⟨hB, p, none, 0, ?_, ?_⟩
      · rw [h0]; exact hb
      · rw [h0] at ho ⊢; exact ho
    · subst e
      exact ⟨hB, p, _, cap, hb, ho⟩
  rcases h with h | h
  · exact key _ h
  · exact key _ h
set_option maxHeartbeats 1000000 in
theorem builderLen_any {B b : Nat} {bs : List Value} {w : World} (h : Lib.IsBuilderF 87 5 B b bs w) :
    Calls Tryz.prog 34 #[.pointer (some ⟨b, 0, none⟩)] w fun e w' => e = .returned (.int .i64 (bs.length : Int)) ∧ w' = w := by
  obtain ⟨_, p, a, cap, hb, _⟩ := isBuilderF_parts h
  have c1 : w.cell? ⟨b, 1, none⟩ = some (.slice a bs.length cap) := by rw [Lib.cell_of_heap hb]; rfl
  clear h hb
  go_enter Tryz.func34, Tryz.ntmps34
  go_wp2_with fail
  go_ret
  exact ⟨rfl, rfl⟩
theorem two_getF {w : World} {b : Nat} {u v x y : Value} {T : TypeId} {fz : Nat × Nat} (h : w.heap[b]? = some (.cells #[x, y] T fz)) : ((w.setCell ⟨b, 0, none⟩ u).setCell ⟨b, 1, none⟩ v).heap[b]? = some (.cells #[u, v] T fz) := by
  simp only [World.setCell, Array.getElem?_modify, h, if_true, Option.map_some]
  rfl
set_option maxHeartbeats 1000000 in
theorem builderReset_any {B b : Nat} {bs : List Value} {w : World} (h : Lib.IsBuilderF 87 5 B b bs w) :
    Calls Tryz.prog 32 #[.pointer (some ⟨b, 0, none⟩)] w fun e w' => (∃ v, e = .returned v) ∧ Lib.IsBuilderF 87 5 B b [] w' ∧ Below B w w' ∧ Lib.OthersKept 5 (some b) w w' := by
  obtain ⟨hB, p, a, cap, hb, _⟩ := isBuilderF_parts h
  have c0 : w.cell? ⟨b, 0, none⟩ = some p := by rw [Lib.cell_of_heap hb]; rfl
  have c1 : w.cell? ⟨b, 1, none⟩ = some (.slice a bs.length cap) := by rw [Lib.cell_of_heap hb]; rfl
  have f0 : w.frozen? ⟨b, 0, none⟩ = false := Lib.frozen_of_heap hb 0
  have f1 : w.frozen? ⟨b, 1, none⟩ = false := Lib.frozen_of_heap hb 1
  have hg := two_getF (u := .pointer none) (v := .slice none 0 0) hb
  have hb2 : Below B w ((w.setCell ⟨b, 0, none⟩ (.pointer none)).setCell ⟨b, 1, none⟩ (.slice none 0 0)) := ((Below.refl B w).setCell (p := ⟨b, 0, none⟩) hB _).setCell (p := ⟨b, 1, none⟩) hB _
  have ho2 : Lib.OthersKept 5 (some b) w ((w.setCell ⟨b, 0, none⟩ (.pointer none)).setCell ⟨b, 1, none⟩ (.slice none 0 0)) := ((Lib.OthersKept.refl _ _ w).setCell ⟨b, 0, none⟩ rfl _).setCell ⟨b, 1, none⟩ rfl _
  clear h hb
  go_enter Tryz.func32, Tryz.ntmps32
  go_wp2_with fail
  go_end0
  exact ⟨⟨_, rfl⟩, .inl ⟨hB, _, hg, World.ownsRowF_nil _ _ _ _, by simp [Value.ownBlock]⟩, hb2, ho2⟩
end Go.Proofs.YtnademmeffoedaaGreatDoor
