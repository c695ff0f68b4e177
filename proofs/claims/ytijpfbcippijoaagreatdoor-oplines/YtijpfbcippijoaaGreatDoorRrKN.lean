import Derived.Test.YtijpfbcippijoaaGreatDoorRrEJ
namespace Go.Proofs.YtijpfbcippijoaaGreatDoor
open Go.RowKit Go.Lib
set_option maxRecDepth 100000
theorem okR_x : okR 120 := ⟨valid_of (by decide) (by decide) (by decide), by decide⟩
theorem isText_x : IsText ⟨#[120]⟩ [120] := by
  have h := isText_nil.snoc okR_x
  have e : (⟨#[]⟩ : ByteArray) ++ Utf8.encode 120 = ⟨#[120]⟩ := by decide
  rw [e] at h
  exact h
theorem cellsOf_ok {L : List GRun} (h : ∀ x ∈ L, IsText x.s x.rs) : ∀ c ∈ cellsOf L, okR c.1 := fun c hc => by
  obtain ⟨x, hx, hc⟩ := List.mem_flatMap.1 hc
  obtain ⟨r, hr, rfl⟩ := List.mem_map.1 hc
  exact (h x hx).ok r hr
end Go.Proofs.YtijpfbcippijoaaGreatDoor

namespace Go.Proofs.YtijpfbcippijoaaGreatDoor
open Go.RowKit Go.Lib
set_option maxRecDepth 100000
end Go.Proofs.YtijpfbcippijoaaGreatDoor

namespace Go.Proofs.YtijpfbcippijoaaGreatDoor
open Go.RowKit Go.Lib
set_option maxRecDepth 100000
theorem vis_take_mono (l : List (Int × Int)) {i j : Nat} (h : i ≤ j) : vis (l.take i) ≤ vis (l.take j) := by
  have e : l.take j = l.take i ++ (l.take j).drop i := by
    conv => lhs; rw [← List.take_append_drop i (l.take j)]
    rw [List.take_take, Nat.min_eq_left h]
  rw [e, vis_append]
  omega
theorem place_at {l : List (Int × Int)} {i : Nat} {x : Int} (hx : l[i]? = some (x, 0)) : place l (vis (l.take i)) = i := by
  have hi := (List.getElem?_eq_some_iff.1 hx).1
  obtain ⟨h1, h2⟩ := place_ge l i (by omega)
  have h3 := vis_take_succ l i _ hx
  rw [if_pos rfl] at h3
  by_cases e : place l (vis (l.take i)) = i
  · exact e
  · have := vis_take_mono l (show i + 1 ≤ place l (vis (l.take i)) by omega)
    omega
theorem Holds.self {w2 : World} {q : Nat} {R : List (Int × Int)} {W : World} (h : Holds w2 q R W) : Holds W q R W := by
  obtain ⟨t, k1, k2, k3, k4⟩ := h
  exact ⟨t, k1, k2, k3, Below.refl _ _⟩
end Go.Proofs.YtijpfbcippijoaaGreatDoor

namespace Go.Proofs.YtijpfbcippijoaaGreatDoor
open Go.RowKit Go.Lib
set_option maxRecDepth 100000
section
variable {α : Type} {f : α → List Value} {k : Nat} {S T : TypeId} {by_ : Nat}
theorem appendF_all (hK : Kind Tryz.prog S T k by_) (hf : Lay f k) {w : World} {B : Nat} {v : Value} {l : List α} (h : OwnF f k T w B v l) (hB : B ≤ w.heap.size)
    {b : Option Addr} {m capb : Nat} {ys : List α} (hy : Rw f k w b m capb ys) (hs : (l.length + m) * by_ ≤ 140737488355328) (hs2 : l.length + m ≤ 1099511627776) (ty : TypeId) :
    ∃ a' cap' w', (Builtin.append_ #[S, S] ty #[v, .slice b m capb]).run Tryz.prog w = .ok (.slice a' (l.length + m) cap') w' ∧ OwnF f k T w' B (.slice a' (l.length + m) cap') (l ++ ys) ∧ Below B w w' ∧ Keeps w w' v := by
  by_cases hm : 0 < m
  · obtain ⟨g, cap', w', hr, ho, hb, hk, _⟩ := appendF hK hf h hB hy hm hs (by omega) ty
    exact ⟨_, cap', w', hr, ho, hb, hk⟩
  · obtain rfl : m = 0 := by omega
    obtain rfl : ys = [] := List.eq_nil_of_length_eq_zero hy.len
    obtain ⟨i, z, hi, hz, hsz, hby, _⟩ := hK.info
    obtain ⟨a', cap', rfl⟩ := h.shape
    refine ⟨a', cap', w, ?_, by rw [List.append_nil]; exact h, Below.refl _ _, fun _ _ _ => rfl⟩
    rcases h.2 with ⟨e, h0⟩ | ⟨g, cap, cur, e, _, _, hnc, _⟩
    · obtain rfl := List.eq_nil_of_length_eq_zero h0
      simp only [List.length_nil] at e ⊢
      cases e
      cases b <;> simp [Builtin.append_, run_underlying hK.under, sizeOf, typeInfo, hi, Builtin.lenOf, Builtin.firstCells, loadCells, loadCellsFrom]
    · cases e
      cases b <;> simp [Builtin.append_, run_underlying hK.under, sizeOf, typeInfo, hi, Builtin.lenOf, Builtin.firstCells, hnc, storeCells, loadCells, loadCellsFrom]
theorem cut_tail (hK : Kind Tryz.prog S T k by_) (he : Tryz.prog.elem S = T) {W0 : World} {a : Option Addr} {n cap : Nat} {l : List α} (h : Rw f k W0 a n cap l) (m : Nat) (hm : m ≤ n) :
    ∃ a' cap', (∀ W : World, (Instr.slice S (.slice a n cap) (some (.int .i64 (m : Int))) none none).run Tryz.prog W = .ok (.slice a' (n - m) cap') W) ∧ ∀ W, Rw f k W a n cap l → Rw f k W a' (n - m) cap' (l.drop m) := by
  have hl := h.len
  have hro := h.room
  by_cases e : n - m = 0
  · obtain ⟨i, z, hi, hz, hsz, hby, _⟩ := hK.info
    refine ⟨if cap = m then a else a.map (·.add (m * i.size)), cap - m, fun W => ?_, fun W _ => ⟨by rw [List.length_drop]; omega, ⟨by omega, by omega⟩, fun h0 => by omega⟩⟩
    have := run_slice_l (P := Tryz.prog) W S a n cap (by rw [he]; exact hK.under) .i64 (m : Int) (by omega) (by omega)
    rw [this, he]
    simp [sizeOf, typeInfo, hi, sliced]
  · obtain ⟨g, off, rfl, _⟩ := h.cells (by omega)
    exact ⟨_, _, fun W => cut_low hK he W g off n cap m hm (by omega), fun W hW => hW.drop m hm⟩
end
end Go.Proofs.YtijpfbcippijoaaGreatDoor
