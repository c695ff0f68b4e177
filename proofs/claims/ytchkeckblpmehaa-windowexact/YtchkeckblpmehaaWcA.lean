import Derived.Test.YtchkeckblpmehaaWaB
import Derived.Test.YtchkeckblpmehaaLayK
/-! A window's map as the shelf sees it; numbers in a row; how many things fit. -/
namespace Go.Proofs.Ytchkeckblpmehaa
open Go.RowKit Go.Lib Go.Maps Go.Sort Go.Shelf
set_option maxRecDepth 100000

def intV (x : Int) : List Value := [.int .i64 x]
theorem layI : Lay intV 1 := ⟨fun _ => rfl, by decide, fun x u hu => by simp [intV] at hu; subst hu; rfl⟩
theorem flatI (l : List Int) : flatF intV l = l.map encZ := by
  induction l with
  | nil => rfl
  | cons x t ih =>
    simp only [flatF, List.flatMap_cons, intV, List.map_cons] at ih ⊢
    rw [ih]; rfl
/-- The numbers that are held, rising. -/
def srt {α : Type} (L : List (Int × α)) : List Int := (L.map (·.1)).mergeSort (fun x y => decide (x ≤ y))
theorem srt_length {α : Type} (L : List (Int × α)) : (srt L).length = L.length := by simp [srt]
/-- Numbers of a stretch, each once, are no more than the stretch is long. -/
theorem few (a : Int) : ∀ (k : Nat) (l : List Int), l.Nodup → (∀ x ∈ l, a ≤ x ∧ x < a + k) → l.length ≤ k
  | 0, l, _, h => by
    cases l with
    | nil => simp
    | cons x t => have := h x (by simp); omega
  | k + 1, l, hd, h => by
    have h1 := few a k (l.erase (a + k)) (hd.erase _) (fun x hx => by
      have h2 := (hd.mem_erase_iff).1 hx
      have h3 := h x h2.2
      have h4 := h2.1
      omega)
    have h5 := List.length_erase (a := a + (k : Int)) (l := l)
    split at h5 <;> omega
theorem win_few {α : Type} {f : α → Value} {T : TypeId} {W : World} {q b : Nat} {S : Wn α} (h : WinAt f T W q b S) : S.L.length ≤ 1048576 := by
  have h1 := h.sz1
  have h2 := h.szm
  have := few S.nx S.sz.toNat (S.L.map (·.1)) h.nodup (fun x hx => by
    obtain ⟨p, hp, rfl⟩ := List.mem_map.1 hx
    have := h.rng p hp
    omega)
  rw [List.length_map] at this
  omega
def Rn : Value → Option (DataW Unit × List MemPlace) := fun _ => some (.nil, [])
theorem win_owns {α : Type} {f : α → Value} {T : TypeId} {W : World} {q b : Nat} {S : Wn α} (h : WinAt f T W q b S) (hb : S.nx ≤ 4611686018427387904) :
    ∃ D : DataW Unit, W.ownsMap Try.prog 3 Rn b 1048576 D ∧ (intKeys D).Perm (S.L.map (·.1)) ∧ Maps.size D ≤ 1048576 := by
  obtain ⟨xs, ck, hm, hp⟩ := h.map
  have hl := win_few h
  rw [← hp] at hl
  have hlx : xs.length ≤ 1048576 := by simpa [prs] using hl
  have hrd : ∀ x ∈ xs, WideElems.rd Try.prog 3 Rn (mkE f x) = some (.int .i64 x.n, .nil) := fun x hx => by
    have h1 := h.rng (x.n, x.v) (by rw [← hp]; exact List.mem_map.2 ⟨x, hx, rfl⟩)
    have h0 := h.nx0
    have hz := h.szm
    simp only at h1
    have hw : (Lit.int IntKind.i64 x.n).wf = true := by
      simp only [Lit.wf, Bool.and_eq_true, decide_eq_true_eq]
      have e1 : IntKind.i64.min = -9223372036854775808 := rfl
      have e2 : IntKind.i64.max = 9223372036854775807 := rfl
      rw [e1, e2]
      omega
    unfold WideElems.rd
    simp only [mkE]
    rw [Maps.keyOf_int_mk Try.underlying3 hw]
    rfl
  refine ⟨.map (((xs.map (mkE f)).toArray.toList.map (WideElems.rg Try.prog 3 Rn)).foldr DataW.insert []), ⟨_, ck, hm.heap, ⟨?_, ?_, ?_⟩, ?_, rfl⟩, ?_, ?_⟩
  · simp only [List.size_toArray, List.length_map, maxLen]; omega
  · rw [MapKept.stamped_iff]
    refine ⟨?_, ?_, ?_⟩
    · intro e he
      simp only [List.mem_map] at he
      obtain ⟨x, hx, rfl⟩ := he
      exact hm.lt x hx
    · have := hm.born
      simpa [List.map_map, Function.comp_def, mkE] using this
    · have := hm.nm
      rw [List.Nodup, List.pairwise_map] at this
      simp only [List.pairwise_map]
      exact this.imp (fun hne e => hne (by simpa [mkE] using e))
  · intro e he
    simp only [List.mem_map] at he
    obtain ⟨x, hx, rfl⟩ := he
    exact ⟨_, hrd x hx⟩
  · simp only [List.size_toArray, List.length_map]; exact hlx
  · show ((_ : List (Lit × DataW Unit)).map fun p => Go.intOf p.1).Perm _
    refine ((WideShapes.sorted_perm _).map _).trans ?_
    rw [← hp, prs_fst]
    have : ((xs.map (mkE f)).toArray.toList.map (WideElems.rg Try.prog 3 Rn)).map (fun p => Go.intOf p.1) = xs.map (·.n) := by
      simp only [List.map_map]
      refine List.map_congr_left fun x hx => ?_
      simp only [Function.comp_apply, WideElems.rg, hrd x hx, Option.getD_some, Go.intOf]
    rw [this]
  · show ((_ : List (Lit × DataW Unit)).length) ≤ _
    rw [length_sorted]
    simp only [List.length_map]
    exact hlx
theorem sortsA (m : Nat) : AnyZI.SortsIn Try.prog Try.sortedA_ren Fence.wide m :=
  ⟨fun blk off cap ss W hH hblk hsz => callsIn_wide.2 (AnyM.slices_Sort_int Try.sortA blk off cap ss W hH hblk hsz),
   fun p cap W => callsIn_wide.2 (AnyM.slices_Sort_int_none Try.sortA p cap W)⟩
end Go.Proofs.Ytchkeckblpmehaa
