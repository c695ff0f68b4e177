import Derived.Test.YtkfcbknkkoempaaDoorRrEJ
import Derived.Laws.MakeOwn
import Derived.Laws.BytesArg
/-! A slice of very many bytes, and its string. -/
namespace Go.Proofs.YtkfcbknkkoempaaDoor
open Go.RowKit Go.Lib
set_option maxRecDepth 100000

theorem make_big : ∃ mc : Array Value, mc.size = 1048575 ∧ ∀ W : World, (Instr.makeSlice 22 (.int .i64 1048575) (.int .i64 1048575)).run Tryd.prog W = .ok (.slice (some ⟨W.heap.size, 0, none⟩) 1048575 1048575) (W.alloc (.cells mc 5)) := by
  have hinfo : (Tryd.prog.info? 5).map (fun i => (i.zero, i.size, i.bytes)) = some (some (.int .u8 0), 1, 1) := by kernel_rfl
  obtain ⟨i, hi, he⟩ := Option.map_eq_some_iff.1 hinfo
  simp only [Prod.mk.injEq] at he
  obtain ⟨hz, hs, hb⟩ := he
  refine ⟨madeCells (Value.cells (.int .u8 0)) (1048575 * i.size), by rw [size_madeCells, hs], fun W => ?_⟩
  have := run_make (P := Tryd.prog) W 22 5 i (.int .u8 0) Tryd.underlying22 hi hz .i64 .i64 1048575 1048575 (by omega) (by omega) (by rw [hb]; omega) (by omega)
  exact this
theorem encs_rep (n : Nat) : encs (List.replicate n 97) = List.replicate n (97 : UInt8) := by
  induction n with
  | zero => rfl
  | succ n ih =>
    rw [List.replicate_succ, encs_cons, ih, List.replicate_succ]
    have : encB 97 = [97] := encB1 97 (by omega)
    rw [this]
    rfl
theorem okR_a : okR 97 := ⟨valid_of (by omega) (by omega) (by omega), by unfold okRune; rw [decide_eq_true_iff]; omega⟩
theorem isText_rep (n : Nat) : IsText (strOf (List.replicate n 97)) (List.replicate n 97) := ⟨by simp [strOf], fun r hr => by rw [List.eq_of_mem_replicate hr]; exact okR_a⟩
/-- bytes that are all an a, as a string -/
theorem conv_rep {W : World} {g : Nat} {cs : Array Value} {fr : Nat × Nat} (hg : W.heap[g]? = some (.cells cs 5 fr)) (n : Nat) (hc : ∀ j, j < n → cs[j]? = some (.int .u8 97)) :
    (convert 22 9 (.slice (some ⟨g, 0, none⟩) n n)).run Tryd.prog W = .ok (.string (strOf (List.replicate n 97))) W := by
  have := run_convert_bytes_back (P := Tryd.prog) W 22 9 5 ⟨g, 0, none⟩ n (List.replicate n (97 : UInt8)) Tryd.underlying22 Tryd.underlying5 Tryd.underlying9 (fun j hj => by
    rw [List.length_replicate] at hj
    rw [List.getElem_replicate, addr_add', Lib.cell_of_heap hg, Nat.zero_add]
    exact hc j hj)
  rw [List.length_replicate] at this
  rw [this]
  simp only [strOf, encs_rep]
end Go.Proofs.YtkfcbknkkoempaaDoor
