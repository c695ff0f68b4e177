import Derived.Test.YtkdhcokefnffaaaDoorMaO
import Derived.Laws.IdiomStrings
/-! Bytes as a string; the sentences' own fixed; MsgNames. -/
namespace Go.Proofs.YtkdhcokefnffaaaDoor
open Go.RowKit Go.Lib Sp
set_option maxRecDepth 100000

def strB (l : List Nat) : ByteArray := ⟨(l.map UInt8.ofNat).toArray⟩
theorem conv_bytes {W : World} {a : Option Addr} {n cap : Nat} {l : List Nat} (h : Rw byV 1 W a n cap l) (h0 : 0 < n) (hb : ∀ x ∈ l, x < 256) : (convert 39 9 (.slice a n cap)).run Tryd.prog W = .ok (.string (strB l)) W := by
  obtain ⟨g, off, rfl, hg, hc⟩ := h.cells h0
  have hl := h.len
  have := run_convert_bytes_back (P := Tryd.prog) W 39 9 5 ⟨g, off, none⟩ cap (l.map UInt8.ofNat) Tryd.underlying39 Tryd.underlying5 Tryd.underlying9 (fun j hj => by
    rw [List.length_map] at hj
    have hx : l[j]? = some l[j] := List.getElem?_eq_getElem hj
    have h1 := hc j _ hx 0 _ rfl
    have h2 := hb _ (List.getElem_mem hj)
    rw [addr_add']
    simp only [Nat.mul_one, Nat.add_zero] at h1
    rw [h1, List.getElem_map, UInt8.toNat_ofNat']
    congr 2
    omega)
  rw [List.length_map, hl] at this
  exact this
theorem encF_byte : ∀ f n x, x ∈ encF f n → x < 256
  | 0, _, x, h => by simp [encF] at h
  | f + 1, n, x, h => by
    rw [encF] at h
    split at h
    · simp at h; omega
    · simp only [List.mem_cons] at h
      rcases h with rfl | h
      · omega
      · exact encF_byte f _ x h
theorem encL_byte (ns : List Nat) : ∀ x ∈ encL ns, x < 256 := fun x hx => by
  obtain ⟨n, _, h⟩ := List.mem_flatMap.1 hx
  exact encF_byte _ _ _ h

set_option maxHeartbeats 4000000 in
theorem fixed_any (w : World) : Calls Tryd.prog 6 #[] w fun e w' => e = .returned (.bool true) ∧ Below w.heap.size w w' := by
  have HE := encode_ok w 5 130 (by omega) (by omega)
  go_enter Tryd.func6, Tryd.ntmps6
  go_wp2_with fail
  refine HE.mono ?_
  rintro e w1 ⟨v1, rfl, ho, hb⟩
  have hE : encL [1, 5, 130] = [1, 5, 130, 1] := by decide
  rw [hE] at ho
  obtain ⟨a, cap, hv⟩ := ho.shape
  have hv' : v1 = .slice a 4 cap := hv
  subst hv'
  have hr := ho.rw_ layB
  obtain ⟨wb, hwb⟩ : ∃ W, w1.alloc (.cells #[.int .u8 1, .int .u8 5, .int .u8 130, .int .u8 1] 5) = W := ⟨_, rfl⟩
  have hbb : Below w1.heap.size w1 wb := hwb ▸ (Below.refl _ _).alloc (Nat.le_refl _) _
  have hs : wb.heap.size = w1.heap.size + 1 := by rw [← hwb]; simp
  have hl : Rw byV 1 wb (some ⟨w1.heap.size, 0, none⟩) 4 4 [1, 5, 130, 1] := rw_block (T := 5) (hwb ▸ heap_alloc_new _ _) layB rfl (by simp [maxLen])
  have HD := decode_hello hl (fun g e => by cases e; simp only; omega) (by simp) 1 (by rfl)
  rw [show helloP 4 1 [1, 5, 130, 1] = .ok 5 130 from by rfl] at HD
  have HB : Hid (Below w.heap.size w w1 ∧ Below w1.heap.size w1 wb ∧ Rw byV 1 w1 a 4 cap [1, 5, 130, 1] ∧ wb.heap.size = w1.heap.size + 1) := ⟨hb, hbb, hr, hs⟩
  clear HE ho hb hE hr hbb hs hl hv
  go_wp2_with fail
  refine HD.mono ?_
  rintro e w2 ⟨rfl, hb2⟩
  clear HD
  unfold helV
  obtain ⟨hb, hbb, hr, hs⟩ := HB.out
  have hb3 : Below w2.heap.size w2 (w2.alloc (.cells #[.int .i64 1, .int .i64 5, .int .i64 130, .int .i64 0, .int .i64 0, .int .i64 0, .int .i64 0, .int .i64 0, .string ⟨#[]⟩, .slice none 0 0, .int .i64 0, .int .i64 0, .bool false] 37)) := (Below.refl _ _).alloc (Nat.le_refl _) _
  have hs2 := hb2.size
  have HC : Hid (Below w.heap.size w (w2.alloc (.cells #[.int .i64 1, .int .i64 5, .int .i64 130, .int .i64 0, .int .i64 0, .int .i64 0, .int .i64 0, .int .i64 0, .string ⟨#[]⟩, .slice none 0 0, .int .i64 0, .int .i64 0, .bool false] 37))) := hb.trans ((hbb.mono hb.size).trans ((hb2.mono (by have := hb.size; omega)).trans (hb3.mono (by have := hb.size; omega))))
  have hcv := conv_bytes ((hr.below (hbb.trans ((hb2.mono (by omega))))).below hb3) (by omega) (by simp)
  clear hwb HB hb hbb hr hs hb2 hb3 hs2
  have hq : ((strB [1, 5, 130, 1]).toList == [1, 5, 130, 1]) = true := by
    rw [ByteArray.toList_eq]
    decide
  go_wp2_with fail
  go_ret
  exact ⟨rfl, HC.out⟩

theorem msgNames_any (w : World) : Calls Tryd.prog 3 #[] w fun e w' => e = .returned (.bool true) ∧ Below w.heap.size w w' := by
  have HF := fixed_any w
  go_enter Tryd.func3, Tryd.ntmps3
  go_wp2_with fail
  refine HF.mono ?_
  rintro e w1 ⟨rfl, hb⟩
  clear HF
  go_wp2_with fail
  go_ret
  exact ⟨rfl, hb⟩
end Go.Proofs.YtkdhcokefnffaaaDoor
