import Derived.Test.YtmeciikfnbbllaaGreatDoorXbG
import Derived.Test.YtmeciikfnbbllaaGreatDoorXaC
namespace Go.Proofs.YtmeciikfnbbllaaGreatDoor
open Go.RowKit Go.Lib
set_option maxRecDepth 100000
set_option maxHeartbeats 4000000 in
theorem apart_any {o : OpV} {er : Int} {w : World} {a : Option Addr} {m cap : Nat} (h : Sp.Rng w a m cap o.l) (hm : m ≤ 1000000000) (hs : o.s.size ≤ 281474976710656) :
    Calls Tryz.prog 34 #[opVal o (.slice a m cap), .int .i64 er] w fun e w' => ∃ va vc, e = .returned (.tuple #[opVal o (.slice va m vc), .int .i64 er]) ∧ OwnF rangeV 2 94 w' w.heap.size (.slice va m vc) o.l ∧ Below w.heap.size w w' := by
  have HC : Hid (∀ (W : World), Below w.heap.size w W → Calls Tryz.prog 22 #[opVal o (.slice a m cap)] W fun e w' => ∃ a' cap', e = .returned (opVal o (.slice a' m cap')) ∧ OwnF rangeV 2 94 w' (W.heap.size + 2) (.slice a' m cap') o.l ∧ Below W.heap.size W w') := fun W hb => opClone_any (h.below hb) hm hs
  clear h hm hs
  obtain ⟨c, n, k, p, s, l, tc, tn, on⟩ := o
  simp only [opVal] at *
  obtain ⟨W0, hW0⟩ : ∃ W0, (w.alloc (Obj.cells #[.int .i64 c, .int .i64 n, .int .i64 k, .int .i64 p, .string s, .slice a m cap, .int .i64 tc, .int .i64 tn, .bool on] 33)).alloc (Obj.cells #[.int .i64 0, .int .i64 0, .int .i64 0, .int .i64 0, .string ⟨#[]⟩, .slice none 0 0, .int .i64 0, .int .i64 0, .bool false] 33) = W0 := ⟨_, rfl⟩
  have hZ : W0.heap[w.heap.size + 1]? = some (Obj.cells #[.int .i64 0, .int .i64 0, .int .i64 0, .int .i64 0, .string ⟨#[]⟩, .slice none 0 0, .int .i64 0, .int .i64 0, .bool false] 33) := by rw [← hW0]; exact alloc_last _ _ _ (by simp)
  have hB0 : Below w.heap.size w W0 := by rw [← hW0]; exact ((Below.refl w.heap.size w).alloc (Nat.le_refl _) _).alloc (by simp) _
  have zlt : w.heap.size + 1 < W0.heap.size := (Array.getElem?_eq_some_iff.1 hZ).1
  have hX : W0.heap[w.heap.size]? = some (Obj.cells #[.int .i64 c, .int .i64 n, .int .i64 k, .int .i64 p, .string s, .slice a m cap, .int .i64 tc, .int .i64 tn, .bool on] 33) := by rw [← hW0]; exact (Below.heap_alloc _ _ _ (by simp)).trans (alloc_last _ _ _ rfl)
  obtain ⟨ak0, ak1, ak2, ak3, ak4, ak5, ak6, ak7, ak8⟩ := box9 hX
  go_enter Tryz.func34, Tryz.ntmps34
  go_wp2_with fail
  refine (HC.out _ hB0).mono ?_
  rintro e w1 ⟨va, vc, rfl, hO, hcur⟩
  have hB1 := hB0.trans (hcur.mono hB0.size)
  have hZ1 := (hcur.block _ zlt).trans hZ
  have HO : Hid (OwnF rangeV 2 94 w1 (W0.heap.size + 2) (.slice va m vc) l) := hO
  clear hO HC hcur hZ hB0 hW0 hX ak0 ak1 ak2 ak3 ak4 ak5 ak6 ak7 ak8
  obtain ⟨W9, e9, hx9, hB9, hK9⟩ := store9 hZ1 hB1 (by omega) (.int .i64 c) (.int .i64 n) (.int .i64 k) (.int .i64 p) (.string s) (.slice va m vc) (.int .i64 tc) (.int .i64 tn) (.bool on)
  obtain ⟨d0, d1, d2, d3, d4, d5, d6, d7, d8⟩ := box9 hZ1
  obtain ⟨dz0, dz1, dz2, dz3, dz4, dz5, dz6, dz7, dz8⟩ := wr9 hZ1
  obtain ⟨r0, r1, r2, r3, r4, r5, r6, r7, r8⟩ := box9 hx9
  go_wp2_with fail
  try rw [e9]
  refine bodyPost_ret (v := .tuple #[.agg #[.int .i64 c, .int .i64 n, .int .i64 k, .int .i64 p, .string s, .slice va m vc, .int .i64 tc, .int .i64 tn, .bool on], .int .i64 er]) (by simp [results, Tryz.results34, go_sem, r0, r1, r2, r3, r4, r5, r6, r7, r8]) rfl ⟨va, vc, rfl, (hK9.own HO.out (by omega)).mono (by omega), hB9⟩
theorem two_ops {W : World} {g : Nat} {x y : OpM} {T : TypeId} (h : W.heap[g]? = some (.cells (opF x ++ opF y).toArray T)) : Rw opF 9 W (some ⟨g, 0, none⟩) 2 2 [x, y] :=
  ⟨rfl, ⟨Nat.le_refl _, by decide⟩, fun _ => ⟨g, 0, rfl, (Array.getElem?_eq_some_iff.1 h).1, fun j z hj i v hv => by
    have hi : i < 9 := by
      have := (List.getElem?_eq_some_iff.1 hv).1
      simpa [opF] using this
    rw [Lib.cell_of_heap h, Nat.zero_add]
    match j, hj with
    | 0, hj =>
      simp at hj; subst hj
      simp only [Nat.zero_mul, Nat.zero_add, List.getElem?_toArray]
      rw [List.getElem?_append_left (by simpa [opF] using hi)]
      exact hv
    | 1, hj =>
      simp at hj; subst hj
      simp only [Nat.one_mul, List.getElem?_toArray]
      rw [List.getElem?_append_right (by simp [opF])]
      simpa [opF] using hv
    | j + 2, hj => simp at hj⟩⟩
theorem one_op {W : World} {g : Nat} {x : OpM} {T : TypeId} (h : W.heap[g]? = some (.cells (opF x).toArray T)) : Rw opF 9 W (some ⟨g, 0, none⟩) 1 1 [x] :=
  ⟨rfl, ⟨Nat.le_refl _, by decide⟩, fun _ => ⟨g, 0, rfl, (Array.getElem?_eq_some_iff.1 h).1, fun j z hj i v hv => by
    rw [Lib.cell_of_heap h, Nat.zero_add]
    match j, hj with
    | 0, hj =>
      simp at hj; subst hj
      simp only [Nat.zero_mul, Nat.zero_add, List.getElem?_toArray]
      exact hv
    | j + 1, hj => simp at hj⟩⟩
end Go.Proofs.YtmeciikfnbbllaaGreatDoor
