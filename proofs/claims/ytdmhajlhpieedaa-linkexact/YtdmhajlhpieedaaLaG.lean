import Derived.Test.YtdmhajlhpieedaaLaF
/-! An append onto a row that lies anywhere; bytes of one's own; begin's memory. -/
namespace Go.Proofs.Ytdmhajlhpieedaa
open Go.RowKit Go.Lib Go.Shelf
set_option maxRecDepth 100000

section
variable {α : Type} {f : α → List Value} {k : Nat} {T : TypeId}
theorem offF_append {P : Program} {S : TypeId} {by_ : Nat} (hK : Kind P S T k by_) (hf : Lay f k) {W : World} {v : Value} {l : List α} (h : OffF f k T W v l) (x : α) (cs : Array Value) (hcs : f x = cs.toList) (t : TypeId) (hs : (l.length + 1) * by_ ≤ 140737488355328) (hs2 : l.length + 1 ≤ 9223372036854775807) (ty : TypeId) :
    ∃ v' W', (Builtin.append_ #[S, S] ty #[v, .slice (some ⟨W.heap.size, 0, none⟩) 1 1]).run P (W.alloc (.cells cs t)) = .ok v' W' ∧ OffF f k T W' v' (l ++ [x]) ∧ Chg (fun g => v.ownBlock = some g) W W' ∧ (∀ g, v'.ownBlock = some g → v.ownBlock = some g ∨ W.heap.size ≤ g) := by
  rcases h with ⟨rfl, rfl⟩ | ⟨g, pre, post, cap, rfl, hh, hp, h1, h2⟩
  · obtain ⟨g, cap', w', hr, ho, hb, hk, hsz, hat⟩ := appendF_one (P := P) hK hf (ownF_nil (f := f) (k := k) (T := T) W W.heap.size) (Nat.le_refl _) x cs hcs t (by simpa using hs) (by simp) ty
    simp only [List.nil_append, List.length_nil, Nat.zero_add] at hr ho ⊢
    exact ⟨_, w', hr, ho.offF, Chg.of_below hb, fun g' hg' => .inr (ho.ge hg')⟩
  · obtain ⟨i, z, hi, hz, hsz, hby, hzc⟩ := hK.info
    obtain ⟨W1, hW1⟩ : ∃ W1, W.alloc (.cells cs t) = W1 := ⟨_, rfl⟩
    have hb1 : Below W.heap.size W W1 := by rw [← hW1]; exact (Below.refl _ _).alloc (Nat.le_refl _) _
    have hs1 : W1.heap.size = W.heap.size + 1 := by rw [← hW1]; exact World.size_alloc ..
    have hg : g < W.heap.size := (Array.getElem?_eq_some_iff.1 hh).1
    have hh1 : W1.heap[g]? = some (.cells (pre ++ flatF f l ++ post).toArray T) := (hb1.block g hg).trans hh
    obtain ⟨ga, off, ea, _, hc⟩ := (rw_lit (f := f) (k := k) W x cs hcs t).row hf Nat.one_pos
    simp only [Option.some.injEq, Addr.mk.injEq, and_true] at ea
    obtain ⟨rfl, rfl⟩ := ea
    rw [hW1] at hc ⊢
    have hlx : (flatF f [x]).length = k := by rw [flatF_length hf]; simp
    by_cases hroom : l.length + 1 ≤ cap
    · have hpk : (flatF f [x]).length ≤ post.length := by
        rw [hp, hlx]
        have : 1 * k ≤ (cap - l.length) * k := Nat.mul_le_mul_right k (by omega)
        omega
      have hr := run_append_off hK hf (cap := cap) (ys := [x]) hh1 rfl ⟨W.heap.size, 0, none⟩ 1 1 rfl hc hroom hpk ty
      refine ⟨_, _, hr, .inr ⟨g, pre, post.drop (flatF f [x]).length, cap, by rw [List.length_append]; rfl, setRow_heap _ _ _ _ _ _ hh1, ?_, by rw [List.length_append]; exact hroom, h2⟩, ?_, fun g' hg' => .inl hg'⟩
      · rw [List.length_drop, hp, hlx, List.length_append, List.length_singleton, ← Nat.sub_sub, Nat.sub_mul (cap - l.length) 1 k, Nat.one_mul]
      · exact (Chg.of_below hb1).trans (Chg.setRow (q := g) _ _ rfl)
    · have hlen : (flatF f l).length = l.length * i.size := by rw [flatF_length hf, hsz]
      have hr := run_append_grow (P := P) W1 S ty T i z hK.under hi hz ⟨g, pre.length, none⟩ l.length cap (flatF f l) hlen (fun j u hu => by
        rw [addr_add']
        have hj : j < (flatF f l).length := by
          rcases Nat.lt_or_ge j (flatF f l).length with h' | h'
          · exact h'
          · rw [List.getElem?_eq_none h'] at hu; cases hu
        simp only [World.cell?, hh1]
        rw [List.getElem?_toArray, mid_get _ _ _ _ hj, hu]
        rfl) ⟨W.heap.size, 0, none⟩ 1 1 (flatF f [x]) (by rw [hlx, hsz, Nat.one_mul]) hc (by omega) (by omega) (growslice_fits (by omega) (by rw [hby]; exact hs))
      have hge := grownCap_ge W1 (l.length + 1) cap T
      have hle := grownCap_le_maxLen W1 (l.length + 1) cap T (by simp only [maxLen]; omega)
      refine ⟨_, _, hr, .inr ⟨W1.heap.size, [], (Builtin.zeroCells z.cells (grownCap W1 (l.length + 1) cap T - (l.length + 1))).toList, _, by rw [List.length_append]; rfl, ?_, ?_, by rw [List.length_append]; exact hge, hle⟩, ?_, fun g' hg' => .inr ?_⟩
      · refine (heap_alloc_new W1.drew _).trans ?_
        congr 2
        apply Array.ext'
        simp [flatF_append]
      · rw [Array.length_toList, size_zeroCells, hzc, List.length_append, List.length_singleton]
      · exact (Chg.of_below hb1).trans (((Chg.refl _ W1).drew).trans (Chg.alloc _ _ _))
      · simp [Value.ownBlock] at hg'
        omega
end
theorem infoU : (Try.prog.info? 5).map (fun i => (i.zero, i.size, i.bytes)) = some (some (.int .u8 0), 1, 1) := by kernel_rfl
/-- 'make([]byte, m)' and 'copy' of m bytes into it. -/
theorem make_copy (W : World) {b : Option Addr} {m c : Nat} {bs : List UInt8} (h : Rw byU 1 W b m c bs) (hm : m ≤ 281474976710656) :
    ∃ W1 W2, (Instr.makeSlice 34 (.int .i64 (m : Int)) (.int .i64 (m : Int))).run Try.prog W = .ok (.slice (some ⟨W.heap.size, 0, none⟩) m m) W1 ∧ Below W.heap.size W W1 ∧
      (Builtin.copy_ #[34, 34] 3 #[.slice (some ⟨W.heap.size, 0, none⟩) m m, .slice b m c]).run Try.prog W1 = .ok (goInt m) W2 ∧
      OwnF byU 1 5 W2 W.heap.size (.slice (some ⟨W.heap.size, 0, none⟩) m m) bs ∧ Below W.heap.size W W2 ∧ W2.heap.size = W.heap.size + 1 := by
  obtain ⟨i, hi, hz, hsz, hby⟩ := info_parts infoU
  have hl := h.len
  have hr := run_make (P := Try.prog) W 34 5 i _ Try.underlying34 hi hz .i64 .i64 (m : Int) (m : Int) (by omega) (by omega) (by rw [hby]; omega) (by omega)
  simp only [hsz, Int.toNat_natCast, Nat.mul_one] at hr
  have hb := (Below.refl W.heap.size W).alloc (Nat.le_refl _) (.cells (madeCells (Value.int .u8 0).cells m) 5)
  obtain ⟨W1, hW1⟩ : ∃ W1, W.alloc (.cells (madeCells (Value.int .u8 0).cells m) 5) = W1 := ⟨_, rfl⟩
  have hh1 : W1.heap[W.heap.size]? = some (.cells (madeCells (Value.int .u8 0).cells m) 5) := by rw [← hW1]; exact heap_alloc_new W _
  have hs1 : W1.heap.size = W.heap.size + 1 := by rw [← hW1]; exact World.size_alloc ..
  rw [hW1] at hr hb
  have hsm : (madeCells (Value.int .u8 0).cells m).size = m := by simp [madeCells]
  by_cases h0 : m = 0
  · subst h0
    obtain rfl : bs = [] := List.length_eq_zero_iff.1 hl
    have hcp := run_copy_none (P := Try.prog) W1 34 34 3 5 (some ⟨W.heap.size, 0, none⟩) b 0 0 0 c Try.underlying34 (by rw [hi]; simp [hsz]) (by simp)
    refine ⟨W1, W1, hr, hb, by simpa using hcp, ?_, hb, hs1⟩
    exact ⟨rfl, .inr ⟨W.heap.size, 0, _, rfl, Nat.le_refl _, hh1, Nat.le_refl _, Nat.zero_le _, by rw [hsm], by simp [flatF]⟩⟩
  · obtain ⟨g, off, rfl, hg, hc⟩ := h.row layU (by omega)
    have hcp := run_copy_row (P := Try.prog) W1 34 34 3 5 W.heap.size 0 m m ⟨g, off, none⟩ m c _ 5 (flatF byU bs) Try.underlying34 (by rw [hi]; simp [hsz]) hh1 (by rw [flatF_length layU, hl, Nat.mul_one]; exact (Nat.min_self m).symm)
      (fun j v hv => by
        have := hc j v hv
        rw [addr_add'] at this ⊢
        rw [hb.cell (p := ⟨g, off + j, none⟩) hg]; exact this) (by rw [flatF_length layU, hl, hsm]; omega) (flatF_one layU bs)
    have hfl : (flatF byU bs).length = m := by rw [flatF_length layU, hl, Nat.mul_one]
    rw [hfl] at hcp
    refine ⟨W1, _, hr, hb, hcp, ?_, ?_, by rw [setRow_size, hs1]⟩
    · refine ⟨flatF_length layU bs, .inr ⟨W.heap.size, m, _, by rw [hl], Nat.le_refl _, setRow_heap _ _ _ _ _ _ hh1, by omega, by simp only [maxLen]; omega, ?_, ?_⟩⟩
      · simp only [List.size_toArray, List.length_append, List.length_take, List.length_drop, Array.length_toList, hsm, hfl]; omega
      · simp only [List.take_zero, List.nil_append]
        rw [List.take_append_of_le_length (by rw [hfl]; omega), List.take_of_length_le (by rw [hfl]; omega)]
    · exact below_setRow hb (Nat.le_refl _) _
end Go.Proofs.Ytdmhajlhpieedaa
