import Derived.Test.YtijpfbcippijoaaGreatDoorRpJK
import Derived.Test.YtijpfbcippijoaaGreatDoorRpPR
namespace Go.Proofs.YtijpfbcippijoaaGreatDoor
open Go.RowKit Go.Lib
set_option maxRecDepth 100000
def ptrV (g : Nat) : List Value := [.pointer (some ⟨g, 0, none⟩)]
theorem layG : Lay ptrV 1 := ⟨fun _ => rfl, by decide, fun x u hu => by simp [ptrV] at hu; rcases hu with rfl; rfl⟩
theorem kindG : Kind Tryz.prog 68 70 1 8 := kind_of Tryz.underlying68 (z := .pointer none) (by kernel_rfl) rfl
theorem kindN : Kind Tryz.prog 74 21 1 4 := kind_of Tryz.underlying74 (z := .int .i32 0) (by kernel_rfl) rfl
theorem elemG : Tryz.prog.elem 68 = 70 := by kernel_rfl
theorem elemN : Tryz.prog.elem 74 = 21 := by kernel_rfl
theorem elemC : Tryz.prog.elem 29 = 63 := by kernel_rfl
section
variable {S T : TypeId} {k by_ : Nat}
theorem cut_high (hK : Kind Tryz.prog S T k by_) (he : Tryz.prog.elem S = T) (W : World) (a : Option Addr) (n cap m : Nat) (hm : m ≤ cap) : (Instr.slice S (.slice a n cap) none (some (.int .i64 (m : Int))) none).run Tryz.prog W = .ok (.slice a m cap) W := by
  obtain ⟨i, z, hi, hz, hsz, hby, _⟩ := hK.info
  have := run_slice_h (P := Tryz.prog) W S a n cap (by rw [he]; exact hK.under) .i64 (m : Int) (by omega) (by omega)
  rw [this, he]
  simp [sizeOf, typeInfo, hi, hsz, sliced, Addr.add]
theorem cut_low (hK : Kind Tryz.prog S T k by_) (he : Tryz.prog.elem S = T) (W : World) (g off n cap m : Nat) (hm : m ≤ n) (hc : m < cap) : (Instr.slice S (.slice (some ⟨g, off, none⟩) n cap) (some (.int .i64 (m : Int))) none none).run Tryz.prog W = .ok (.slice (some ⟨g, off + m * k, none⟩) (n - m) (cap - m)) W := by
  obtain ⟨i, z, hi, hz, hsz, hby, _⟩ := hK.info
  have := run_slice_l (P := Tryz.prog) W S (some ⟨g, off, none⟩) n cap (by rw [he]; exact hK.under) .i64 (m : Int) (by omega) (by omega)
  rw [this, he]
  simp [sizeOf, typeInfo, hi, hsz, sliced, addr_add']
  omega
theorem cut_both (hK : Kind Tryz.prog S T k by_) (he : Tryz.prog.elem S = T) (W : World) (g off n cap m q : Nat) (hm : m ≤ q) (hq : q ≤ cap) (hc : m < cap) : (Instr.slice S (.slice (some ⟨g, off, none⟩) n cap) (some (.int .i64 (m : Int))) (some (.int .i64 (q : Int))) none).run Tryz.prog W = .ok (.slice (some ⟨g, off + m * k, none⟩) (q - m) (cap - m)) W := by
  obtain ⟨i, z, hi, hz, hsz, hby, _⟩ := hK.info
  have := run_slice_lh (P := Tryz.prog) W S (some ⟨g, off, none⟩) n cap (by rw [he]; exact hK.under) .i64 .i64 (m : Int) (q : Int) (by omega) (by omega) (by omega)
  rw [this, he]
  simp [sizeOf, typeInfo, hi, hsz, sliced, addr_add']
  omega
end
def Ats (w : World) (ts : List Tr) (gs : List Nat) : Prop := ts.length = gs.length ∧ ∀ (j : Nat) (t : Tr) (g : Nat), ts[j]? = some t → gs[j]? = some g → At w t g
theorem Ats.below {w w' : World} {ts : List Tr} {gs : List Nat} (h : Ats w ts gs) (hb : Below w.heap.size w w') : Ats w' ts gs := ⟨h.1, fun j t g h1 h2 => (h.2 j t g h1 h2).below hb⟩
theorem ats_nil (w : World) : Ats w [] [] := ⟨rfl, fun j t g h => by simp at h⟩
theorem Ats.append {w : World} {ts us : List Tr} {gs hs : List Nat} (h : Ats w ts gs) (k : Ats w us hs) : Ats w (ts ++ us) (gs ++ hs) := by
  have hl := h.1
  refine ⟨by simp [h.1, k.1], fun j t g h1 h2 => ?_⟩
  by_cases hj : j < ts.length
  · rw [List.getElem?_append_left hj] at h1
    rw [List.getElem?_append_left (by omega)] at h2
    exact h.2 j t g h1 h2
  · rw [List.getElem?_append_right (by omega)] at h1
    rw [List.getElem?_append_right (by omega), ← hl] at h2
    exact k.2 _ t g h1 h2
theorem Ats.take {w : World} {ts : List Tr} {gs : List Nat} (h : Ats w ts gs) (m : Nat) : Ats w (ts.take m) (gs.take m) := by
  refine ⟨by simp [h.1], fun j t g h1 h2 => ?_⟩
  rw [List.getElem?_take] at h1 h2
  split at h1
  · rename_i hj
    rw [if_pos hj] at h2
    exact h.2 j t g h1 h2
  · cases h1
theorem Ats.drop {w : World} {ts : List Tr} {gs : List Nat} (h : Ats w ts gs) (m : Nat) : Ats w (ts.drop m) (gs.drop m) := by
  refine ⟨by simp [h.1], fun j t g h1 h2 => ?_⟩
  rw [List.getElem?_drop] at h1 h2
  exact h.2 _ t g h1 h2
theorem rowOf_lvs_append (ts us : List Tr) : rowOf (lvs (ts ++ us)) = rowOf (lvs ts) ++ rowOf (lvs us) := by simp [lvs, rowOf]
set_option maxHeartbeats 4000000 in
theorem grown_len : ∀ (b n : Nat), n ≤ b → ∀ {w : World} {a : Option Addr} {cap : Nat} {ts : List Tr} {gs : List Nat}, Rw ptrV 1 w a n cap gs → Ats w ts gs → (∀ t ∈ ts, t.isLeaf ∧ t.Bd) → n ≤ 1048576 → (rowOf (lvs ts)).length ≤ 1048576 →
    Calls Tryz.prog 23 #[.slice a n cap] w fun e w' => ∃ g t, e = .returned (ptr g) ∧ At w' t g ∧ Built ts t ∧ Below w.heap.size w w' := by
  intro b
  induction b with
  | zero =>
    intro n hb w a cap ts gs hr hA ht hn hl
    obtain rfl : n = 0 := by omega
    have hlen := hr.len
    have hal := hA.1
    obtain rfl : ts = [] := List.eq_nil_of_length_eq_zero (by omega)
    unfold ptr
    go_enter Tryz.func23, Tryz.ntmps23
    go_wp2_with fail
    go_ret
    exact ⟨w.heap.size, .nil, rfl, heap_alloc_new _ _, built_nil, (Below.refl _ _).alloc (Nat.le_refl _) _⟩
  | succ b ih =>
    intro n hb w a cap ts gs hr hA ht hn hl
    by_cases hlt : n ≤ b
    · exact ih n hlt hr hA ht hn hl
    obtain rfl : n = b + 1 := by omega
    have hlen := hr.len
    have hal := hA.1
    have hroom := hr.room
    by_cases h1 : b = 0
    · subst h1
      obtain ⟨g, off, x, rfl, hg, hx, hc⟩ := hr.at 0 (by omega)
      have c0 := hc 0 _ rfl
      simp only [Nat.zero_mul, Nat.add_zero] at c0
      obtain ⟨t, rfl⟩ : ∃ t, ts = [t] := List.length_eq_one_iff.1 (by omega)
      have hAt := hA.2 0 t x rfl hx
      have htl := ht t (by simp)
      clear hc hx
      unfold ptr
      go_enter Tryz.func23, Tryz.ntmps23
      go_wp2_with fail
      go_ret
      exact ⟨x, t, rfl, hAt, built_one htl.1 htl.2, Below.refl _ _⟩
    · obtain ⟨m, hm⟩ : ∃ m, (b + 1) / 2 = m := ⟨_, rfl⟩
      have hm1 : 1 ≤ m := by omega
      have hm2 : m ≤ b := by omega
      have hmi : ((b : Int) + 1) / 2 = (m : Int) := by omega
      obtain ⟨g, off, rfl, hg, _⟩ := hr.cells (by omega)
      have hsum : rowOf (lvs ts) = rowOf (lvs (ts.take m)) ++ rowOf (lvs (ts.drop m)) := by rw [← rowOf_lvs_append, List.take_append_drop]
      rw [hsum, List.length_append] at hl
      have HL : Hid (∀ W, Below w.heap.size w W → Calls Tryz.prog 23 #[.slice (some ⟨g, off, none⟩) m cap] W fun e w' => ∃ g t, e = .returned (.pointer (some ⟨g, 0, none⟩)) ∧ At w' t g ∧ Built (ts.take m) t ∧ Below W.heap.size W w') := fun W hW => ih m hm2 ((hr.take m (by omega)).below hW) ((hA.take m).below hW) (fun t h => ht t (List.mem_of_mem_take h)) (by omega) (by omega)
      have HR : Hid (∀ W, Below w.heap.size w W → Calls Tryz.prog 23 #[.slice (some ⟨g, off + m, none⟩) (b + 1 - m) (cap - m)] W fun e w' => ∃ g t, e = .returned (.pointer (some ⟨g, 0, none⟩)) ∧ At w' t g ∧ Built (ts.drop m) t ∧ Below W.heap.size W w') := fun W hW => by
        have h2 := hr.drop m (by omega)
        rw [Nat.mul_one] at h2
        exact ih (b + 1 - m) (by omega) (h2.below hW) ((hA.drop m).below hW) (fun t h => ht t (List.mem_of_mem_drop h)) (by omega) (by omega)
      have HE : Hid (∀ a b, Built (ts.take m) a → Built (ts.drop m) b → Built ts (.node a b 0) ∧ a.row.length + b.row.length ≤ 2097152) := fun x y hx hy => by
        have h3 := hx.two hy (b + 1) (by omega) (by rw [List.length_take]; omega) (by rw [List.length_drop]; omega)
        rw [List.take_append_drop] at h3
        refine ⟨h3, ?_⟩
        rw [hx.row, hy.row]
        omega
      clear ih hr hA ht hsum hl hal hlen hb hlt hg
      have hcur : Below w.heap.size w w := Below.refl _ _
      have z0 : ((b : Int) + 1 == 0) = false := by rw [beq_eq_false_iff_ne]; omega
      have z1 : ((b : Int) + 1 == 1) = false := by rw [beq_eq_false_iff_ne]; omega
      have i1 : (0 : Int) ≤ (m : Int) := by omega
      have i2 : (m : Int) ≤ ((b + 1 : Nat) : Int) := by omega
      have i3 : (m : Int) ≤ (cap : Int) := by omega
      have hk1 : ∀ W, (Instr.slice 68 (.slice (some ⟨g, off, none⟩) (b + 1) cap) none (some (.int .i64 (m : Int))) none).run Tryz.prog W = .ok (.slice (some ⟨g, off, none⟩) m cap) W := fun W => cut_high kindG elemG W _ _ _ m (by omega)
      have hk2 : ∀ W, (Instr.slice 68 (.slice (some ⟨g, off, none⟩) (b + 1) cap) (some (.int .i64 (m : Int))) none none).run Tryz.prog W = .ok (.slice (some ⟨g, off + m, none⟩) (b + 1 - m) (cap - m)) W := fun W => by
        have := cut_low kindG elemG W g off (b + 1) cap m (by omega) (by omega)
        rw [Nat.mul_one] at this
        exact this
      generalize cap - m = cm at *
      generalize hbm : b + 1 - m = bm at *
      clear hbm
      unfold ptr
      go_enter Tryz.func23, Tryz.ntmps23
      go_wp2_with fail
      rw [hmi]
      clear hm hmi h1 z0 z1
      go_region_held3 (fun _ => True) (trivial)
        (first
          | (go_at_call 56; refine (paired_any hl2 hr1 htl.ok_ htr.ok_ htl.bd htr.bd hsz).mono ?_; rintro e w3 ⟨g3, rfl, hN3, hb3⟩; have hcur : Below w.heap.size w w3 := hcur.trans (hb3.mono hcur.size))
          | (go_at_call_of 23 (Value.slice (some ⟨g, off, none⟩) m cap); refine (HL.out _ ?_).mono ?_; (first | exact hcur | exact hcur.drew); rintro e w1 ⟨gl, tl, rfl, hl1, htl, hb1⟩; have hcur : Below w.heap.size w w1 := (by first | exact hcur.trans (hb1.mono hcur.size) | exact hcur.drew.trans (hb1.mono hcur.size)))
          | (go_at_call_of 23 (Value.slice (some ⟨g, off + m, none⟩) bm cm); refine (HR.out _ ?_).mono ?_; (first | exact hcur | exact hcur.drew); rintro e w2 ⟨gr, tr, rfl, hr1, htr, hb2⟩; have hl2 := hl1.below hb2; have hcur : Below w.heap.size w w2 := (by first | exact hcur.trans (hb2.mono hcur.size) | exact hcur.drew.trans (hb2.mono hcur.size)); obtain ⟨hbt, hsz⟩ := HE.out _ _ htl htr))
      all_goals
        go_wp2_with fail
        go_ret
        exact ⟨g3, _, rfl, hN3, hbt, hcur⟩
end Go.Proofs.YtijpfbcippijoaaGreatDoor
