import Derived.Test.YtdmhajlhpieedaaLdE
/-! The reference's Spoil. -/
namespace Go.Proofs.Ytdmhajlhpieedaa
open Go.RowKit Go.Lib Go.Shelf
set_option maxRecDepth 100000

theorem rspoil_mem {W V : World} {r : Nat} {S : Lk} {rv : Value} {l t : List X} {x : X} (h : RefAt W r S rv (l ++ x :: t)) {g o n cap g2 c' m bl : Nat} {nu : Int} (erv : rv = .slice (some ⟨g, o, none⟩) n cap) (bs : List UInt8) (hm : l.length = m) (hnu : (x.num : Int) = nu) (hB : Below W.heap.size W V) (hbl : bs.length = bl) (hg2 : W.heap.size ≤ g2) (ho : OwnF byU 1 5 V 0 (.slice (some ⟨g2, 0, none⟩) bl c') bs) :
    ∃ V9, ((((V.setCell ⟨g, o + m * 5, none⟩ (.int .i64 nu)).setCell ⟨g, o + m * 5 + 1, none⟩ (.int .i64 x.fr)).setCell ⟨g, o + m * 5 + 2, none⟩ (.int .i64 x.tt)).setCell ⟨g, o + m * 5 + 3, none⟩ (.slice (some ⟨g2, 0, none⟩) bl c')).setCell ⟨g, o + m * 5 + 4, none⟩ (.bool true) = V9 ∧ RNx W V9 r rv (l ++ x :: t) (spoilS S l t ⟨x.num, x.fr, x.tt, some ⟨g2, 0, none⟩, c', bs, true⟩) ∧
      V.cell? ⟨r, 3, none⟩ = some (.slice (some ⟨g, o, none⟩) n cap) ∧ V.cell? ⟨g, o + m * 5, none⟩ = some (.int .i64 nu) ∧ V.cell? ⟨g, o + m * 5 + 1, none⟩ = some (.int .i64 x.fr) ∧ V.cell? ⟨g, o + m * 5 + 2, none⟩ = some (.int .i64 x.tt) ∧ V.cell? ⟨g, o + m * 5 + 3, none⟩ = some (.slice x.a x.bs.length x.cap) ∧ V.cell? ⟨g, o + m * 5 + 4, none⟩ = some (.bool x.sp) ∧
      V.frozen? ⟨g, o + m * 5, none⟩ = false ∧ V.frozen? ⟨g, o + m * 5 + 1, none⟩ = false ∧ V.frozen? ⟨g, o + m * 5 + 2, none⟩ = false ∧ V.frozen? ⟨g, o + m * 5 + 3, none⟩ = false ∧ V.frozen? ⟨g, o + m * 5 + 4, none⟩ = false := by
  have hL := h.below hB
  have hgb : rv.ownBlock = some g := by rw [erv]; rfl
  have hR := hL.row
  rcases hR with ⟨e0, e1⟩ | ⟨g', pre, post, cap', e, hh, hp, hl1, hl2⟩
  · simp at e1
  · have hrw := hL.row
    rw [erv] at e hrw
    simp only [Value.slice.injEq, Option.some.injEq, Addr.mk.injEq, and_true] at e
    obtain ⟨⟨rfl, rfl⟩, rfl, rfl⟩ := e
    have hlf := flatF_length layV l
    have hh' : V.heap[g]? = some (.cells ((pre ++ flatF fv l) ++ [Value.int .i64 (x.num : Int), Value.int .i64 x.fr, Value.int .i64 x.tt, Value.slice x.a x.bs.length x.cap, Value.bool x.sp] ++ (flatF fv t ++ post)).toArray 73) := by
      rw [hh]; simp [flatF, fv, List.append_assoc]
    have hol : (pre ++ flatF fv l).length = pre.length + m * 5 := by rw [List.length_append, hlf, hm]
    obtain ⟨V9, hV9, hx9, hC9⟩ := set5 hh' hol (.int .i64 nu) (.int .i64 x.fr) (.int .i64 x.tt) (.slice (some ⟨g2, 0, none⟩) bl c') (.bool true)
    have hgl : g < W.heap.size := h.row.lt hgb
    refine ⟨V9, hV9, ⟨rv, l ++ ⟨x.num, x.fr, x.tt, some ⟨g2, 0, none⟩, c', bs, true⟩ :: t, ⟨hC9.block hL.box (fun e => h.r_ne hgb e), ?_, fun y hy => ?_, rfl⟩, (Chg.of_below hB).trans (hC9.mono (fun k _ e => .inr (.inl (by rw [e]; exact hgb)))), fun k hk => ?_⟩, ?_⟩
    · refine .inr ⟨g, pre, post, cap, by rw [erv]; simp, ?_, by rw [hp]; simp, by simpa using hl1, hl2⟩
      rw [hx9, ← hnu, ← hbl]; simp [flatF, fv, List.append_assoc]
    · have hk : ∀ y, y ∈ l ∨ y ∈ t → OwnF byU 1 5 V9 0 y.v y.bs := fun y hy => (hL.own y (by rcases hy with hy | hy <;> simp [hy])).chg hC9 (fun k hk e => hL.v_ney hgb (by rcases hy with hy | hy <;> simp [hy] : y ∈ l ++ x :: t) hk e.symm)
      rcases List.mem_append.1 hy with hy | hy
      · exact hk y (.inl hy)
      · rcases List.mem_cons.1 hy with rfl | hy
        · have h5 := ho.chg hC9 (fun k hk e => by simp [Value.ownBlock] at hk; omega)
          simpa [X.v, hbl] using h5
        · exact hk y (.inr hy)
    · rcases hk with e | e | ⟨y, hy, e⟩
      · exact .inl (.inl e)
      · exact .inl (.inr (.inl e))
      · rcases List.mem_append.1 hy with hy | hy
        · exact .inl (.inr (.inr ⟨y, by simp [hy], e⟩))
        · rcases List.mem_cons.1 hy with rfl | hy
          · simp [X.v, Value.ownBlock] at e
            exact .inr (by omega)
          · exact .inl (.inr (.inr ⟨y, by simp [hy], e⟩))
    · obtain ⟨g', off', y, ea, _, hy, hc⟩ := (hrw.rw_ layV).at l.length (by simp)
      simp only [Option.some.injEq, Addr.mk.injEq, and_true] at ea
      obtain ⟨rfl, rfl⟩ := ea
      obtain rfl : x = y := by simp at hy; exact hy
      have c0 := hc 0 _ rfl
      have c1 := hc 1 _ rfl
      have c2 := hc 2 _ rfl
      have c3 := hc 3 _ rfl
      have c4 := hc 4 _ rfl
      simp only [Nat.add_zero] at c0
      rw [hm] at c0 c1 c2 c3 c4
      rw [hnu] at c0
      refine ⟨?_, c0, c1, c2, c3, c4, Lib.frozen_of_heap hh _, Lib.frozen_of_heap hh _, Lib.frozen_of_heap hh _, Lib.frozen_of_heap hh _, Lib.frozen_of_heap hh _⟩
      have := (box4 hL.box).2.2.2
      rw [erv] at this
      exact this
theorem RNx.drew {W W' : World} {r : Nat} {rv : Value} {ys : List X} {S' : Lk} (h : RNx W W' r rv ys S') : RNx W W'.drew r rv ys S' := by
  obtain ⟨rv', ys', h1, h2, h3⟩ := h
  exact ⟨rv', ys', h1.below (Below.refl _ _).drew, h2.drew, h3⟩
section
variable {W : World} {r : Nat} {S : Lk} {rv : Value} {ys l t : List X} {x : X}
set_option maxHeartbeats 1000000 in
theorem rspoil_miss (h : RefAt W r S rv ys) (hO : S.Ok) (k at_ : Int) (m : UInt8) (hl : ∀ y ∈ ys, (y.num : Int) ≠ k) : Calls Try.prog 40 #[.pointer (some ⟨r, 0, none⟩), .int .i64 k, .int .i64 at_, .int .u8 (m.toNat : Int)] W fun e w' => e = .returned (.int .i64 160) ∧ w' = W := by
  have HA := at_miss h hO k hl
  clear h hO hl
  go_enter Try.func40, Try.ntmps40
  go_wp2_with fail
  refine HA.mono ?_
  rintro e w1 ⟨rfl, hw⟩
  obtain rfl := hw.symm
  clear hw HA
  go_wp2_with fail
  go_ret
  exact ⟨rfl, rfl⟩
end
end Go.Proofs.Ytdmhajlhpieedaa
