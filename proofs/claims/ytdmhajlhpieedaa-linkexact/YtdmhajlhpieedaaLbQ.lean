import Derived.Test.YtdmhajlhpieedaaLbP
import Derived.Lib.SlBytesConst
/-! A link above a world; lists written out; pick. -/
namespace Go.Proofs.Ytdmhajlhpieedaa
open Go.RowKit Go.Lib Go.Shelf
set_option maxRecDepth 100000

/-- A link above the world W0: its blocks are K, all newer than W0. -/
structure St (W0 : World) (K : Nat → Prop) (W : World) (q : Nat) (S : Lk) : Prop where
  lnk : LnkK K W q S
  new : ∀ g, K g → W0.heap.size ≤ g ∧ g < W.heap.size
  bel : Below W0.heap.size W0 W
section
variable {W0 W W' : World} {K : Nat → Prop} {q : Nat} {S S' : Lk}
theorem St.below (h : St W0 K W q S) (hB : Below W.heap.size W W') : St W0 K W' q S :=
  ⟨h.lnk.below hB, fun g hg => ⟨(h.new g hg).1, Nat.lt_of_lt_of_le (h.new g hg).2 hB.size⟩, h.bel.trans (hB.mono h.bel.size)⟩
theorem St.lft (h : St W0 K W q S) (hL : Lft K W q S' W') : St W0 (grow K W W') W' q S' := by
  have hs := hL.2.size
  have hb := h.bel.size
  refine ⟨hL.1, fun g hg => ?_, h.bel.trans (hL.2.below (fun g hg => (h.new g hg).1) hb)⟩
  rcases hg with hg | hg
  · have := h.new g hg; omega
  · omega
theorem st_new (n m : Nat) (h0 : 1 ≤ n) (h1 : n ≤ 9) (h3 : m ≤ 1048576) (w : World) : Calls Try.prog 10 #[.int .i64 (n : Int), .int .i64 (m : Int)] w fun e w' => e = .returned (.tuple #[.pointer (some ⟨w.heap.size, 0, none⟩), .int .i64 0]) ∧ St w (fun g => g = w.heap.size) w' w.heap.size (lk0 n m) := by
  refine (new_ok n m h0 h1 h3 w).mono ?_
  rintro e w' ⟨h4, h5, h6⟩
  refine ⟨h4, ⟨⟨⟨h1, h3, Nat.zero_le _, Nat.zero_le _, List.Pairwise.nil, fun f hf => by simp [lk0] at hf⟩, _, _, h5, fun g hg => ?_⟩, fun g hg => ?_, h6⟩⟩
  · rcases hg with e | e | ⟨x, hx, _⟩
    · exact e
    · simp [Value.ownBlock] at e
    · simp at hx
  · have := h5.qlt
    subst hg
    exact ⟨Nat.le_refl _, this⟩
end
section
variable {α : Type} {f : α → List Value} {k : Nat} {T : TypeId}
theorem offF_lit (W : World) (l : List α) (cs : Array Value) (hcs : flatF f l = cs.toList) (n : Nat) (hn : l.length = n) (hm : n ≤ maxLen) : OffF f k T (W.alloc (.cells cs T)) (.slice (some ⟨W.heap.size, 0, none⟩) n n) l := by
  subst hn
  refine .inr ⟨W.heap.size, [], [], l.length, rfl, ?_, by simp, Nat.le_refl _, hm⟩
  rw [heap_alloc_new, hcs]
  simp
end
/-- the statements' pick -/
def pickZ (k : Int) (n : Nat) : Nat := (k % (n : Int)).toNat
theorem pickZ_lt (k : Int) (n : Nat) (hn : 0 < n) : pickZ k n < n := by
  unfold pickZ
  have h1 := Int.emod_nonneg k (b := (n : Int)) (by omega)
  have h2 := Int.emod_lt_of_pos k (b := (n : Int)) (by omega)
  omega
set_option maxHeartbeats 1000000 in
theorem pick_any (k : Int) (n : Nat) (hn : 0 < n) (hb : n ≤ 4611686018427387904) (w : World) : Calls Try.prog 15 #[.int .i64 k, .int .i64 (n : Int)] w fun e w' => e = .returned (.int .i64 ((pickZ k n : Nat) : Int)) ∧ w' = w := by
  have h1 := Int.emod_nonneg k (b := (n : Int)) (by omega)
  have h2 := Int.emod_lt_of_pos k (b := (n : Int)) (by omega)
  have hz : ((pickZ k n : Nat) : Int) = k % (n : Int) := by unfold pickZ; omega
  obtain ⟨t, ht⟩ : ∃ t, Int.tmod k (n : Int) = t := ⟨_, rfl⟩
  have htt : t = k % (n : Int) ∨ (t < 0 ∧ t + (n : Int) = k % (n : Int)) := by
    rw [← ht, Int.tmod_eq_emod]
    split
    · exact .inl (by omega)
    · rename_i hc
      have hne : ¬ (n : Int) ∣ k := fun hd => hc (.inr hd)
      have : k % (n : Int) ≠ 0 := fun e => hne (Int.dvd_of_emod_eq_zero e)
      exact .inr (by constructor <;> omega)
  have n0 : ((n : Int) == 0) = false := beq_eq_false_iff_ne.2 (by omega)
  have n1 : ¬ (n : Int) = 0 := by omega
  have n2 : ¬ n = 0 := by omega
  have e1 : IntKind.i64.wrap t = t := IntWalk.i64_in _ (by omega)
  obtain ⟨z, hzz⟩ : ∃ z : Int, ((pickZ k n : Nat) : Int) = z := ⟨_, rfl⟩
  rw [hzz]
  have HZ : Hid (z = k % (n : Int)) := by show _ = _; rw [← hzz, hz]
  have HT : Hid (t = k % (n : Int) ∨ (t < 0 ∧ t + (n : Int) = k % (n : Int))) := htt
  have H1 : Hid (0 ≤ k % (n : Int)) := h1
  clear hz htt h1 h2 hzz
  by_cases ht0 : t < 0
  · have e2 : IntKind.i64.wrap (t + (n : Int)) = t + (n : Int) := IntWalk.i64_in _ (by have := HT.out; have := H1.out; omega)
    go_enter Try.func15, Try.ntmps15
    go_wp2_with fail
    go_ret
    refine ⟨?_, rfl⟩
    have h3 : t + (n : Int) = z := by have := HZ.out; have := HT.out; have := H1.out; omega
    rw [← h3]; rfl
  · go_enter Try.func15, Try.ntmps15
    go_wp2_with fail
    go_ret
    refine ⟨?_, rfl⟩
    have h3 : t = z := by have := HZ.out; have := HT.out; have := H1.out; omega
    rw [← h3]; rfl
end Go.Proofs.Ytdmhajlhpieedaa
