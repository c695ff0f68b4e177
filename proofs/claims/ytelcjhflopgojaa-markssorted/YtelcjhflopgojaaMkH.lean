import Derived.Test.YtelcjhflopgojaaMkG
/-! A book as its list of marks: Put, Drop, Mark. -/
namespace Go.Proofs.Ytelcjhflopgojaa
open Go.RowKit Go.Lib
set_option maxRecDepth 100000

/-- A book all of whose blocks are B or greater, with its total and its marks. -/
def Bk (B : Nat) (W : World) (p t : Nat) (L : List Mk) : Prop := ∃ b xs ck, BookAt W p b t xs ck ∧ xs.map X.mk1 = L ∧ B ≤ p ∧ B ≤ b ∧ (∀ x ∈ xs, B ≤ x.q) ∧ (∀ x ∈ xs, nameOk x.nm = true) ∧ xs.length ≤ 256
theorem Bk.size {B : Nat} {W : World} {p t : Nat} {L : List Mk} (h : Bk B W p t L) : B ≤ W.heap.size := by
  obtain ⟨b, xs, ck, h1, _, h2, _⟩ := h
  have := h1.lt (.inl rfl)
  omega
theorem Bk.below {B : Nat} {W W' : World} {p t : Nat} {L : List Mk} (h : Bk B W p t L) (hB : Below W.heap.size W W') : Bk B W' p t L := by
  obtain ⟨b, xs, ck, h1, h2⟩ := h
  exact ⟨b, xs, ck, h1.below hB, h2⟩
theorem Bk.names {B : Nat} {W : World} {p t : Nat} {L : List Mk} (h : Bk B W p t L) : (L.map (·.nm)).Nodup ∧ ∀ m ∈ L, nameOk m.nm = true := by
  obtain ⟨b, xs, ck, h1, rfl, _, _, _, h3, _⟩ := h
  refine ⟨by rw [List.map_map]; exact h1.map.nm, fun m hm => ?_⟩
  obtain ⟨x, hx, rfl⟩ := List.mem_map.1 hm
  exact h3 x hx
def hasL (L : List Mk) (nm : List UInt8) : Bool := L.any fun m => decide (m.nm = nm)
/-- What Put answers of a mark. -/
def putE (t : Nat) (L : List Mk) (nm : List UInt8) (lo hi : Int) : Int := if nameOk nm = false then 200 else if lo < 0 ∨ hi ≤ lo ∨ (t : Int) < hi then 12 else if hasL L nm = true then 201 else if 256 ≤ L.length then 202 else 0
def putL (t : Nat) (L : List Mk) (nm : List UInt8) (lo hi : Int) : List Mk := if putE t L nm lo hi = 0 then L ++ [⟨nm, lo.toNat, hi.toNat⟩] else L
def dropL (L : List Mk) (nm : List UInt8) : List Mk := L.filter fun m => decide (m.nm ≠ nm)
theorem put_B {B : Nat} {w : World} {p t : Nat} {L : List Mk} (h : Bk B w p t L) {nm : List UInt8} (hl : nm.length ≤ 9223372036854775807) (lo hi : Int) :
    Calls Try.prog 8 #[.pointer (some ⟨p, 0, none⟩), .agg #[.string ⟨nm.toArray⟩, .int .i64 lo, .int .i64 hi]] w fun e w' => e = .returned (.int .i64 (putE t L nm lo hi)) ∧ Bk B w' p t (putL t L nm lo hi) ∧ Below B w w' := by
  have hs := h.size
  have h0 := h
  obtain ⟨b, xs, ck, h1, h2, h3, h4, h5, h6, h7⟩ := h
  by_cases hn : nameOk nm = true
  · by_cases hp : lo < 0 ∨ hi ≤ lo ∨ (t : Int) < hi
    · have he : putE t L nm lo hi = 12 := by unfold putE; rw [if_neg (by rw [hn]; decide), if_pos hp]
      refine (put_place h1 hl hn hp).mono ?_
      rintro e w' ⟨rfl, hb⟩
      rw [putL, he]
      exact ⟨rfl, h0.below hb, hb.mono hs⟩
    · rcases name_cases nm xs h1.map.nm with hx | ⟨l, x, r, rfl, hx, hl', hr'⟩
      · have hh : hasL L nm = false := by
          rw [← h2]
          simp only [hasL, List.any_map, List.any_eq_false, Function.comp_apply, decide_eq_true_eq]
          exact fun x hm => hx x hm
        by_cases hf : 256 ≤ xs.length
        · have he : putE t L nm lo hi = 202 := by unfold putE; rw [if_neg (by rw [hn]; decide), if_neg hp, if_neg (by rw [hh]; decide), if_pos (by rw [← h2, List.length_map]; exact hf)]
          refine (put_full h1 hl hn ⟨by omega, by omega, by omega⟩ hx hf).mono ?_
          rintro e w' ⟨rfl, hb⟩
          rw [putL, he]
          exact ⟨rfl, h0.below hb, hb.mono hs⟩
        · have he : putE t L nm lo hi = 0 := by unfold putE; rw [if_neg (by rw [hn]; decide), if_neg hp, if_neg (by rw [hh]; decide), if_neg (by rw [← h2, List.length_map]; exact hf)]
          have hc := put_new_ h1 (lo := lo.toNat) (hi := hi.toNat) hn (by omega) hx (by omega)
          rw [show ((lo.toNat : Nat) : Int) = lo by omega, show ((hi.toNat : Nat) : Int) = hi by omega] at hc
          refine hc.mono ?_
          rintro e w' ⟨rfl, ⟨q, hq, hb⟩, hC⟩
          rw [putL, he]
          refine ⟨rfl, ⟨b, _, _, hb, by simp [← h2, X.mk1], h3, h4, ?_, ?_, by rw [List.length_append, List.length_singleton]; omega⟩, hC.below (fun g e => by omega) hs⟩
          · intro x hx
            rcases List.mem_append.1 hx with hx | hx
            · exact h5 x hx
            · simp only [List.mem_singleton] at hx
              subst hx
              show B ≤ q
              omega
          · intro x hx
            rcases List.mem_append.1 hx with hx | hx
            · exact h6 x hx
            · simp only [List.mem_singleton] at hx
              subst hx
              exact hn
      · have hh : hasL L nm = true := by
          rw [← h2]
          simp only [hasL, List.any_map, List.any_eq_true, Function.comp_apply, decide_eq_true_eq]
          exact ⟨x, by simp, hx⟩
        have he : putE t L nm lo hi = 201 := by unfold putE; rw [if_neg (by rw [hn]; decide), if_neg hp, if_pos hh]
        refine (put_there h1 hl hn ⟨by omega, by omega, by omega⟩ hx hl').mono ?_
        rintro e w' ⟨rfl, hb⟩
        rw [putL, he]
        exact ⟨rfl, h0.below hb, hb.mono hs⟩
  · have hn' : nameOk nm = false := by simpa using hn
    have he : putE t L nm lo hi = 200 := by unfold putE; rw [if_pos hn']
    refine (put_title hl hn').mono ?_
    rintro e w' ⟨rfl, hb⟩
    rw [putL, he]
    exact ⟨rfl, h0.below hb, hb.mono hs⟩
set_option maxHeartbeats 1000000 in
theorem drop_none {w : World} {p b t ck : Nat} {xs : List X} (h : BookAt w p b t xs ck) {nm : List UInt8} (hx : ∀ x ∈ xs, x.nm ≠ nm) : Calls Try.prog 9 #[.pointer (some ⟨p, 0, none⟩), .string ⟨nm.toArray⟩] w fun e w' => e = .returned (.int .i64 60) ∧ w' = w := by
  have hk := look_miss h.map hx
  obtain ⟨c0, c1⟩ := box2 h.box
  clear h hx
  generalize (⟨nm.toArray⟩ : ByteArray) = s at *
  go_enter Try.func9, Try.ntmps9
  go_wp2_with fail
  go_ret
  exact ⟨rfl, rfl⟩
set_option maxHeartbeats 1000000 in
theorem drop_some {w : World} {p b t ck : Nat} {l r : List X} {x : X} (h : BookAt w p b t (l ++ x :: r) ck) {nm : List UInt8} (hx : x.nm = nm) (hl : ∀ y ∈ l, y.nm ≠ nm) : Calls Try.prog 9 #[.pointer (some ⟨p, 0, none⟩), .string ⟨nm.toArray⟩] w fun e w' => e = .returned (.int .i64 0) ∧ BookAt w' p b t (l ++ r) ck ∧ Chg (fun g => g = b) w w' := by
  have hk := look_hit h.map hx hl
  obtain ⟨W', hd, hm, hC, -⟩ := del_hit h.map hx hl
  obtain ⟨c0, c1⟩ := box2 h.box
  have HE : Hid (BookAt W' p b t (l ++ r) ck ∧ Chg (fun g => g = b) w W') := by
    refine ⟨⟨hC.block h.box h.p_ne_b, hm, fun y hy => (h.mark y ?_).chg hC (fun e => h.b_ne_q (x := y) ?_ e.symm), nodup_mid h.qs⟩, hC⟩
    · rcases List.mem_append.1 hy with hy | hy
      · exact List.mem_append.2 (.inl hy)
      · exact List.mem_append.2 (.inr (List.mem_cons_of_mem _ hy))
    · rcases List.mem_append.1 hy with hy | hy
      · exact List.mem_append.2 (.inl hy)
      · exact List.mem_append.2 (.inr (List.mem_cons_of_mem _ hy))
  clear h hx hl hm hC
  generalize (⟨nm.toArray⟩ : ByteArray) = s at *
  go_enter Try.func9, Try.ntmps9
  go_wp2_with fail
  go_ret
  exact ⟨rfl, HE.out⟩
theorem drop_B {B : Nat} {w : World} {p t : Nat} {L : List Mk} (h : Bk B w p t L) (nm : List UInt8) :
    Calls Try.prog 9 #[.pointer (some ⟨p, 0, none⟩), .string ⟨nm.toArray⟩] w fun e w' => e = .returned (.int .i64 (if hasL L nm = true then 0 else 60)) ∧ Bk B w' p t (dropL L nm) ∧ Below B w w' := by
  have hs := h.size
  have h0 := h
  obtain ⟨b, xs, ck, h1, h2, h3, h4, h5, h6, h7⟩ := h
  rcases name_cases nm xs h1.map.nm with hx | ⟨l, x, r, rfl, hx, hl', hr'⟩
  · have hh : hasL L nm = false := by
      rw [← h2]
      simp only [hasL, List.any_map, List.any_eq_false, Function.comp_apply, decide_eq_true_eq]
      exact fun x hm => hx x hm
    have hd : dropL L nm = L := by
      rw [← h2]
      refine List.filter_eq_self.2 fun m hm => ?_
      obtain ⟨x, hx', rfl⟩ := List.mem_map.1 hm
      exact decide_eq_true (hx x hx')
    refine (drop_none h1 hx).mono ?_
    rintro e w' ⟨rfl, rfl⟩
    rw [hh, hd]
    exact ⟨rfl, h0, Below.refl _ _⟩
  · have hh : hasL L nm = true := by
      rw [← h2]
      simp only [hasL, List.any_map, List.any_eq_true, Function.comp_apply, decide_eq_true_eq]
      exact ⟨x, by simp, hx⟩
    have hd : dropL L nm = (l ++ r).map X.mk1 := by
      rw [← h2]
      unfold dropL
      rw [List.map_append, List.map_append, List.map_cons, List.filter_append, List.filter_cons_of_neg (by simp [X.mk1, hx])]
      congr 1
      · refine List.filter_eq_self.2 fun m hm => ?_
        obtain ⟨y, hy, rfl⟩ := List.mem_map.1 hm
        exact decide_eq_true (hl' y hy)
      · refine List.filter_eq_self.2 fun m hm => ?_
        obtain ⟨y, hy, rfl⟩ := List.mem_map.1 hm
        exact decide_eq_true (hr' y hy)
    have hin : ∀ y ∈ l ++ r, y ∈ l ++ x :: r := fun y hy => by
      rcases List.mem_append.1 hy with hy | hy
      · exact List.mem_append.2 (.inl hy)
      · exact List.mem_append.2 (.inr (List.mem_cons_of_mem _ hy))
    refine (drop_some h1 hx hl').mono ?_
    rintro e w' ⟨rfl, hb, hC⟩
    rw [hh, hd]
    exact ⟨rfl, ⟨b, _, _, hb, rfl, h3, h4, fun y hy => h5 y (hin y hy), fun y hy => h6 y (hin y hy), by rw [List.length_append] at *; simp only [List.length_cons] at h7; omega⟩, hC.below (fun g e => by omega) hs⟩
end Go.Proofs.Ytelcjhflopgojaa
