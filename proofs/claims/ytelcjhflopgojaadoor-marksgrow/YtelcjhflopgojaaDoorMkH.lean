import Derived.Test.YtelcjhflopgojaaDoorMkG
/-! A book as its list of marks: Put, Drop, Mark. -/
namespace Go.Proofs.YtelcjhflopgojaaDoor
open Go.RowKit Go.Lib
set_option maxRecDepth 100000

/-- A book all of whose blocks are B or greater, with its total and its marks. -/
def Bk (B : Nat) (W : World) (p t : Nat) (L : List Mk) : Prop := ∃ b xs ck, BookAt W p b t xs ck ∧ xs.map X.mk1 = L ∧ B ≤ p ∧ B ≤ b ∧ (∀ x ∈ xs, B ≤ x.q) ∧ (∀ x ∈ xs, nameOk x.nm = true) ∧ xs.length ≤ 256
theorem Bk.size {B : Nat} {W : World} {p t : Nat} {L : List Mk} (h : Bk B W p t L) : B ≤ W.heap.size := by
  obtain ⟨b, xs, ck, h1, _, h2, _⟩ := h
  have := h1.lt (.inl rfl)
  omega
theorem Bk.below {B : Nat} {W W' : World} {p t : Nat} {L : List Mk} (h : Bk B W p t L) (hB : Below W.heap.size W W') : Bk B W' p t L := by
  obtain ⟨b, xs, ck, h1, h2⟩ := h
  exact ⟨b, xs, ck, h1.below hB, h2⟩
theorem Bk.names {B : Nat} {W : World} {p t : Nat} {L : List Mk} (h : Bk B W p t L) : (L.map (·.nm)).Nodup ∧ ∀ m ∈ L, nameOk m.nm = true := by
  obtain ⟨b, xs, ck, h1, rfl, _, _, _, h3, _⟩ := h
  refine ⟨by rw [List.map_map]; exact h1.map.nm, fun m hm => ?_⟩
  obtain ⟨x, hx, rfl⟩ := List.mem_map.1 hm
  exact h3 x hx
def hasL (L : List Mk) (nm : List UInt8) : Bool := L.any fun m => decide (m.nm = nm)
/-- What Put answers of a mark. -/
def putE (t : Nat) (L : List Mk) (nm : List UInt8) (lo hi : Int) : Int := if nameOk nm = false then 200 else if lo < 0 ∨ hi ≤ lo ∨ (t : Int) < hi then 12 else if hasL L nm = true then 201 else if 256 ≤ L.length then 202 else 0
def putL (t : Nat) (L : List Mk) (nm : List UInt8) (lo hi : Int) : List Mk := if putE t L nm lo hi = 0 then L ++ [⟨nm, lo.toNat, hi.toNat⟩] else L
def dropL (L : List Mk) (nm : List UInt8) : List Mk := L.filter fun m => decide (m.nm ≠ nm)
theorem put_B {B : Nat} {w : World} {p t : Nat} {L : List Mk} (h : Bk B w p t L) {nm : List UInt8} (hl : nm.length ≤ 9223372036854775807) (lo hi : Int) :
    Calls Tryd.prog 6 #[.pointer (some ⟨p, 0, none⟩), .agg #[.string ⟨nm.toArray⟩, .int .i64 lo, .int .i64 hi]] w fun e w' => e = .returned (.int .i64 (putE t L nm lo hi)) ∧ Bk B w' p t (putL t L nm lo hi) ∧ Below B w w' := by
  have hs := h.size
  have h0 := h
  obtain ⟨b, xs, ck, h1, h2, h3, h4, h5, h6, h7⟩ := h
  by_cases hn : nameOk nm = true
  · by_cases hp : lo < 0 ∨ hi ≤ lo ∨ (t : Int) < hi
    · have he : putE t L nm lo hi = 12 := by unfold putE; rw [if_neg (by rw [hn]; decide), if_pos hp]
      refine (put_place h1 hl hn hp).mono ?_
      rintro e w' ⟨rfl, hb⟩
      rw [putL, he]
      exact ⟨rfl, h0.below hb, hb.mono hs⟩
    · rcases name_cases nm xs h1.map.nm with hx | ⟨l, x, r, rfl, hx, hl', hr'⟩
      · have hh : hasL L nm = false := by
          rw [← h2]
          simp only [hasL, List.any_map, List.any_eq_false, Function.comp_apply, decide_eq_true_eq]
          exact fun x hm => hx x hm
        by_cases hf : 256 ≤ xs.length
        · have he : putE t L nm lo hi = 202 := by unfold putE; rw [if_neg (by rw [hn]; decide), if_neg hp, if_neg (by rw [hh]; decide), if_pos (by rw [← h2, List.length_map]; exact hf)]
          refine (put_full h1 hl hn ⟨by omega, by omega, by omega⟩ hx hf).mono ?_
          rintro e w' ⟨rfl, hb⟩
          rw [putL, he]
          exact ⟨rfl, h0.below hb, hb.mono hs⟩
        · have he : putE t L nm lo hi = 0 := by unfold putE; rw [if_neg (by rw [hn]; decide), if_neg hp, if_neg (by rw [hh]; decide), if_neg (by rw [← h2, List.length_map]; exact hf)]
          have hc := put_new_ h1 (lo := lo.toNat) (hi := hi.toNat) hn (by omega) hx (by omega)
          rw [show ((lo.toNat : Nat) : Int) = lo by omega, show ((hi.toNat : Nat) : Int) = hi by omega] at hc
          refine hc.mono ?_
          rintro e w' ⟨rfl, ⟨q, hq, hb⟩, hC⟩
          rw [putL, he]
          refine ⟨rfl, ⟨b, _, _, hb, by simp [← h2, X.mk1], h3, h4, ?_, ?_, by rw [List.length_append, List.length_singleton]; omega⟩, hC.below (fun g e => by omega) hs⟩
          · intro x hx
            rcases List.mem_append.1 hx with hx | hx
            · exact h5 x hx
            · simp only [List.mem_singleton] at hx
              subst hx
              show B ≤ q
              omega
          · intro x hx
            rcases List.mem_append.1 hx with hx | hx
            · exact h6 x hx
            · simp only [List.mem_singleton] at hx
              subst hx
              exact hn
      · have hh : hasL L nm = true := by
          rw [← h2]
          simp only [hasL, List.any_map, List.any_eq_true, Function.comp_apply, decide_eq_true_eq]
          exact ⟨x, by simp, hx⟩
        have he : putE t L nm lo hi = 201 := by unfold putE; rw [if_neg (by rw [hn]; decide), if_neg hp, if_pos hh]
        refine (put_there h1 hl hn ⟨by omega, by omega, by omega⟩ hx hl').mono ?_
        rintro e w' ⟨rfl, hb⟩
        rw [putL, he]
        exact ⟨rfl, h0.below hb, hb.mono hs⟩
  · have hn' : nameOk nm = false := by simpa using hn
    have he : putE t L nm lo hi = 200 := by unfold putE; rw [if_pos hn']
    refine (put_title hl hn').mono ?_
    rintro e w' ⟨rfl, hb⟩
    rw [putL, he]
    exact ⟨rfl, h0.below hb, hb.mono hs⟩
end Go.Proofs.YtelcjhflopgojaaDoor
