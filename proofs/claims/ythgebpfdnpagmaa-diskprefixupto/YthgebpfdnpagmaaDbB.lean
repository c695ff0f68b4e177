import Derived.Test.YthgebpfdnpagmaaDbA
/-! What DiskPrefix's calls leave, and what Files tells of it. -/
namespace Go.Proofs.Ythgebpfdnpagmaa
open Go.RowKit Go.Lib Go.Sort Go.Shelf
set_option maxRecDepth 100000

def na : List UInt8 := [97]
def nb : List UInt8 := [98]
def pS0 (X Y Z : List UInt8) : Dk := ⟨X.length + Y.length + Z.length + 2, [], false, 0, 0⟩
def pS1 (X Y Z : List UInt8) : Dk := ⟨X.length + Y.length + Z.length + 2, [⟨na, 33 :: X, 0⟩], false, 0, 0⟩
def pS2 (X Y Z : List UInt8) : Dk := ⟨X.length + Y.length + Z.length + 2, [⟨na, 33 :: X, X.length + 1⟩], false, 0, 0⟩
def pS3 (X Y Z : List UInt8) (s k : Nat) : Dk := ⟨X.length + Y.length + Z.length + 2, [⟨na, 33 :: X, X.length + 1⟩, ⟨nb, 63 :: Z, 0⟩], false, s, k⟩
def pS4 (X Y Z : List UInt8) : Dk := ⟨X.length + Y.length + Z.length + 2, [⟨na, 33 :: X ++ Y, X.length + 1⟩, ⟨nb, 63 :: Z, 0⟩], false, 0, 0⟩
def wantA (X Y : List UInt8) (k : Nat) : List UInt8 := 33 :: X ++ Y.take k
def wantB (Z : List UInt8) (k : Nat) : List UInt8 := (63 :: Z).take k
def pFA (X Y Z : List UInt8) (k : Nat) : List Fl := ⟨na, wantA X Y k, (wantA X Y k).length⟩ :: if wantB Z k = [] then [] else [⟨nb, wantB Z k, (wantB Z k).length⟩]
def pS5 (X Y Z : List UInt8) (k : Nat) (d : Bool) : Dk := ⟨X.length + Y.length + Z.length + 2, pFA X Y Z k, d, 0, 0⟩
theorem na_ne : ¬ na = nb := by decide
theorem nb_ne : ¬ nb = na := by decide
theorem take_all {α : Type} (l : List α) (n : Nat) (h : l.length ≤ n) : l.take n = l := List.take_of_length_le h
theorem step01 (X Y Z : List UInt8) : appP (pS0 X Y Z) na (33 :: X) = (pS1 X Y Z, ((X.length + 1 : Nat) : Int), 0) := by
  have ht : takeN (pS0 X Y Z) (33 :: X).length = X.length + 1 := by
    simp only [takeN, pS0, used, List.length_cons, List.map_nil, List.sum_nil]
    omega
  have hs : appS (pS0 X Y Z) na (33 :: X) = pS1 X Y Z := by
    unfold appS
    rw [ht, take_all _ _ (by simp)]
    simp [pS0, pS1, growP, enter, growF]
  unfold appP
  rw [ht, hs]
  simp [pS0, pS1]
theorem step12 (X Y Z : List UInt8) : ({ pS1 X Y Z with fs := (pS1 X Y Z).fs.map (syncF na) } : Dk) = pS2 X Y Z := by
  simp [pS1, pS2, syncF]
theorem step23 (X Y Z : List UInt8) : appP (pS2 X Y Z) nb (63 :: Z) = (pS3 X Y Z 0 0, ((Z.length + 1 : Nat) : Int), 0) := by
  have ht : takeN (pS2 X Y Z) (63 :: Z).length = Z.length + 1 := by
    simp only [takeN, pS2, used, List.length_cons, List.map_cons, List.map_nil, List.sum_cons, List.sum_nil]
    omega
  have hs : appS (pS2 X Y Z) nb (63 :: Z) = pS3 X Y Z 0 0 := by
    unfold appS
    rw [ht, take_all _ _ (by simp)]
    simp [pS2, pS3, growP, enter, growF, na_ne]
  unfold appP
  rw [ht, hs]
  simp [pS2, pS3]
theorem grown34 (X Y Z : List UInt8) (s k : Nat) : takeN (pS3 X Y Z s k) Y.length = Y.length ∧ appS (pS3 X Y Z s k) na Y = { pS4 X Y Z with steps := s, keep := k } := by
  have ht : takeN (pS3 X Y Z s k) Y.length = Y.length := by
    simp only [takeN, pS3, used, List.length_cons, List.map_cons, List.map_nil, List.sum_cons, List.sum_nil]
    omega
  refine ⟨ht, ?_⟩
  unfold appS
  rw [ht, take_all _ _ (Nat.le_refl _)]
  simp [pS3, pS4, growP, enter, growF, nb_ne]
theorem step34 (X Y Z : List UInt8) : appP (pS3 X Y Z 0 0) na Y = (pS4 X Y Z, (Y.length : Int), 0) := by
  obtain ⟨ht, hs⟩ := grown34 X Y Z 0 0
  unfold appP
  rw [ht, hs]
  simp [pS3, pS4]
theorem crash45 (X Y Z : List UInt8) (s j k : Nat) : crashP k { pS4 X Y Z with steps := s, keep := j } = pS5 X Y Z k true := by
  have h1 : Fl.lose k ⟨na, 33 :: X ++ Y, X.length + 1⟩ = ⟨na, wantA X Y k, (wantA X Y k).length⟩ := by
    have : (33 :: X ++ Y).take (X.length + 1 + min ((33 :: X ++ Y).length - (X.length + 1)) k) = wantA X Y k := by
      have e : (33 :: X ++ Y).length - (X.length + 1) = Y.length := by simp only [List.length_append, List.length_cons]; omega
      rw [e, List.take_append, take_all (33 :: X) _ (by simp)]
      unfold wantA
      congr 1
      rw [show X.length + 1 + min Y.length k - (33 :: X).length = min Y.length k by simp only [List.length_cons]; omega]
      by_cases hk : Y.length ≤ k
      · rw [Nat.min_eq_left hk, take_all Y k hk, take_all Y _ (Nat.le_refl _)]
      · rw [Nat.min_eq_right (by omega)]
    unfold Fl.lose
    simp only
    rw [this]
  have h2 : Fl.lose k ⟨nb, 63 :: Z, 0⟩ = ⟨nb, wantB Z k, (wantB Z k).length⟩ := by
    have : (63 :: Z).take (0 + min ((63 :: Z).length - 0) k) = wantB Z k := by
      unfold wantB
      rw [Nat.zero_add, Nat.sub_zero]
      by_cases hk : (63 :: Z).length ≤ k
      · rw [Nat.min_eq_left hk, take_all _ k hk, take_all _ _ (Nat.le_refl _)]
      · rw [Nat.min_eq_right (by omega)]
    unfold Fl.lose
    simp only
    rw [this]
  have h3 : (wantA X Y k).isEmpty = false := rfl
  unfold crashP pS5 pFA
  simp only [pS4, List.map_cons, List.map_nil, h1, h2, List.filter_cons, List.filter_nil, h3]
  by_cases hz : wantB Z k = []
  · rw [if_pos hz, hz]
    simp
  · rw [if_neg hz]
    have : (wantB Z k).isEmpty = false := by
      cases hq : wantB Z k with
      | nil => exact absurd hq hz
      | cons => rfl
    simp [this]
theorem stepArmed (X Y Z : List UInt8) (k : Nat) : appP (pS3 X Y Z 1 k) na Y = (pS5 X Y Z k true, 0, 110) := by
  obtain ⟨ht, hs⟩ := grown34 X Y Z 1 k
  unfold appP
  rw [hs]
  have h1 : (pS3 X Y Z 1 k).steps = 1 := rfl
  rw [if_pos h1]
  exact congrArg (fun d => (d, (0 : Int), (110 : Int))) (crash45 X Y Z 1 k k)
theorem lose0 (nm bs : List UInt8) : Fl.lose 0 ⟨nm, bs, bs.length⟩ = ⟨nm, bs, bs.length⟩ := by
  have : bs.take (bs.length + min (bs.length - bs.length) 0) = bs := take_all _ _ (by omega)
  unfold Fl.lose
  simp only
  rw [this]
theorem crash65 (X Y Z : List UInt8) (k : Nat) : crashP 0 (pS5 X Y Z k false) = pS5 X Y Z k true := by
  have h3 : (wantA X Y k).isEmpty = false := rfl
  unfold crashP pS5 pFA
  by_cases hz : wantB Z k = []
  · rw [if_pos hz]
    simp [lose0, h3]
  · rw [if_neg hz]
    have : (wantB Z k).isEmpty = false := by
      cases hq : wantB Z k with
      | nil => exact absurd hq hz
      | cons => rfl
    simp [lose0, h3, this]
theorem used5 (X Y Z : List UInt8) (k : Nat) : used (pFA X Y Z k) ≤ X.length + Y.length + Z.length + 2 := by
  have h1 : (wantA X Y k).length ≤ X.length + Y.length + 1 := by
    simp only [wantA, List.length_append, List.length_cons, List.length_take]; omega
  have h2 : (wantB Z k).length ≤ Z.length + 1 := by
    simp only [wantB, List.length_take, List.length_cons]; omega
  unfold pFA used
  split
  · simp; omega
  · simp; omega
section
variable (X Y Z : List UInt8) (h : X.length + Y.length + Z.length ≤ 1048576)
include h
theorem ok0 : (pS0 X Y Z).Ok := ⟨by simp only [pS0]; omega, by simp [pS0, used], by simp [pS0], by simp [pS0]⟩
theorem ok2 : (pS2 X Y Z).Ok := ⟨by simp only [pS2]; omega, by simp [pS2, used]; omega, by simp [pS2], by simp [pS2]⟩
theorem ok3 (s k : Nat) (hs : s ≤ 9223372036854775807) (hk : k ≤ 9223372036854775807) : (pS3 X Y Z s k).Ok := ⟨by simp only [pS3]; omega, by simp [pS3, used]; omega, hs, hk⟩
theorem ok4 : (pS4 X Y Z).Ok := ⟨by simp only [pS4]; omega, by simp [pS4, used]; omega, by simp [pS4], by simp [pS4]⟩
theorem ok5 (k : Nat) (d : Bool) : (pS5 X Y Z k d).Ok := ⟨by simp only [pS5]; omega, used5 X Y Z k, by simp [pS5], by simp [pS5]⟩
end
/-! ## What Files tells -/
theorem files_one {W W' : World} {S : Dk} {e : Ending} {fa : Fl} (hS : S.fs = [fa]) (h : FilesS W W' S e) :
    ∃ g cap v, e = .returned (.slice (some ⟨g, 0, none⟩) 1 cap) ∧ 1 ≤ cap ∧ cap ≤ 9223372036854775807 ∧ W'.cell? ⟨g, 0, none⟩ = some (.string ⟨fa.nm.toArray⟩) ∧ W'.cell? ⟨g, 1, none⟩ = some (.slice v.a v.n v.cap) ∧ W'.cell? ⟨g, 2, none⟩ = some (.int .i64 (fa.syn : Int)) ∧ FlOk W' v fa := by
  obtain ⟨g, cap, zs, rfl, hp, _, hrw, he, _⟩ := h
  rw [hS] at hp
  have hl := hp.length_eq
  simp only [List.length_map, List.length_cons, List.length_nil] at hl
  match zs, hl with
  | [z], _ =>
    have hz2 : z.2 = fa := by
      have := hp.mem_iff (a := z.2) |>.1 (by simp)
      simpa using this
    have hok := he z (by simp)
    rw [hz2] at hok
    have hroom := hrw.room
    simp only [maxLen] at hroom
    obtain ⟨g', off, e1, _, hc⟩ := hrw.cells (by simp)
    simp only [Option.some.injEq, Addr.mk.injEq, and_true] at e1
    obtain ⟨rfl, rfl⟩ := e1
    have c0 := hc 0 z.1 (by simp) 0 _ rfl
    have c1 := hc 0 z.1 (by simp) 1 _ rfl
    have c2 := hc 0 z.1 (by simp) 2 _ rfl
    rw [hok.nm] at c0
    rw [hok.syn] at c2
    exact ⟨g, cap, z.1, rfl, hroom.1, hroom.2, c0, c1, c2, hok⟩
theorem files_two {W W' : World} {S : Dk} {e : Ending} {fa fb : Fl} (hS : S.fs = [fa, fb]) (hlt : Lib.compareBytes fa.nm fb.nm < 0) (h : FilesS W W' S e) :
    ∃ g cap v u, e = .returned (.slice (some ⟨g, 0, none⟩) 2 cap) ∧ 2 ≤ cap ∧ cap ≤ 9223372036854775807 ∧ W'.cell? ⟨g, 0, none⟩ = some (.string ⟨fa.nm.toArray⟩) ∧ W'.cell? ⟨g, 1, none⟩ = some (.slice v.a v.n v.cap) ∧ W'.cell? ⟨g, 2, none⟩ = some (.int .i64 (fa.syn : Int)) ∧ FlOk W' v fa ∧
      W'.cell? ⟨g, 3, none⟩ = some (.string ⟨fb.nm.toArray⟩) ∧ W'.cell? ⟨g, 4, none⟩ = some (.slice u.a u.n u.cap) ∧ W'.cell? ⟨g, 5, none⟩ = some (.int .i64 (fb.syn : Int)) ∧ FlOk W' u fb := by
  obtain ⟨g, cap, zs, rfl, hp, hr, hrw, he, _⟩ := h
  rw [hS] at hp
  have hl := hp.length_eq
  simp only [List.length_map, List.length_cons, List.length_nil] at hl
  match zs, hl with
  | [z1, z2], _ =>
    have hz : z1.2 = fa ∧ z2.2 = fb := by
      have h1 := hp.mem_iff (a := z1.2) |>.1 (by simp)
      simp only [List.mem_cons, List.not_mem_nil, or_false] at h1
      simp only [List.map_cons, List.map_nil] at hp
      rcases h1 with h1 | h1
      · rw [h1] at hp
        have := hp.cons_inv
        exact ⟨h1, by simpa using this⟩
      · exfalso
        rw [h1] at hp
        have h2 : z2.2 = fa := by
          have := (hp.trans (List.Perm.swap fb fa [])).cons_inv
          simpa using this
        have ho1 := (he z1 (by simp)).nm
        have ho2 := (he z2 (by simp)).nm
        rw [h1] at ho1
        rw [h2] at ho2
        simp only [Rises, List.map_cons, List.map_nil, List.pairwise_cons, List.mem_cons, List.not_mem_nil, or_false, forall_eq] at hr
        rw [ho1, ho2] at hr
        exact hr.1 hlt
    have hok1 := he z1 (by simp)
    have hok2 := he z2 (by simp)
    rw [hz.1] at hok1
    rw [hz.2] at hok2
    have hroom := hrw.room
    simp only [maxLen] at hroom
    obtain ⟨g', off, e1, _, hc⟩ := hrw.cells (by simp)
    simp only [Option.some.injEq, Addr.mk.injEq, and_true] at e1
    obtain ⟨rfl, rfl⟩ := e1
    have c0 := hc 0 z1.1 (by simp) 0 _ rfl
    have c1 := hc 0 z1.1 (by simp) 1 _ rfl
    have c2 := hc 0 z1.1 (by simp) 2 _ rfl
    have c3 := hc 1 z2.1 (by simp) 0 _ rfl
    have c4 := hc 1 z2.1 (by simp) 1 _ rfl
    have c5 := hc 1 z2.1 (by simp) 2 _ rfl
    rw [hok1.nm] at c0
    rw [hok1.syn] at c2
    rw [hok2.nm] at c3
    rw [hok2.syn] at c5
    exact ⟨g, cap, z1.1, z2.1, rfl, hroom.1, hroom.2, c0, c1, c2, hok1, c3, c4, c5, hok2⟩
end Go.Proofs.Ythgebpfdnpagmaa
