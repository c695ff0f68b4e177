import Derived.Test.YtchkeckblpmehaaWxD
import Derived.Test.YtchkeckblpmehaaWcA
/-! The reference's Held. -/
namespace Go.Proofs.Ytchkeckblpmehaa
open Go.RowKit Go.Lib
set_option maxRecDepth 100000

/-- The least number above last, or -1. -/
def bestP (last : Int) (K : List Int) : Int := K.foldl (fun b n => if last < n ∧ (b < 0 ∨ n < b) then n else b) (-1)
theorem bestP_snoc (last : Int) (K : List Int) (n : Int) : bestP last (K ++ [n]) = if last < n ∧ (bestP last K < 0 ∨ n < bestP last K) then n else bestP last K := by
  unfold bestP
  rw [List.foldl_append]
  rfl
theorem bestP_take {last : Int} {K : List Int} {i : Nat} {n : Int} (h : K[i]? = some n) : bestP last (K.take (i + 1)) = if last < n ∧ (bestP last (K.take i) < 0 ∨ n < bestP last (K.take i)) then n else bestP last (K.take i) := by
  rw [List.take_add_one, h]
  exact bestP_snoc _ _ _
theorem bestP_spec (last : Int) (K : List Int) (h0 : ∀ n ∈ K, 0 ≤ n) : (bestP last K = -1 ∧ ∀ n ∈ K, n ≤ last) ∨ (bestP last K ∈ K ∧ last < bestP last K ∧ ∀ n ∈ K, last < n → bestP last K ≤ n) := by
  suffices H : ∀ i, i ≤ K.length → (bestP last (K.take i) = -1 ∧ ∀ n ∈ K.take i, n ≤ last) ∨ (bestP last (K.take i) ∈ K.take i ∧ last < bestP last (K.take i) ∧ ∀ n ∈ K.take i, last < n → bestP last (K.take i) ≤ n) by
    have := H K.length (Nat.le_refl _)
    rwa [List.take_length] at this
  intro i
  induction i with
  | zero => intro _; exact .inl ⟨rfl, fun n hn => by simp at hn⟩
  | succ i ih =>
    intro hi
    have hk : K[i]? = some K[i] := List.getElem?_eq_getElem (by omega)
    have hn0 := h0 K[i] (List.getElem_mem _)
    rw [bestP_take hk, List.take_add_one, hk]
    generalize K[i] = n at *
    simp only [Option.toList_some, List.mem_append, List.mem_singleton]
    rcases ih (by omega) with ⟨h1, h2⟩ | ⟨h1, h2, h3⟩
    · rw [h1]
      by_cases hl : last < n
      · rw [if_pos ⟨hl, .inl (by decide)⟩]
        refine .inr ⟨.inr rfl, hl, ?_⟩
        rintro m (hm | rfl) hlm
        · have := h2 m hm; omega
        · exact Int.le_refl _
      · rw [if_neg (fun h => hl h.1)]
        refine .inl ⟨rfl, ?_⟩
        rintro m (hm | rfl)
        · exact h2 m hm
        · omega
    · have hb0 : 0 ≤ bestP last (K.take i) := h0 _ (List.mem_of_mem_take h1)
      generalize bestP last (K.take i) = b at *
      by_cases hl : last < n ∧ n < b
      · rw [if_pos ⟨hl.1, .inr hl.2⟩]
        refine .inr ⟨.inr rfl, hl.1, ?_⟩
        rintro m (hm | rfl) hlm
        · have := h3 m hm hlm; omega
        · exact Int.le_refl _
      · rw [if_neg (by omega)]
        refine .inr ⟨.inl h1, h2, ?_⟩
        rintro m (hm | rfl) hlm
        · exact h3 m hm hlm
        · omega
theorem best_head {K A1 A2 : List Int} {x last : Int} (hp : (A1 ++ x :: A2).Perm K) (hs : (A1 ++ x :: A2).Pairwise (· ≤ ·)) (h1 : ∀ a ∈ A1, a ≤ last) (h2 : last < x) (h0 : ∀ n ∈ K, 0 ≤ n) : bestP last K = x := by
  have hx : x ∈ K := hp.subset (by simp)
  rcases bestP_spec last K h0 with ⟨_, h4⟩ | ⟨h3, h4, h5⟩
  · have := h4 x hx; omega
  · have h6 := h5 x hx h2
    have h7 : bestP last K ∈ A1 ++ x :: A2 := hp.symm.subset h3
    rw [List.pairwise_append] at hs
    rcases List.mem_append.1 h7 with h8 | h8
    · have := h1 _ h8; omega
    · rcases List.mem_cons.1 h8 with h9 | h9
      · exact h9
      · have := (List.pairwise_cons.1 hs.2.1).1 _ h9
        omega
theorem best_none {K A : List Int} {last : Int} (hp : A.Perm K) (h1 : ∀ a ∈ A, a ≤ last) (h0 : ∀ n ∈ K, 0 ≤ n) : bestP last K = -1 := by
  rcases bestP_spec last K h0 with ⟨h3, _⟩ | ⟨h3, h4, _⟩
  · exact h3
  · have := h1 _ (hp.symm.subset h3); omega
theorem kindNm : Kind Try.prog 56 3 1 8 := kind_of Try.underlying56 (z := .int .i64 0) (by kernel_rfl) rfl
set_option maxHeartbeats 4000000 in
theorem rHeld {w : World} {B r : Nat} {v : Value} {S : Wn Int} (h : RfW w B r v S) (hn : S.L.length ≤ 1073741824) (h0 : 0 ≤ S.nx) (hnx : S.nx ≤ 4611686018427387904) (hr : ∀ p ∈ S.L, S.nx ≤ p.1) (A : List Int) (hp : A.Perm (S.L.map (·.1))) (hs : A.Pairwise (· < ·)) :
    Calls Try.prog 21 #[.pointer (some ⟨r, 0, none⟩)] w fun e w' => ∃ v, e = .returned v ∧ OwnF intV 1 3 w' w.heap.size v A ∧ Below w.heap.size w w' := by
  obtain ⟨a, cap, rfl⟩ := h.row.shape
  obtain ⟨c0, c1, c2⟩ := box3 h.box
  have g1 : IntKind.i64.wrap (S.nx - 1) = S.nx - 1 := IntWalk.i64_in _ (by omega)
  obtain ⟨ln, hln⟩ : ∃ ln, S.L.length = ln := ⟨_, rfl⟩
  obtain ⟨K, hK⟩ : ∃ K, S.L.map (·.1) = K := ⟨_, rfl⟩
  rw [hln] at c2
  have hnc : (ln : Int) ≤ 1073741824 := by omega
  have HH : Hid (RfW w B r (.slice a ln cap) S ∧ S.L.length = ln ∧ ln ≤ 1073741824 ∧ S.L.map (·.1) = K ∧ A.Perm K ∧ A.Pairwise (· < ·) ∧ (∀ n ∈ K, 0 ≤ n) ∧ A.length = ln ∧ (∀ n ∈ A, S.nx ≤ n)) := by
    rw [hln] at h
    rw [hK] at hp
    have hk : ∀ n ∈ K, S.nx ≤ n := fun n hn => by
      rw [← hK] at hn
      obtain ⟨p, hp, rfl⟩ := List.mem_map.1 hn
      exact hr p hp
    exact ⟨h, hln, by omega, hK, hp, hs, fun n hn => by have := hk n hn; omega, by rw [hp.length_eq, ← hK, List.length_map, hln], fun n hn => hk n (hp.subset hn)⟩
  clear h hn h0 hnx hr hp hs hln hK
  go_enter Try.func21, Try.ntmps21
  go_wp2_with fail
  go_loopw [3, 4] (fun vl vt wr => ∃ (j : Nat) (a4 : Option Addr) (c4 : Nat) (last : Int), j ≤ ln ∧ vl = .slice a4 j c4 ∧ vt = .int .i64 last ∧ Hid (OwnF intV 1 3 wr w.heap.size (.slice a4 j c4) (A.take j) ∧ Below w.heap.size w wr ∧ (∀ x ∈ A.take j, x ≤ last) ∧ (∀ x ∈ A.drop j, last < x))) (fun vl _ _ => match vl with | .slice _ n _ => ln - n | _ => 0)
  case atStart => exact ⟨0, none, 0, S.nx - 1, Nat.zero_le _, rfl, rfl, by simpa using ownF_nil _ _, Below.refl _ _, fun x hx => by simp at hx, fun x hx => by have := HH.out.2.2.2.2.2.2.2.2 x (by simpa using hx); omega⟩
  case round =>
    obtain ⟨j, a4, c4, last, hj, rfl, rfl, hS⟩ := hrel
    have hR := HH.out.1.below hS.out.2.1
    obtain ⟨_, _, z2⟩ := box3 hR.box
    have HR : Hid (Rw thV 2 wr a ln cap S.L) := hR.row.rw_ layTh
    clear hR
    go_wp2_with fail
    go_loopw [5, 6] (fun vb vi wq => ∃ (i : Nat) (b : Int), i ≤ ln ∧ vi = .int .i64 (i : Int) ∧ vb = .int .i64 b ∧ wq = wr ∧ Hid (b = bestP last (K.take i))) (fun _ vi _ => ln - (RowKit.intOf vi).toNat)
    case atStart => exact ⟨0, -1, Nat.zero_le _, rfl, rfl, rfl, rfl⟩
    case round =>
      obtain ⟨i, b, hi, rfl, rfl, hwq, hb⟩ := hrel
      subst hwq
      by_cases hlt : i < ln
      · have hlt2 : (i : Int) < (ln : Int) := by omega
        obtain ⟨g, off, o, hoa, hgl, hoi, hcell⟩ := HR.out.at i hlt
        subst hoa
        have o0 := hcell 0 _ rfl
        rw [Nat.add_zero] at o0
        have gi : IntKind.i64.wrap ((i : Int) + 1) = ((i + 1 : Nat) : Int) := by rw [IntWalk.i64_in _ (by omega)]; omega
        have hki : K[i]? = some o.1 := by rw [← HH.out.2.2.2.1, List.getElem?_map, hoi]; rfl
        have HB := bestP_take (last := last) hki
        rw [← hb.out] at HB
        by_cases q1 : last < o.1
        · by_cases q2 : b < 0
          · rw [if_pos ⟨q1, .inl q2⟩] at HB
            have HB2 : Hid (o.1 = bestP last (K.take (i + 1))) := HB.symm
            clear hcell hgl hoi hki HB
            go_wp2_with fail
            go_roundw
            case rel => exact ⟨i + 1, _, by omega, by first | rfl | go_num, rfl, trivial, HB2.out⟩
            case measure => simp [RowKit.intOf]; omega
          · by_cases q3 : o.1 < b
            · rw [if_pos ⟨q1, .inr q3⟩] at HB
              have HB2 : Hid (o.1 = bestP last (K.take (i + 1))) := HB.symm
              clear hcell hgl hoi hki HB
              go_wp2_with fail
              go_roundw
              case rel => exact ⟨i + 1, _, by omega, by first | rfl | go_num, rfl, trivial, HB2.out⟩
              case measure => simp [RowKit.intOf]; omega
            · rw [if_neg (by omega)] at HB
              have HB2 : Hid (b = bestP last (K.take (i + 1))) := HB.symm
              clear hcell hgl hoi hki HB
              go_wp2_with fail
              go_roundw
              case rel => exact ⟨i + 1, _, by omega, by first | rfl | go_num, rfl, trivial, HB2.out⟩
              case measure => simp [RowKit.intOf]; omega
        · rw [if_neg (by omega)] at HB
          have HB2 : Hid (b = bestP last (K.take (i + 1))) := HB.symm
          clear hcell hgl hoi hki HB
          go_wp2_with fail
          go_roundw
          case rel => exact ⟨i + 1, _, by omega, by first | rfl | go_num, rfl, trivial, HB2.out⟩
          case measure => simp [RowKit.intOf]; omega
      · obtain rfl : i = ln := by omega
        have hlt2 : ¬ ((i : Int) < (i : Int)) := by omega
        have hbK : b = bestP last K := by
          rw [hb.out, List.take_of_length_le]
          rw [← HH.out.2.2.2.1, List.length_map, HH.out.2.1]
          exact Nat.le_refl _
        obtain ⟨_, _, hl, _, hp, hs, hk0, hAl, hA0⟩ := HH.out
        by_cases hjl : j < i
        · have hx : A[j]? = some A[j] := List.getElem?_eq_getElem (by omega)
          obtain ⟨x, hxx⟩ : ∃ x, A[j] = x := ⟨_, rfl⟩
          rw [hxx] at hx
          have hdr : A.drop j = x :: A.drop (j + 1) := by rw [List.drop_eq_getElem_cons (by omega), hxx]
          have hbx : b = x := by
            rw [hbK]
            refine best_head (A1 := A.take j) (A2 := A.drop (j + 1)) ?_ ?_ hS.out.2.2.1 (hS.out.2.2.2 x (by rw [hdr]; simp)) hk0
            · rw [← hdr, List.take_append_drop]; exact hp
            · rw [← hdr, List.take_append_drop]; exact hs.imp Int.le_of_lt
          have hb0 : ¬ b < 0 := by
            have := hk0 x (hp.subset (List.mem_of_getElem? hx))
            omega
          have htk : A.take (j + 1) = A.take j ++ [x] := by rw [List.take_add_one, hx]; rfl
          have hlen : (A.take j).length = j := by rw [List.length_take]; omega
          have ho := hS.out.1
          obtain ⟨g8, cap8, w8, hr8, ho8, hb8, hk8, hs8, hat8⟩ := appendF_one kindNm layI ho hS.out.2.1.size x #[.int .i64 x] rfl 3 (by rw [hlen]; omega) (by rw [hlen]; omega) 56
          rw [hlen] at hr8 ho8
          have HS : Hid (OwnF intV 1 3 w8 w.heap.size (.slice (some ⟨g8, 0, none⟩) (j + 1) cap8) (A.take (j + 1)) ∧ Below w.heap.size w w8 ∧ (∀ y ∈ A.take (j + 1), y ≤ x) ∧ (∀ y ∈ A.drop (j + 1), x < y)) := by
            refine ⟨by rw [htk]; exact ho8, hS.out.2.1.trans hb8, fun y hy => ?_, fun y hy => ?_⟩
            · rw [htk] at hy
              rcases List.mem_append.1 hy with h | h
              · have h1 := hS.out.2.2.1 y h
                have h2 := hS.out.2.2.2 x (by rw [hdr]; simp)
                omega
              · simp at h; omega
            · have h1 : (A.drop j).Pairwise (· < ·) := hs.sublist (List.drop_sublist _ _)
              rw [hdr, List.pairwise_cons] at h1
              exact h1.1 y hy
          clear hl hp hs hk0 hAl hA0 hdr hbK htk hlen ho ho8 hb8 hk8 hs8 hat8 hx hxx
          subst hbx
          go_wp2_with (at_builtin; refine wpList_append_hr rfl _ _ 56 rfl _ _ rfl rfl hr8 ?_)
          go_roundw
          case rel => exact ⟨j + 1, _, _, _, by omega, rfl, rfl, HS.out⟩
          case measure => simp; omega
        · obtain rfl : j = i := by omega
          have htk : A.take j = A := List.take_of_length_le (by omega)
          have hb1 : b = -1 := by
            rw [hbK]
            exact best_none hp (by rw [← htk]; exact hS.out.2.2.1) hk0
          have hE := hS.out.1
          rw [htk] at hE
          have HE : Hid _ := And.intro hE hS.out.2.1
          clear hE
          clear hl hp hs hk0 hAl hA0 hbK htk
          subst hb1
          go_wp2_with fail
          go_ret
          exact ⟨_, rfl, HE.out⟩
end Go.Proofs.Ytchkeckblpmehaa
