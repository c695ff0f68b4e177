import Derived.Test.YtffkncohliollaaGreatDoorRrPI
import Derived.Test.YtffkncohliollaaGreatDoorRrKN
/-! Lists of span, as lists of the rope; the statement's own parts. -/
namespace Go.Proofs.YtffkncohliollaaGreatDoor
open Go.RowKit Go.Lib
set_option maxRecDepth 100000

theorem norm_first : ∀ {l : List (Int × Int)} {b : Int}, Sp.Norm b l → ∀ x ∈ l, b < x.1
  | [], _, _, x, hx => by cases hx
  | r :: t, b, h, x, hx => by
    rcases List.mem_cons.1 hx with rfl | hx
    · exact h.1
    · have := norm_first h.2.2 x hx
      have := h.2.1
      have := h.1
      omega
theorem srt_norm : ∀ {l : List (Int × Int)} {b : Int}, Sp.Norm b l → Srt l
  | [], _, _ => ⟨fun x hx => (by cases hx), fun i j x y _ hx => (by simp at hx)⟩
  | r :: t, b, h => by
    have ih := srt_norm h.2.2
    have hf := norm_first h.2.2
    refine ⟨fun x hx => ?_, fun i j x y hij hx hy => ?_⟩
    · rcases List.mem_cons.1 hx with rfl | hx
      · exact h.2.1
      · exact ih.some_ x hx
    · match i, j, hij, hx, hy with
      | 0, j + 1, _, hx, hy =>
        simp at hx hy
        subst hx
        exact hf y (List.mem_of_getElem? hy)
      | i + 1, j + 1, hij, hx, hy => exact ih.apart i j x y (by omega) (by simpa using hx) (by simpa using hy)
theorem inL_lies (l : List (Int × Int)) (q : Int) : inL l q = true ↔ Sp.Lies l q := by
  unfold inL Sp.Lies
  rw [List.any_eq_true]
  constructor
  · rintro ⟨x, hx, h⟩; exact ⟨x, hx, by simpa using h⟩
  · rintro ⟨x, hx, h⟩; exact ⟨x, hx, by simpa using h⟩
theorem norm_len : ∀ {l : List (Int × Int)} {b N : Int}, Sp.Norm b l → b ≤ N → (∀ x ∈ l, x.2 ≤ N) → (l.length : Int) ≤ N - b
  | [], b, N, _, hb, _ => by simp; omega
  | r :: t, b, N, h, hb, ht => by
    have h1 := ht r (by simp)
    have ih := norm_len h.2.2 h1 fun x hx => ht x (List.mem_cons_of_mem _ hx)
    have := h.1
    have := h.2.1
    rw [List.length_cons]
    omega
/-- A list of places of a row of N cells. -/
structure Of (N : Nat) (l : List (Int × Int)) : Prop where
  norm : Sp.Norm (-1) l
  top : ∀ x ∈ l, x.2 ≤ (N : Int)
theorem of_lies {N : Nat} {l : List (Int × Int)} (h : Sp.Norm (-1) l) (ht : ∀ q, Sp.Lies l q → q < (N : Int)) : Of N l := ⟨h, fun x hx => by
  have h1 := (srt_norm h).some_ x hx
  have := ht (x.2 - 1) ⟨x, hx, by omega, by omega⟩
  omega⟩
theorem Of.lt {N : Nat} {l : List (Int × Int)} (h : Of N l) {q : Int} (hq : Sp.Lies l q) : 0 ≤ q ∧ q < (N : Int) := by
  obtain ⟨x, hx, h1, h2⟩ := hq
  have := h.top x hx
  have := norm_first h.norm x hx
  omega
theorem Of.few {N : Nat} {l : List (Int × Int)} (h : Of N l) : l.length ≤ N + 1 := by
  have := norm_len h.norm (show (-1 : Int) ≤ (N : Int) by omega) h.top
  omega
theorem Of.lst {N : Nat} {l : List (Int × Int)} (h : Of N l) (hN : N ≤ 31000) : Sp.Lst l := ⟨h.norm, fun x hx => by have := h.top x hx; omega, by have := h.few; omega⟩
theorem Of.within {N : Nat} {l : List (Int × Int)} (h : Of N l) : ∀ x ∈ l, 0 ≤ x.1 ∧ x.2 ≤ (N : Int) := fun x hx => ⟨by have := norm_first h.norm x hx; omega, h.top x hx⟩
theorem own_rw {w : World} {B n cap : Nat} {a : Option Addr} {l : List (Int × Int)} (h : Sp.Own w B (.slice a n cap) l) : Rw pieceV 2 w a n cap l := OwnF.rw_ (T := 56) (B := B) layP h
/-- One on the counters of a list's cells. -/
theorem bmp_two {R a b u m : List (Int × Int)} (hu : ∀ q, inL u q = (inL a q || inL b q)) (hm : ∀ q, inL m q = (inL a q && inL b q)) : bmp b 1 0 (bmp a 1 0 R) = bmp m 1 0 (bmp u 1 0 R) := by
  apply List.ext_getElem?
  intro j
  rw [bmp_get, bmp_get, bmp_get, bmp_get, Option.map_map, Option.map_map]
  rcases R[j]? with _ | c
  · rfl
  · simp only [Function.comp, Option.map_some, Option.some.injEq, hu, hm]
    cases inL a (0 + (j : Int)) <;> cases inL b (0 + (j : Int)) <;> simp
theorem inL_or {a b u : List (Int × Int)} (h : ∀ q, Sp.Lies u q ↔ Sp.Lies a q ∨ Sp.Lies b q) (q : Int) : inL u q = (inL a q || inL b q) := by
  rw [Bool.eq_iff_iff, Bool.or_eq_true, inL_lies, inL_lies, inL_lies]
  exact h q
theorem inL_and {a b u : List (Int × Int)} (h : ∀ q, Sp.Lies u q ↔ Sp.Lies a q ∧ Sp.Lies b q) (q : Int) : inL u q = (inL a q && inL b q) := by
  rw [Bool.eq_iff_iff, Bool.and_eq_true, inL_lies, inL_lies, inL_lies]
  exact h q
/-- What parts lays into the places 0 to N. -/
def Laid (N : Nat) (l : List (Int × Int)) : Prop := ∀ r ∈ l, 0 ≤ r.1 ∧ r.1 ≤ r.2 ∧ r.2 ≤ (N : Int)
set_option maxHeartbeats 8000000 in
theorem parts_any {w : World} {a : Option Addr} {n cap : Nat} {l : List (Int × Int)} (h : Rw pieceV 2 w a n cap l) (N : Nat) (hN : N ≤ 31000) :
    Calls Tryz.prog 8 #[.slice a n cap, .int .i64 (N : Int)] w fun e w' => ∃ v P, e = .returned v ∧ OwnF pieceV 2 56 w' w.heap.size v P ∧ Laid N P ∧ P.length ≤ 24 ∧ Below w.heap.size w w' := by
  have hro := h.room
  have HR : Hid (Rw pieceV 2 w a n cap l) := h
  clear h
  go_enter Tryz.func8, Tryz.ntmps8
  go_wp2_with fail
  go_loopw [5, 6] (fun v vi wr => ∃ (i : Nat) (P : List (Int × Int)), i ≤ n ∧ i ≤ 24 ∧ vi = .int .i64 (i : Int) ∧ OwnF pieceV 2 56 wr w.heap.size v P ∧ Laid N P ∧ P.length = i ∧ Below w.heap.size w wr) (fun _ vi _ => 24 - (RowKit.intOf vi).toNat)
  case atStart => exact ⟨0, [], Nat.zero_le _, by omega, rfl, ownF_nil _ _, fun r hr => (by cases hr), rfl, Below.refl _ _⟩
  case round =>
    obtain ⟨i, P, hi, hi24, rfl, ho, hP, hPl, hb⟩ := hrel
    by_cases hgo : i < n ∧ i < 24
    · obtain ⟨g1, g2⟩ := hgo
      obtain ⟨g, off, x, rfl, hg, hx, hc⟩ := HR.out.at i g1
      have c0 : wr.cell? ⟨g, off + i * 2, none⟩ = some (.int .i64 x.1) := (hb.cell (p := ⟨g, off + i * 2 + 0, none⟩) hg).trans (hc 0 _ rfl)
      have c1 : wr.cell? ⟨g, off + i * 2 + 1, none⟩ = some (.int .i64 x.2) := (hb.cell (p := ⟨g, off + i * 2 + 1, none⟩) hg).trans (hc 1 _ rfl)
      have hm0 := Int.emod_nonneg x.1 (show ((N : Int) + 1) ≠ 0 by omega)
      have hm1 := Int.emod_lt_of_pos x.1 (show (0 : Int) < (N : Int) + 1 by omega)
      obtain ⟨lo, hlo⟩ : ∃ m : Nat, x.1 % ((N : Int) + 1) = (m : Int) := ⟨(x.1 % ((N : Int) + 1)).toNat, by omega⟩
      have HRA := rest_any x.1 ((N : Int) + 1) (by omega) (by omega)
      rw [hlo] at HRA hm1 hm0
      have hloN : lo ≤ N := by omega
      have hn0 := Int.emod_nonneg x.2 (show ((N : Int) - (lo : Int) + 1) ≠ 0 by omega)
      have hn1 := Int.emod_lt_of_pos x.2 (show (0 : Int) < (N : Int) - (lo : Int) + 1 by omega)
      obtain ⟨d, hd⟩ : ∃ m : Nat, x.2 % ((N : Int) - (lo : Int) + 1) = (m : Int) := ⟨(x.2 % ((N : Int) - (lo : Int) + 1)).toNat, by omega⟩
      have HRB := rest_any x.2 ((N : Int) - (lo : Int) + 1) (by omega) (by omega)
      rw [hd] at HRB hn1 hn0
      have hhi : lo + d ≤ N := by omega
      have HRA' : Hid (∀ w : World, Calls Tryz.prog 18 #[.int .i64 x.1, .int .i64 ((N : Int) + 1)] w fun e w' => e = .returned (.int .i64 (lo : Int)) ∧ w' = w) := HRA
      have HRB' : Hid (∀ w : World, Calls Tryz.prog 18 #[.int .i64 x.2, .int .i64 ((N : Int) - (lo : Int) + 1)] w fun e w' => e = .returned (.int .i64 (d : Int)) ∧ w' = w) := HRB
      clear hm0 hm1 hn0 hn1 hlo hd HRA HRB hc hx
      have HO : Hid (OwnF pieceV 2 56 wr w.heap.size u5 P) := ho
      clear ho
      go_wp2_with fail
      refine (HRA'.out _).mono ?_
      rintro e w1 ⟨rfl, rfl⟩
      go_wp2_with fail
      refine (HRB'.out _).mono ?_
      rintro e w2 ⟨rfl, rfl⟩
      clear HRA' HRB' c0 c1
      have ho := HO.out
      clear HO
      obtain ⟨a9, cap9, rfl⟩ := ho.shape
      have u3 : IntKind.i64.wrap ((lo : Int) + (d : Int)) = (lo : Int) + (d : Int) := IntWalk.i64_in _ (by omega)
      have HPL : Hid (P.length = i) := hPl
      have HP2 : Hid (Laid N (P ++ [((lo : Int), (lo : Int) + (d : Int))])) := fun r hr => by
        rcases List.mem_append.1 hr with hr | hr
        · exact hP r hr
        · simp at hr; subst hr; simp only; omega
      obtain ⟨g5, cap5, w6, hr, ho6, hb6, _, _⟩ := appendF_one kindRg layP ho hb.size ((lo : Int), (lo : Int) + (d : Int)) #[.int .i64 (lo : Int), .int .i64 ((lo : Int) + (d : Int))] rfl 56 (by omega) (by omega) 23
      clear ho hPl hP
      go_wp2_with (at_builtin; refine wpList_append_hr rfl _ _ 23 rfl _ _ rfl rfl hr ?_)
      go_roundw
      case rel => exact ⟨i + 1, _, by omega, by omega, by go_num, ho6, HP2.out, by rw [List.length_append, HPL.out]; rfl, hb.trans hb6⟩
      case measure => simp [RowKit.intOf]; omega
    · have hcs : (decide ((i : Int) < (n : Int)) = true ∧ decide ((i : Int) < 24) = false) ∨ decide ((i : Int) < (n : Int)) = false := by simp only [decide_eq_true_eq, decide_eq_false_iff_not]; omega
      rcases hcs with ⟨d1, d2⟩ | d1
      all_goals
        go_wp2_with fail
        all_goals
          go_ret
          exact ⟨_, P, rfl, ho, hP, by omega, hb⟩
end Go.Proofs.YtffkncohliollaaGreatDoor
