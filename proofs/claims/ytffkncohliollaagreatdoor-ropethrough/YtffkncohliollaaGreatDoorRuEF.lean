import Derived.Test.YtffkncohliollaaGreatDoorRsBD
import Derived.Test.YtffkncohliollaaGreatDoorRsC
import Derived.Test.YtffkncohliollaaGreatDoorRtLB
/-! The statement's own EqRuns; a rope's Runs, as a row of runs. -/
namespace Go.Proofs.YtffkncohliollaaGreatDoor
open Go.RowKit Go.Lib
set_option maxRecDepth 100000

set_option maxHeartbeats 2000000 in
theorem eqRuns_any {w : World} {a b : Option Addr} {n m capa capb : Nat} {L : List GRun} (h : Rw runV 2 w a n capa L) (g : Rw runV 2 w b m capb L) (hm : n ≤ 1048576) :
    Calls Tryz.prog 15 #[.slice a n capa, .slice b m capb] w fun e w' => e = .returned (.bool true) ∧ Below w.heap.size w w' := by
  have hn : m = n := by rw [← g.len, h.len]
  subst hn
  have q1 : ((m : Int) != (m : Int)) = false := by simp
  go_enter Tryz.func15, Tryz.ntmps15
  go_wp2_with fail
  go_loopw [5] (fun vi wr => ∃ i : Nat, i ≤ m ∧ vi = .int .i64 (i : Int) ∧ Below w.heap.size w wr) (fun i _ => m - (RowKit.intOf i).toNat)
  case atStart => exact ⟨0, Nat.zero_le _, rfl, Below.refl _ _⟩
  case round =>
    obtain ⟨i, hi, rfl, hB⟩ := hrel
    by_cases hlt : i < m
    · obtain ⟨ga, oa, x, rfl, hga, hx, hc⟩ := (h.below hB).at i hlt
      obtain ⟨gb, ob, y, rfl, hgb, hy, hd⟩ := (g.below hB).at i hlt
      rw [hx] at hy
      cases hy
      have c0 := hc 0 _ rfl
      have c1 := hc 1 _ rfl
      have e0 := hd 0 _ rfl
      have e1 := hd 1 _ rfl
      simp only [Nat.add_zero] at c0 e0
      have d1 : decide ((i : Int) < (m : Int)) = true := decide_eq_true (by omega)
      clear hc hd hx
      go_wp2_with fail
      go_quiet (fail)
      have hB2 := below_drewN hB nq
      generalize wr.drewN nq = wn at *
      go_wp2_with fail
      exact ⟨⟨i + 1, by omega, by simp, hB2⟩, by simp [RowKit.intOf]; omega⟩
    · have hd : decide ((i : Int) < (m : Int)) = false := decide_eq_false (by omega)
      go_wp2_with fail
      go_ret
      exact ⟨rfl, hB⟩
end Go.Proofs.YtffkncohliollaaGreatDoor

/-! A row's runs as runs of the statement. -/
namespace Go.Proofs.YtffkncohliollaaGreatDoor
open Go.RowKit Go.Lib
set_option maxRecDepth 100000

def rowRuns (R : List (Int × Int)) : List GRun := (runsOfRow R).map gr
theorem cellsOf_gr (l : List (List Int × Int)) : cellsOf (l.map gr) = rowOf l := by
  simp [cellsOf, rowOf, List.flatMap_map, gr]
theorem rowRuns_cells (R : List (Int × Int)) : cellsOf (rowRuns R) = R := by
  unfold rowRuns
  rw [cellsOf_gr, runs_row]
theorem rowRuns_mem {R : List (Int × Int)} {x : GRun} (hx : x ∈ rowRuns R) : x.rs ≠ [] ∧ x.s = strOf x.rs ∧ ∀ r ∈ x.rs, (r, x.h) ∈ R := by
  unfold rowRuns at hx
  obtain ⟨p, hp, rfl⟩ := List.mem_map.1 hx
  refine ⟨runs_some R p hp, rfl, fun r hr => ?_⟩
  have h : (r, p.2) ∈ rowOf (runsOfRow R) := by
    unfold rowOf
    exact List.mem_flatMap.2 ⟨p, hp, List.mem_map.2 ⟨r, hr, rfl⟩⟩
  rwa [runs_row] at h
theorem rowRuns_text {R : List (Int × Int)} (ho : ∀ c ∈ R, okR c.1) : ∀ x ∈ rowRuns R, IsText x.s x.rs := fun x hx => by
  obtain ⟨_, e, h⟩ := rowRuns_mem hx
  exact ⟨by rw [e]; simp [strOf], fun r hr => ho _ (h r hr)⟩
theorem rowRuns_apart (R : List (Int × Int)) : ∀ (j : Nat) x y, (rowRuns R)[j]? = some x → (rowRuns R)[j + 1]? = some y → x.h ≠ y.h := fun j x y hx hy => by
  unfold rowRuns at hx hy
  rw [List.getElem?_map, Option.map_eq_some_iff] at hx hy
  obtain ⟨p, hp, rfl⟩ := hx
  obtain ⟨p2, hp2, rfl⟩ := hy
  exact alt_get (runs_alt R) j p p2 hp hp2
theorem rowRuns_from {R : List (Int × Int)} {M : Int} (ho : ∀ c ∈ R, okR c.1) (hc : Cnt M R) (hM : M ≤ 1048576) (hl : R.length ≤ 1048576) : FromOk (rowRuns R) := by
  have key : ∀ x ∈ rowRuns R, 0 ≤ x.h ∧ x.h ≤ M := fun x hx => by
    obtain ⟨h1, _, h2⟩ := rowRuns_mem hx
    obtain ⟨r, hr⟩ := List.exists_mem_of_ne_nil _ h1
    exact hc _ (h2 r hr)
  exact ⟨rowRuns_text ho, fun x hx => (rowRuns_mem hx).1, fun x hx => (key x hx).1, fun x hx => Int.le_trans (key x hx).2 hM, rowRuns_apart R, by rw [rowRuns_cells]; exact hl⟩
theorem rowRuns_same {L : List GRun} (hF : FromOk L) : rowRuns (cellsOf L) = L := by
  have e : cellsOf L = rowOf (L.map fun x => (x.rs, x.h)) := by simp [cellsOf, rowOf, List.flatMap_map]
  unfold rowRuns
  rw [e, runs_of (fun p hp => by obtain ⟨x, hx, rfl⟩ := List.mem_map.1 hp; exact hF.some_ x hx) (alt_of fun j x y hx hy => by
    rw [List.getElem?_map, Option.map_eq_some_iff] at hx hy
    obtain ⟨p, hp, rfl⟩ := hx
    obtain ⟨p2, hp2, rfl⟩ := hy
    exact hF.apart j p p2 hp hp2), List.map_map]
  conv => rhs; rw [← List.map_id L]
  refine List.map_congr_left fun x hx => ?_
  have := tx_eq (hF.text x hx).bytes
  obtain ⟨s, rs, k⟩ := x
  simp only at this
  simp [gr, this]
theorem rowRuns_len (R : List (Int × Int)) : (rowRuns R).length ≤ R.length := by
  have h1 := runs_some R
  have h2 : ∀ l : List (List Int × Int), (∀ p ∈ l, p.1 ≠ []) → l.length ≤ (rowOf l).length := fun l => by
    induction l with
    | nil => intro _; exact Nat.le_refl _
    | cons p t ih =>
      intro h
      have h3 := ih fun q hq => h q (by simp [hq])
      have h4 := List.length_pos_iff.2 (h p (by simp))
      rw [rowOf_cons, List.length_append, List.length_map, List.length_cons]
      omega
  have h3 := h2 _ h1
  rw [runs_row] at h3
  unfold rowRuns
  rw [List.length_map]
  exact h3
theorem Holds.runsR {w2 : World} {q : Nat} {R : List (Int × Int)} {W : World} (h : Holds w2 q R W) (ho : ∀ c ∈ R, okR c.1) : Calls Tryz.prog 16 #[.pointer (some ⟨q, 0, none⟩)] W fun e W' => ∃ a cap, e = .returned (.slice a (rowRuns R).length cap) ∧ Rw runV 2 W' a (rowRuns R).length cap (rowRuns R) ∧ Holds w2 q R W' ∧ Below W.heap.size W W' := by
  have h' := h
  obtain ⟨t, k1, k2, rfl, k3⟩ := h
  refine (ropeRuns_any k1 k2 (okl_row ho)).mono fun e W' ⟨v, he, hw, hb⟩ => ?_
  obtain ⟨a, cap, rfl⟩ := hw.shape
  exact ⟨a, cap, he, hw.rw_ layR, h'.still hb, hb⟩
end Go.Proofs.YtffkncohliollaaGreatDoor
