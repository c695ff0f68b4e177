import Derived.Test.YtcmefibipoidhaaDoorRuA
import Derived.Test.YtcmefibipoidhaaDoorRsC
import Derived.Test.YtcmefibipoidhaaDoorRtL
/-! The fewest runs of a row: they make the row, and they alone. -/
namespace Go.Proofs.YtcmefibipoidhaaDoor
set_option maxRecDepth 100000

/-- Neighbours of unlike counters. -/
def Alt : List (List Int × Int) → Prop
  | [] => True
  | [_] => True
  | p :: q :: t => p.2 ≠ q.2 ∧ Alt (q :: t)
theorem alt_snoc : ∀ (l : List (List Int × Int)) (q : List Int × Int), Alt (l ++ [q]) ↔ Alt l ∧ ∀ p, l.getLast? = some p → p.2 ≠ q.2
  | [], q => by simp [Alt]
  | [p], q => by simp [Alt]
  | p :: r :: t, q => by
    have ih := alt_snoc (r :: t) q
    show (p.2 ≠ r.2 ∧ Alt ((r :: t) ++ [q])) ↔ _
    rw [ih]
    simp only [Alt, List.getLast?_cons_cons]
    constructor
    · rintro ⟨a, b, c⟩; exact ⟨⟨a, b⟩, c⟩
    · rintro ⟨⟨a, b⟩, c⟩; exact ⟨a, b, c⟩
theorem alt_get : ∀ {l : List (List Int × Int)}, Alt l → ∀ (j : Nat) x y, l[j]? = some x → l[j + 1]? = some y → x.2 ≠ y.2
  | [], _, j, x, y, hx, _ => by simp at hx
  | [p], _, j, x, y, _, hy => by simp at hy
  | p :: q :: t, h, 0, x, y, hx, hy => by simp at hx hy; subst hx hy; exact h.1
  | p :: q :: t, h, j + 1, x, y, hx, hy => alt_get h.2 j x y (by simpa using hx) (by simpa using hy)
theorem alt_of : ∀ {l : List (List Int × Int)}, (∀ (j : Nat) x y, l[j]? = some x → l[j + 1]? = some y → x.2 ≠ y.2) → Alt l
  | [], _ => trivial
  | [_], _ => trivial
  | p :: q :: t, h => ⟨h 0 p q rfl rfl, alt_of fun j x y hx hy => h (j + 1) x y (by simpa using hx) (by simpa using hy)⟩
/-- The runs, the last one ended. -/
def fin (s : RunSt) : List (List Int × Int) := if s.2.1 = [] then s.1 else s.1 ++ [(s.2.1, s.2.2)]
theorem runs_fin (R : List (Int × Int)) : runsOfRow R = fin (cstR R) := rfl
structure FinOk (s : RunSt) : Prop where
  none_ : s.2.1 = [] → s.1 = []
  some_ : ∀ p ∈ fin s, p.1 ≠ []
  alt : Alt (fin s)
theorem fin_cst {s : RunSt} (h : FinOk s) (c : Int × Int) : FinOk (cst s c) ∧ rowOf (fin (cst s c)) = rowOf (fin s) ++ [c] := by
  obtain ⟨D, cur, k⟩ := s
  have r1 : ∀ (l : List Int) (k : Int), rowOf [(l, k)] = l.map fun c => (c, k) := fun l k => by simp [rowOf]
  by_cases h0 : cur = []
  · subst h0
    have hD := h.none_ rfl
    simp only at hD
    subst hD
    have e : cst ([], [], k) c = ([], [c.1], c.2) := by unfold cst; rw [if_neg (by simp)]; rfl
    rw [e]
    refine ⟨⟨fun e => by simp at e, fun p hp => ?_, ?_⟩, ?_⟩
    · simp [fin] at hp; subst hp; simp
    · simp [fin, Alt]
    · simp [fin, rowOf]
  · have hf : fin (D, cur, k) = D ++ [(cur, k)] := by unfold fin; rw [if_neg h0]
    have hs := h.some_
    have ha := h.alt
    rw [hf] at hs ha ⊢
    by_cases h1 : c.2 = k
    · have e : cst (D, cur, k) c = (D, cur ++ [c.1], c.2) := by unfold cst; rw [if_neg (by simp [h1])]
      have hf2 : fin (D, cur ++ [c.1], c.2) = D ++ [(cur ++ [c.1], c.2)] := by unfold fin; rw [if_neg (by simp)]
      rw [e]
      refine ⟨⟨fun e => by simp at e, fun p hp => ?_, ?_⟩, ?_⟩
      · rw [hf2] at hp
        rcases List.mem_append.1 hp with hp | hp
        · exact hs p (List.mem_append_left _ hp)
        · simp at hp; subst hp; simp
      · rw [hf2, alt_snoc]
        rw [alt_snoc] at ha
        exact ⟨ha.1, fun p hp => by rw [h1]; exact ha.2 p hp⟩
      · rw [hf2, rowOf_append, rowOf_append, r1, r1, List.map_append, h1]
        simp [← h1]
    · have e : cst (D, cur, k) c = (D ++ [(cur, k)], [c.1], c.2) := by unfold cst; rw [if_pos ⟨h0, h1⟩]
      have hf2 : fin (D ++ [(cur, k)], [c.1], c.2) = D ++ [(cur, k)] ++ [([c.1], c.2)] := by unfold fin; rw [if_neg (by simp)]
      rw [e]
      refine ⟨⟨fun e => by simp at e, fun p hp => ?_, ?_⟩, ?_⟩
      · rw [hf2] at hp
        rcases List.mem_append.1 hp with hp | hp
        · exact hs p hp
        · simp at hp; subst hp; simp
      · rw [hf2, alt_snoc]
        refine ⟨ha, fun p hp => ?_⟩
        rw [List.getLast?_append] at hp
        simp at hp
        subst hp
        exact fun e => h1 e.symm
      · rw [hf2, rowOf_append, r1]
        simp
theorem fin_all : ∀ (R : List (Int × Int)) {s : RunSt}, FinOk s → FinOk (R.foldl cst s) ∧ rowOf (fin (R.foldl cst s)) = rowOf (fin s) ++ R
  | [], s, h => ⟨h, by simp⟩
  | c :: R, s, h => by
    obtain ⟨h1, h2⟩ := fin_cst h c
    obtain ⟨h3, h4⟩ := fin_all R h1
    exact ⟨h3, by rw [List.foldl_cons, h4, h2]; simp⟩
theorem fin_nil : FinOk ([], [], 0) := ⟨fun _ => rfl, fun p hp => by simp [fin] at hp, trivial⟩
/-- The runs make the row. -/
theorem runs_row (R : List (Int × Int)) : rowOf (runsOfRow R) = R := by
  rw [runs_fin]
  exact (fin_all R fin_nil).2
theorem runs_some (R : List (Int × Int)) : ∀ p ∈ runsOfRow R, p.1 ≠ [] := by
  rw [runs_fin]
  exact (fin_all R fin_nil).1.some_
theorem runs_alt (R : List (Int × Int)) : Alt (runsOfRow R) := by
  rw [runs_fin]
  exact (fin_all R fin_nil).1.alt
theorem stp_fin : ∀ (l : List (List Int × Int)) (f : Int) (s : RunSt), (∀ p ∈ l, p.1 ≠ []) → 0 < f → s.2.1 ≠ [] → Alt ((s.2.1, s.2.2) :: l) → fin ((pls l f).foldl stp s) = fin s ++ l
  | [], _, _, _, _, _, _ => by simp [pls]
  | p :: t, f, s, hp, h0, hs, ha => by
    have hne := hp p (by simp)
    have e : stp s (f, p.1, p.2) = (s.1 ++ [(s.2.1, s.2.2)], p.1, p.2) := by unfold stp; rw [if_pos ⟨h0, fun e => ha.1 e.symm⟩]
    rw [pls, List.foldl_cons, e, stp_fin t _ _ (fun q hq => hp q (by simp [hq])) (by omega) hne ha.2]
    unfold fin
    rw [if_neg hne, if_neg hs]
    simp
/-- Runs of unlike neighbours are the fewest of their row. -/
theorem runs_of {l : List (List Int × Int)} (hp : ∀ p ∈ l, p.1 ≠ []) (ha : Alt l) : runsOfRow (rowOf l) = l := by
  cases l with
  | nil => simp [runsOfRow, cstR, rowOf]
  | cons p t =>
    have hne := hp p (by simp)
    have hpos := List.length_pos_iff.2 hne
    have e0 : cstR (rowOf (p :: t)) = (pls (p :: t) 0).foldl stp ([], [], 0) := (stp_cells (p :: t) 0 ([], [], 0) hp (Int.le_refl _) (by simp)).symm
    have e1 : stp ([], [], 0) (0, p.1, p.2) = ([], p.1, p.2) := by unfold stp; rw [if_neg (by simp)]; rfl
    rw [pls, List.foldl_cons, e1] at e0
    rw [runs_fin, e0, stp_fin t _ _ (fun q hq => hp q (by simp [hq])) (by omega) hne ha]
    unfold fin
    rw [if_neg hne]
    rfl
end Go.Proofs.YtcmefibipoidhaaDoor

/-! The statement's own EqRuns; a rope's Runs, as a row of runs. -/
namespace Go.Proofs.YtcmefibipoidhaaDoor
open Go.RowKit Go.Lib
set_option maxRecDepth 100000

set_option maxHeartbeats 2000000 in
theorem eqRuns_any {w : World} {a b : Option Addr} {n m capa capb : Nat} {L : List GRun} (h : Rw runV 2 w a n capa L) (g : Rw runV 2 w b m capb L) (hm : n ≤ 1048576) :
    Calls Tryd.prog 24 #[.slice a n capa, .slice b m capb] w fun e w' => e = .returned (.bool true) ∧ Below w.heap.size w w' := by
  have hn : m = n := by rw [← g.len, h.len]
  subst hn
  have q1 : ((m : Int) != (m : Int)) = false := by simp
  go_enter Tryd.func24, Tryd.ntmps24
  go_wp2_with fail
  go_loopw [5] (fun vi wr => ∃ i : Nat, i ≤ m ∧ vi = .int .i64 (i : Int) ∧ Below w.heap.size w wr) (fun i _ => m - (RowKit.intOf i).toNat)
  case atStart => exact ⟨0, Nat.zero_le _, rfl, Below.refl _ _⟩
  case round =>
    obtain ⟨i, hi, rfl, hB⟩ := hrel
    by_cases hlt : i < m
    · obtain ⟨ga, oa, x, rfl, hga, hx, hc⟩ := (h.below hB).at i hlt
      obtain ⟨gb, ob, y, rfl, hgb, hy, hd⟩ := (g.below hB).at i hlt
      rw [hx] at hy
      cases hy
      have c0 := hc 0 _ rfl
      have c1 := hc 1 _ rfl
      have e0 := hd 0 _ rfl
      have e1 := hd 1 _ rfl
      simp only [Nat.add_zero] at c0 e0
      have d1 : decide ((i : Int) < (m : Int)) = true := decide_eq_true (by omega)
      clear hc hd hx
      go_wp2_with fail
      go_quiet (fail)
      have hB2 := below_drewN hB nq
      generalize wr.drewN nq = wn at *
      go_wp2_with fail
      exact ⟨⟨i + 1, by omega, by simp, hB2⟩, by simp [RowKit.intOf]; omega⟩
    · have hd : decide ((i : Int) < (m : Int)) = false := decide_eq_false (by omega)
      go_wp2_with fail
      go_ret
      exact ⟨rfl, hB⟩
end Go.Proofs.YtcmefibipoidhaaDoor

/-! A row's runs as runs of the statement. -/
namespace Go.Proofs.YtcmefibipoidhaaDoor
open Go.RowKit Go.Lib
set_option maxRecDepth 100000

def rowRuns (R : List (Int × Int)) : List GRun := (runsOfRow R).map gr
theorem cellsOf_gr (l : List (List Int × Int)) : cellsOf (l.map gr) = rowOf l := by
  simp [cellsOf, rowOf, List.flatMap_map, gr]
theorem rowRuns_cells (R : List (Int × Int)) : cellsOf (rowRuns R) = R := by
  unfold rowRuns
  rw [cellsOf_gr, runs_row]
theorem rowRuns_mem {R : List (Int × Int)} {x : GRun} (hx : x ∈ rowRuns R) : x.rs ≠ [] ∧ x.s = strOf x.rs ∧ ∀ r ∈ x.rs, (r, x.h) ∈ R := by
  unfold rowRuns at hx
  obtain ⟨p, hp, rfl⟩ := List.mem_map.1 hx
  refine ⟨runs_some R p hp, rfl, fun r hr => ?_⟩
  have h : (r, p.2) ∈ rowOf (runsOfRow R) := by
    unfold rowOf
    exact List.mem_flatMap.2 ⟨p, hp, List.mem_map.2 ⟨r, hr, rfl⟩⟩
  rwa [runs_row] at h
theorem rowRuns_text {R : List (Int × Int)} (ho : ∀ c ∈ R, okR c.1) : ∀ x ∈ rowRuns R, IsText x.s x.rs := fun x hx => by
  obtain ⟨_, e, h⟩ := rowRuns_mem hx
  exact ⟨by rw [e]; simp [strOf], fun r hr => ho _ (h r hr)⟩
theorem rowRuns_apart (R : List (Int × Int)) : ∀ (j : Nat) x y, (rowRuns R)[j]? = some x → (rowRuns R)[j + 1]? = some y → x.h ≠ y.h := fun j x y hx hy => by
  unfold rowRuns at hx hy
  rw [List.getElem?_map, Option.map_eq_some_iff] at hx hy
  obtain ⟨p, hp, rfl⟩ := hx
  obtain ⟨p2, hp2, rfl⟩ := hy
  exact alt_get (runs_alt R) j p p2 hp hp2
theorem rowRuns_from {R : List (Int × Int)} {M : Int} (ho : ∀ c ∈ R, okR c.1) (hc : Cnt M R) (hM : M ≤ 1048576) (hl : R.length ≤ 1048576) : FromOk (rowRuns R) := by
  have key : ∀ x ∈ rowRuns R, 0 ≤ x.h ∧ x.h ≤ M := fun x hx => by
    obtain ⟨h1, _, h2⟩ := rowRuns_mem hx
    obtain ⟨r, hr⟩ := List.exists_mem_of_ne_nil _ h1
    exact hc _ (h2 r hr)
  exact ⟨rowRuns_text ho, fun x hx => (rowRuns_mem hx).1, fun x hx => (key x hx).1, fun x hx => Int.le_trans (key x hx).2 hM, rowRuns_apart R, by rw [rowRuns_cells]; exact hl⟩
theorem rowRuns_same {L : List GRun} (hF : FromOk L) : rowRuns (cellsOf L) = L := by
  have e : cellsOf L = rowOf (L.map fun x => (x.rs, x.h)) := by simp [cellsOf, rowOf, List.flatMap_map]
  unfold rowRuns
  rw [e, runs_of (fun p hp => by obtain ⟨x, hx, rfl⟩ := List.mem_map.1 hp; exact hF.some_ x hx) (alt_of fun j x y hx hy => by
    rw [List.getElem?_map, Option.map_eq_some_iff] at hx hy
    obtain ⟨p, hp, rfl⟩ := hx
    obtain ⟨p2, hp2, rfl⟩ := hy
    exact hF.apart j p p2 hp hp2), List.map_map]
  conv => rhs; rw [← List.map_id L]
  refine List.map_congr_left fun x hx => ?_
  have := tx_eq (hF.text x hx).bytes
  obtain ⟨s, rs, k⟩ := x
  simp only at this
  simp [gr, this]
theorem rowRuns_len (R : List (Int × Int)) : (rowRuns R).length ≤ R.length := by
  have h1 := runs_some R
  have h2 : ∀ l : List (List Int × Int), (∀ p ∈ l, p.1 ≠ []) → l.length ≤ (rowOf l).length := fun l => by
    induction l with
    | nil => intro _; exact Nat.le_refl _
    | cons p t ih =>
      intro h
      have h3 := ih fun q hq => h q (by simp [hq])
      have h4 := List.length_pos_iff.2 (h p (by simp))
      rw [rowOf_cons, List.length_append, List.length_map, List.length_cons]
      omega
  have h3 := h2 _ h1
  rw [runs_row] at h3
  unfold rowRuns
  rw [List.length_map]
  exact h3
theorem Holds.runsR {w2 : World} {q : Nat} {R : List (Int × Int)} {W : World} (h : Holds w2 q R W) (ho : ∀ c ∈ R, okR c.1) : Calls Tryd.prog 9 #[.pointer (some ⟨q, 0, none⟩)] W fun e W' => ∃ a cap, e = .returned (.slice a (rowRuns R).length cap) ∧ Rw runV 2 W' a (rowRuns R).length cap (rowRuns R) ∧ Holds w2 q R W' ∧ Below W.heap.size W W' := by
  have h' := h
  obtain ⟨t, k1, k2, rfl, k3⟩ := h
  refine (ropeRuns_any k1 k2 (okl_row ho)).mono fun e W' ⟨v, he, hw, hb⟩ => ?_
  obtain ⟨a, cap, rfl⟩ := hw.shape
  exact ⟨a, cap, he, hw.rw_ layR, h'.still hb, hb⟩
end Go.Proofs.YtcmefibipoidhaaDoor
