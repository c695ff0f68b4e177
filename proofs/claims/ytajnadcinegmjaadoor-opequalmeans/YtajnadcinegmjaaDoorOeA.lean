import Derived.Test.YtajnadcinegmjaaDoorOqH
import Derived.Test.YtajnadcinegmjaaDoorXaB
/-! What right gives, of any deed; an operation and its spoilt copies are unlike. -/
namespace Go.Proofs.YtajnadcinegmjaaDoor
open Go.RowKit Go.Lib Sp
set_option maxRecDepth 100000

theorem encs_size (rs : List Int) : (bs (encs rs)).size ≤ 4 * rs.length := by
  rw [← runesB_bs]
  have := foldl_size_le rs ByteArray.empty
  unfold runesBytes
  have h0 : ByteArray.empty.size = 0 := rfl
  omega
theorem lastHi_le {l : List (Int × Int)} {t : Int} (h0 : l ≠ []) (h : ∀ r ∈ l, r.2 ≤ t) : lastHi l ≤ t := by
  unfold lastHi
  have hl : l.length - 1 < l.length := by have := List.length_pos_iff.2 h0; omega
  rw [List.getD_eq_getElem?_getD, List.getElem?_eq_getElem hl]
  exact h _ (List.getElem_mem hl)
/-- An operation that right makes, with all its numbers small. -/
structure Sane (o : OpV) : Prop where
  own : ownP o = 0
  size : o.s.size ≤ 1024
  id : o.c = 2 ∧ o.n = 1
  kind : 1 ≤ o.k ∧ o.k ≤ 3
  at_ : 0 ≤ o.p ∧ o.p ≤ 1000
  rest : o.tc = 0 ∧ o.tn = 0 ∧ o.on = false
  few : o.l.length ≤ 1000
  top : ∀ r ∈ o.l, 0 ≤ r.2 ∧ r.2 ≤ 1000
theorem sane_ins {p : Int} {rs : List Int} (hp : 0 ≤ p ∧ p ≤ 1000) (hne : rs ≠ []) (hle : rs.length ≤ 256) (hok : ∀ r ∈ rs, okL r) : Sane ⟨2, 1, 1, p, bs (encs rs), [], 0, 0, false⟩ := by
  have hc := (text_own hok).check
  have hpos := List.length_pos_iff.2 hne
  have hsz := encs_size rs
  refine ⟨?_, by simp only; omega, ⟨rfl, rfl⟩, by simp, hp, ⟨rfl, rfl, rfl⟩, by simp, by simp⟩
  unfold ownP
  rw [if_pos ⟨rfl, hp.1, by simp only; omega⟩]
  show opCheck ⟨2, 1, 1, p, bs (encs rs), [], 0, 0, false⟩ p = 0
  exact insOk (.inr (by decide)) (by omega) hc (by omega) (by omega) (by omega) (by omega)
theorem sane_rng {k : Int} {l : List (Int × Int)} {t : Nat} (hk : k = 2 ∨ k = 3) (ht : t ≤ 1000) (hn : Sp.Norm (-1) l) (htop : ∀ r ∈ l, r.2 ≤ (t : Int)) (hne : l ≠ []) (hle : l.length ≤ t) : Sane ⟨2, 1, k, 0, ⟨#[]⟩, l, 0, 0, false⟩ := by
  have hL : Sp.Lst l := ⟨hn, fun r hr => by have := htop r hr; omega, by omega⟩
  refine ⟨?_, by simp [ByteArray.size], ⟨rfl, rfl⟩, by simp only; omega, by simp, ⟨rfl, rfl, rfl⟩, by simp only; omega, fun r hr => ?_⟩
  · unfold ownP
    rw [if_neg (by simp only; omega), opCheck_rng hk (by omega) (.inr (by decide))]
    unfold rngP
    have h1 := lastHi_le hne (fun r hr => hL.top r hr)
    rw [if_neg (by simpa using hne)]
    simp only [hL.check]
    rw [if_neg (by simp), if_neg (by omega)]
  · have h1 := htop r hr
    have h2 := hL.nonneg r hr
    omega
theorem right_any {dk dp : Int} {ta pa : Option Addr} {tn_ tcap pn pcap : Nat} {zs ys : List Int} {w : World} (hT : Rw rune1 1 w ta tn_ tcap zs) (hP : Rw int1 1 w pa pn pcap ys) (t : Nat) (ht : t ≤ 1000) :
    Calls Tryd.prog 5 #[deedV dk dp (.slice ta tn_ tcap) (.slice pa pn pcap), .int .i64 (t : Int), .int .i64 1] w fun e w' => ∃ o a m cap, e = .returned (opVal o (.slice a m cap)) ∧ Sane o ∧ Rng w' a m cap o.l ∧ (∀ g off, a = some ⟨g, off, none⟩ → w.heap.size ≤ g) ∧ Below w.heap.size w w' := by
  by_cases hk : dk % 3 = 0 ∨ t = 0 ∨ pn = 0
  · refine (right_ins hT t (by omega) 1 hk).mono ?_
    rintro e w' ⟨rs, rfl, hne, hle, hok, hb⟩
    have p0 := Int.emod_nonneg dp (show (t : Int) + 1 ≠ 0 by omega)
    have p1 := Int.emod_lt_of_pos dp (show (0 : Int) < (t : Int) + 1 by omega)
    exact ⟨_, none, 0, 0, rfl, sane_ins (by omega) hne hle hok, rng_of_rw (rw_nil _), fun g off e => by simp at e, hb⟩
  · have d0 := Int.emod_nonneg dk (show (3 : Int) ≠ 0 by decide)
    have d1 := Int.emod_lt_of_pos dk (show (0 : Int) < 3 by decide)
    have hk2 : dk % 3 = 1 ∨ dk % 3 = 2 := by omega
    rcases hk2 with hk2 | hk2
    · refine (right_hide hP t (by omega) (by omega) 1 hk2 (by omega)).mono ?_
      rintro e w' ⟨a, m, cap, l, rfl, hr, ha, hn, htop, hne, hle, hb⟩
      exact ⟨_, a, m, cap, rfl, sane_rng (.inl rfl) ht hn htop hne hle, hr, ha, hb⟩
    · refine (right_show hP t (by omega) (by omega) 1 hk2 (by omega)).mono ?_
      rintro e w' ⟨a, m, cap, l, rfl, hr, ha, hn, htop, hne, hle, hb⟩
      exact ⟨_, a, m, cap, rfl, sane_rng (.inr rfl) ht hn htop hne hle, hr, ha, hb⟩
/-- Two right operations print alike just if they are alike. -/
theorem print_inj {o x : OpV} (ho : ownP o = 0) (hx : ownP x = 0) (h : bs (printP o) = bs (printP x)) : o = x := by
  have h1 : printP o = printP x := by rw [← bs_list (printP o), ← bs_list (printP x), h]
  rw [← read_print (right_of ho), ← read_print (right_of hx), h1]
theorem eqP_self (o : OpV) : eqP o o = true := by unfold eqP; simp
theorem eqP_ne {o x : OpV} (h : o ≠ x) : eqP o x = false := by
  unfold eqP
  refine decide_eq_false fun h2 => h ?_
  obtain ⟨c, n, k, p, s, l, tc, tn, on⟩ := o
  obtain ⟨c', n', k', p', s', l', tc', tn', on'⟩ := x
  simp only at h2
  obtain ⟨rfl, rfl, rfl, rfl, rfl, rfl, rfl, rfl, rfl⟩ := h2
  rfl
end Go.Proofs.YtajnadcinegmjaaDoor
