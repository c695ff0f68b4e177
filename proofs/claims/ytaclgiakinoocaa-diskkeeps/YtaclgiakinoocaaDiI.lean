import Derived.Test.YtaclgiakinoocaaDiH
import Derived.Test.YtaclgiakinoocaaDgG
/-! left. -/
namespace Go.Proofs.Ytaclgiakinoocaa
open Go.RowKit Go.Lib
set_option maxRecDepth 100000

theorem inj_nm : ∀ {ps : List Pg}, (ps.map (·.nm)).Nodup → ∀ {x y : Pg}, x ∈ ps → y ∈ ps → x.nm = y.nm → x = y
  | [], _, _, _, h, _, _ => by simp at h
  | z :: ps, hn, x, y, hx, hy, e => by
    rw [List.map_cons, List.nodup_cons] at hn
    rcases List.mem_cons.1 hx with rfl | hx2
    · rcases List.mem_cons.1 hy with rfl | hy2
      · rfl
      · exact absurd (List.mem_map.2 ⟨y, hy2, e.symm⟩) hn.1
    · rcases List.mem_cons.1 hy with rfl | hy2
      · exact absurd (List.mem_map.2 ⟨x, hx2, e⟩) hn.1
      · exact inj_nm hn.2 hx2 hy2 e
/-- what a crash leaves of the files -/
def leftF (kp : Nat) (fs : List Fl) : List Fl := (fs.map (Fl.lose kp)).filter (fun f => !f.bs.isEmpty)
theorem left_mid {ps : List Pg} {kp : Nat} {f : Fl} (h : f ∈ leftF kp (ps.map Pg.fl)) (hn : (ps.map (·.nm)).Nodup) : ∃ l x t, ps = l ++ x :: t ∧ f = x.fl.lose kp ∧ x.nm = f.nm ∧ f.bs ≠ [] ∧ ∀ y ∈ l, y.nm ≠ f.nm := by
  obtain ⟨h1, h2⟩ := List.mem_filter.1 h
  obtain ⟨f0, h3, rfl⟩ := List.mem_map.1 h1
  obtain ⟨l, x, t, h4, h5, h6⟩ := mid_of h3 hn
  subst h5
  exact ⟨l, x, t, h4, rfl, rfl, by intro e; rw [e] at h2; simp at h2, h6⟩
theorem left_nodup {ps : List Pg} {kp : Nat} (hn : (ps.map (·.nm)).Nodup) : ((leftF kp (ps.map Pg.fl)).map (·.nm)).Nodup := by
  have h1 : (((ps.map Pg.fl).map (Fl.lose kp)).map (·.nm)) = ps.map (·.nm) := by rw [List.map_map, List.map_map]; rfl
  have h2 : ((leftF kp (ps.map Pg.fl)).map (·.nm)).Sublist (((ps.map Pg.fl).map (Fl.lose kp)).map (·.nm)) := List.filter_sublist.map _
  rw [h1] at h2
  exact h2.nodup hn
theorem left_length {ps : List Pg} {kp : Nat} : (leftF kp (ps.map Pg.fl)).length ≤ ps.length := by
  have := List.length_filter_le (fun f => !f.bs.isEmpty) ((ps.map Pg.fl).map (Fl.lose kp))
  rw [List.length_map, List.length_map] at this
  exact this
/-- how many bytes of a file a crash leaves -/
def lostN (kp : Nat) (x : Pg) : Nat := x.syn + min (x.bs.length - x.syn) kp
theorem lose_bs (kp : Nat) (x : Pg) : (x.fl.lose kp).bs = x.bs.take (lostN kp x) := rfl
theorem lose_len {kp : Nat} {x : Pg} (hs : x.syn ≤ x.bs.length) : (x.fl.lose kp).bs.length = lostN kp x ∧ (x.fl.lose kp).syn = lostN kp x ∧ lostN kp x ≤ x.bs.length := by
  have h0 : lostN kp x ≤ x.bs.length := by unfold lostN; omega
  have h1 : (x.bs.take (lostN kp x)).length = lostN kp x := by rw [List.length_take]; omega
  exact ⟨h1, h1, h0⟩
/-- is a file of that name there behind the crash? -/
theorem left_there {ps : List Pg} {kp : Nat} {fs : List Fl} (hp : fs.Perm (leftF kp (ps.map Pg.fl))) (hn : (ps.map (·.nm)).Nodup) {x : Pg} (hx : x ∈ ps) (hs : x.syn ≤ x.bs.length) : fs.any (fun f => decide (f.nm = x.nm)) = (decide (0 < x.syn) || (decide (0 < kp) && decide (0 < x.bs.length))) := by
  have hl := lose_len (kp := kp) hs
  rw [Bool.eq_iff_iff, List.any_eq_true]
  constructor
  · rintro ⟨f, h1, h2⟩
    obtain ⟨l, y, t, h3, h4, h5, h6, _⟩ := left_mid (hp.mem_iff.1 h1) hn
    have h7 : y = x := by
      have hy : y ∈ ps := by rw [h3]; simp
      have h8 : y.nm = x.nm := h5.trans (of_decide_eq_true h2)
      exact inj_nm hn hy hx h8
    subst h7
    have h9 : 0 < lostN kp y := by
      rw [h4] at h6
      have := List.length_pos_iff.2 h6
      omega
    unfold lostN at h9
    simp
    omega
  · intro h1
    have h2 : 0 < lostN kp x := by
      unfold lostN
      simp at h1
      omega
    refine ⟨x.fl.lose kp, hp.mem_iff.2 (List.mem_filter.2 ⟨List.mem_map.2 ⟨x.fl, List.mem_map.2 ⟨x, hx, rfl⟩, rfl⟩, ?_⟩), by simp [Fl.lose, Pg.fl]⟩
    have h3 : (x.fl.lose kp).bs ≠ [] := fun e => by rw [e] at hl; simp at hl; omega
    cases h4 : (x.fl.lose kp).bs with
    | nil => exact absurd h4 h3
    | cons a b => rfl
end Go.Proofs.Ytaclgiakinoocaa
