import Derived.Test.YtelcjhflopgojaaDoorOpH
namespace Go.Proofs.YtelcjhflopgojaaDoor
open Go.RowKit Go.Lib Sp
set_option maxRecDepth 100000

theorem opCheck_total {o : OpV} {total : Int} (h : total < 0 ∨ 1048576 < total) : opCheck o total = 12 := by unfold opCheck; rw [if_pos h]
theorem opCheck_kind {o : OpV} {total : Int} (hT : 0 ≤ total ∧ total ≤ 1048576) (h : o.k < 1 ∨ 4 < o.k) : opCheck o total = 40 := by
  unfold opCheck; rw [if_neg (by omega), if_pos h]
theorem opCheck_id {o : OpV} {total : Int} (hT : 0 ≤ total ∧ total ≤ 1048576) (hK : 1 ≤ o.k ∧ o.k ≤ 4) (h : ¬ (o.c = 0 ∧ o.n = 0)) (h2 : isIdP o.c o.n = false) : opCheck o total = 41 := by
  unfold opCheck; rw [if_neg (by omega), if_neg (by omega), if_pos ⟨h, h2⟩]
theorem opCheck_pass {o : OpV} {total : Int} (hT : 0 ≤ total ∧ total ≤ 1048576) (hK : 1 ≤ o.k ∧ o.k ≤ 4) (hI : (o.c = 0 ∧ o.n = 0) ∨ isIdP o.c o.n = true) :
    opCheck o total = if extra o = true then 42 else if o.k = 1 then insP o total else if o.k = 4 then tgtP o else rngP o total := by
  unfold opCheck; rw [if_neg (by omega), if_neg (by omega), if_neg (by
    rintro ⟨h, h2⟩
    rcases hI with h' | h'
    · exact h h'
    · rw [h'] at h2; cases h2)]
theorem check_ab : check ⟨#[97, 98]⟩ = (2, 0, 0) := by kernel_rfl
theorem check_empty : check ⟨#[]⟩ = (0, 0, 0) := by kernel_rfl
theorem check_aff : check ⟨#[97, 255]⟩ = (0, 1, 10) := by kernel_rfl
theorem opCheck_ins {c n p total : Int} {s : ByteArray} (hT : 0 ≤ total ∧ total ≤ 1048576) (hI : (c = 0 ∧ n = 0) ∨ isIdP c n = true) :
    opCheck ⟨c, n, 1, p, s, [], 0, 0, false⟩ total = insP ⟨c, n, 1, p, s, [], 0, 0, false⟩ total := by
  rw [opCheck_pass hT (by simp) hI, if_neg (by simp [extra, ext0, extT]), if_pos rfl]
theorem opCheck_rng {c n k total : Int} {l : List (Int × Int)} (hk : k = 2 ∨ k = 3) (hT : 0 ≤ total ∧ total ≤ 1048576) (hI : (c = 0 ∧ n = 0) ∨ isIdP c n = true) :
    opCheck ⟨c, n, k, 0, ⟨#[]⟩, l, 0, 0, false⟩ total = rngP ⟨c, n, k, 0, ⟨#[]⟩, l, 0, 0, false⟩ total := by
  rw [opCheck_pass hT (by simp only; omega) hI, if_neg (by rcases hk with rfl | rfl <;> simp [extra, extP, extT, ByteArray.size]), if_neg (by simp only; omega), if_neg (by simp only; omega)]
theorem opCheck_tgt {c n tc tn total : Int} {on : Bool} (hT : 0 ≤ total ∧ total ≤ 1048576) (hI : (c = 0 ∧ n = 0) ∨ isIdP c n = true) :
    opCheck ⟨c, n, 4, 0, ⟨#[]⟩, [], tc, tn, on⟩ total = tgtP ⟨c, n, 4, 0, ⟨#[]⟩, [], tc, tn, on⟩ := by
  rw [opCheck_pass hT (by simp) hI, if_neg (by simp [extra, extP, ext0, ByteArray.size]), if_neg (by simp), if_pos rfl]
theorem opCheck_extra {o : OpV} {total : Int} (hT : 0 ≤ total ∧ total ≤ 1048576) (hK : 1 ≤ o.k ∧ o.k ≤ 4) (hI : (o.c = 0 ∧ o.n = 0) ∨ isIdP o.c o.n = true) (hx : extra o = true) : opCheck o total = 42 := by
  rw [opCheck_pass hT hK hI, if_pos hx]

theorem q2b {t : Int} (_h0 : 1 ≤ t) (_h1 : t ≤ 1000000) : opCheck ⟨2, 3, 3, 0, ⟨#[]⟩, [(0, 1)], 0, 0, false⟩ 0 = 12 := by
  rw [opCheck_rng (.inr rfl) (by omega) (.inr rfl)]
  have hc : checkL [(0, 1)] = (0, 0) := by kernel_rfl
  simp only [rngP, hc]; rw [if_neg (by simp), if_neg (by decide), if_pos (by simp [lastHi])]
section
variable {t : Int} (h0 : 1 ≤ t) (h1 : t ≤ 1000000)
include h0 h1
theorem hTt : 0 ≤ t ∧ t ≤ 1048576 := by omega
theorem q0a : opCheck ⟨2, 3, 1, t, ⟨#[97, 98]⟩, [], 0, 0, false⟩ t = 0 := by
  rw [opCheck_ins (hTt h0 h1) (.inr rfl)]; simp only [insP, check_ab]; rw [if_neg (by decide), if_neg (by decide), if_neg (by decide), if_neg (by omega), if_neg (by omega)]
theorem q0b : opCheck ⟨2, 3, 1, t + 1, ⟨#[97, 98]⟩, [], 0, 0, false⟩ t = 12 := by
  rw [opCheck_ins (hTt h0 h1) (.inr rfl)]; simp only [insP, check_ab]; rw [if_neg (by decide), if_neg (by decide), if_neg (by decide), if_pos (by omega)]
theorem q0c : opCheck ⟨2, 3, 1, t + 1, ⟨#[]⟩, [], 0, 0, false⟩ t = 15 := by
  rw [opCheck_ins (hTt h0 h1) (.inr rfl)]; simp only [insP, check_empty]; rw [if_neg (by decide), if_pos trivial]
theorem q0d : opCheck ⟨2, 3, 1, t + 1, ⟨#[97, 255]⟩, [], 0, 0, false⟩ t = 10 := by
  rw [opCheck_ins (hTt h0 h1) (.inr rfl)]; simp only [insP, check_aff]; rw [if_pos (by decide)]
theorem q1a : opCheck ⟨2, 3, 2, 0, ⟨#[]⟩, [(t - 1, t)], 0, 0, false⟩ t = 0 := by
  rw [opCheck_rng (.inl rfl) (hTt h0 h1) (.inr rfl)]
  have hc : checkL [(t - 1, t)] = (0, 0) := by
    unfold checkL; rw [if_neg (by simp)]; simp only [Sp.chk]; rw [if_neg (by omega), if_neg (by omega)]
  simp only [rngP, hc]; rw [if_neg (by simp), if_neg (by decide), if_neg (by simp [lastHi])]
theorem q1b : opCheck ⟨2, 3, 2, 0, ⟨#[]⟩, [(t - 1, t)], 0, 0, false⟩ 0 = 12 := by
  rw [opCheck_rng (.inl rfl) (by omega) (.inr rfl)]
  have hc : checkL [(t - 1, t)] = (0, 0) := by
    unfold checkL; rw [if_neg (by simp)]; simp only [Sp.chk]; rw [if_neg (by omega), if_neg (by omega)]
  simp only [rngP, hc]; rw [if_neg (by simp), if_neg (by decide), if_pos (by simp [lastHi]; omega)]
theorem q2a : opCheck ⟨2, 3, 3, 0, ⟨#[]⟩, [(0, 1)], 0, 0, false⟩ t = 0 := by
  rw [opCheck_rng (.inr rfl) (hTt h0 h1) (.inr rfl)]
  have hc : checkL [(0, 1)] = (0, 0) := by kernel_rfl
  simp only [rngP, hc]; rw [if_neg (by simp), if_neg (by decide), if_neg (by simp [lastHi]; omega)]
theorem q12c {k : Int} (hk : k = 2 ∨ k = 3) : opCheck ⟨2, 3, k, 0, ⟨#[]⟩, [(0, 1), (1, 9000)], 0, 0, false⟩ t = 22 := by
  rw [opCheck_rng hk (hTt h0 h1) (.inr rfl)]
  have hc : (checkL [(0, 1), (1, 9000)]).2 = 22 := by kernel_rfl
  simp only [rngP, hc]; rw [if_neg (by simp), if_pos (by decide)]
theorem q12d {k : Int} (hk : k = 2 ∨ k = 3) : opCheck ⟨2, 3, k, 0, ⟨#[]⟩, [(3, 3)], 0, 0, false⟩ t = 20 := by
  rw [opCheck_rng hk (hTt h0 h1) (.inr rfl)]
  have hc : (checkL [(3, 3)]).2 = 20 := by kernel_rfl
  simp only [rngP, hc]; rw [if_neg (by simp), if_pos (by decide)]
theorem q12e {k : Int} (hk : k = 2 ∨ k = 3) : opCheck ⟨2, 3, k, 0, ⟨#[]⟩, [], 0, 0, false⟩ t = 43 := by
  rw [opCheck_rng hk (hTt h0 h1) (.inr rfl)]; simp [rngP]
theorem q3a : opCheck ⟨2, 3, 4, 0, ⟨#[]⟩, [], 2, 2, false⟩ t = 0 := by
  rw [opCheck_tgt (hTt h0 h1) (.inr rfl)]; decide
theorem q3b : opCheck ⟨2, 3, 4, 0, ⟨#[]⟩, [], 2, 3, false⟩ t = 63 := by
  rw [opCheck_tgt (hTt h0 h1) (.inr rfl)]; decide
theorem q3c : opCheck ⟨2, 3, 4, 0, ⟨#[]⟩, [], 0, 0, false⟩ t = 63 := by
  rw [opCheck_tgt (hTt h0 h1) (.inr rfl)]; decide
end
end Go.Proofs.YtelcjhflopgojaaDoor
