import Derived.Test.YtijpfbcippijoaaGreatDoorRpST
namespace Go.Proofs.YtijpfbcippijoaaGreatDoor
open Go.RowKit Go.Lib
set_option maxRecDepth 100000
theorem OkRuns.cells_le {L : List GRun} (h : OkRuns L) : (cellsOf L).length ≤ L.length * 48 := by
  have key : ∀ M : List GRun, (∀ x ∈ M, OkRun x) → (cellsOf M).length ≤ M.length * 48 := by
    intro M
    induction M with
    | nil => intro _; simp [cellsOf]
    | cons x t ih =>
      intro hM
      have h1 := (hM x (by simp)).few
      have h2 := ih (fun y hy => hM y (by simp [hy]))
      simp only [cellsOf, List.flatMap_cons, List.length_append, List.length_map, List.length_cons] at h2 ⊢
      omega
  exact key L h.each
theorem OkRuns.from_ {L : List GRun} (h : OkRuns L) : FromOk L :=
  ⟨fun x hx => (h.each x hx).text, fun x hx => (h.each x hx).some_, fun x hx => (h.each x hx).lo, fun x hx => by have := (h.each x hx).hi; omega, h.apart, by have := h.cells_le; have := h.few; omega⟩
theorem cellsOf_nonneg {L : List GRun} (h : ∀ x ∈ L, 0 ≤ x.h) : Nonneg (cellsOf L) := by
  intro c hc
  obtain ⟨x, hx, hc⟩ := List.mem_flatMap.1 hc
  obtain ⟨r, _, rfl⟩ := List.mem_map.1 hc
  exact h x hx
theorem from_good {L : List GRun} {ts : List Tr} {t : Tr} (hL : FromOk L) (hb : Built ts t) (hp : Parts L ts) : t.row = cellsOf L ∧ t.Good := by
  have hr : t.row = cellsOf L := by rw [hb.row, hp.row]
  exact ⟨hr, ⟨hb.ok_, hb.bd, by rw [hr]; exact cellsOf_nonneg hL.lo, by rw [hr]; exact hL.few⟩⟩
end Go.Proofs.YtijpfbcippijoaaGreatDoor
