import Derived.Test.YtijpfbcippijoaaGreatDoorRqGI
import Derived.Test.YtijpfbcippijoaaGreatDoorGr8
namespace Go.Proofs.YtijpfbcippijoaaGreatDoor
open Go.RowKit Go.Lib
set_option maxRecDepth 100000
structure Sp (R1 R2 : List (Int × Int)) (a b : Tr) : Prop where
  ra : rowOf a.lv = R1
  rb : rowOf b.lv = R2
  ca : a.Can
  cb : b.Can
  pa : Pcs a.lv
  pb : Pcs b.lv
end Go.Proofs.YtijpfbcippijoaaGreatDoor

namespace Go.Proofs.YtijpfbcippijoaaGreatDoor
open Go.RowKit Go.Lib
set_option maxRecDepth 100000
theorem noFit_full (h : Int) : ∀ (F : List (List Int)) (cur : List Int), (∀ x ∈ F, x.length = 32) → cur ≠ [] → NoFit ((F ++ [cur]).map fun x => (x, h))
  | [], _, _, _ => trivial
  | [x], cur, hF, hne => by
    refine ⟨fun hf => ?_, trivial⟩
    have h1 := hF x (by simp)
    have h2 := hf.2
    have h3 := List.length_pos_iff.2 hne
    simp only at h2
    omega
  | x :: y :: t, cur, hF, hne => by
    have ih := noFit_full h (y :: t) cur (fun z hz => hF z (by simp at hz ⊢; exact .inr hz)) hne
    refine ⟨fun hf => ?_, ih⟩
    have h1 := hF x (by simp)
    have h2 := hF y (by simp)
    have h3 := hf.2
    simp only at h3
    omega
theorem Chunks.pcs {rs : List Int} {h : Int} {ts : List Tr} (hc : Chunks rs h ts) : Pcs (lvs ts) ∧ (∀ p ∈ lvs ts, p.2 = h) := by
  obtain ⟨F, cur, hF, hne, hfew, hfl, rfl⟩ := hc.cut
  rw [lvs_leaves]
  refine ⟨⟨fun p hp => ?_, fun p hp => ?_, noFit_full h F cur hF hne⟩, fun p hp => ?_⟩
  · obtain ⟨x, hx, rfl⟩ := List.mem_map.1 hp
    rcases List.mem_append.1 hx with hx | hx
    · intro e; have := hF x hx; simp only at e; rw [e] at this; simp at this
    · simp at hx; subst hx; exact hne
  · obtain ⟨x, hx, rfl⟩ := List.mem_map.1 hp
    rcases List.mem_append.1 hx with hx | hx
    · have := hF x hx; simp only; omega
    · simp at hx; subst hx; exact hfew
  · obtain ⟨x, hx, rfl⟩ := List.mem_map.1 hp
    rfl
theorem lvs_append (ts us : List Tr) : lvs (ts ++ us) = lvs ts ++ lvs us := by simp [lvs]
theorem Parts.pcs {L : List GRun} {ts : List Tr} (hp : Parts L ts) : (∀ (j : Nat) x y, L[j]? = some x → L[j + 1]? = some y → x.h ≠ y.h) → Pcs (lvs ts) ∧ ∀ p, (lvs ts).getLast? = some p → ∃ x, L.getLast? = some x ∧ p.2 = x.h := by
  induction hp with
  | nil => intro _; exact ⟨pcs_nil, fun p hp => by simp [lvs] at hp⟩
  | @snoc L ts us x h hc ih =>
    intro hap
    obtain ⟨i1, i2⟩ := ih (fun j y z hy hz => hap j y z (by rw [List.getElem?_append_left (by have := (List.getElem?_eq_some_iff.1 hy).1; omega)]; exact hy) (by rw [List.getElem?_append_left (by have := (List.getElem?_eq_some_iff.1 hz).1; omega)]; exact hz))
    obtain ⟨c1, c2⟩ := hc.pcs
    rw [lvs_append]
    refine ⟨i1.append c1 fun p q hp hq hf => ?_, fun p hp => ?_⟩
    · obtain ⟨y, hy, e⟩ := i2 p hp
      have e2 := c2 q (List.mem_of_mem_head? hq)
      rw [List.getLast?_eq_getElem?] at hy
      have hL : 0 < L.length := by
        have := (List.getElem?_eq_some_iff.1 hy).1; omega
      refine hap (L.length - 1) y x ?_ ?_ (by have := hf.1; omega)
      · rw [List.getElem?_append_left (by omega)]; exact hy
      · rw [List.getElem?_append_right (by omega), show L.length - 1 + 1 - L.length = 0 by omega]; rfl
    · have hne : lvs us ≠ [] := by
        obtain ⟨F, cur, _, _, _, _, rfl⟩ := hc.cut
        rw [lvs_leaves]; simp
      rcases List.eq_nil_or_concat (lvs us) with e | ⟨k, z, e⟩
      · exact absurd e hne
      · rw [List.concat_eq_append] at e
        rw [e, ← List.append_assoc] at hp
        simp at hp
        subst hp
        exact ⟨x, by simp, c2 z (by rw [e]; simp)⟩
structure Upd (q : Nat) (w w' : World) : Prop where
  os : w'.os = w.os
  tape : w'.tape = w.tape
  output : w'.output = w.output
  size : w.heap.size ≤ w'.heap.size
  block : ∀ k, k < w.heap.size → k ≠ q → w'.heap[k]? = w.heap[k]?
theorem Upd.trans {q : Nat} {a b c : World} (h : Upd q a b) (k : Upd q b c) : Upd q a c := ⟨k.os.trans h.os, k.tape.trans h.tape, k.output.trans h.output, Nat.le_trans h.size k.size, fun i hi hne => (k.block i (by have := h.size; omega) hne).trans (h.block i hi hne)⟩
theorem Upd.below {q B : Nat} {a b c : World} (h : Below B a b) (k : Upd q b c) (hq : B ≤ q) (hB : B ≤ b.heap.size) : Below B a c := ⟨k.os.trans h.os, k.tape.trans h.tape, k.output.trans h.output, Nat.le_trans h.size k.size, fun i hi => (k.block i (by omega) (by omega)).trans (h.block i hi)⟩
end Go.Proofs.YtijpfbcippijoaaGreatDoor
