import Derived.Test.YtaclgiakinoocaaDiE
/-! enters of an Append. -/
namespace Go.Proofs.Ytaclgiakinoocaa
open Go.RowKit Go.Lib
set_option maxRecDepth 100000

variable {w : World} {k B : Nat} {v : Value} {ps : List Pg}
variable {nm : List UInt8} {ba : Option Addr} {bn bc : Nat} {N M E An Am : Int} {a1 a2 : Option Addr} {n1 c1 n2 c2 : Nat} {dn : Bool}
set_option maxHeartbeats 4000000 in
theorem enters_app (h : BkAt w k B v ps) (hn : ps.length ≤ 4398046511104) {nA : Nat} (hA : nA ≤ bn) (hbc : bn ≤ bc) (hE : E = 0 ↔ nA = bn) {l t : List Pg} {bs : List UInt8} {y : Nat} (hW : ∀ V, Below w.heap.size w V → Calls Try.prog 25 #[.pointer (some ⟨k, 0, none⟩), .string ⟨nm.toArray⟩, .slice ba nA bc] V fun e w' => e = .returned (.tuple #[]) ∧ WroteP V w' k B v ps l t nm bs y) :
    Calls Try.prog 27 #[.pointer (some ⟨k, 0, none⟩), .agg #[.int .i64 1, .string ⟨nm.toArray⟩, .slice ba bn bc, .int .i64 N, .int .i64 M], .agg #[.int .i64 E, .int .i64 (nA : Int), .int .i64 Am, .slice a1 n1 c1, .slice a2 n2 c2, .bool dn]] w fun e w' => e = .returned (.bool true) ∧ WroteP w w' k B v ps l t nm bs y := by
  have hw0 := h
  obtain ⟨W1, W2, hW1, hW2, hbW, hs1, hp, hq⟩ := ebox w #[.int .i64 1, .string ⟨nm.toArray⟩, .slice ba bn bc, .int .i64 N, .int .i64 M] #[.int .i64 E, .int .i64 (nA : Int), .int .i64 Am, .slice a1 n1 c1, .slice a2 n2 c2, .bool dn]
  obtain ⟨p0, p1, p2, p3, p4⟩ := box5 hp
  obtain ⟨r0, r1, r2, r3, r4, r5⟩ := box6 hq
  have HB2 : Hid (Below w.heap.size w W2) := hbW
  replace h := h.below hbW
  have HPG : Hid (Calls Try.prog 50 #[.pointer (some ⟨k, 0, none⟩), .string ⟨nm.toArray⟩] W2 fun e w' => e = .returned (.int .i64 (pgI ps nm)) ∧ w' = W2) := page_any h hn nm
  obtain ⟨pi, hpi⟩ : ∃ pi, pgI ps nm = pi := ⟨_, rfl⟩
  rw [hpi] at HPG
  clear hpi
  have HCE : Hid (∀ V, Below W2.heap.size W2 V → V.cell? ⟨w.heap.size, 1, none⟩ = some (.string ⟨nm.toArray⟩) ∧ V.cell? ⟨w.heap.size, 2, none⟩ = some (.slice ba bn bc) ∧ V.cell? ⟨w.heap.size + 1, 0, none⟩ = some (.int .i64 E) ∧ V.cell? ⟨w.heap.size + 1, 1, none⟩ = some (.int .i64 (nA : Int))) := fun V hV =>
    ⟨(hV.cell (p := ⟨w.heap.size, 1, none⟩) (Array.getElem?_eq_some_iff.1 hp).1).trans p1, (hV.cell (p := ⟨w.heap.size, 2, none⟩) (Array.getElem?_eq_some_iff.1 hp).1).trans p2, (hV.cell (p := ⟨w.heap.size + 1, 0, none⟩) (Array.getElem?_eq_some_iff.1 hq).1).trans r0, (hV.cell (p := ⟨w.heap.size + 1, 1, none⟩) (Array.getElem?_eq_some_iff.1 hq).1).trans r1⟩
  have HW : Hid (∀ V, Below W2.heap.size W2 V → Calls Try.prog 25 #[.pointer (some ⟨k, 0, none⟩), .string ⟨nm.toArray⟩, .slice ba nA bc] V fun e w' => e = .returned (.tuple #[]) ∧ WroteP w w' k B v ps l t nm bs y ∧ w'.cell? ⟨w.heap.size, 1, none⟩ = some (.string ⟨nm.toArray⟩) ∧ w'.cell? ⟨w.heap.size, 2, none⟩ = some (.slice ba bn bc) ∧ w'.cell? ⟨w.heap.size + 1, 1, none⟩ = some (.int .i64 (nA : Int))) := fun V hV => by
    have hb := hbW.trans (hV.mono hbW.size)
    refine (hW V hb).mono ?_
    rintro e w' ⟨h1, h2⟩
    refine ⟨h1, WroteP.grow hb h2, ?_⟩
    obtain ⟨x', _, _, _, v', _, hC, _⟩ := h2
    have hlt : ∀ q, BB k v ps q → q < w.heap.size := fun q hq => (hw0.lt hq).1
    have hVs := hV.size
    have hw2 := (Array.getElem?_eq_some_iff.1 hq).1
    have hbx := HCE.out V hV
    exact ⟨(hC.cell (p := ⟨w.heap.size, 1, none⟩) (by show w.heap.size < _; omega) (fun hq => by have := hlt _ hq; simp only at this; omega)).trans hbx.1, (hC.cell (p := ⟨w.heap.size, 2, none⟩) (by show w.heap.size < _; omega) (fun hq => by have := hlt _ hq; simp only at this; omega)).trans hbx.2.1, (hC.cell (p := ⟨w.heap.size + 1, 1, none⟩) (by show w.heap.size + 1 < _; omega) (fun hq => by have := hlt _ hq; simp only at this; omega)).trans hbx.2.2.2⟩
  have hcut : ∀ W, (Instr.slice 22 (.slice ba bn bc) none (some (.int .i64 (nA : Int))) none).run Try.prog W = .ok (.slice ba nA bc) W := fun W => cutU W ba _ bc nA (by omega)
  have g1 : ¬ ((nA : Int) < 0) := by omega
  have g2 : ¬ ((bn : Int) < (nA : Int)) := by omega
  obtain ⟨q, hq0⟩ : ∃ q : Bool, (E == 0) = q := ⟨_, rfl⟩
  have hq1 : ((nA : Int) == (bn : Int)) = q := by
    rw [← hq0]
    rcases Int.decEq E 0 with h1 | h1
    · have h2 : ¬ nA = bn := fun e => h1 (hE.2 e)
      have h3 : ((nA : Int) == (bn : Int)) = false := by simp; omega
      rw [h3]; simp [h1]
    · have h2 := hE.1 h1
      rw [h1, h2]; simp
  have hqq : (q == q) = true := by cases q <;> rfl
  clear h hn hA hbc hE hW hbW hp hq hw0
  go_enter Try.func27, Try.ntmps27
  go_wp2_with fail
  clear hW1 hW2 hs1
  refine HPG.out.mono ?_
  rintro e wz ⟨rfl, hz⟩
  rw [hz]
  clear hz wz
  go_wp2_with fail
  refine wp_region_held_drew (S := (fun W => W.cell? ⟨w.heap.size, 1, none⟩ = some (.string ⟨nm.toArray⟩) ∧ W.cell? ⟨w.heap.size, 2, none⟩ = some (.slice ba bn bc) ∧ W.cell? ⟨w.heap.size + 1, 1, none⟩ = some (.int .i64 (nA : Int)))) (by kernel_rfl) ?hS1 (fun hHeld => ?rest1)
  case hS1 => (have hbx := HCE.out _ (by first | exact (Below.refl _ _).drew | exact (Below.refl _ _).drew.drew | exact (Below.refl _ _).drew.drew.drew | exact below_drewN (Below.refl _ _) _); exact ⟨hbx.1, hbx.2.1, hbx.2.2.2⟩)
  refine takeD (i := 0) (d := some 38) (v := ?vT2) rfl rfl (by kernel_rfl) (by kernel_rfl) (by kernel_rfl) (fun _ _ _ h => h) (Or.inl ⟨by rfl, ?hyT2⟩) (by assumption) ?rstT2
  case hyT2 => (intro w hSw; (try dsimp only at hSw); go_simp; (try with_reducible rfl))
  try simp only [Act.put, List.setIfInBounds_toArray, List.set_cons_zero, List.set_cons_succ]
  refine takeD (i := 1) (d := some 39) (v := ?vT3) rfl rfl (by kernel_rfl) (by kernel_rfl) (by kernel_rfl) (fun _ _ _ h => h) (Or.inl ⟨by rfl, ?hyT3⟩) (by assumption) ?rstT3
  case hyT3 => (intro w hSw; (try dsimp only at hSw); go_simp; (try with_reducible rfl))
  try simp only [Act.put, List.setIfInBounds_toArray, List.set_cons_zero, List.set_cons_succ]
  refine takeD (i := 2) (d := some 40) (v := ?vT4) rfl rfl (by kernel_rfl) (by kernel_rfl) (by kernel_rfl) (fun _ _ _ h => h) (Or.inl ⟨by rfl, ?hyT4⟩) (by assumption) ?rstT4
  case hyT4 => (intro w hSw; (try dsimp only at hSw); go_simp; (try with_reducible rfl))
  try simp only [Act.put, List.setIfInBounds_toArray, List.set_cons_zero, List.set_cons_succ]
  refine takeD (i := 3) (d := some 41) (v := ?vT5) rfl rfl (by kernel_rfl) (by kernel_rfl) (by kernel_rfl) (fun _ _ _ h => h) (Or.inl ⟨by rfl, ?hyT5⟩) (by assumption) ?rstT5
  case hyT5 => (intro w hSw; (try dsimp only at hSw); go_simp; (try with_reducible rfl))
  try simp only [Act.put, List.setIfInBounds_toArray, List.set_cons_zero, List.set_cons_succ]
  refine takeD (i := 4) (d := some 42) (v := ?vT6) rfl rfl (by kernel_rfl) (by kernel_rfl) (by kernel_rfl) (fun _ _ _ h => h) (Or.inl ⟨by rfl, ?hyT6⟩) (by assumption) ?rstT6
  case hyT6 => (intro w hSw; (try dsimp only at hSw); go_simp; (try with_reducible rfl))
  try simp only [Act.put, List.setIfInBounds_toArray, List.set_cons_zero, List.set_cons_succ]
  refine takeD (i := 5) (d := some 43) (v := ?vT7) rfl rfl (by kernel_rfl) (by kernel_rfl) (by kernel_rfl) (fun _ _ _ h => h) (Or.inl ⟨by rfl, ?hyT7⟩) (by assumption) ?rstT7
  case hyT7 => (intro w hSw; (try dsimp only at hSw); go_simp; (try with_reducible rfl))
  try simp only [Act.put, List.setIfInBounds_toArray, List.set_cons_zero, List.set_cons_succ]
  refine takeD (i := 6) (d := some 44) (v := ?vT8) rfl rfl (by kernel_rfl) (by kernel_rfl) (by kernel_rfl) (fun _ _ _ h => h) (Or.inl ⟨by rfl, ?hyT8⟩) (by assumption) ?rstT8
  case hyT8 => (intro w hSw; (try dsimp only at hSw); go_simp; (try with_reducible rfl))
  try simp only [Act.put, List.setIfInBounds_toArray, List.set_cons_zero, List.set_cons_succ]
  refine takeD (i := 7) (d := some 45) (v := ?vT9) rfl rfl (by kernel_rfl) (by kernel_rfl) (by kernel_rfl) (fun _ _ _ h => h) (Or.inl ⟨by rfl, ?hyT9⟩) (by assumption) ?rstT9
  case hyT9 => (intro w hSw; (try dsimp only at hSw); go_simp; (try with_reducible rfl))
  try simp only [Act.put, List.setIfInBounds_toArray, List.set_cons_zero, List.set_cons_succ]
  refine wpAnyH_ready (rs := [8]) (by kernel_rfl) (by simp) ?_
  refine AllReadyH.cons rfl (fun K hK => ?_) AllReadyH.nil
  go_simp
  refine (HW.out _ (by first | exact (Below.refl _ _).drew | exact (Below.refl _ _).drew.drew | exact (Below.refl _ _).drew.drew.drew | exact below_drewN (Below.refl _ _) _)).mono ?_
  rintro e w7 ⟨rfl, hw7, hw8⟩
  have HW7 : Hid (WroteP w w7 k B v ps l t nm bs y) := hw7
  have HW8 : Hid _ := hw8
  clear hw7 hw8
  clear hHeld
  refine hK.out _ _ ?hS10 (fun hHeld => ?rest10)
  case hS10 => exact HW8.out
  clear hK K
  try simp only [Act.put, List.setIfInBounds_toArray, List.set_cons_zero, List.set_cons_succ]
  refine wpAnyH_done (by kernel_rfl) ?_ _
  go_wp2_with fail
  go_ret
  exact ⟨rfl, HW7.out⟩
end Go.Proofs.Ytaclgiakinoocaa
