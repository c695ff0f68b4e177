import Derived.Test.YtohfckcikincoacSpInt
namespace Go.Proofs.Ytohfckcikincoac
open Go.RowKit Go.Lib
set_option maxRecDepth 100000

def Asc (l : List Int) : Prop := l.Pairwise (· ≤ ·)
theorem rngI_take {w : World} {a : Option Addr} {n cap : Nat} {xs : List Int} (h : RngI w a n cap xs) (k : Nat) (hk : k ≤ n) : RngI w a k cap (xs.take k) := by
  have hlen := h.len
  have hroom := h.room
  refine ⟨by simp; omega, by omega, fun j hj => ?_⟩
  obtain ⟨g, off, ha, hg, hc⟩ := h.cells j (by omega)
  refine ⟨g, off, ha, hg, hc.trans ?_⟩
  simp [List.getD_eq_getElem?_getD, hj]
theorem rngI_drop {w : World} {g off n cap : Nat} {xs : List Int} (h : RngI w (some ⟨g, off, none⟩) n cap xs) (k : Nat) (hk : k ≤ n) : RngI w (some ⟨g, off + k, none⟩) (n - k) (cap - k) (xs.drop k) := by
  have hlen := h.len
  have hroom := h.room
  refine ⟨by simp; omega, by omega, fun j hj => ?_⟩
  obtain ⟨g', off', ha, hg, hc⟩ := h.cells (k + j) (by omega)
  simp only [Option.some.injEq, Addr.mk.injEq, and_true] at ha
  obtain ⟨rfl, rfl⟩ := ha
  refine ⟨g, off + k, rfl, hg, ?_⟩
  rw [Nat.add_assoc, hc]
  simp [List.getD_eq_getElem?_getD]
theorem elemI : Try.prog.elem 62 = 3 := by kernel_rfl
theorem cutI_high (W : World) (a : Option Addr) (n cap k : Nat) (hk : k ≤ cap) : (Instr.slice 62 (.slice a n cap) none (some (.int .i64 (k : Int))) none).run Try.prog W = .ok (.slice a k cap) W := by
  obtain ⟨i, hi, hz, hsz, hby⟩ := info_parts intInfo
  have := run_slice_h (P := Try.prog) W 62 a n cap (by rw [elemI]; exact Try.underlying62) .i64 (k : Int) (by omega) (by omega)
  rw [this, elemI]
  simp [sizeOf, typeInfo, hi, hsz, sliced, Addr.add]
theorem cutI_low (W : World) (g off n cap k : Nat) (hk : k ≤ n) (hc : k < cap) : (Instr.slice 62 (.slice (some ⟨g, off, none⟩) n cap) (some (.int .i64 (k : Int))) none none).run Try.prog W = .ok (.slice (some ⟨g, off + k, none⟩) (n - k) (cap - k)) W := by
  obtain ⟨i, hi, hz, hsz, hby⟩ := info_parts intInfo
  have := run_slice_l (P := Try.prog) W 62 (some ⟨g, off, none⟩) n cap (by rw [elemI]; exact Try.underlying62) .i64 (k : Int) (by omega) (by omega)
  rw [this, elemI]
  simp [sizeOf, typeInfo, hi, hsz, sliced, Addr.add]
  rw [if_neg (by omega)]
  split <;> simp_all
theorem makeI (w : World) (n : Nat) (hn : n ≤ 1048576) : ∃ w', (Instr.makeSlice 62 (.int .i64 0) (.int .i64 (n : Int))).run Try.prog w = .ok (.slice (some ⟨w.heap.size, 0, none⟩) 0 n) w' ∧ OwnI w' w.heap.size (.slice (some ⟨w.heap.size, 0, none⟩) 0 n) [] ∧ Below w.heap.size w w' := by
  obtain ⟨i, hi, hz, hsz, hby⟩ := info_parts intInfo
  have hr := run_make (P := Try.prog) w 62 3 i _ Try.underlying62 hi hz .i64 .i64 0 (n : Int) (by omega) (by omega) (by rw [hby]; omega) (by omega)
  refine ⟨_, hr, ?_, (Below.refl _ _).alloc (Nat.le_refl _) _⟩
  have := World.ownsRow_made (base := w.heap.size) (e := 3) (size := 1) w (madeCells (Value.int .i64 0).cells (n * 1)) n (Nat.le_refl _) (by simp only [maxLen]; omega) (by simp [madeCells])
  simp only [hsz, Int.toNat_natCast] at *
  exact this

theorem below_drewN' {B : Nat} {a w : World} (h : Below B a w) (m : Nat) : Below B a (w.drewN m) := h.trans ⟨rfl, rfl, rfl, Nat.le_refl _, fun _ _ => rfl⟩
/-- What holds in the loop that merges. -/
structure MInv (A B : List Int) (i j : Nat) (out : List Int) : Prop where
  perm : (out ++ (A.drop i ++ B.drop j)).Perm (A ++ B)
  asc : Asc out
  le : ∀ x ∈ out, ∀ y ∈ A.drop i ++ B.drop j, x ≤ y
theorem dropI (l : List Int) (j : Nat) (hj : j < l.length) : l.drop j = l.getD j 0 :: l.drop (j + 1) := by
  rw [List.getD_eq_getElem?_getD, List.getElem?_eq_getElem hj]
  exact List.drop_eq_getElem_cons hj
theorem asc_snoc {out : List Int} {x : Int} (h : Asc out) (hx : ∀ y ∈ out, y ≤ x) : Asc (out ++ [x]) :=
  List.pairwise_append.2 ⟨h, by simp, fun a ha b hb => by simp only [List.mem_singleton] at hb; subst hb; exact hx a ha⟩
theorem MInv.stepA {A B : List Int} {i j : Nat} {out : List Int} (h : MInv A B i j out) (hA : Asc A) (hB : Asc B) (hi : i < A.length) (hj : j < B.length → A.getD i 0 ≤ B.getD j 0) : MInv A B (i + 1) j (out ++ [A.getD i 0]) := by
  have hd := dropI A i hi
  refine ⟨?_, asc_snoc h.asc (fun y hy => h.le y hy _ (by rw [hd]; simp)), fun x hx y hy => ?_⟩
  · have := h.perm
    rw [hd] at this
    simpa using this
  · rcases List.mem_append.1 hx with hx | hx
    · exact h.le x hx y (by rw [hd]; rcases List.mem_append.1 hy with hy | hy <;> simp [hy])
    · simp only [List.mem_singleton] at hx
      subst hx
      rcases List.mem_append.1 hy with hy | hy
      · have := hA.drop (i := i)
        rw [hd] at this
        exact (List.pairwise_cons.1 this).1 y hy
      · by_cases hjl : j < B.length
        · have h1 := hj hjl
          have := hB.drop (i := j)
          rw [dropI B j hjl] at this hy
          rcases List.mem_cons.1 hy with rfl | hy
          · exact h1
          · have := (List.pairwise_cons.1 this).1 y hy
            omega
        · rw [List.drop_eq_nil_of_le (by omega)] at hy
          cases hy
theorem MInv.stepB {A B : List Int} {i j : Nat} {out : List Int} (h : MInv A B i j out) (hA : Asc A) (hB : Asc B) (hj : j < B.length) (hi : i < A.length → B.getD j 0 ≤ A.getD i 0) : MInv A B i (j + 1) (out ++ [B.getD j 0]) := by
  have hd := dropI B j hj
  refine ⟨?_, asc_snoc h.asc (fun y hy => h.le y hy _ (by rw [hd]; simp)), fun x hx y hy => ?_⟩
  · have := h.perm
    rw [hd] at this
    refine List.Perm.trans ?_ this
    rw [List.append_assoc]
    refine List.Perm.append_left _ ?_
    exact (List.perm_middle (l₁ := A.drop i) (a := B.getD j 0) (l₂ := B.drop (j + 1))).symm
  · rcases List.mem_append.1 hx with hx | hx
    · exact h.le x hx y (by rw [hd]; rcases List.mem_append.1 hy with hy | hy <;> simp [hy])
    · simp only [List.mem_singleton] at hx
      subst hx
      rcases List.mem_append.1 hy with hy | hy
      · by_cases hil : i < A.length
        · have h1 := hi hil
          have := hA.drop (i := i)
          rw [dropI A i hil] at this hy
          rcases List.mem_cons.1 hy with rfl | hy
          · exact h1
          · have := (List.pairwise_cons.1 this).1 y hy
            omega
        · rw [List.drop_eq_nil_of_le (by omega)] at hy
          cases hy
      · have := hB.drop (i := j)
        rw [hd] at this
        exact (List.pairwise_cons.1 this).1 y hy
set_option maxHeartbeats 4000000 in
theorem sorted_any (n : Nat) : ∀ {w : World} {a : Option Addr} {cap : Nat} {xs : List Int}, RngI w a n cap xs → n ≤ 1048576 →
    Calls Try.prog 59 #[.slice a n cap] w fun e w' => ∃ a' cap' ys, e = .returned (.slice a' n cap') ∧ OwnI w' w.heap.size (.slice a' n cap') ys ∧ Below w.heap.size w w' ∧ Hid (ys.Perm xs ∧ Asc ys) := by
  induction n using Nat.strongRecOn with
  | _ n ih =>
    intro w a cap xs h hn
    have hlen := h.len
    have hroom := h.room
    by_cases h2 : n < 2
    · obtain ⟨a', cap', w', hr, ho, hb⟩ := appendI (ownI_nil w w.heap.size) (Nat.le_refl _) h (by omega) 62
      simp only [Nat.zero_add, List.nil_append] at hr ho
      have HP : Hid (xs.Perm xs ∧ Asc xs) := ⟨List.Perm.refl _, by
        match xs, hlen with
        | [], _ => exact List.Pairwise.nil
        | [x], _ => simp [Asc]
        | x :: y :: t, hl => simp at hl; omega⟩
      clear ih h
      go_enter Try.func59, Try.ntmps59
      go_wp2_with (at_builtin; refine wpList_append_hr rfl _ _ 62 rfl _ _ rfl rfl hr ?_)
      go_ret
      exact ⟨_, _, _, rfl, ho, hb, HP⟩
    · obtain ⟨g, off, rfl, hg, _⟩ := h.cells 0 (by omega)
      have hc1 := fun W => cutI_high W (some ⟨g, off, none⟩) n cap (n / 2) (by omega)
      have hc2 := fun W => cutI_low W g off n cap (n / 2) (by omega) (by omega)
      have HI1 : Hid (∀ W, Below w.heap.size w W → Calls Try.prog 59 #[.slice (some ⟨g, off, none⟩) (n / 2) cap] W _) := fun W hb => ih (n / 2) (by omega) ((rngI_take h (n / 2) (by omega)).below hb) (by omega)
      have HI2 : Hid (∀ W, Below w.heap.size w W → Calls Try.prog 59 #[.slice (some ⟨g, off + n / 2, none⟩) (n - n / 2) (cap - n / 2)] W _) := fun W hb => ih (n - n / 2) (by omega) ((rngI_drop h (n / 2) (by omega)).below hb) (by omega)
      clear ih
      go_enter Try.func59, Try.ntmps59
      go_wp2_with fail
      refine (HI1.out _ (Below.refl _ _)).mono ?_
      rintro e w1 ⟨aa, ca, As, rfl, hoA, hb1, HA⟩
      go_wp2_with fail
      refine (HI2.out _ hb1).mono ?_
      rintro e w2 ⟨ab, cb, Bs, rfl, hoB, hb2, HB⟩
      obtain ⟨w3, hmk, hoO, hb3⟩ := makeI w2 n hn
      have hB2 := hb1.trans (hb2.mono hb1.size)
      have hrA := (hoA.below hb2).rng
      have hrB := hoB.rng
      have hlA := hrA.len
      have hlB := hrB.len
      have hpr : n / 2 + (n - n / 2) = n := by omega
      have HXS : Hid (∀ A B : List Int, A.Perm (xs.take (n / 2)) → B.Perm (xs.drop (n / 2)) → (A ++ B).Perm xs) := fun A B h1 h2 => by
        have := h1.append h2
        rwa [List.take_append_drop] at this
      have HP : Hid ((As ++ Bs).Perm xs) := HXS.out As Bs HA.out.1 HB.out.1
      have HSA : Hid (Asc As) := HA.out.2
      have HSB : Hid (Asc Bs) := HB.out.2
      have HM0 : Hid (MInv As Bs 0 0 []) := ⟨by simp, List.Pairwise.nil, fun x hx => by cases hx⟩
      clear HI1 HI2 hc1 hc2 hoA hoB hb1 hb2 HXS HA HB
      generalize n / 2 = p at *
      generalize n - p = r at *
      have hpI : (p : Int) + r = n := by omega
      go_wp2_with fail
      go_loopw [5, 6, 7] (fun vo vi vj w' => ∃ (i j : Nat) (o : Option Addr) (no co : Nat) (out : List Int), i ≤ p ∧ j ≤ r ∧ no = i + j ∧ vi = .int .i64 i ∧ vj = .int .i64 j ∧ vo = .slice o no co ∧ OwnI w' w2.heap.size (.slice o no co) out ∧ Below w2.heap.size w2 w' ∧ Hid (MInv As Bs i j out)) (fun _ vi vj _ => p - (RowKit.intOf vi).toNat + (r - (RowKit.intOf vj).toNat))
      case atStart => exact ⟨0, 0, _, 0, _, [], Nat.zero_le _, Nat.zero_le _, rfl, rfl, rfl, rfl, hoO, hb3, HM0⟩
      case round =>
        clear hoO hb3 HM0 hmk
        obtain ⟨i, j, o, no, co, out, hi, hj, rfl, rfl, rfl, rfl, ho, hb, HM⟩ := hrel
        have hsz := hb.size
        by_cases hi' : i < p
        · obtain ⟨ga, oa, rfl, hga, hca⟩ := hrA.cells i hi'
          have c0 := (hb.cell (p := ⟨ga, oa + i, none⟩) hga).trans hca
          by_cases hj' : j < r
          · obtain ⟨gb, ob, rfl, hgb, hcb⟩ := hrB.cells j hj'
            have c2 := (hb.cell (p := ⟨gb, ob + j, none⟩) hgb).trans hcb
            have d1 : decide ((r : Int) ≤ (j : Int)) = false := decide_eq_false (by omega)
            have d2 : (i : Int) < (p : Int) := by omega
            have d4 : (j : Int) < (r : Int) := by omega
            by_cases hxy : As.getD i 0 ≤ Bs.getD j 0
            · have HM2 : Hid (MInv As Bs (i + 1) j (out ++ [As.getD i 0])) := HM.out.stepA HSA.out HSB.out (by omega) (fun _ => hxy)
              have HAP := fun q => appendI_one (w := wr.drewN q) (B := w2.heap.size) (ho.below (below_drewN' (Below.refl _ _) q)) hsz (As.getD i 0) (by omega) 62
              have d3 : As.getD i 0 ≤ Bs.getD j 0 := hxy
              clear HM hca hcb
              generalize As.getD i 0 = x at *
              generalize Bs.getD j 0 = y at *
              go_wp2_with fail
              go_quiet (fail)
              obtain ⟨a1, c1, w4, hr, ho4, hb4⟩ := HAP nq
              have hB4 := (below_drewN' hb nq).trans hb4
              clear HAP
              go_wp2_with (at_builtin; refine wpList_append_hr rfl _ _ 62 rfl _ _ rfl rfl hr ?_)
              go_roundw
              case rel => exact ⟨i + 1, j, a1, _, c1, _, by omega, by omega, rfl, by go_num, rfl, by rw [show i + 1 + j = i + j + 1 by omega], by rw [show i + 1 + j = i + j + 1 by omega]; exact ho4, hB4, HM2⟩
              case measure => simp [RowKit.intOf]; omega
            · have HM2 : Hid (MInv As Bs i (j + 1) (out ++ [Bs.getD j 0])) := HM.out.stepB HSA.out HSB.out (by omega) (fun _ => by omega)
              have HAP := fun q => appendI_one (w := wr.drewN q) (B := w2.heap.size) (ho.below (below_drewN' (Below.refl _ _) q)) hsz (Bs.getD j 0) (by omega) 62
              have d3 : decide (As.getD i 0 ≤ Bs.getD j 0) = false := decide_eq_false hxy
              clear HM hca hcb hxy
              generalize As.getD i 0 = x at *
              generalize Bs.getD j 0 = y at *
              go_wp2_with fail
              go_quiet (fail)
              obtain ⟨a1, c1, w4, hr, ho4, hb4⟩ := HAP nq
              have hB4 := (below_drewN' hb nq).trans hb4
              clear HAP
              go_wp2_with (at_builtin; refine wpList_append_hr rfl _ _ 62 rfl _ _ rfl rfl hr ?_)
              go_roundw
              case rel => exact ⟨i, j + 1, a1, _, c1, _, by omega, by omega, rfl, rfl, by go_num, rfl, ho4, hB4, HM2⟩
              case measure => simp [RowKit.intOf]; omega
          · have HM2 : Hid (MInv As Bs (i + 1) j (out ++ [As.getD i 0])) := HM.out.stepA HSA.out HSB.out (by omega) (fun h => by omega)
            have HAP := fun q => appendI_one (w := wr.drewN q) (B := w2.heap.size) (ho.below (below_drewN' (Below.refl _ _) q)) hsz (As.getD i 0) (by omega) 62
            have d1 : (r : Int) ≤ (j : Int) := by omega
            have d2 : (i : Int) < (p : Int) := by omega
            clear HM hca
            generalize As.getD i 0 = x at *
            go_wp2_with fail
            go_quiet (fail)
            obtain ⟨a1, c1, w4, hr, ho4, hb4⟩ := HAP nq
            have hB4 := (below_drewN' hb nq).trans hb4
            clear HAP
            go_wp2_with (at_builtin; refine wpList_append_hr rfl _ _ 62 rfl _ _ rfl rfl hr ?_)
            go_roundw
            case rel => exact ⟨i + 1, j, a1, _, c1, _, by omega, by omega, rfl, by go_num, rfl, by rw [show i + 1 + j = i + j + 1 by omega], by rw [show i + 1 + j = i + j + 1 by omega]; exact ho4, hB4, HM2⟩
            case measure => simp [RowKit.intOf]; omega
        · have d2 : decide ((i : Int) < (p : Int)) = false := decide_eq_false (by omega)
          by_cases hj' : j < r
          · obtain ⟨gb, ob, rfl, hgb, hcb⟩ := hrB.cells j hj'
            have c2 := (hb.cell (p := ⟨gb, ob + j, none⟩) hgb).trans hcb
            have HM2 : Hid (MInv As Bs i (j + 1) (out ++ [Bs.getD j 0])) := HM.out.stepB HSA.out HSB.out (by omega) (fun h => by omega)
            have HAP := fun q => appendI_one (w := wr.drewN q) (B := w2.heap.size) (ho.below (below_drewN' (Below.refl _ _) q)) hsz (Bs.getD j 0) (by omega) 62
            have d1 : decide ((r : Int) ≤ (j : Int)) = false := decide_eq_false (by omega)
            have d4 : (j : Int) < (r : Int) := by omega
            clear HM hcb
            generalize Bs.getD j 0 = y at *
            go_wp2_with fail
            have e1 : decide ((r : Int) ≤ (j : Int)) = false := decide_eq_false (by omega)
            have e2 : decide ((i : Int) < (p : Int)) = false := decide_eq_false (by omega)
            have e3 : decide (r ≤ j) = false := decide_eq_false (by omega)
            have e4 : decide (i < p) = false := decide_eq_false (by omega)
            go_quiet (fail)
            obtain ⟨a1, c1, w4, hr, ho4, hb4⟩ := HAP nq
            have hB4 := (below_drewN' hb nq).trans hb4
            clear HAP
            go_wp2_with (at_builtin; refine wpList_append_hr rfl _ _ 62 rfl _ _ rfl rfl hr ?_)
            go_roundw
            case rel => exact ⟨i, j + 1, a1, _, c1, _, by omega, by omega, rfl, rfl, by go_num, rfl, ho4, hB4, HM2⟩
            case measure => simp [RowKit.intOf]; omega
          · have d4 : decide ((j : Int) < (r : Int)) = false := decide_eq_false (by omega)
            have hM := HM.out
            have hij : i + j = n := by omega
            have HF : Hid (out.Perm xs ∧ Asc out) := by
              refine ⟨?_, hM.asc⟩
              have := hM.perm
              rw [List.drop_eq_nil_of_le (by omega), List.drop_eq_nil_of_le (by omega), List.append_nil, List.append_nil] at this
              exact this.trans HP.out
            rw [hij] at ho
            clear hM HM
            go_wp2_with fail
            go_ret
            exact ⟨_, _, out, by rw [← hij]; rfl, ho.mono hB2.size, hB2.trans (hb.mono hB2.size), HF⟩
end Go.Proofs.Ytohfckcikincoac
