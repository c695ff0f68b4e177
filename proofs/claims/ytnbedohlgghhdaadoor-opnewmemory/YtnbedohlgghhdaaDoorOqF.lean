import Derived.Test.YtnbedohlgghhdaaDoorOqE
import Derived.Test.YtnbedohlgghhdaaDoorOpK
namespace Go.Proofs.YtnbedohlgghhdaaDoor
open Go.RowKit Go.Lib Sp
set_option maxRecDepth 100000

def int1 (x : Int) : List Value := [.int .i64 x]
theorem layI1 : Lay int1 1 := ⟨fun _ => rfl, by decide, fun x u hu => by simp [int1] at hu; subst hu; rfl⟩
def bool1 (b : Bool) : List Value := [.bool b]
theorem layB1 : Lay bool1 1 := ⟨fun _ => rfl, by decide, fun x u hu => by simp [bool1] at hu; subst hu; rfl⟩
theorem flat_bool (l : List Bool) : flatF bool1 l = l.map Value.bool := by
  induction l with
  | nil => rfl
  | cons b t ih => simp only [flatF, List.flatMap_cons, List.map_cons] at ih ⊢; rw [ih]; rfl
theorem ownB_set {w : World} {B g n cap : Nat} {l : List Bool} (h : OwnF bool1 1 4 w B (.slice (some ⟨g, 0, none⟩) n cap) l) (j : Nat) (z : Bool) :
    OwnF bool1 1 4 (w.setCell ⟨g, j, none⟩ (.bool z)) B (.slice (some ⟨g, 0, none⟩) n cap) (l.set j z) := by
  have hlen := (h.rw_ layB1).len
  have h' : w.ownsRow B 4 1 (.slice (some ⟨g, 0, none⟩) n cap) n (l.map Value.bool) := by
    unfold OwnF at h
    rw [hlen, flat_bool] at h
    exact h
  have := (World.ownsRow.stored h' j (.bool z)).1
  unfold OwnF
  rw [List.length_set, hlen, flat_bool, List.map_set]
  exact this
theorem boolInfo : (Tryd.prog.info? 4).map (fun i => (i.zero, i.size, i.bytes)) = some (some (.bool false), 1, 1) := by kernel_rfl
theorem makeB (w : World) (n : Nat) (hn : n ≤ 4194304) : ∃ w', (Instr.makeSlice 62 (.int .i64 (n : Int)) (.int .i64 (n : Int))).run Tryd.prog w = .ok (.slice (some ⟨w.heap.size, 0, none⟩) n n) w' ∧ OwnF bool1 1 4 w' w.heap.size (.slice (some ⟨w.heap.size, 0, none⟩) n n) (List.replicate n false) ∧ Below w.heap.size w w' ∧ w.heap.size < w'.heap.size := by
  obtain ⟨i, hi, hz, hsz, hby⟩ := info_parts boolInfo
  have hr := run_make (P := Tryd.prog) w 62 4 i _ Tryd.underlying62 hi hz .i64 .i64 (n : Int) (n : Int) (by omega) (by omega) (by rw [hby]; omega) (by omega)
  simp only [hsz, Int.toNat_natCast, Nat.mul_one] at hr
  refine ⟨_, hr, ?_, (Below.refl _ _).alloc (Nat.le_refl _) _, by simp⟩
  unfold OwnF
  rw [flat_bool]
  refine ⟨by simp, .inr ⟨w.heap.size, n, _, by rw [List.length_replicate], Nat.le_refl _, heap_alloc_new w _, by simp, by simp only [maxLen]; omega, by simp [madeCells], ?_⟩⟩
  apply List.ext_getElem?
  intro k
  by_cases hk : k < n
  · simp [madeCells, hk, Value.cells, Nat.mod_one]
  · simp [madeCells, hk]

theorem flatR_set (l : List (Int × Int)) (x y z : Int) : (flatF rangeV (l ++ [(x, y)])).set (l.length * 2 + 1) (.int .i64 z) = flatF rangeV (l ++ [(x, z)]) := by
  rw [flatF_append, flatF_append, List.set_append_right _ _ (by rw [flatF_length layG]; omega)]
  rw [flatF_length layG, show l.length * 2 + 1 - l.length * 2 = 1 by omega]
  rfl
theorem ownR_last {w : World} {B g cap : Nat} {l : List (Int × Int)} {x y : Int} (h : OwnF rangeV 2 60 w B (.slice (some ⟨g, 0, none⟩) (l.length + 1) cap) (l ++ [(x, y)])) (z : Int) :
    OwnF rangeV 2 60 (w.setCell ⟨g, l.length * 2 + 1, none⟩ (.int .i64 z)) B (.slice (some ⟨g, 0, none⟩) (l.length + 1) cap) (l ++ [(x, z)]) := by
  have e : ∀ t : Int, (l ++ [(x, t)]).length = l.length + 1 := fun t => by simp
  unfold OwnF at h ⊢
  rw [e] at h ⊢
  have := (World.ownsRow.stored h (l.length * 2 + 1) (.int .i64 z)).1
  rw [flatR_set] at this
  exact this
/-- What the lists that chosen makes keep to. -/
structure Chn (B : List Bool) (i : Nat) (acc : List (Int × Int)) : Prop where
  norm : Sp.Norm (-1) acc
  top : ∀ r ∈ acc, r.2 ≤ (i : Int)
  some_ : (∃ k : Nat, k < i ∧ B[k]? = some true) → acc ≠ []
theorem Chn.skip {B : List Bool} {i : Nat} {acc : List (Int × Int)} (h : Chn B i acc) (hb : B[i]? = some false) : Chn B (i + 1) acc :=
  ⟨h.norm, fun r hr => by have := h.top r hr; omega, fun ⟨k, hk, hk2⟩ => h.some_ ⟨k, by
    by_cases e : k = i
    · subst e; rw [hb] at hk2; cases hk2
    · omega, hk2⟩⟩
theorem Chn.ext {B : List Bool} {i : Nat} {l : List (Int × Int)} {x : Int} (h : Chn B i (l ++ [(x, (i : Int))])) : Chn B (i + 1) (l ++ [(x, (i : Int) + 1)]) := by
  have h1 := Sp.norm_snoc.1 h.norm
  simp only at h1
  refine ⟨Sp.norm_snoc.2 ⟨h1.1, by simp only; omega, h1.2.2.1, h1.2.2.2⟩, fun r hr => ?_, fun _ => by simp⟩
  rcases List.mem_append.1 hr with hr | hr
  · have := h.top r (List.mem_append_left _ hr); omega
  · simp only [List.mem_singleton] at hr; subst hr; simp only; omega
theorem Chn.add {B : List Bool} {i : Nat} {acc : List (Int × Int)} (h : Chn B i acc) (hl : ∀ x, acc.getLast? = some x → x.2 ≠ (i : Int)) : Chn B (i + 1) (acc ++ [((i : Int), (i : Int) + 1)]) := by
  refine ⟨Sp.norm_snoc.2 ⟨h.norm, by simp only; omega, by simp only; omega, fun x hx => ?_⟩, fun r hr => ?_, fun _ => by simp⟩
  · have h1 := h.top x (List.mem_of_getLast? hx)
    have h2 := hl x hx
    simp only; omega
  · rcases List.mem_append.1 hr with hr | hr
    · have := h.top r hr; omega
    · simp only [List.mem_singleton] at hr; subst hr; simp only; omega

set_option maxHeartbeats 2000000 in
theorem chosenP_any {w : World} {a : Option Addr} {n cap : Nat} {zs : List Int} (h : Rw int1 1 w a n cap zs) {t : Nat} (ht0 : 0 < t) (ht : t ≤ 100000) :
    Calls Tryd.prog 14 #[.slice a n cap, .int .i64 (t : Int)] w fun e w' => ∃ v l, e = .returned v ∧ OwnF rangeV 2 60 w' w.heap.size v l ∧ Sp.Norm (-1) l ∧ (∀ r ∈ l, r.2 ≤ (t : Int)) ∧ (0 < n → l ≠ []) ∧ l.length ≤ t ∧ Below w.heap.size w w' := by
  have hlen := h.len
  have hroom := h.room
  have hn : n ≤ 9223372036854775807 := by simp only [maxLen] at hroom; omega
  obtain ⟨w1, hmk, hown, hB1, hlt1⟩ := makeB w t (by omega)
  have HP : Hid (∀ (x : Int) (w : World), Calls Tryd.prog 12 #[.int .i64 x, .int .i64 (t : Int)] w fun e w' => e = .returned (.int .i64 (x % (t : Int))) ∧ w' = w) := fun x w => pick_any x t (by omega) (by omega) w
  go_enter Tryd.func14, Tryd.ntmps14
  go_wp2_with fail
  go_loopw [6] (fun vi W => ∃ (j : Nat) (B : List Bool), vi = .int .i64 j ∧ j ≤ n ∧ j ≤ 40 ∧ OwnF bool1 1 4 W w.heap.size (.slice (some ⟨w.heap.size, 0, none⟩) t t) B ∧ B.length = t ∧ Hid (0 < j → ∃ i : Nat, B[i]? = some true) ∧ Below w.heap.size w W ∧ w.heap.size < W.heap.size) (fun vi _ => n - (RowKit.intOf vi).toNat)
  case atStart => exact ⟨0, _, rfl, Nat.zero_le _, by omega, hown, by simp, (fun h => absurd h (Nat.lt_irrefl _)), hB1, hlt1⟩
  case round =>
    obtain ⟨j, B, rfl, hjn, hj40, ho, hBl, HT, hB, hlt⟩ := hrel
    by_cases hj : j < n ∧ j < 40
    · obtain ⟨hj1, hj2⟩ := hj
      have b1 : (j : Int) < (n : Int) := by omega
      have b2 : (j : Int) < 40 := by omega
      obtain ⟨g, off, x, rfl, hg, hx, hc⟩ := h.at j hj1
      have c0 := (hB.cell (p := ⟨g, off + j * 1 + 0, none⟩) hg).trans (hc 0 _ rfl)
      simp only [Nat.add_zero, Nat.mul_one] at c0
      clear hc hx
      have p0 := Int.emod_nonneg x (show (t : Int) ≠ 0 by omega)
      have p1 := Int.emod_lt_of_pos x (show (0 : Int) < (t : Int) by omega)
      have HP2 : Hid (∀ (w : World), Calls Tryd.prog 12 #[.int .i64 x, .int .i64 (t : Int)] w fun e w' => e = .returned (.int .i64 (x % (t : Int))) ∧ w' = w) := HP.out x
      generalize x % (t : Int) = y at *
      obtain ⟨i, rfl⟩ := Int.eq_ofNat_of_zero_le p0
      have hi : i < t := by omega
      obtain ⟨g2, off2, b, e2, hg2, hb2, hc2⟩ := (ho.rw_ layB1).at i hi
      simp only [Option.some.injEq, Addr.mk.injEq, and_true] at e2
      obtain ⟨rfl, rfl⟩ := e2
      have c1 := hc2 0 _ rfl
      simp only [Nat.add_zero, Nat.mul_one, Nat.zero_add] at c1
      clear hc2 hb2
      go_wp2_with fail
      refine (HP2.out _).mono ?_
      rintro e w2 ⟨rfl, rfl⟩
      have hfz : w2.frozen? ⟨w.heap.size, i, none⟩ = false := by
        rcases ho.2 with ⟨e, _⟩ | ⟨g', cap', cur, e, _, hh, _⟩
        · cases e
        · simp only [Value.slice.injEq, Option.some.injEq, Addr.mk.injEq] at e
          obtain ⟨⟨rfl, _⟩, _⟩ := e
          exact Lib.frozen_of_heap hh i
      go_wp2_with fail
      refine ⟨⟨j + 1, B.set i true, by go_num, by omega, by omega, ownB_set ho i true, by rw [List.length_set]; exact hBl, (fun _ => ⟨i, by rw [List.getElem?_set]; simp; omega⟩), hB.setCell (p := ⟨w.heap.size, i, none⟩) (Nat.le_refl _) _, by simpa [World.setCell] using hlt⟩, ?_⟩
      simp [RowKit.intOf]; omega
    · have HM : Hid (0 < n → ∃ i : Nat, i < t ∧ B[i]? = some true) := fun h0 => by
        obtain ⟨i, hi⟩ := HT.out (by omega)
        exact ⟨i, by rw [← hBl]; exact (List.getElem?_eq_some_iff.1 hi).1, hi⟩
      obtain ⟨w2, rfl⟩ : ∃ x, x = wr := ⟨_, rfl⟩
      have HB : Hid (∀ (i : Nat), i < t → ∃ b, B[i]? = some b ∧ ∀ W, Below w2.heap.size w2 W → W.cell? ⟨w.heap.size, i, none⟩ = some (.bool b)) := fun i hi => by
        obtain ⟨g2, off2, b, e2, hg2, hb2, hc2⟩ := (ho.rw_ layB1).at i hi
        simp only [Option.some.injEq, Addr.mk.injEq, and_true] at e2
        obtain ⟨rfl, rfl⟩ := e2
        have c1 := hc2 0 _ rfl
        simp only [Nat.add_zero, Nat.mul_one, Nat.zero_add] at c1
        exact ⟨b, hb2, fun W hW => (hW.cell (p := ⟨w.heap.size, i, none⟩) hg2).trans c1⟩
      have hex : (j < n → ¬ j < 40) := fun h1 h2 => hj ⟨h1, h2⟩
      clear ho HT hj hown hB1 hlt1 hmk HP h
      by_cases hjn2 : j < n
      · have b1 : (j : Int) < (n : Int) := by omega
        have b2 : ¬ (j : Int) < 40 := by have := hex hjn2; omega
        go_wp2_with fail
        go_loopw [7, 8, 9] (fun v vi _ W => ∃ (i : Nat) (acc : List (Int × Int)), vi = .int .i64 i ∧ i ≤ t ∧ OwnF rangeV 2 60 W w2.heap.size v acc ∧ Below w2.heap.size w2 W ∧ acc.length ≤ i ∧ Hid (Chn B i acc)) (fun _ vi _ _ => t - (RowKit.intOf vi).toNat)
        case atStart => exact ⟨0, [], rfl, Nat.zero_le _, ownF_nil _ _, Below.refl _ _, Nat.le_refl _, ⟨trivial, (fun r hr => by cases hr), (fun ⟨k, hk, _⟩ => absurd hk (Nat.not_lt_zero _))⟩⟩
        case round =>
          obtain ⟨i, acc, rfl, hit, ho, hBw, hal, HC⟩ := hrel
          by_cases hi : i < t
          · have hi2 : (i : Int) < (t : Int) := by omega
            obtain ⟨b, hbi, hbc⟩ := HB.out i hi
            have c1 := hbc _ hBw
            clear hbc
            cases b with
            | false =>
              have HC2 : Hid (Chn B (i + 1) acc) := HC.out.skip hbi
              clear HC hbi
              go_wp2_with fail
              go_roundw
              case rel => exact ⟨i + 1, acc, by go_num, by omega, ho, hBw, by omega, HC2⟩
              case measure => simp [RowKit.intOf]; omega
            | true =>
              rcases List.eq_nil_or_concat acc with rfl | ⟨l, z, hl⟩
              · have HC2 : Hid (Chn B (i + 1) ([] ++ [((i : Int), (i : Int) + 1)])) := HC.out.add (fun x hx => by simp at hx)
                clear HC hbi
                obtain ⟨ao, co, rfl⟩ := ho.shape
                obtain ⟨g5, cap5, w6, hr, ho6, hb6, _, _⟩ := appendF_one kindG layG ho hBw.size ((i : Int), (i : Int) + 1) #[.int .i64 (i : Int), .int .i64 ((i : Int) + 1)] rfl 60 (by simp) (by simp) 36
                have hb7 := hBw.trans hb6
                clear hb6 ho hBw
                simp only [List.length_nil] at hr ho6
                go_wp2_with (at_builtin; refine wpList_append_hr rfl _ _ 36 rfl _ _ rfl rfl hr ?_)
                go_roundw
                case rel => exact ⟨i + 1, _, by go_num, by omega, ho6, hb7, by simp, HC2⟩
                case measure => simp [RowKit.intOf]; omega
              · rw [List.concat_eq_append] at hl
                subst hl
                obtain ⟨x, y⟩ := z
                have hlast : (l ++ [(x, y)])[l.length]? = some (x, y) := by simp
                have hlen2 : (l ++ [(x, y)]).length = l.length + 1 := by simp
                obtain ⟨ao, co, rfl⟩ := ho.shape
                rw [hlen2] at ho hal ⊢
                have hcell : ∃ g, ao = some ⟨g, 0, none⟩ ∧ w2.heap.size ≤ g ∧ wr.frozen? ⟨g, l.length * 2 + 1, none⟩ = false := by
                  rcases ho.2 with ⟨e, _⟩ | ⟨g', cap', cur, e, h1, hh, _⟩
                  · simp at e
                  · simp only [Value.slice.injEq] at e
                    exact ⟨g', e.1, h1, Lib.frozen_of_heap hh _⟩
                obtain ⟨g, rfl, hgB, hfz⟩ := hcell
                obtain ⟨go, offo, y', e2, hgo, hy', hco⟩ := (ho.rw_ layG).at l.length (by simp)
                rw [hlast] at hy'
                cases hy'
                simp only [Option.some.injEq, Addr.mk.injEq, and_true] at e2
                obtain ⟨rfl, rfl⟩ := e2
                have c2 := hco 1 _ rfl
                simp only [Nat.zero_add] at c2
                clear hco hlast hgo
                by_cases hy : y = (i : Int)
                · subst hy
                  have HC2 : Hid (Chn B (i + 1) (l ++ [(x, (i : Int) + 1)])) := HC.out.ext
                  have ho6 := ownR_last ho ((i : Int) + 1)
                  have hb7 := hBw.setCell (p := ⟨g, l.length * 2 + 1, none⟩) hgB (.int .i64 ((i : Int) + 1))
                  clear HC hbi ho hBw
                  go_wp2_with fail
                  refine ⟨⟨i + 1, _, by go_num, by omega, ho6, hb7, by simp; omega, HC2⟩, ?_⟩
                  simp [RowKit.intOf]; omega
                · have HC2 : Hid (Chn B (i + 1) ((l ++ [(x, y)]) ++ [((i : Int), (i : Int) + 1)])) := HC.out.add (fun x' hx => by simp at hx; subst hx; exact hy)
                  have t1 : (y == (i : Int)) = false := beq_eq_false_iff_ne.2 hy
                  have t2 : decide (y = (i : Int)) = false := decide_eq_false hy
                  clear HC hbi
                  have ho' : OwnF rangeV 2 60 wr w2.heap.size (.slice (some ⟨g, 0, none⟩) (l.length + 1) co) (l ++ [(x, y)]) := ho
                  obtain ⟨g5, cap5, w6, hr, ho6, hb6, _, _⟩ := appendF_one kindG layG ho' hBw.size ((i : Int), (i : Int) + 1) #[.int .i64 (i : Int), .int .i64 ((i : Int) + 1)] rfl 60 (by simp; omega) (by simp; omega) 36
                  have hb7 := hBw.trans hb6
                  clear hb6 ho hBw ho'
                  rw [hlen2] at hr ho6
                  go_wp2_with (at_builtin; refine wpList_append_hr rfl _ _ 36 rfl _ _ rfl rfl hr ?_)
                  go_roundw
                  case rel => exact ⟨i + 1, _, by go_num, by omega, ho6, hb7, by simp; omega, HC2⟩
                  case measure => simp [RowKit.intOf]; omega
          · have hit2 : i = t := by omega
            subst hit2
            have HF : Hid (Sp.Norm (-1) acc ∧ (∀ r ∈ acc, r.2 ≤ (i : Int)) ∧ (0 < n → acc ≠ [])) := ⟨HC.out.norm, HC.out.top, fun h0 => HC.out.some_ (HM.out h0)⟩
            have hi2 : ¬ (i : Int) < (i : Int) := by omega
            have hBf := hB.trans (hBw.mono hB.size)
            have hof := ho.mono hB.size
            obtain ⟨ao, co, rfl⟩ := ho.shape
            clear HC HM HB ho hBw
            go_wp2_with fail
            go_ret
            first | exact ⟨_, acc, rfl, hof, HF.out.1, HF.out.2.1, HF.out.2.2, hal, hBf⟩ | exact ⟨_, rfl, acc, hof, HF.out.1, (fun a b h => HF.out.2.1 (a, b) h), HF.out.2.2, hal, hBf⟩ | exact ⟨_, acc, rfl, hof, HF.out.1, (fun a b h => HF.out.2.1 (a, b) h), HF.out.2.2, hal, hBf⟩
      · have b1 : ¬ (j : Int) < (n : Int) := by omega
        go_wp2_with fail
        go_loopw [7, 8, 9] (fun v vi _ W => ∃ (i : Nat) (acc : List (Int × Int)), vi = .int .i64 i ∧ i ≤ t ∧ OwnF rangeV 2 60 W w2.heap.size v acc ∧ Below w2.heap.size w2 W ∧ acc.length ≤ i ∧ Hid (Chn B i acc)) (fun _ vi _ _ => t - (RowKit.intOf vi).toNat)
        case atStart => exact ⟨0, [], rfl, Nat.zero_le _, ownF_nil _ _, Below.refl _ _, Nat.le_refl _, ⟨trivial, (fun r hr => by cases hr), (fun ⟨k, hk, _⟩ => absurd hk (Nat.not_lt_zero _))⟩⟩
        case round =>
          obtain ⟨i, acc, rfl, hit, ho, hBw, hal, HC⟩ := hrel
          by_cases hi : i < t
          · have hi2 : (i : Int) < (t : Int) := by omega
            obtain ⟨b, hbi, hbc⟩ := HB.out i hi
            have c1 := hbc _ hBw
            clear hbc
            cases b with
            | false =>
              have HC2 : Hid (Chn B (i + 1) acc) := HC.out.skip hbi
              clear HC hbi
              go_wp2_with fail
              go_roundw
              case rel => exact ⟨i + 1, acc, by go_num, by omega, ho, hBw, by omega, HC2⟩
              case measure => simp [RowKit.intOf]; omega
            | true =>
              rcases List.eq_nil_or_concat acc with rfl | ⟨l, z, hl⟩
              · have HC2 : Hid (Chn B (i + 1) ([] ++ [((i : Int), (i : Int) + 1)])) := HC.out.add (fun x hx => by simp at hx)
                clear HC hbi
                obtain ⟨ao, co, rfl⟩ := ho.shape
                obtain ⟨g5, cap5, w6, hr, ho6, hb6, _, _⟩ := appendF_one kindG layG ho hBw.size ((i : Int), (i : Int) + 1) #[.int .i64 (i : Int), .int .i64 ((i : Int) + 1)] rfl 60 (by simp) (by simp) 36
                have hb7 := hBw.trans hb6
                clear hb6 ho hBw
                simp only [List.length_nil] at hr ho6
                go_wp2_with (at_builtin; refine wpList_append_hr rfl _ _ 36 rfl _ _ rfl rfl hr ?_)
                go_roundw
                case rel => exact ⟨i + 1, _, by go_num, by omega, ho6, hb7, by simp, HC2⟩
                case measure => simp [RowKit.intOf]; omega
              · rw [List.concat_eq_append] at hl
                subst hl
                obtain ⟨x, y⟩ := z
                have hlast : (l ++ [(x, y)])[l.length]? = some (x, y) := by simp
                have hlen2 : (l ++ [(x, y)]).length = l.length + 1 := by simp
                obtain ⟨ao, co, rfl⟩ := ho.shape
                rw [hlen2] at ho hal ⊢
                have hcell : ∃ g, ao = some ⟨g, 0, none⟩ ∧ w2.heap.size ≤ g ∧ wr.frozen? ⟨g, l.length * 2 + 1, none⟩ = false := by
                  rcases ho.2 with ⟨e, _⟩ | ⟨g', cap', cur, e, h1, hh, _⟩
                  · simp at e
                  · simp only [Value.slice.injEq] at e
                    exact ⟨g', e.1, h1, Lib.frozen_of_heap hh _⟩
                obtain ⟨g, rfl, hgB, hfz⟩ := hcell
                obtain ⟨go, offo, y', e2, hgo, hy', hco⟩ := (ho.rw_ layG).at l.length (by simp)
                rw [hlast] at hy'
                cases hy'
                simp only [Option.some.injEq, Addr.mk.injEq, and_true] at e2
                obtain ⟨rfl, rfl⟩ := e2
                have c2 := hco 1 _ rfl
                simp only [Nat.zero_add] at c2
                clear hco hlast hgo
                by_cases hy : y = (i : Int)
                · subst hy
                  have HC2 : Hid (Chn B (i + 1) (l ++ [(x, (i : Int) + 1)])) := HC.out.ext
                  have ho6 := ownR_last ho ((i : Int) + 1)
                  have hb7 := hBw.setCell (p := ⟨g, l.length * 2 + 1, none⟩) hgB (.int .i64 ((i : Int) + 1))
                  clear HC hbi ho hBw
                  go_wp2_with fail
                  refine ⟨⟨i + 1, _, by go_num, by omega, ho6, hb7, by simp; omega, HC2⟩, ?_⟩
                  simp [RowKit.intOf]; omega
                · have HC2 : Hid (Chn B (i + 1) ((l ++ [(x, y)]) ++ [((i : Int), (i : Int) + 1)])) := HC.out.add (fun x' hx => by simp at hx; subst hx; exact hy)
                  have t1 : (y == (i : Int)) = false := beq_eq_false_iff_ne.2 hy
                  have t2 : decide (y = (i : Int)) = false := decide_eq_false hy
                  clear HC hbi
                  have ho' : OwnF rangeV 2 60 wr w2.heap.size (.slice (some ⟨g, 0, none⟩) (l.length + 1) co) (l ++ [(x, y)]) := ho
                  obtain ⟨g5, cap5, w6, hr, ho6, hb6, _, _⟩ := appendF_one kindG layG ho' hBw.size ((i : Int), (i : Int) + 1) #[.int .i64 (i : Int), .int .i64 ((i : Int) + 1)] rfl 60 (by simp; omega) (by simp; omega) 36
                  have hb7 := hBw.trans hb6
                  clear hb6 ho hBw ho'
                  rw [hlen2] at hr ho6
                  go_wp2_with (at_builtin; refine wpList_append_hr rfl _ _ 36 rfl _ _ rfl rfl hr ?_)
                  go_roundw
                  case rel => exact ⟨i + 1, _, by go_num, by omega, ho6, hb7, by simp; omega, HC2⟩
                  case measure => simp [RowKit.intOf]; omega
          · have hit2 : i = t := by omega
            subst hit2
            have HF : Hid (Sp.Norm (-1) acc ∧ (∀ r ∈ acc, r.2 ≤ (i : Int)) ∧ (0 < n → acc ≠ [])) := ⟨HC.out.norm, HC.out.top, fun h0 => HC.out.some_ (HM.out h0)⟩
            have hi2 : ¬ (i : Int) < (i : Int) := by omega
            have hBf := hB.trans (hBw.mono hB.size)
            have hof := ho.mono hB.size
            obtain ⟨ao, co, rfl⟩ := ho.shape
            clear HC HM HB ho hBw
            go_wp2_with fail
            go_ret
            first | exact ⟨_, acc, rfl, hof, HF.out.1, HF.out.2.1, HF.out.2.2, hal, hBf⟩ | exact ⟨_, rfl, acc, hof, HF.out.1, (fun a b h => HF.out.2.1 (a, b) h), HF.out.2.2, hal, hBf⟩ | exact ⟨_, acc, rfl, hof, HF.out.1, (fun a b h => HF.out.2.1 (a, b) h), HF.out.2.2, hal, hBf⟩
end Go.Proofs.YtnbedohlgghhdaaDoor
