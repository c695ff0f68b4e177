import Derived.Test.YtggdocnnbgcniaaGreatDoorQaAC
import Derived.Test.YtggdocnnbgcniaaGreatDoorOpXZ
import Derived.Test.YtggdocnnbgcniaaGreatDoorOqAD
namespace Go.Proofs.YtggdocnnbgcniaaGreatDoor
open Go.RowKit Go.Lib Sp
set_option maxRecDepth 100000
def int1 (x : Int) : List Value := [.int .i64 x]
theorem layI1 : Lay int1 1 := ⟨fun _ => rfl, by decide, fun x u hu => by simp [int1] at hu; subst hu; rfl⟩
def bool1 (b : Bool) : List Value := [.bool b]
theorem layB1 : Lay bool1 1 := ⟨fun _ => rfl, by decide, fun x u hu => by simp [bool1] at hu; subst hu; rfl⟩
theorem flat_bool (l : List Bool) : flatF bool1 l = l.map Value.bool := by
  induction l with
  | nil => rfl
  | cons b t ih => simp only [flatF, List.flatMap_cons, List.map_cons] at ih ⊢; rw [ih]; rfl
theorem ownB_set {w : World} {B g n cap : Nat} {l : List Bool} (h : OwnF bool1 1 4 w B (.slice (some ⟨g, 0, none⟩) n cap) l) (j : Nat) (z : Bool) :
    OwnF bool1 1 4 (w.setCell ⟨g, j, none⟩ (.bool z)) B (.slice (some ⟨g, 0, none⟩) n cap) (l.set j z) := by
  have hlen := (h.rw_ layB1).len
  have h' : w.ownsRow B 4 1 (.slice (some ⟨g, 0, none⟩) n cap) n (l.map Value.bool) := by
    unfold OwnF at h
    rw [hlen, flat_bool] at h
    exact h
  have := (World.ownsRow.stored h' j (.bool z)).1
  unfold OwnF
  rw [List.length_set, hlen, flat_bool, List.map_set]
  exact this
theorem boolInfo : (Tryz.prog.info? 4).map (fun i => (i.zero, i.size, i.bytes)) = some (some (.bool false), 1, 1) := by kernel_rfl
theorem makeB (w : World) (n : Nat) (hn : n ≤ 4194304) : ∃ w', (Instr.makeSlice 110 (.int .i64 (n : Int)) (.int .i64 (n : Int))).run Tryz.prog w = .ok (.slice (some ⟨w.heap.size, 0, none⟩) n n) w' ∧ OwnF bool1 1 4 w' w.heap.size (.slice (some ⟨w.heap.size, 0, none⟩) n n) (List.replicate n false) ∧ Below w.heap.size w w' ∧ w.heap.size < w'.heap.size := by
  obtain ⟨i, hi, hz, hsz, hby⟩ := info_parts boolInfo
  have hr := run_make (P := Tryz.prog) w 110 4 i _ Tryz.underlying110 hi hz .i64 .i64 (n : Int) (n : Int) (by omega) (by omega) (by rw [hby]; omega) (by omega)
  simp only [hsz, Int.toNat_natCast, Nat.mul_one] at hr
  refine ⟨_, hr, ?_, (Below.refl _ _).alloc (Nat.le_refl _) _, by simp⟩
  unfold OwnF
  rw [flat_bool]
  refine ⟨by simp, .inr ⟨w.heap.size, n, _, by rw [List.length_replicate], Nat.le_refl _, heap_alloc_new w _, by simp, by simp only [maxLen]; omega, by simp [madeCells], ?_⟩⟩
  apply List.ext_getElem?
  intro k
  by_cases hk : k < n
  · simp [madeCells, hk, Value.cells, Nat.mod_one]
  · simp [madeCells, hk]
theorem flatR_set (l : List (Int × Int)) (x y z : Int) : (flatF rngV (l ++ [(x, y)])).set (l.length * 2 + 1) (.int .i64 z) = flatF rngV (l ++ [(x, z)]) := by
  rw [flatF_append, flatF_append, List.set_append_right _ _ (by rw [flatF_length layRo]; omega)]
  rw [flatF_length layRo, show l.length * 2 + 1 - l.length * 2 = 1 by omega]
  rfl
theorem ownR_last {w : World} {B g cap : Nat} {l : List (Int × Int)} {x y : Int} (h : OwnF rngV 2 105 w B (.slice (some ⟨g, 0, none⟩) (l.length + 1) cap) (l ++ [(x, y)])) (z : Int) :
    OwnF rngV 2 105 (w.setCell ⟨g, l.length * 2 + 1, none⟩ (.int .i64 z)) B (.slice (some ⟨g, 0, none⟩) (l.length + 1) cap) (l ++ [(x, z)]) := by
  have e : ∀ t : Int, (l ++ [(x, t)]).length = l.length + 1 := fun t => by simp
  unfold OwnF at h ⊢
  rw [e] at h ⊢
  have := (World.ownsRow.stored h (l.length * 2 + 1) (.int .i64 z)).1
  rw [flatR_set] at this
  exact this
structure Chn (B : List Bool) (i : Nat) (acc : List (Int × Int)) : Prop where
  norm : Sp.Norm (-1) acc
  top : ∀ r ∈ acc, r.2 ≤ (i : Int)
  some_ : (∃ k : Nat, k < i ∧ B[k]? = some true) → acc ≠ []
theorem Chn.skip {B : List Bool} {i : Nat} {acc : List (Int × Int)} (h : Chn B i acc) (hb : B[i]? = some false) : Chn B (i + 1) acc :=
  ⟨h.norm, fun r hr => by have := h.top r hr; omega, fun ⟨k, hk, hk2⟩ => h.some_ ⟨k, by
    by_cases e : k = i
    · subst e; rw [hb] at hk2; cases hk2
    · omega, hk2⟩⟩
theorem Chn.ext {B : List Bool} {i : Nat} {l : List (Int × Int)} {x : Int} (h : Chn B i (l ++ [(x, (i : Int))])) : Chn B (i + 1) (l ++ [(x, (i : Int) + 1)]) := by
  have h1 := Sp.norm_snoc.1 h.norm
  simp only at h1
  refine ⟨Sp.norm_snoc.2 ⟨h1.1, by simp only; omega, h1.2.2.1, h1.2.2.2⟩, fun r hr => ?_, fun _ => by simp⟩
  rcases List.mem_append.1 hr with hr | hr
  · have := h.top r (List.mem_append_left _ hr); omega
  · simp only [List.mem_singleton] at hr; subst hr; simp only; omega
theorem Chn.add {B : List Bool} {i : Nat} {acc : List (Int × Int)} (h : Chn B i acc) (hl : ∀ x, acc.getLast? = some x → x.2 ≠ (i : Int)) : Chn B (i + 1) (acc ++ [((i : Int), (i : Int) + 1)]) := by
  refine ⟨Sp.norm_snoc.2 ⟨h.norm, by simp only; omega, by simp only; omega, fun x hx => ?_⟩, fun r hr => ?_, fun _ => by simp⟩
  · have h1 := h.top x (List.mem_of_getLast? hx)
    have h2 := hl x hx
    simp only; omega
  · rcases List.mem_append.1 hr with hr | hr
    · have := h.top r hr; omega
    · simp only [List.mem_singleton] at hr; subst hr; simp only; omega
set_option maxHeartbeats 2000000 in
theorem chosenP_any {w : World} {a : Option Addr} {n cap : Nat} {zs : List Int} (h : Rw int1 1 w a n cap zs) {t : Nat} (ht0 : 0 < t) (ht : t ≤ 100000) :
    Calls Tryz.prog 26 #[.slice a n cap, .int .i64 (t : Int)] w fun e w' => ∃ v l, e = .returned v ∧ OwnF rngV 2 105 w' w.heap.size v l ∧ Sp.Norm (-1) l ∧ (∀ r ∈ l, r.2 ≤ (t : Int)) ∧ (0 < n → l ≠ []) ∧ l.length ≤ t ∧ Below w.heap.size w w' := by
  have hlen := h.len
  have hroom := h.room
  have hn : n ≤ 9223372036854775807 := by simp only [maxLen] at hroom; omega
  obtain ⟨w1, hmk, hown, hB1, hlt1⟩ := makeB w t (by omega)
  have HP : Hid (∀ (x : Int) (w : World), Calls Tryz.prog 24 #[.int .i64 x, .int .i64 (t : Int)] w fun e w' => e = .returned (.int .i64 (x % (t : Int))) ∧ w' = w) := fun x w => pick_any x t (by omega) (by omega) w
  go_enter Tryz.func26, Tryz.ntmps26
  go_wp2_with fail
  go_loopw [6] (fun vi W => ∃ (j : Nat) (B : List Bool), vi = .int .i64 j ∧ j ≤ n ∧ j ≤ 40 ∧ OwnF bool1 1 4 W w.heap.size (.slice (some ⟨w.heap.size, 0, none⟩) t t) B ∧ B.length = t ∧ Hid (0 < j → ∃ i : Nat, B[i]? = some true) ∧ Below w.heap.size w W ∧ w.heap.size < W.heap.size) (fun vi _ => n - (RowKit.intOf vi).toNat)
  case atStart => exact ⟨0, _, rfl, Nat.zero_le _, by omega, hown, by simp, (fun h => absurd h (Nat.lt_irrefl _)), hB1, hlt1⟩
  case round =>
    obtain ⟨j, B, rfl, hjn, hj40, ho, hBl, HT, hB, hlt⟩ := hrel
    by_cases hj : j < n ∧ j < 40
    · obtain ⟨hj1, hj2⟩ := hj
      have b1 : (j : Int) < (n : Int) := by omega
      have b2 : (j : Int) < 40 := by omega
      obtain ⟨g, off, x, rfl, hg, hx, hc⟩ := h.at j hj1
      have c0 := (hB.cell (p := ⟨g, off + j * 1 + 0, none⟩) hg).trans (hc 0 _ rfl)
      simp only [Nat.add_zero, Nat.mul_one] at c0
      clear hc hx
      have p0 := Int.emod_nonneg x (show (t : Int) ≠ 0 by omega)
      have p1 := Int.emod_lt_of_pos x (show (0 : Int) < (t : Int) by omega)
      have HP2 : Hid (∀ (w : World), Calls Tryz.prog 24 #[.int .i64 x, .int .i64 (t : Int)] w fun e w' => e = .returned (.int .i64 (x % (t : Int))) ∧ w' = w) := HP.out x
      generalize x % (t : Int) = y at *
      obtain ⟨i, rfl⟩ := Int.eq_ofNat_of_zero_le p0
      have hi : i < t := by omega
      obtain ⟨g2, off2, b, e2, hg2, hb2, hc2⟩ := (ho.rw_ layB1).at i hi
      simp only [Option.some.injEq, Addr.mk.injEq, and_true] at e2
      obtain ⟨rfl, rfl⟩ := e2
      have c1 := hc2 0 _ rfl
      simp only [Nat.add_zero, Nat.mul_one, Nat.zero_add] at c1
      clear hc2 hb2
      go_wp2_with fail
      refine (HP2.out _).mono ?_
      rintro e w2 ⟨rfl, rfl⟩
      have hfz : w2.frozen? ⟨w.heap.size, i, none⟩ = false := by
        rcases ho.2 with ⟨e, _⟩ | ⟨g', cap', cur, e, _, hh, _⟩
        · cases e
        · simp only [Value.slice.injEq, Option.some.injEq, Addr.mk.injEq] at e
          obtain ⟨⟨rfl, _⟩, _⟩ := e
          exact Lib.frozen_of_heap hh i
      go_wp2_with fail
      refine ⟨⟨j + 1, B.set i true, by go_num, by omega, by omega, ownB_set ho i true, by rw [List.length_set]; exact hBl, (fun _ => ⟨i, by rw [List.getElem?_set]; simp; omega⟩), hB.setCell (p := ⟨w.heap.size, i, none⟩) (Nat.le_refl _) _, by simpa [World.setCell] using hlt⟩, ?_⟩
      simp [RowKit.intOf]; omega
    · have HM : Hid (0 < n → ∃ i : Nat, i < t ∧ B[i]? = some true) := fun h0 => by
        obtain ⟨i, hi⟩ := HT.out (by omega)
        exact ⟨i, by rw [← hBl]; exact (List.getElem?_eq_some_iff.1 hi).1, hi⟩
      obtain ⟨w2, rfl⟩ : ∃ x, x = wr := ⟨_, rfl⟩
      have HB : Hid (∀ (i : Nat), i < t → ∃ b, B[i]? = some b ∧ ∀ W, Below w2.heap.size w2 W → W.cell? ⟨w.heap.size, i, none⟩ = some (.bool b)) := fun i hi => by
        obtain ⟨g2, off2, b, e2, hg2, hb2, hc2⟩ := (ho.rw_ layB1).at i hi
        simp only [Option.some.injEq, Addr.mk.injEq, and_true] at e2
        obtain ⟨rfl, rfl⟩ := e2
        have c1 := hc2 0 _ rfl
        simp only [Nat.add_zero, Nat.mul_one, Nat.zero_add] at c1
        exact ⟨b, hb2, fun W hW => (hW.cell (p := ⟨w.heap.size, i, none⟩) hg2).trans c1⟩
      have hex : (j < n → ¬ j < 40) := fun h1 h2 => hj ⟨h1, h2⟩
      clear ho HT hj hown hB1 hlt1 hmk HP h
      by_cases hjn2 : j < n
      · have b1 : (j : Int) < (n : Int) := by omega
        have b2 : ¬ (j : Int) < 40 := by have := hex hjn2; omega
        go_wp2_with fail
        go_loopw [7, 8, 9] (fun v vi _ W => ∃ (i : Nat) (acc : List (Int × Int)), vi = .int .i64 i ∧ i ≤ t ∧ OwnF rngV 2 105 W w2.heap.size v acc ∧ Below w2.heap.size w2 W ∧ acc.length ≤ i ∧ Hid (Chn B i acc)) (fun _ vi _ _ => t - (RowKit.intOf vi).toNat)
        case atStart => exact ⟨0, [], rfl, Nat.zero_le _, ownF_nil _ _, Below.refl _ _, Nat.le_refl _, ⟨trivial, (fun r hr => by cases hr), (fun ⟨k, hk, _⟩ => absurd hk (Nat.not_lt_zero _))⟩⟩
        case round =>
          obtain ⟨i, acc, rfl, hit, ho, hBw, hal, HC⟩ := hrel
          by_cases hi : i < t
          · have hi2 : (i : Int) < (t : Int) := by omega
            obtain ⟨b, hbi, hbc⟩ := HB.out i hi
            have c1 := hbc _ hBw
            clear hbc
            cases b with
            | false =>
              have HC2 : Hid (Chn B (i + 1) acc) := HC.out.skip hbi
              clear HC hbi
              go_wp2_with fail
              go_roundw
              case rel => exact ⟨i + 1, acc, by go_num, by omega, ho, hBw, by omega, HC2⟩
              case measure => simp [RowKit.intOf]; omega
            | true =>
              rcases List.eq_nil_or_concat acc with rfl | ⟨l, z, hl⟩
              · have HC2 : Hid (Chn B (i + 1) ([] ++ [((i : Int), (i : Int) + 1)])) := HC.out.add (fun x hx => by simp at hx)
                clear HC hbi
                obtain ⟨ao, co, rfl⟩ := ho.shape
                obtain ⟨g5, cap5, w6, hr, ho6, hb6, _, _⟩ := appendF_one kindRo layRo ho hBw.size ((i : Int), (i : Int) + 1) #[.int .i64 (i : Int), .int .i64 ((i : Int) + 1)] rfl 105 (by simp) (by simp) 40
                have hb7 := hBw.trans hb6
                clear hb6 ho hBw
                simp only [List.length_nil] at hr ho6
                go_wp2_with (at_builtin; refine wpList_append_hr rfl _ _ 40 rfl _ _ rfl rfl hr ?_)
                go_roundw
                case rel => exact ⟨i + 1, _, by go_num, by omega, ho6, hb7, by simp, HC2⟩
                case measure => simp [RowKit.intOf]; omega
              · rw [List.concat_eq_append] at hl
                subst hl
                obtain ⟨x, y⟩ := z
                have hlast : (l ++ [(x, y)])[l.length]? = some (x, y) := by simp
                have hlen2 : (l ++ [(x, y)]).length = l.length + 1 := by simp
                obtain ⟨ao, co, rfl⟩ := ho.shape
                rw [hlen2] at ho hal ⊢
                have hcell : ∃ g, ao = some ⟨g, 0, none⟩ ∧ w2.heap.size ≤ g ∧ wr.frozen? ⟨g, l.length * 2 + 1, none⟩ = false := by
                  rcases ho.2 with ⟨e, _⟩ | ⟨g', cap', cur, e, h1, hh, _⟩
                  · simp at e
                  · simp only [Value.slice.injEq] at e
                    exact ⟨g', e.1, h1, Lib.frozen_of_heap hh _⟩
                obtain ⟨g, rfl, hgB, hfz⟩ := hcell
                obtain ⟨go, offo, y', e2, hgo, hy', hco⟩ := (ho.rw_ layRo).at l.length (by simp)
                rw [hlast] at hy'
                cases hy'
                simp only [Option.some.injEq, Addr.mk.injEq, and_true] at e2
                obtain ⟨rfl, rfl⟩ := e2
                have c2 := hco 1 _ rfl
                simp only [Nat.zero_add] at c2
                clear hco hlast hgo
                by_cases hy : y = (i : Int)
                · subst hy
                  have HC2 : Hid (Chn B (i + 1) (l ++ [(x, (i : Int) + 1)])) := HC.out.ext
                  have ho6 := ownR_last ho ((i : Int) + 1)
                  have hb7 := hBw.setCell (p := ⟨g, l.length * 2 + 1, none⟩) hgB (.int .i64 ((i : Int) + 1))
                  clear HC hbi ho hBw
                  go_wp2_with fail
                  refine ⟨⟨i + 1, _, by go_num, by omega, ho6, hb7, by simp; omega, HC2⟩, ?_⟩
                  simp [RowKit.intOf]; omega
                · have HC2 : Hid (Chn B (i + 1) ((l ++ [(x, y)]) ++ [((i : Int), (i : Int) + 1)])) := HC.out.add (fun x' hx => by simp at hx; subst hx; exact hy)
                  have t1 : (y == (i : Int)) = false := beq_eq_false_iff_ne.2 hy
                  have t2 : decide (y = (i : Int)) = false := decide_eq_false hy
                  clear HC hbi
                  have ho' : OwnF rngV 2 105 wr w2.heap.size (.slice (some ⟨g, 0, none⟩) (l.length + 1) co) (l ++ [(x, y)]) := ho
                  obtain ⟨g5, cap5, w6, hr, ho6, hb6, _, _⟩ := appendF_one kindRo layRo ho' hBw.size ((i : Int), (i : Int) + 1) #[.int .i64 (i : Int), .int .i64 ((i : Int) + 1)] rfl 105 (by simp; omega) (by simp; omega) 40
                  have hb7 := hBw.trans hb6
                  clear hb6 ho hBw ho'
                  rw [hlen2] at hr ho6
                  go_wp2_with (at_builtin; refine wpList_append_hr rfl _ _ 40 rfl _ _ rfl rfl hr ?_)
                  go_roundw
                  case rel => exact ⟨i + 1, _, by go_num, by omega, ho6, hb7, by simp; omega, HC2⟩
                  case measure => simp [RowKit.intOf]; omega
          · have hit2 : i = t := by omega
            subst hit2
            have HF : Hid (Sp.Norm (-1) acc ∧ (∀ r ∈ acc, r.2 ≤ (i : Int)) ∧ (0 < n → acc ≠ [])) := ⟨HC.out.norm, HC.out.top, fun h0 => HC.out.some_ (HM.out h0)⟩
            have hi2 : ¬ (i : Int) < (i : Int) := by omega
            have hBf := hB.trans (hBw.mono hB.size)
            have hof := ho.mono hB.size
            obtain ⟨ao, co, rfl⟩ := ho.shape
            clear HC HM HB ho hBw
            go_wp2_with fail
            go_ret
            first | exact ⟨_, acc, rfl, hof, HF.out.1, HF.out.2.1, HF.out.2.2, hal, hBf⟩ | exact ⟨_, rfl, acc, hof, HF.out.1, (fun a b h => HF.out.2.1 (a, b) h), HF.out.2.2, hal, hBf⟩ | exact ⟨_, acc, rfl, hof, HF.out.1, (fun a b h => HF.out.2.1 (a, b) h), HF.out.2.2, hal, hBf⟩
      · have b1 : ¬ (j : Int) < (n : Int) := by omega
        go_wp2_with fail
        go_loopw [7, 8, 9] (fun v vi _ W => ∃ (i : Nat) (acc : List (Int × Int)), vi = .int .i64 i ∧ i ≤ t ∧ OwnF rngV 2 105 W w2.heap.size v acc ∧ Below w2.heap.size w2 W ∧ acc.length ≤ i ∧ Hid (Chn B i acc)) (fun _ vi _ _ => t - (RowKit.intOf vi).toNat)
        case atStart => exact ⟨0, [], rfl, Nat.zero_le _, ownF_nil _ _, Below.refl _ _, Nat.le_refl _, ⟨trivial, (fun r hr => by cases hr), (fun ⟨k, hk, _⟩ => absurd hk (Nat.not_lt_zero _))⟩⟩
        case round =>
          obtain ⟨i, acc, rfl, hit, ho, hBw, hal, HC⟩ := hrel
          by_cases hi : i < t
          · have hi2 : (i : Int) < (t : Int) := by omega
            obtain ⟨b, hbi, hbc⟩ := HB.out i hi
            have c1 := hbc _ hBw
            clear hbc
            cases b with
            | false =>
              have HC2 : Hid (Chn B (i + 1) acc) := HC.out.skip hbi
              clear HC hbi
              go_wp2_with fail
              go_roundw
              case rel => exact ⟨i + 1, acc, by go_num, by omega, ho, hBw, by omega, HC2⟩
              case measure => simp [RowKit.intOf]; omega
            | true =>
              rcases List.eq_nil_or_concat acc with rfl | ⟨l, z, hl⟩
              · have HC2 : Hid (Chn B (i + 1) ([] ++ [((i : Int), (i : Int) + 1)])) := HC.out.add (fun x hx => by simp at hx)
                clear HC hbi
                obtain ⟨ao, co, rfl⟩ := ho.shape
                obtain ⟨g5, cap5, w6, hr, ho6, hb6, _, _⟩ := appendF_one kindRo layRo ho hBw.size ((i : Int), (i : Int) + 1) #[.int .i64 (i : Int), .int .i64 ((i : Int) + 1)] rfl 105 (by simp) (by simp) 40
                have hb7 := hBw.trans hb6
                clear hb6 ho hBw
                simp only [List.length_nil] at hr ho6
                go_wp2_with (at_builtin; refine wpList_append_hr rfl _ _ 40 rfl _ _ rfl rfl hr ?_)
                go_roundw
                case rel => exact ⟨i + 1, _, by go_num, by omega, ho6, hb7, by simp, HC2⟩
                case measure => simp [RowKit.intOf]; omega
              · rw [List.concat_eq_append] at hl
                subst hl
                obtain ⟨x, y⟩ := z
                have hlast : (l ++ [(x, y)])[l.length]? = some (x, y) := by simp
                have hlen2 : (l ++ [(x, y)]).length = l.length + 1 := by simp
                obtain ⟨ao, co, rfl⟩ := ho.shape
                rw [hlen2] at ho hal ⊢
                have hcell : ∃ g, ao = some ⟨g, 0, none⟩ ∧ w2.heap.size ≤ g ∧ wr.frozen? ⟨g, l.length * 2 + 1, none⟩ = false := by
                  rcases ho.2 with ⟨e, _⟩ | ⟨g', cap', cur, e, h1, hh, _⟩
                  · simp at e
                  · simp only [Value.slice.injEq] at e
                    exact ⟨g', e.1, h1, Lib.frozen_of_heap hh _⟩
                obtain ⟨g, rfl, hgB, hfz⟩ := hcell
                obtain ⟨go, offo, y', e2, hgo, hy', hco⟩ := (ho.rw_ layRo).at l.length (by simp)
                rw [hlast] at hy'
                cases hy'
                simp only [Option.some.injEq, Addr.mk.injEq, and_true] at e2
                obtain ⟨rfl, rfl⟩ := e2
                have c2 := hco 1 _ rfl
                simp only [Nat.zero_add] at c2
                clear hco hlast hgo
                by_cases hy : y = (i : Int)
                · subst hy
                  have HC2 : Hid (Chn B (i + 1) (l ++ [(x, (i : Int) + 1)])) := HC.out.ext
                  have ho6 := ownR_last ho ((i : Int) + 1)
                  have hb7 := hBw.setCell (p := ⟨g, l.length * 2 + 1, none⟩) hgB (.int .i64 ((i : Int) + 1))
                  clear HC hbi ho hBw
                  go_wp2_with fail
                  refine ⟨⟨i + 1, _, by go_num, by omega, ho6, hb7, by simp; omega, HC2⟩, ?_⟩
                  simp [RowKit.intOf]; omega
                · have HC2 : Hid (Chn B (i + 1) ((l ++ [(x, y)]) ++ [((i : Int), (i : Int) + 1)])) := HC.out.add (fun x' hx => by simp at hx; subst hx; exact hy)
                  have t1 : (y == (i : Int)) = false := beq_eq_false_iff_ne.2 hy
                  have t2 : decide (y = (i : Int)) = false := decide_eq_false hy
                  clear HC hbi
                  have ho' : OwnF rngV 2 105 wr w2.heap.size (.slice (some ⟨g, 0, none⟩) (l.length + 1) co) (l ++ [(x, y)]) := ho
                  obtain ⟨g5, cap5, w6, hr, ho6, hb6, _, _⟩ := appendF_one kindRo layRo ho' hBw.size ((i : Int), (i : Int) + 1) #[.int .i64 (i : Int), .int .i64 ((i : Int) + 1)] rfl 105 (by simp; omega) (by simp; omega) 40
                  have hb7 := hBw.trans hb6
                  clear hb6 ho hBw ho'
                  rw [hlen2] at hr ho6
                  go_wp2_with (at_builtin; refine wpList_append_hr rfl _ _ 40 rfl _ _ rfl rfl hr ?_)
                  go_roundw
                  case rel => exact ⟨i + 1, _, by go_num, by omega, ho6, hb7, by simp; omega, HC2⟩
                  case measure => simp [RowKit.intOf]; omega
          · have hit2 : i = t := by omega
            subst hit2
            have HF : Hid (Sp.Norm (-1) acc ∧ (∀ r ∈ acc, r.2 ≤ (i : Int)) ∧ (0 < n → acc ≠ [])) := ⟨HC.out.norm, HC.out.top, fun h0 => HC.out.some_ (HM.out h0)⟩
            have hi2 : ¬ (i : Int) < (i : Int) := by omega
            have hBf := hB.trans (hBw.mono hB.size)
            have hof := ho.mono hB.size
            obtain ⟨ao, co, rfl⟩ := ho.shape
            clear HC HM HB ho hBw
            go_wp2_with fail
            go_ret
            first | exact ⟨_, acc, rfl, hof, HF.out.1, HF.out.2.1, HF.out.2.2, hal, hBf⟩ | exact ⟨_, rfl, acc, hof, HF.out.1, (fun a b h => HF.out.2.1 (a, b) h), HF.out.2.2, hal, hBf⟩ | exact ⟨_, acc, rfl, hof, HF.out.1, (fun a b h => HF.out.2.1 (a, b) h), HF.out.2.2, hal, hBf⟩
end Go.Proofs.YtggdocnnbgcniaaGreatDoor

namespace Go.Proofs.YtggdocnnbgcniaaGreatDoor
open Go.RowKit Go.Lib Sp
set_option maxRecDepth 100000
theorem runesB_from (ns : List Int) : ∀ s : ByteArray, (ns.foldl (fun r n => r ++ Utf8.encode n) s).data.toList = s.data.toList ++ encs ns := by
  induction ns with
  | nil => intro s; simp [encs]
  | cons n ns ih =>
    intro s
    rw [List.foldl_cons, ih, encs_cons, ByteArray.data_append, Array.toList_append, List.append_assoc]
    rfl
theorem runesB_bs (ns : List Int) : runesBytes ns = bs (encs ns) := by
  rw [← bs_id (runesBytes ns)]
  congr 1
  have := runesB_from ns ByteArray.empty
  rw [runesBytes, this]
  rfl
theorem conv_own {W : World} {B : Nat} {a : Option Addr} {n cap : Nat} {rs : List Int} (h : OwnF rune1 1 21 W B (.slice a n cap) rs) (h0 : rs ≠ []) : (convert 44 9 (.slice a n cap)).run Tryz.prog W = .ok (.string (bs (encs rs))) W := by
  have hr := h.rw_ layU
  have hl := hr.len
  have hn : 0 < n := by rw [← hl]; exact List.length_pos_iff.2 h0
  obtain ⟨g, off, rfl, hg, hc⟩ := hr.cells hn
  have := run_convert_runes (P := Tryz.prog) W 44 9 21 ⟨g, off, none⟩ n cap rs (by omega) Tryz.underlying44 Tryz.underlying21 Tryz.underlying9 (fun j hj => by
    have hx : rs[j]? = some rs[j] := List.getElem?_eq_getElem (by omega)
    have := hc j _ hx 0 _ rfl
    rw [addr_add']
    simpa [List.getD_eq_getElem?_getD, hx] using this)
  rw [this, ← hl, List.take_length, runesB_bs]
theorem text_own {rs : List Int} (h : ∀ r ∈ rs, okL r) : IsText (bs (encs rs)) rs := ⟨bs_list _, fun r hr => okL_okR (h r hr)⟩
def deedV (dk dp : Int) (tv pv : Value) : Value := .agg #[.int .i64 dk, .int .i64 dp, tv, pv]
structure IsRight (o : OpV) (c : Int) (t : Nat) : Prop where
  own : ownP o = 0
  id : o.c = c ∧ o.n = 1
  size : o.s.size ≤ 4096
set_option maxHeartbeats 4000000 in
theorem right_ins {dk dp : Int} {ta pa : Option Addr} {tn_ tcap pn pcap : Nat} {zs : List Int} {w : World} (hT : Rw rune1 1 w ta tn_ tcap zs) (t : Nat) (ht : t ≤ 30000) (k : Int)
    (hk : dk % 3 = 0 ∨ t = 0 ∨ pn = 0) :
    Calls Tryz.prog 8 #[deedV dk dp (.slice ta tn_ tcap) (.slice pa pn pcap), .int .i64 (t : Int), .int .i64 k] w fun e w' => ∃ rs : List Int, e = .returned (opVal ⟨1 + k % 8, 1, 1, dp % ((t : Int) + 1), bs (encs rs), [], 0, 0, false⟩ (.slice none 0 0)) ∧ rs ≠ [] ∧ rs.length ≤ 256 ∧ (∀ r ∈ rs, okL r) ∧ Below w.heap.size w w' := by
  have b0 := Int.emod_nonneg k (show (8 : Int) ≠ 0 by decide)
  have b1 := Int.emod_lt_of_pos k (show (0 : Int) < 8 by decide)
  have d0 := Int.emod_nonneg dk (show (3 : Int) ≠ 0 by decide)
  have d1 := Int.emod_lt_of_pos dk (show (0 : Int) < 3 by decide)
  have p0 := Int.emod_nonneg dp (show (t : Int) + 1 ≠ 0 by omega)
  have p1 := Int.emod_lt_of_pos dp (show (0 : Int) < (t : Int) + 1 by omega)
  have H1 : Hid (∀ w : World, Calls Tryz.prog 24 #[.int .i64 k, .int .i64 8] w fun e w' => e = .returned (.int .i64 (k % 8)) ∧ w' = w) := pick_any k 8 (by decide) (by decide)
  have H2 : Hid (∀ w : World, Calls Tryz.prog 24 #[.int .i64 dk, .int .i64 3] w fun e w' => e = .returned (.int .i64 (dk % 3)) ∧ w' = w) := pick_any dk 3 (by decide) (by decide)
  have H3 : Hid (∀ w : World, Calls Tryz.prog 24 #[.int .i64 dp, .int .i64 ((t : Int) + 1)] w fun e w' => e = .returned (.int .i64 (dp % ((t : Int) + 1))) ∧ w' = w) := pick_any dp ((t : Int) + 1) (by omega) (by omega)
  have HL : Hid (∀ w' : World, Below w.heap.size w w' → Calls Tryz.prog 25 #[.slice ta tn_ tcap] w' fun e w'' => ∃ v rs, e = .returned v ∧ OwnF rune1 1 21 w'' w'.heap.size v rs ∧ rs ≠ [] ∧ rs.length ≤ 256 ∧ (∀ r ∈ rs, okL r) ∧ Below w'.heap.size w' w'') := fun w' hb => letters_any (hT.below hb)
  clear hT
  generalize k % 8 = kk at *
  generalize dk % 3 = dd at *
  generalize dp % ((t : Int) + 1) = pp at *
  simp only [deedV, opVal]
  have tcs : (dd == 0) = true ∨ ((dd == 0) = false ∧ ((t : Int) == 0) = true) ∨ ((dd == 0) = false ∧ ((t : Int) == 0) = false ∧ ((pn : Int) == 0) = true) := by
    by_cases h1 : dd = 0
    · left; simp [h1]
    · by_cases h2 : t = 0
      · right; left; simp [h1, h2]
      · right; right; exact ⟨by simp [h1], by simp; omega, by simp; omega⟩
  clear hk
  have tcs2 : dd = 0 ∨ (¬ dd = 0 ∧ t = 0) ∨ (¬ dd = 0 ∧ ¬ t = 0 ∧ pn = 0) := by
    rcases tcs with h | ⟨h, h2⟩ | ⟨h, h2, h3⟩
    · left; simpa using h
    · right; left; exact ⟨by simpa using h, by simp at h2; omega⟩
    · right; right; exact ⟨by simpa using h, by simp at h2; omega, by simp at h3; omega⟩
  clear tcs
  go_enter Tryz.func8, Tryz.ntmps8
  go_wp2_with fail
  refine (H1.out _).mono ?_
  rintro e w1 ⟨rfl, hw1⟩
  subst hw1
  go_wp2_with fail
  refine (H2.out _).mono ?_
  rintro e w1 ⟨rfl, hw1⟩
  subst hw1
  rcases tcs2 with h | ⟨h, h2⟩ | ⟨h, h2, h3⟩
  · subst h
    go_wp2_with fail
    refine (H3.out _).mono ?_
    rintro e w1 ⟨rfl, hw1⟩
    subst hw1
    go_wp2_with fail
    have hX : Below w.heap.size w (((w.alloc (Obj.cells #[.int .i64 dk, .int .i64 dp, .slice ta tn_ tcap, .slice pa pn pcap] 47)).alloc (Obj.cells #[.int .i64 0, .int .i64 0, .int .i64 0, .int .i64 0, .string ⟨#[]⟩, .slice none 0 0, .int .i64 0, .int .i64 0, .bool false] 42)).alloc (Obj.cells #[.int .i64 (1 + kk), .int .i64 1, .int .i64 1, .int .i64 pp, .string ⟨#[]⟩, .slice none 0 0, .int .i64 0, .int .i64 0, .bool false] 42)) := (((Below.refl w.heap.size w).alloc (Nat.le_refl _) _).alloc (by simp) _).alloc (by simp; omega) _
    have x0 : (((w.alloc (Obj.cells #[.int .i64 dk, .int .i64 dp, .slice ta tn_ tcap, .slice pa pn pcap] 47)).alloc (Obj.cells #[.int .i64 0, .int .i64 0, .int .i64 0, .int .i64 0, .string ⟨#[]⟩, .slice none 0 0, .int .i64 0, .int .i64 0, .bool false] 42)).alloc (Obj.cells #[.int .i64 (1 + kk), .int .i64 1, .int .i64 1, .int .i64 pp, .string ⟨#[]⟩, .slice none 0 0, .int .i64 0, .int .i64 0, .bool false] 42)).heap[w.heap.size + 1]? = some (Obj.cells #[.int .i64 0, .int .i64 0, .int .i64 0, .int .i64 0, .string ⟨#[]⟩, .slice none 0 0, .int .i64 0, .int .i64 0, .bool false] 42) := (Below.heap_alloc _ _ _ (by simp)).trans (alloc_last _ _ _ (by simp))
    have y0 : (((w.alloc (Obj.cells #[.int .i64 dk, .int .i64 dp, .slice ta tn_ tcap, .slice pa pn pcap] 47)).alloc (Obj.cells #[.int .i64 0, .int .i64 0, .int .i64 0, .int .i64 0, .string ⟨#[]⟩, .slice none 0 0, .int .i64 0, .int .i64 0, .bool false] 42)).alloc (Obj.cells #[.int .i64 (1 + kk), .int .i64 1, .int .i64 1, .int .i64 pp, .string ⟨#[]⟩, .slice none 0 0, .int .i64 0, .int .i64 0, .bool false] 42)).heap[w.heap.size + 1 + 1]? = some (Obj.cells #[.int .i64 (1 + kk), .int .i64 1, .int .i64 1, .int .i64 pp, .string ⟨#[]⟩, .slice none 0 0, .int .i64 0, .int .i64 0, .bool false] 42) := alloc_last _ _ _ (by simp)
    refine (HL.out _ hX).mono ?_
    rintro e w1 ⟨v, rs, rfl, hown, hne, hle, hok, hb1⟩
    have hB1 := hX.trans (hb1.mono hX.size)
    have x1 := (hb1.block _ (Array.getElem?_eq_some_iff.1 x0).1).trans x0
    have y1 := (hb1.block _ (Array.getElem?_eq_some_iff.1 y0).1).trans y0
    obtain ⟨va, vc, rfl⟩ := hown.shape
    have hcv := conv_own hown hne
    have HOK : Hid (∀ r ∈ rs, okL r) := hok
    have HNE : Hid (rs ≠ []) := hne
    clear hX x0 y0 hb1 hown hok hne
    have f0 : w1.cell? ⟨w.heap.size + 1 + 1, 0, none⟩ = some (.int .i64 (1 + kk)) := by rw [Lib.cell_of_heap y1]; rfl
    have f1 : w1.cell? ⟨w.heap.size + 1 + 1, 1, none⟩ = some (.int .i64 1) := by rw [Lib.cell_of_heap y1]; rfl
    have f2 : w1.cell? ⟨w.heap.size + 1 + 1, 2, none⟩ = some (.int .i64 1) := by rw [Lib.cell_of_heap y1]; rfl
    have f3 : w1.cell? ⟨w.heap.size + 1 + 1, 3, none⟩ = some (.int .i64 pp) := by rw [Lib.cell_of_heap y1]; rfl
    have f4 : w1.cell? ⟨w.heap.size + 1 + 1, 4, none⟩ = some (.string ⟨#[]⟩) := by rw [Lib.cell_of_heap y1]; rfl
    have f5 : w1.cell? ⟨w.heap.size + 1 + 1, 5, none⟩ = some (.slice none 0 0) := by rw [Lib.cell_of_heap y1]; rfl
    have f6 : w1.cell? ⟨w.heap.size + 1 + 1, 6, none⟩ = some (.int .i64 0) := by rw [Lib.cell_of_heap y1]; rfl
    have f7 : w1.cell? ⟨w.heap.size + 1 + 1, 7, none⟩ = some (.int .i64 0) := by rw [Lib.cell_of_heap y1]; rfl
    have f8 : w1.cell? ⟨w.heap.size + 1 + 1, 8, none⟩ = some (.bool false) := by rw [Lib.cell_of_heap y1]; rfl
    have z4 : w1.frozen? ⟨w.heap.size + 1 + 1, 4, none⟩ = false := Lib.frozen_of_heap y1 4
    have d0_ : w1.cell? ⟨w.heap.size + 1, 0, none⟩ = some (.int .i64 0) := by rw [Lib.cell_of_heap x1]; rfl
    have z10 : w1.frozen? ⟨w.heap.size + 1, 0, none⟩ = false := Lib.frozen_of_heap x1 0
    have d1_ : w1.cell? ⟨w.heap.size + 1, 1, none⟩ = some (.int .i64 0) := by rw [Lib.cell_of_heap x1]; rfl
    have z11 : w1.frozen? ⟨w.heap.size + 1, 1, none⟩ = false := Lib.frozen_of_heap x1 1
    have d2_ : w1.cell? ⟨w.heap.size + 1, 2, none⟩ = some (.int .i64 0) := by rw [Lib.cell_of_heap x1]; rfl
    have z12 : w1.frozen? ⟨w.heap.size + 1, 2, none⟩ = false := Lib.frozen_of_heap x1 2
    have d3_ : w1.cell? ⟨w.heap.size + 1, 3, none⟩ = some (.int .i64 0) := by rw [Lib.cell_of_heap x1]; rfl
    have z13 : w1.frozen? ⟨w.heap.size + 1, 3, none⟩ = false := Lib.frozen_of_heap x1 3
    have d4_ : w1.cell? ⟨w.heap.size + 1, 4, none⟩ = some (.string ⟨#[]⟩) := by rw [Lib.cell_of_heap x1]; rfl
    have z14 : w1.frozen? ⟨w.heap.size + 1, 4, none⟩ = false := Lib.frozen_of_heap x1 4
    have d5_ : w1.cell? ⟨w.heap.size + 1, 5, none⟩ = some (.slice none 0 0) := by rw [Lib.cell_of_heap x1]; rfl
    have z15 : w1.frozen? ⟨w.heap.size + 1, 5, none⟩ = false := Lib.frozen_of_heap x1 5
    have d6_ : w1.cell? ⟨w.heap.size + 1, 6, none⟩ = some (.int .i64 0) := by rw [Lib.cell_of_heap x1]; rfl
    have z16 : w1.frozen? ⟨w.heap.size + 1, 6, none⟩ = false := Lib.frozen_of_heap x1 6
    have d7_ : w1.cell? ⟨w.heap.size + 1, 7, none⟩ = some (.int .i64 0) := by rw [Lib.cell_of_heap x1]; rfl
    have z17 : w1.frozen? ⟨w.heap.size + 1, 7, none⟩ = false := Lib.frozen_of_heap x1 7
    have d8_ : w1.cell? ⟨w.heap.size + 1, 8, none⟩ = some (.bool false) := by rw [Lib.cell_of_heap x1]; rfl
    have z18 : w1.frozen? ⟨w.heap.size + 1, 8, none⟩ = false := Lib.frozen_of_heap x1 8
    generalize hS : bs (encs rs) = S at *
    have sx : (w1.setCell ⟨w.heap.size + 1 + 1, 4, none⟩ (.string S)).heap[w.heap.size + 1]? = some (Obj.cells #[.int .i64 0, .int .i64 0, .int .i64 0, .int .i64 0, .string ⟨#[]⟩, .slice none 0 0, .int .i64 0, .int .i64 0, .bool false] 42) := (Below.heap_setCell _ _ _ _ (by simp)).trans x1
    have sB := hB1.setCell (p := ⟨w.heap.size + 1 + 1, 4, none⟩) (by simp only; omega) (.string S)
    have hx9 := set9g (v0 := .int .i64 (1 + kk)) (v1 := .int .i64 1) (v2 := .int .i64 1) (v3 := .int .i64 pp) (v4 := .string S) (v5 := .slice none 0 0) (v6 := .int .i64 0) (v7 := .int .i64 0) (v8 := .bool false) sx
    have hq0 := sB.setCell (p := ⟨w.heap.size + 1, 0, none⟩) (by simp only; omega) (.int .i64 (1 + kk))
    have hq1 := hq0.setCell (p := ⟨w.heap.size + 1, 1, none⟩) (by simp only; omega) (.int .i64 1)
    have hq2 := hq1.setCell (p := ⟨w.heap.size + 1, 2, none⟩) (by simp only; omega) (.int .i64 1)
    have hq3 := hq2.setCell (p := ⟨w.heap.size + 1, 3, none⟩) (by simp only; omega) (.int .i64 pp)
    have hq4 := hq3.setCell (p := ⟨w.heap.size + 1, 4, none⟩) (by simp only; omega) (.string S)
    have hq5 := hq4.setCell (p := ⟨w.heap.size + 1, 5, none⟩) (by simp only; omega) (.slice none 0 0)
    have hq6 := hq5.setCell (p := ⟨w.heap.size + 1, 6, none⟩) (by simp only; omega) (.int .i64 0)
    have hq7 := hq6.setCell (p := ⟨w.heap.size + 1, 7, none⟩) (by simp only; omega) (.int .i64 0)
    have hq8 := hq7.setCell (p := ⟨w.heap.size + 1, 8, none⟩) (by simp only; omega) (.bool false)
    obtain ⟨w9, hw9⟩ : ∃ w9, ((((((((((w1.setCell ⟨w.heap.size + 1 + 1, 4, none⟩ (.string S)).setCell ⟨w.heap.size + 1, 0, none⟩ (.int .i64 (1 + kk))).setCell ⟨w.heap.size + 1, 1, none⟩ (.int .i64 1)).setCell ⟨w.heap.size + 1, 2, none⟩ (.int .i64 1)).setCell ⟨w.heap.size + 1, 3, none⟩ (.int .i64 pp)).setCell ⟨w.heap.size + 1, 4, none⟩ (.string S)).setCell ⟨w.heap.size + 1, 5, none⟩ (.slice none 0 0)).setCell ⟨w.heap.size + 1, 6, none⟩ (.int .i64 0)).setCell ⟨w.heap.size + 1, 7, none⟩ (.int .i64 0)).setCell ⟨w.heap.size + 1, 8, none⟩ (.bool false)) = w9 := ⟨_, rfl⟩
    rw [hw9] at hx9 hq8
    have r0 : w9.cell? ⟨w.heap.size + 1, 0, none⟩ = some (.int .i64 (1 + kk)) := by rw [Lib.cell_of_heap hx9]; rfl
    have r1 : w9.cell? ⟨w.heap.size + 1, 1, none⟩ = some (.int .i64 1) := by rw [Lib.cell_of_heap hx9]; rfl
    have r2 : w9.cell? ⟨w.heap.size + 1, 2, none⟩ = some (.int .i64 1) := by rw [Lib.cell_of_heap hx9]; rfl
    have r3 : w9.cell? ⟨w.heap.size + 1, 3, none⟩ = some (.int .i64 pp) := by rw [Lib.cell_of_heap hx9]; rfl
    have r4 : w9.cell? ⟨w.heap.size + 1, 4, none⟩ = some (.string S) := by rw [Lib.cell_of_heap hx9]; rfl
    have r5 : w9.cell? ⟨w.heap.size + 1, 5, none⟩ = some (.slice none 0 0) := by rw [Lib.cell_of_heap hx9]; rfl
    have r6 : w9.cell? ⟨w.heap.size + 1, 6, none⟩ = some (.int .i64 0) := by rw [Lib.cell_of_heap hx9]; rfl
    have r7 : w9.cell? ⟨w.heap.size + 1, 7, none⟩ = some (.int .i64 0) := by rw [Lib.cell_of_heap hx9]; rfl
    have r8 : w9.cell? ⟨w.heap.size + 1, 8, none⟩ = some (.bool false) := by rw [Lib.cell_of_heap hx9]; rfl
    clear hq7 hq6 hq5 hq4 hq3 hq2 hq1 hq0 sx sB
    go_wp2_with fail
    try rw [hw9]
    refine bodyPost_ret (v := .agg #[.int .i64 (1 + kk), .int .i64 1, .int .i64 1, .int .i64 pp, .string S, .slice none 0 0, .int .i64 0, .int .i64 0, .bool false]) (by simp [results, Tryz.results8, go_sem, r0, r1, r2, r3, r4, r5, r6, r7, r8]) rfl ⟨rs, by rw [hS], HNE.out, hle, HOK.out, hq8⟩
  · have t1 : (dd == 0) = false := beq_eq_false_iff_ne.2 h
    have t2 : decide (dd = 0) = false := decide_eq_false h
    have t3 : ((t : Int) == 0) = true := by simp [h2]
    clear h2 h
    go_wp2_with fail
    refine (H3.out _).mono ?_
    rintro e w1 ⟨rfl, hw1⟩
    subst hw1
    go_wp2_with fail
    have hX : Below w.heap.size w (((w.alloc (Obj.cells #[.int .i64 dk, .int .i64 dp, .slice ta tn_ tcap, .slice pa pn pcap] 47)).alloc (Obj.cells #[.int .i64 0, .int .i64 0, .int .i64 0, .int .i64 0, .string ⟨#[]⟩, .slice none 0 0, .int .i64 0, .int .i64 0, .bool false] 42)).alloc (Obj.cells #[.int .i64 (1 + kk), .int .i64 1, .int .i64 1, .int .i64 pp, .string ⟨#[]⟩, .slice none 0 0, .int .i64 0, .int .i64 0, .bool false] 42)) := (((Below.refl w.heap.size w).alloc (Nat.le_refl _) _).alloc (by simp) _).alloc (by simp; omega) _
    have x0 : (((w.alloc (Obj.cells #[.int .i64 dk, .int .i64 dp, .slice ta tn_ tcap, .slice pa pn pcap] 47)).alloc (Obj.cells #[.int .i64 0, .int .i64 0, .int .i64 0, .int .i64 0, .string ⟨#[]⟩, .slice none 0 0, .int .i64 0, .int .i64 0, .bool false] 42)).alloc (Obj.cells #[.int .i64 (1 + kk), .int .i64 1, .int .i64 1, .int .i64 pp, .string ⟨#[]⟩, .slice none 0 0, .int .i64 0, .int .i64 0, .bool false] 42)).heap[w.heap.size + 1]? = some (Obj.cells #[.int .i64 0, .int .i64 0, .int .i64 0, .int .i64 0, .string ⟨#[]⟩, .slice none 0 0, .int .i64 0, .int .i64 0, .bool false] 42) := (Below.heap_alloc _ _ _ (by simp)).trans (alloc_last _ _ _ (by simp))
    have y0 : (((w.alloc (Obj.cells #[.int .i64 dk, .int .i64 dp, .slice ta tn_ tcap, .slice pa pn pcap] 47)).alloc (Obj.cells #[.int .i64 0, .int .i64 0, .int .i64 0, .int .i64 0, .string ⟨#[]⟩, .slice none 0 0, .int .i64 0, .int .i64 0, .bool false] 42)).alloc (Obj.cells #[.int .i64 (1 + kk), .int .i64 1, .int .i64 1, .int .i64 pp, .string ⟨#[]⟩, .slice none 0 0, .int .i64 0, .int .i64 0, .bool false] 42)).heap[w.heap.size + 1 + 1]? = some (Obj.cells #[.int .i64 (1 + kk), .int .i64 1, .int .i64 1, .int .i64 pp, .string ⟨#[]⟩, .slice none 0 0, .int .i64 0, .int .i64 0, .bool false] 42) := alloc_last _ _ _ (by simp)
    refine (HL.out _ hX).mono ?_
    rintro e w1 ⟨v, rs, rfl, hown, hne, hle, hok, hb1⟩
    have hB1 := hX.trans (hb1.mono hX.size)
    have x1 := (hb1.block _ (Array.getElem?_eq_some_iff.1 x0).1).trans x0
    have y1 := (hb1.block _ (Array.getElem?_eq_some_iff.1 y0).1).trans y0
    obtain ⟨va, vc, rfl⟩ := hown.shape
    have hcv := conv_own hown hne
    have HOK : Hid (∀ r ∈ rs, okL r) := hok
    have HNE : Hid (rs ≠ []) := hne
    clear hX x0 y0 hb1 hown hok hne
    have f0 : w1.cell? ⟨w.heap.size + 1 + 1, 0, none⟩ = some (.int .i64 (1 + kk)) := by rw [Lib.cell_of_heap y1]; rfl
    have f1 : w1.cell? ⟨w.heap.size + 1 + 1, 1, none⟩ = some (.int .i64 1) := by rw [Lib.cell_of_heap y1]; rfl
    have f2 : w1.cell? ⟨w.heap.size + 1 + 1, 2, none⟩ = some (.int .i64 1) := by rw [Lib.cell_of_heap y1]; rfl
    have f3 : w1.cell? ⟨w.heap.size + 1 + 1, 3, none⟩ = some (.int .i64 pp) := by rw [Lib.cell_of_heap y1]; rfl
    have f4 : w1.cell? ⟨w.heap.size + 1 + 1, 4, none⟩ = some (.string ⟨#[]⟩) := by rw [Lib.cell_of_heap y1]; rfl
    have f5 : w1.cell? ⟨w.heap.size + 1 + 1, 5, none⟩ = some (.slice none 0 0) := by rw [Lib.cell_of_heap y1]; rfl
    have f6 : w1.cell? ⟨w.heap.size + 1 + 1, 6, none⟩ = some (.int .i64 0) := by rw [Lib.cell_of_heap y1]; rfl
    have f7 : w1.cell? ⟨w.heap.size + 1 + 1, 7, none⟩ = some (.int .i64 0) := by rw [Lib.cell_of_heap y1]; rfl
    have f8 : w1.cell? ⟨w.heap.size + 1 + 1, 8, none⟩ = some (.bool false) := by rw [Lib.cell_of_heap y1]; rfl
    have z4 : w1.frozen? ⟨w.heap.size + 1 + 1, 4, none⟩ = false := Lib.frozen_of_heap y1 4
    have d0_ : w1.cell? ⟨w.heap.size + 1, 0, none⟩ = some (.int .i64 0) := by rw [Lib.cell_of_heap x1]; rfl
    have z10 : w1.frozen? ⟨w.heap.size + 1, 0, none⟩ = false := Lib.frozen_of_heap x1 0
    have d1_ : w1.cell? ⟨w.heap.size + 1, 1, none⟩ = some (.int .i64 0) := by rw [Lib.cell_of_heap x1]; rfl
    have z11 : w1.frozen? ⟨w.heap.size + 1, 1, none⟩ = false := Lib.frozen_of_heap x1 1
    have d2_ : w1.cell? ⟨w.heap.size + 1, 2, none⟩ = some (.int .i64 0) := by rw [Lib.cell_of_heap x1]; rfl
    have z12 : w1.frozen? ⟨w.heap.size + 1, 2, none⟩ = false := Lib.frozen_of_heap x1 2
    have d3_ : w1.cell? ⟨w.heap.size + 1, 3, none⟩ = some (.int .i64 0) := by rw [Lib.cell_of_heap x1]; rfl
    have z13 : w1.frozen? ⟨w.heap.size + 1, 3, none⟩ = false := Lib.frozen_of_heap x1 3
    have d4_ : w1.cell? ⟨w.heap.size + 1, 4, none⟩ = some (.string ⟨#[]⟩) := by rw [Lib.cell_of_heap x1]; rfl
    have z14 : w1.frozen? ⟨w.heap.size + 1, 4, none⟩ = false := Lib.frozen_of_heap x1 4
    have d5_ : w1.cell? ⟨w.heap.size + 1, 5, none⟩ = some (.slice none 0 0) := by rw [Lib.cell_of_heap x1]; rfl
    have z15 : w1.frozen? ⟨w.heap.size + 1, 5, none⟩ = false := Lib.frozen_of_heap x1 5
    have d6_ : w1.cell? ⟨w.heap.size + 1, 6, none⟩ = some (.int .i64 0) := by rw [Lib.cell_of_heap x1]; rfl
    have z16 : w1.frozen? ⟨w.heap.size + 1, 6, none⟩ = false := Lib.frozen_of_heap x1 6
    have d7_ : w1.cell? ⟨w.heap.size + 1, 7, none⟩ = some (.int .i64 0) := by rw [Lib.cell_of_heap x1]; rfl
    have z17 : w1.frozen? ⟨w.heap.size + 1, 7, none⟩ = false := Lib.frozen_of_heap x1 7
    have d8_ : w1.cell? ⟨w.heap.size + 1, 8, none⟩ = some (.bool false) := by rw [Lib.cell_of_heap x1]; rfl
    have z18 : w1.frozen? ⟨w.heap.size + 1, 8, none⟩ = false := Lib.frozen_of_heap x1 8
    generalize hS : bs (encs rs) = S at *
    have sx : (w1.setCell ⟨w.heap.size + 1 + 1, 4, none⟩ (.string S)).heap[w.heap.size + 1]? = some (Obj.cells #[.int .i64 0, .int .i64 0, .int .i64 0, .int .i64 0, .string ⟨#[]⟩, .slice none 0 0, .int .i64 0, .int .i64 0, .bool false] 42) := (Below.heap_setCell _ _ _ _ (by simp)).trans x1
    have sB := hB1.setCell (p := ⟨w.heap.size + 1 + 1, 4, none⟩) (by simp only; omega) (.string S)
    have hx9 := set9g (v0 := .int .i64 (1 + kk)) (v1 := .int .i64 1) (v2 := .int .i64 1) (v3 := .int .i64 pp) (v4 := .string S) (v5 := .slice none 0 0) (v6 := .int .i64 0) (v7 := .int .i64 0) (v8 := .bool false) sx
    have hq0 := sB.setCell (p := ⟨w.heap.size + 1, 0, none⟩) (by simp only; omega) (.int .i64 (1 + kk))
    have hq1 := hq0.setCell (p := ⟨w.heap.size + 1, 1, none⟩) (by simp only; omega) (.int .i64 1)
    have hq2 := hq1.setCell (p := ⟨w.heap.size + 1, 2, none⟩) (by simp only; omega) (.int .i64 1)
    have hq3 := hq2.setCell (p := ⟨w.heap.size + 1, 3, none⟩) (by simp only; omega) (.int .i64 pp)
    have hq4 := hq3.setCell (p := ⟨w.heap.size + 1, 4, none⟩) (by simp only; omega) (.string S)
    have hq5 := hq4.setCell (p := ⟨w.heap.size + 1, 5, none⟩) (by simp only; omega) (.slice none 0 0)
    have hq6 := hq5.setCell (p := ⟨w.heap.size + 1, 6, none⟩) (by simp only; omega) (.int .i64 0)
    have hq7 := hq6.setCell (p := ⟨w.heap.size + 1, 7, none⟩) (by simp only; omega) (.int .i64 0)
    have hq8 := hq7.setCell (p := ⟨w.heap.size + 1, 8, none⟩) (by simp only; omega) (.bool false)
    obtain ⟨w9, hw9⟩ : ∃ w9, ((((((((((w1.setCell ⟨w.heap.size + 1 + 1, 4, none⟩ (.string S)).setCell ⟨w.heap.size + 1, 0, none⟩ (.int .i64 (1 + kk))).setCell ⟨w.heap.size + 1, 1, none⟩ (.int .i64 1)).setCell ⟨w.heap.size + 1, 2, none⟩ (.int .i64 1)).setCell ⟨w.heap.size + 1, 3, none⟩ (.int .i64 pp)).setCell ⟨w.heap.size + 1, 4, none⟩ (.string S)).setCell ⟨w.heap.size + 1, 5, none⟩ (.slice none 0 0)).setCell ⟨w.heap.size + 1, 6, none⟩ (.int .i64 0)).setCell ⟨w.heap.size + 1, 7, none⟩ (.int .i64 0)).setCell ⟨w.heap.size + 1, 8, none⟩ (.bool false)) = w9 := ⟨_, rfl⟩
    rw [hw9] at hx9 hq8
    have r0 : w9.cell? ⟨w.heap.size + 1, 0, none⟩ = some (.int .i64 (1 + kk)) := by rw [Lib.cell_of_heap hx9]; rfl
    have r1 : w9.cell? ⟨w.heap.size + 1, 1, none⟩ = some (.int .i64 1) := by rw [Lib.cell_of_heap hx9]; rfl
    have r2 : w9.cell? ⟨w.heap.size + 1, 2, none⟩ = some (.int .i64 1) := by rw [Lib.cell_of_heap hx9]; rfl
    have r3 : w9.cell? ⟨w.heap.size + 1, 3, none⟩ = some (.int .i64 pp) := by rw [Lib.cell_of_heap hx9]; rfl
    have r4 : w9.cell? ⟨w.heap.size + 1, 4, none⟩ = some (.string S) := by rw [Lib.cell_of_heap hx9]; rfl
    have r5 : w9.cell? ⟨w.heap.size + 1, 5, none⟩ = some (.slice none 0 0) := by rw [Lib.cell_of_heap hx9]; rfl
    have r6 : w9.cell? ⟨w.heap.size + 1, 6, none⟩ = some (.int .i64 0) := by rw [Lib.cell_of_heap hx9]; rfl
    have r7 : w9.cell? ⟨w.heap.size + 1, 7, none⟩ = some (.int .i64 0) := by rw [Lib.cell_of_heap hx9]; rfl
    have r8 : w9.cell? ⟨w.heap.size + 1, 8, none⟩ = some (.bool false) := by rw [Lib.cell_of_heap hx9]; rfl
    clear hq7 hq6 hq5 hq4 hq3 hq2 hq1 hq0 sx sB
    go_wp2_with fail
    try rw [hw9]
    refine bodyPost_ret (v := .agg #[.int .i64 (1 + kk), .int .i64 1, .int .i64 1, .int .i64 pp, .string S, .slice none 0 0, .int .i64 0, .int .i64 0, .bool false]) (by simp [results, Tryz.results8, go_sem, r0, r1, r2, r3, r4, r5, r6, r7, r8]) rfl ⟨rs, by rw [hS], HNE.out, hle, HOK.out, hq8⟩
  · have t1 : (dd == 0) = false := beq_eq_false_iff_ne.2 h
    have t2 : decide (dd = 0) = false := decide_eq_false h
    have t3 : ((t : Int) == 0) = false := beq_eq_false_iff_ne.2 (by omega)
    have t5 : ((pn : Int) == 0) = true := by simp [h3]
    clear h2 h3 h
    go_wp2_with fail
    refine (H3.out _).mono ?_
    rintro e w1 ⟨rfl, hw1⟩
    subst hw1
    go_wp2_with fail
    have hX : Below w.heap.size w (((w.alloc (Obj.cells #[.int .i64 dk, .int .i64 dp, .slice ta tn_ tcap, .slice pa pn pcap] 47)).alloc (Obj.cells #[.int .i64 0, .int .i64 0, .int .i64 0, .int .i64 0, .string ⟨#[]⟩, .slice none 0 0, .int .i64 0, .int .i64 0, .bool false] 42)).alloc (Obj.cells #[.int .i64 (1 + kk), .int .i64 1, .int .i64 1, .int .i64 pp, .string ⟨#[]⟩, .slice none 0 0, .int .i64 0, .int .i64 0, .bool false] 42)) := (((Below.refl w.heap.size w).alloc (Nat.le_refl _) _).alloc (by simp) _).alloc (by simp; omega) _
    have x0 : (((w.alloc (Obj.cells #[.int .i64 dk, .int .i64 dp, .slice ta tn_ tcap, .slice pa pn pcap] 47)).alloc (Obj.cells #[.int .i64 0, .int .i64 0, .int .i64 0, .int .i64 0, .string ⟨#[]⟩, .slice none 0 0, .int .i64 0, .int .i64 0, .bool false] 42)).alloc (Obj.cells #[.int .i64 (1 + kk), .int .i64 1, .int .i64 1, .int .i64 pp, .string ⟨#[]⟩, .slice none 0 0, .int .i64 0, .int .i64 0, .bool false] 42)).heap[w.heap.size + 1]? = some (Obj.cells #[.int .i64 0, .int .i64 0, .int .i64 0, .int .i64 0, .string ⟨#[]⟩, .slice none 0 0, .int .i64 0, .int .i64 0, .bool false] 42) := (Below.heap_alloc _ _ _ (by simp)).trans (alloc_last _ _ _ (by simp))
    have y0 : (((w.alloc (Obj.cells #[.int .i64 dk, .int .i64 dp, .slice ta tn_ tcap, .slice pa pn pcap] 47)).alloc (Obj.cells #[.int .i64 0, .int .i64 0, .int .i64 0, .int .i64 0, .string ⟨#[]⟩, .slice none 0 0, .int .i64 0, .int .i64 0, .bool false] 42)).alloc (Obj.cells #[.int .i64 (1 + kk), .int .i64 1, .int .i64 1, .int .i64 pp, .string ⟨#[]⟩, .slice none 0 0, .int .i64 0, .int .i64 0, .bool false] 42)).heap[w.heap.size + 1 + 1]? = some (Obj.cells #[.int .i64 (1 + kk), .int .i64 1, .int .i64 1, .int .i64 pp, .string ⟨#[]⟩, .slice none 0 0, .int .i64 0, .int .i64 0, .bool false] 42) := alloc_last _ _ _ (by simp)
    refine (HL.out _ hX).mono ?_
    rintro e w1 ⟨v, rs, rfl, hown, hne, hle, hok, hb1⟩
    have hB1 := hX.trans (hb1.mono hX.size)
    have x1 := (hb1.block _ (Array.getElem?_eq_some_iff.1 x0).1).trans x0
    have y1 := (hb1.block _ (Array.getElem?_eq_some_iff.1 y0).1).trans y0
    obtain ⟨va, vc, rfl⟩ := hown.shape
    have hcv := conv_own hown hne
    have HOK : Hid (∀ r ∈ rs, okL r) := hok
    have HNE : Hid (rs ≠ []) := hne
    clear hX x0 y0 hb1 hown hok hne
    have f0 : w1.cell? ⟨w.heap.size + 1 + 1, 0, none⟩ = some (.int .i64 (1 + kk)) := by rw [Lib.cell_of_heap y1]; rfl
    have f1 : w1.cell? ⟨w.heap.size + 1 + 1, 1, none⟩ = some (.int .i64 1) := by rw [Lib.cell_of_heap y1]; rfl
    have f2 : w1.cell? ⟨w.heap.size + 1 + 1, 2, none⟩ = some (.int .i64 1) := by rw [Lib.cell_of_heap y1]; rfl
    have f3 : w1.cell? ⟨w.heap.size + 1 + 1, 3, none⟩ = some (.int .i64 pp) := by rw [Lib.cell_of_heap y1]; rfl
    have f4 : w1.cell? ⟨w.heap.size + 1 + 1, 4, none⟩ = some (.string ⟨#[]⟩) := by rw [Lib.cell_of_heap y1]; rfl
    have f5 : w1.cell? ⟨w.heap.size + 1 + 1, 5, none⟩ = some (.slice none 0 0) := by rw [Lib.cell_of_heap y1]; rfl
    have f6 : w1.cell? ⟨w.heap.size + 1 + 1, 6, none⟩ = some (.int .i64 0) := by rw [Lib.cell_of_heap y1]; rfl
    have f7 : w1.cell? ⟨w.heap.size + 1 + 1, 7, none⟩ = some (.int .i64 0) := by rw [Lib.cell_of_heap y1]; rfl
    have f8 : w1.cell? ⟨w.heap.size + 1 + 1, 8, none⟩ = some (.bool false) := by rw [Lib.cell_of_heap y1]; rfl
    have z4 : w1.frozen? ⟨w.heap.size + 1 + 1, 4, none⟩ = false := Lib.frozen_of_heap y1 4
    have d0_ : w1.cell? ⟨w.heap.size + 1, 0, none⟩ = some (.int .i64 0) := by rw [Lib.cell_of_heap x1]; rfl
    have z10 : w1.frozen? ⟨w.heap.size + 1, 0, none⟩ = false := Lib.frozen_of_heap x1 0
    have d1_ : w1.cell? ⟨w.heap.size + 1, 1, none⟩ = some (.int .i64 0) := by rw [Lib.cell_of_heap x1]; rfl
    have z11 : w1.frozen? ⟨w.heap.size + 1, 1, none⟩ = false := Lib.frozen_of_heap x1 1
    have d2_ : w1.cell? ⟨w.heap.size + 1, 2, none⟩ = some (.int .i64 0) := by rw [Lib.cell_of_heap x1]; rfl
    have z12 : w1.frozen? ⟨w.heap.size + 1, 2, none⟩ = false := Lib.frozen_of_heap x1 2
    have d3_ : w1.cell? ⟨w.heap.size + 1, 3, none⟩ = some (.int .i64 0) := by rw [Lib.cell_of_heap x1]; rfl
    have z13 : w1.frozen? ⟨w.heap.size + 1, 3, none⟩ = false := Lib.frozen_of_heap x1 3
    have d4_ : w1.cell? ⟨w.heap.size + 1, 4, none⟩ = some (.string ⟨#[]⟩) := by rw [Lib.cell_of_heap x1]; rfl
    have z14 : w1.frozen? ⟨w.heap.size + 1, 4, none⟩ = false := Lib.frozen_of_heap x1 4
    have d5_ : w1.cell? ⟨w.heap.size + 1, 5, none⟩ = some (.slice none 0 0) := by rw [Lib.cell_of_heap x1]; rfl
    have z15 : w1.frozen? ⟨w.heap.size + 1, 5, none⟩ = false := Lib.frozen_of_heap x1 5
    have d6_ : w1.cell? ⟨w.heap.size + 1, 6, none⟩ = some (.int .i64 0) := by rw [Lib.cell_of_heap x1]; rfl
    have z16 : w1.frozen? ⟨w.heap.size + 1, 6, none⟩ = false := Lib.frozen_of_heap x1 6
    have d7_ : w1.cell? ⟨w.heap.size + 1, 7, none⟩ = some (.int .i64 0) := by rw [Lib.cell_of_heap x1]; rfl
    have z17 : w1.frozen? ⟨w.heap.size + 1, 7, none⟩ = false := Lib.frozen_of_heap x1 7
    have d8_ : w1.cell? ⟨w.heap.size + 1, 8, none⟩ = some (.bool false) := by rw [Lib.cell_of_heap x1]; rfl
    have z18 : w1.frozen? ⟨w.heap.size + 1, 8, none⟩ = false := Lib.frozen_of_heap x1 8
    generalize hS : bs (encs rs) = S at *
    have sx : (w1.setCell ⟨w.heap.size + 1 + 1, 4, none⟩ (.string S)).heap[w.heap.size + 1]? = some (Obj.cells #[.int .i64 0, .int .i64 0, .int .i64 0, .int .i64 0, .string ⟨#[]⟩, .slice none 0 0, .int .i64 0, .int .i64 0, .bool false] 42) := (Below.heap_setCell _ _ _ _ (by simp)).trans x1
    have sB := hB1.setCell (p := ⟨w.heap.size + 1 + 1, 4, none⟩) (by simp only; omega) (.string S)
    have hx9 := set9g (v0 := .int .i64 (1 + kk)) (v1 := .int .i64 1) (v2 := .int .i64 1) (v3 := .int .i64 pp) (v4 := .string S) (v5 := .slice none 0 0) (v6 := .int .i64 0) (v7 := .int .i64 0) (v8 := .bool false) sx
    have hq0 := sB.setCell (p := ⟨w.heap.size + 1, 0, none⟩) (by simp only; omega) (.int .i64 (1 + kk))
    have hq1 := hq0.setCell (p := ⟨w.heap.size + 1, 1, none⟩) (by simp only; omega) (.int .i64 1)
    have hq2 := hq1.setCell (p := ⟨w.heap.size + 1, 2, none⟩) (by simp only; omega) (.int .i64 1)
    have hq3 := hq2.setCell (p := ⟨w.heap.size + 1, 3, none⟩) (by simp only; omega) (.int .i64 pp)
    have hq4 := hq3.setCell (p := ⟨w.heap.size + 1, 4, none⟩) (by simp only; omega) (.string S)
    have hq5 := hq4.setCell (p := ⟨w.heap.size + 1, 5, none⟩) (by simp only; omega) (.slice none 0 0)
    have hq6 := hq5.setCell (p := ⟨w.heap.size + 1, 6, none⟩) (by simp only; omega) (.int .i64 0)
    have hq7 := hq6.setCell (p := ⟨w.heap.size + 1, 7, none⟩) (by simp only; omega) (.int .i64 0)
    have hq8 := hq7.setCell (p := ⟨w.heap.size + 1, 8, none⟩) (by simp only; omega) (.bool false)
    obtain ⟨w9, hw9⟩ : ∃ w9, ((((((((((w1.setCell ⟨w.heap.size + 1 + 1, 4, none⟩ (.string S)).setCell ⟨w.heap.size + 1, 0, none⟩ (.int .i64 (1 + kk))).setCell ⟨w.heap.size + 1, 1, none⟩ (.int .i64 1)).setCell ⟨w.heap.size + 1, 2, none⟩ (.int .i64 1)).setCell ⟨w.heap.size + 1, 3, none⟩ (.int .i64 pp)).setCell ⟨w.heap.size + 1, 4, none⟩ (.string S)).setCell ⟨w.heap.size + 1, 5, none⟩ (.slice none 0 0)).setCell ⟨w.heap.size + 1, 6, none⟩ (.int .i64 0)).setCell ⟨w.heap.size + 1, 7, none⟩ (.int .i64 0)).setCell ⟨w.heap.size + 1, 8, none⟩ (.bool false)) = w9 := ⟨_, rfl⟩
    rw [hw9] at hx9 hq8
    have r0 : w9.cell? ⟨w.heap.size + 1, 0, none⟩ = some (.int .i64 (1 + kk)) := by rw [Lib.cell_of_heap hx9]; rfl
    have r1 : w9.cell? ⟨w.heap.size + 1, 1, none⟩ = some (.int .i64 1) := by rw [Lib.cell_of_heap hx9]; rfl
    have r2 : w9.cell? ⟨w.heap.size + 1, 2, none⟩ = some (.int .i64 1) := by rw [Lib.cell_of_heap hx9]; rfl
    have r3 : w9.cell? ⟨w.heap.size + 1, 3, none⟩ = some (.int .i64 pp) := by rw [Lib.cell_of_heap hx9]; rfl
    have r4 : w9.cell? ⟨w.heap.size + 1, 4, none⟩ = some (.string S) := by rw [Lib.cell_of_heap hx9]; rfl
    have r5 : w9.cell? ⟨w.heap.size + 1, 5, none⟩ = some (.slice none 0 0) := by rw [Lib.cell_of_heap hx9]; rfl
    have r6 : w9.cell? ⟨w.heap.size + 1, 6, none⟩ = some (.int .i64 0) := by rw [Lib.cell_of_heap hx9]; rfl
    have r7 : w9.cell? ⟨w.heap.size + 1, 7, none⟩ = some (.int .i64 0) := by rw [Lib.cell_of_heap hx9]; rfl
    have r8 : w9.cell? ⟨w.heap.size + 1, 8, none⟩ = some (.bool false) := by rw [Lib.cell_of_heap hx9]; rfl
    clear hq7 hq6 hq5 hq4 hq3 hq2 hq1 hq0 sx sB
    go_wp2_with fail
    try rw [hw9]
    refine bodyPost_ret (v := .agg #[.int .i64 (1 + kk), .int .i64 1, .int .i64 1, .int .i64 pp, .string S, .slice none 0 0, .int .i64 0, .int .i64 0, .bool false]) (by simp [results, Tryz.results8, go_sem, r0, r1, r2, r3, r4, r5, r6, r7, r8]) rfl ⟨rs, by rw [hS], HNE.out, hle, HOK.out, hq8⟩
end Go.Proofs.YtggdocnnbgcniaaGreatDoor

namespace Go.Proofs.YtggdocnnbgcniaaGreatDoor
open Go.RowKit Go.Lib Sp
set_option maxRecDepth 100000
set_option maxHeartbeats 4000000 in
theorem right_hide {dk dp : Int} {ta pa : Option Addr} {tn_ tcap pn pcap : Nat} {zs : List Int} {w : World} (hPt : Rw int1 1 w pa pn pcap zs) (t : Nat) (ht0 : 0 < t) (ht : t ≤ 30000) (k : Int) (hk : dk % 3 = 1) (hpn : 0 < pn) :
    Calls Tryz.prog 8 #[deedV dk dp (.slice ta tn_ tcap) (.slice pa pn pcap), .int .i64 (t : Int), .int .i64 k] w fun e w' => ∃ a m cap l, e = .returned (opVal ⟨1 + k % 8, 1, 2, 0, ⟨#[]⟩, l, 0, 0, false⟩ (.slice a m cap)) ∧ Rng w' a m cap l ∧ (∀ g off, a = some ⟨g, off, none⟩ → w.heap.size ≤ g) ∧ Sp.Norm (-1) l ∧ (∀ r ∈ l, r.2 ≤ (t : Int)) ∧ l ≠ [] ∧ l.length ≤ t ∧ Below w.heap.size w w' := by
  have b0 := Int.emod_nonneg k (show (8 : Int) ≠ 0 by decide)
  have b1 := Int.emod_lt_of_pos k (show (0 : Int) < 8 by decide)
  have H1 : Hid (∀ w : World, Calls Tryz.prog 24 #[.int .i64 k, .int .i64 8] w fun e w' => e = .returned (.int .i64 (k % 8)) ∧ w' = w) := pick_any k 8 (by decide) (by decide)
  have H2 : Hid (∀ w : World, Calls Tryz.prog 24 #[.int .i64 dk, .int .i64 3] w fun e w' => e = .returned (.int .i64 1) ∧ w' = w) := hk ▸ pick_any dk 3 (by decide) (by decide)
  have HL : Hid (∀ w' : World, Below w.heap.size w w' → Calls Tryz.prog 26 #[.slice pa pn pcap, .int .i64 (t : Int)] w' fun e w'' => ∃ v l, e = .returned v ∧ OwnF rngV 2 105 w'' w'.heap.size v l ∧ Sp.Norm (-1) l ∧ (∀ r ∈ l, r.2 ≤ (t : Int)) ∧ (0 < pn → l ≠ []) ∧ l.length ≤ t ∧ Below w'.heap.size w' w'') := fun w' hb => chosenP_any (hPt.below hb) ht0 (by omega)
  have t3 : ((t : Int) == 0) = false := beq_eq_false_iff_ne.2 (by omega)
  have t5 : ((pn : Int) == 0) = false := beq_eq_false_iff_ne.2 (by omega)
  have HPN : Hid (0 < pn) := hpn
  clear hPt hk hpn ht0
  generalize k % 8 = kk at *
  simp only [deedV, opVal]
  go_enter Tryz.func8, Tryz.ntmps8
  go_wp2_with fail
  refine (H1.out _).mono ?_
  rintro e w1 ⟨rfl, hw1⟩
  subst hw1
  go_wp2_with fail
  refine (H2.out _).mono ?_
  rintro e w1 ⟨rfl, hw1⟩
  subst hw1
  go_wp2_with fail
  have hX : Below w.heap.size w (((w.alloc (Obj.cells #[.int .i64 dk, .int .i64 dp, .slice ta tn_ tcap, .slice pa pn pcap] 47)).alloc (Obj.cells #[.int .i64 0, .int .i64 0, .int .i64 0, .int .i64 0, .string ⟨#[]⟩, .slice none 0 0, .int .i64 0, .int .i64 0, .bool false] 42)).alloc (Obj.cells #[.int .i64 (1 + kk), .int .i64 1, .int .i64 2, .int .i64 0, .string ⟨#[]⟩, .slice none 0 0, .int .i64 0, .int .i64 0, .bool false] 42)) := (((Below.refl w.heap.size w).alloc (Nat.le_refl _) _).alloc (by simp) _).alloc (by simp; omega) _
  have x0 : (((w.alloc (Obj.cells #[.int .i64 dk, .int .i64 dp, .slice ta tn_ tcap, .slice pa pn pcap] 47)).alloc (Obj.cells #[.int .i64 0, .int .i64 0, .int .i64 0, .int .i64 0, .string ⟨#[]⟩, .slice none 0 0, .int .i64 0, .int .i64 0, .bool false] 42)).alloc (Obj.cells #[.int .i64 (1 + kk), .int .i64 1, .int .i64 2, .int .i64 0, .string ⟨#[]⟩, .slice none 0 0, .int .i64 0, .int .i64 0, .bool false] 42)).heap[w.heap.size + 1]? = some (Obj.cells #[.int .i64 0, .int .i64 0, .int .i64 0, .int .i64 0, .string ⟨#[]⟩, .slice none 0 0, .int .i64 0, .int .i64 0, .bool false] 42) := (Below.heap_alloc _ _ _ (by simp)).trans (alloc_last _ _ _ (by simp))
  have y0 : (((w.alloc (Obj.cells #[.int .i64 dk, .int .i64 dp, .slice ta tn_ tcap, .slice pa pn pcap] 47)).alloc (Obj.cells #[.int .i64 0, .int .i64 0, .int .i64 0, .int .i64 0, .string ⟨#[]⟩, .slice none 0 0, .int .i64 0, .int .i64 0, .bool false] 42)).alloc (Obj.cells #[.int .i64 (1 + kk), .int .i64 1, .int .i64 2, .int .i64 0, .string ⟨#[]⟩, .slice none 0 0, .int .i64 0, .int .i64 0, .bool false] 42)).heap[w.heap.size + 1 + 1]? = some (Obj.cells #[.int .i64 (1 + kk), .int .i64 1, .int .i64 2, .int .i64 0, .string ⟨#[]⟩, .slice none 0 0, .int .i64 0, .int .i64 0, .bool false] 42) := alloc_last _ _ _ (by simp)
  have hXs : (((w.alloc (Obj.cells #[.int .i64 dk, .int .i64 dp, .slice ta tn_ tcap, .slice pa pn pcap] 47)).alloc (Obj.cells #[.int .i64 0, .int .i64 0, .int .i64 0, .int .i64 0, .string ⟨#[]⟩, .slice none 0 0, .int .i64 0, .int .i64 0, .bool false] 42)).alloc (Obj.cells #[.int .i64 (1 + kk), .int .i64 1, .int .i64 2, .int .i64 0, .string ⟨#[]⟩, .slice none 0 0, .int .i64 0, .int .i64 0, .bool false] 42)).heap.size = w.heap.size + 3 := by simp
  refine (HL.out _ hX).mono ?_
  rintro e w1 ⟨v, l, rfl, hown, hno, htop, hne, hle, hb1⟩
  have hB1 := hX.trans (hb1.mono hX.size)
  have x1 := (hb1.block _ (Array.getElem?_eq_some_iff.1 x0).1).trans x0
  have y1 := (hb1.block _ (Array.getElem?_eq_some_iff.1 y0).1).trans y0
  obtain ⟨va, vc, rfl⟩ := hown.shape
  have HR1 : Hid (Rng w1 va l.length vc l) := rng_of_rw (hown.rw_ layRo)
  have HAt : Hid (∀ g off, va = some ⟨g, off, none⟩ → w.heap.size + 3 ≤ g) := fun g off ha => by have := ownF_at hown g off ha; rw [hXs] at this; exact this
  have HRb : Hid (∀ g off, va = some ⟨g, off, none⟩ → 0 < l.length → g ≠ w.heap.size + 1) := fun g off ha _ => by have := HAt.out g off ha; omega
  have HRc : Hid (∀ g off, va = some ⟨g, off, none⟩ → 0 < l.length → g ≠ w.heap.size + 1 + 1) := fun g off ha _ => by have := HAt.out g off ha; omega
  have HN : Hid (Sp.Norm (-1) l ∧ (∀ r ∈ l, r.2 ≤ (t : Int)) ∧ l ≠ []) := ⟨hno, htop, hne HPN.out⟩
  clear hX x0 y0 hb1 hown hno htop hne hXs
  have f0 : w1.cell? ⟨w.heap.size + 1 + 1, 0, none⟩ = some (.int .i64 (1 + kk)) := by rw [Lib.cell_of_heap y1]; rfl
  have f1 : w1.cell? ⟨w.heap.size + 1 + 1, 1, none⟩ = some (.int .i64 1) := by rw [Lib.cell_of_heap y1]; rfl
  have f2 : w1.cell? ⟨w.heap.size + 1 + 1, 2, none⟩ = some (.int .i64 2) := by rw [Lib.cell_of_heap y1]; rfl
  have f3 : w1.cell? ⟨w.heap.size + 1 + 1, 3, none⟩ = some (.int .i64 0) := by rw [Lib.cell_of_heap y1]; rfl
  have f4 : w1.cell? ⟨w.heap.size + 1 + 1, 4, none⟩ = some (.string ⟨#[]⟩) := by rw [Lib.cell_of_heap y1]; rfl
  have f5 : w1.cell? ⟨w.heap.size + 1 + 1, 5, none⟩ = some (.slice none 0 0) := by rw [Lib.cell_of_heap y1]; rfl
  have f6 : w1.cell? ⟨w.heap.size + 1 + 1, 6, none⟩ = some (.int .i64 0) := by rw [Lib.cell_of_heap y1]; rfl
  have f7 : w1.cell? ⟨w.heap.size + 1 + 1, 7, none⟩ = some (.int .i64 0) := by rw [Lib.cell_of_heap y1]; rfl
  have f8 : w1.cell? ⟨w.heap.size + 1 + 1, 8, none⟩ = some (.bool false) := by rw [Lib.cell_of_heap y1]; rfl
  have z5 : w1.frozen? ⟨w.heap.size + 1 + 1, 5, none⟩ = false := Lib.frozen_of_heap y1 5
  have d0_ : w1.cell? ⟨w.heap.size + 1, 0, none⟩ = some (.int .i64 0) := by rw [Lib.cell_of_heap x1]; rfl
  have z10 : w1.frozen? ⟨w.heap.size + 1, 0, none⟩ = false := Lib.frozen_of_heap x1 0
  have d1_ : w1.cell? ⟨w.heap.size + 1, 1, none⟩ = some (.int .i64 0) := by rw [Lib.cell_of_heap x1]; rfl
  have z11 : w1.frozen? ⟨w.heap.size + 1, 1, none⟩ = false := Lib.frozen_of_heap x1 1
  have d2_ : w1.cell? ⟨w.heap.size + 1, 2, none⟩ = some (.int .i64 0) := by rw [Lib.cell_of_heap x1]; rfl
  have z12 : w1.frozen? ⟨w.heap.size + 1, 2, none⟩ = false := Lib.frozen_of_heap x1 2
  have d3_ : w1.cell? ⟨w.heap.size + 1, 3, none⟩ = some (.int .i64 0) := by rw [Lib.cell_of_heap x1]; rfl
  have z13 : w1.frozen? ⟨w.heap.size + 1, 3, none⟩ = false := Lib.frozen_of_heap x1 3
  have d4_ : w1.cell? ⟨w.heap.size + 1, 4, none⟩ = some (.string ⟨#[]⟩) := by rw [Lib.cell_of_heap x1]; rfl
  have z14 : w1.frozen? ⟨w.heap.size + 1, 4, none⟩ = false := Lib.frozen_of_heap x1 4
  have d5_ : w1.cell? ⟨w.heap.size + 1, 5, none⟩ = some (.slice none 0 0) := by rw [Lib.cell_of_heap x1]; rfl
  have z15 : w1.frozen? ⟨w.heap.size + 1, 5, none⟩ = false := Lib.frozen_of_heap x1 5
  have d6_ : w1.cell? ⟨w.heap.size + 1, 6, none⟩ = some (.int .i64 0) := by rw [Lib.cell_of_heap x1]; rfl
  have z16 : w1.frozen? ⟨w.heap.size + 1, 6, none⟩ = false := Lib.frozen_of_heap x1 6
  have d7_ : w1.cell? ⟨w.heap.size + 1, 7, none⟩ = some (.int .i64 0) := by rw [Lib.cell_of_heap x1]; rfl
  have z17 : w1.frozen? ⟨w.heap.size + 1, 7, none⟩ = false := Lib.frozen_of_heap x1 7
  have d8_ : w1.cell? ⟨w.heap.size + 1, 8, none⟩ = some (.bool false) := by rw [Lib.cell_of_heap x1]; rfl
  have z18 : w1.frozen? ⟨w.heap.size + 1, 8, none⟩ = false := Lib.frozen_of_heap x1 8
  have sx : (w1.setCell ⟨w.heap.size + 1 + 1, 5, none⟩ (.slice va l.length vc)).heap[w.heap.size + 1]? = some (Obj.cells #[.int .i64 0, .int .i64 0, .int .i64 0, .int .i64 0, .string ⟨#[]⟩, .slice none 0 0, .int .i64 0, .int .i64 0, .bool false] 42) := (Below.heap_setCell _ _ _ _ (by simp)).trans x1
  have sB := hB1.setCell (p := ⟨w.heap.size + 1 + 1, 5, none⟩) (by simp only; omega) (.slice va l.length vc)
  have hx9 := set9g (v0 := .int .i64 (1 + kk)) (v1 := .int .i64 1) (v2 := .int .i64 2) (v3 := .int .i64 0) (v4 := .string ⟨#[]⟩) (v5 := .slice va l.length vc) (v6 := .int .i64 0) (v7 := .int .i64 0) (v8 := .bool false) sx
  have hq0 := sB.setCell (p := ⟨w.heap.size + 1, 0, none⟩) (by simp only; omega) (.int .i64 (1 + kk))
  have hq1 := hq0.setCell (p := ⟨w.heap.size + 1, 1, none⟩) (by simp only; omega) (.int .i64 1)
  have hq2 := hq1.setCell (p := ⟨w.heap.size + 1, 2, none⟩) (by simp only; omega) (.int .i64 2)
  have hq3 := hq2.setCell (p := ⟨w.heap.size + 1, 3, none⟩) (by simp only; omega) (.int .i64 0)
  have hq4 := hq3.setCell (p := ⟨w.heap.size + 1, 4, none⟩) (by simp only; omega) (.string ⟨#[]⟩)
  have hq5 := hq4.setCell (p := ⟨w.heap.size + 1, 5, none⟩) (by simp only; omega) (.slice va l.length vc)
  have hq6 := hq5.setCell (p := ⟨w.heap.size + 1, 6, none⟩) (by simp only; omega) (.int .i64 0)
  have hq7 := hq6.setCell (p := ⟨w.heap.size + 1, 7, none⟩) (by simp only; omega) (.int .i64 0)
  have hq8 := hq7.setCell (p := ⟨w.heap.size + 1, 8, none⟩) (by simp only; omega) (.bool false)
  obtain ⟨w9, hw9⟩ : ∃ w9, ((((((((((w1.setCell ⟨w.heap.size + 1 + 1, 5, none⟩ (.slice va l.length vc)).setCell ⟨w.heap.size + 1, 0, none⟩ (.int .i64 (1 + kk))).setCell ⟨w.heap.size + 1, 1, none⟩ (.int .i64 1)).setCell ⟨w.heap.size + 1, 2, none⟩ (.int .i64 2)).setCell ⟨w.heap.size + 1, 3, none⟩ (.int .i64 0)).setCell ⟨w.heap.size + 1, 4, none⟩ (.string ⟨#[]⟩)).setCell ⟨w.heap.size + 1, 5, none⟩ (.slice va l.length vc)).setCell ⟨w.heap.size + 1, 6, none⟩ (.int .i64 0)).setCell ⟨w.heap.size + 1, 7, none⟩ (.int .i64 0)).setCell ⟨w.heap.size + 1, 8, none⟩ (.bool false)) = w9 := ⟨_, rfl⟩
  have HRg : Hid (Rng w9 va l.length vc l) := by
    show Rng _ _ _ _ _
    rw [← hw9]
    refine rng_set ?_ _ _ _ HRb.out
    refine rng_set ?_ _ _ _ HRb.out
    refine rng_set ?_ _ _ _ HRb.out
    refine rng_set ?_ _ _ _ HRb.out
    refine rng_set ?_ _ _ _ HRb.out
    refine rng_set ?_ _ _ _ HRb.out
    refine rng_set ?_ _ _ _ HRb.out
    refine rng_set ?_ _ _ _ HRb.out
    refine rng_set ?_ _ _ _ HRb.out
    refine rng_set ?_ _ _ _ HRc.out
    exact HR1.out
  rw [hw9] at hx9 hq8
  have r0 : w9.cell? ⟨w.heap.size + 1, 0, none⟩ = some (.int .i64 (1 + kk)) := by rw [Lib.cell_of_heap hx9]; rfl
  have r1 : w9.cell? ⟨w.heap.size + 1, 1, none⟩ = some (.int .i64 1) := by rw [Lib.cell_of_heap hx9]; rfl
  have r2 : w9.cell? ⟨w.heap.size + 1, 2, none⟩ = some (.int .i64 2) := by rw [Lib.cell_of_heap hx9]; rfl
  have r3 : w9.cell? ⟨w.heap.size + 1, 3, none⟩ = some (.int .i64 0) := by rw [Lib.cell_of_heap hx9]; rfl
  have r4 : w9.cell? ⟨w.heap.size + 1, 4, none⟩ = some (.string ⟨#[]⟩) := by rw [Lib.cell_of_heap hx9]; rfl
  have r5 : w9.cell? ⟨w.heap.size + 1, 5, none⟩ = some (.slice va l.length vc) := by rw [Lib.cell_of_heap hx9]; rfl
  have r6 : w9.cell? ⟨w.heap.size + 1, 6, none⟩ = some (.int .i64 0) := by rw [Lib.cell_of_heap hx9]; rfl
  have r7 : w9.cell? ⟨w.heap.size + 1, 7, none⟩ = some (.int .i64 0) := by rw [Lib.cell_of_heap hx9]; rfl
  have r8 : w9.cell? ⟨w.heap.size + 1, 8, none⟩ = some (.bool false) := by rw [Lib.cell_of_heap hx9]; rfl
  clear hq7 hq6 hq5 hq4 hq3 hq2 hq1 hq0 sx sB
  go_wp2_with fail
  try rw [hw9]
  refine bodyPost_ret (v := .agg #[.int .i64 (1 + kk), .int .i64 1, .int .i64 2, .int .i64 0, .string ⟨#[]⟩, .slice va l.length vc, .int .i64 0, .int .i64 0, .bool false]) (by simp [results, Tryz.results8, go_sem, r0, r1, r2, r3, r4, r5, r6, r7, r8]) rfl ⟨va, l.length, vc, l, rfl, HRg.out, (fun g off ha => by have := HAt.out g off ha; omega), HN.out.1, HN.out.2.1, HN.out.2.2, hle, hq8⟩
set_option maxHeartbeats 4000000 in
theorem right_show {dk dp : Int} {ta pa : Option Addr} {tn_ tcap pn pcap : Nat} {zs : List Int} {w : World} (hPt : Rw int1 1 w pa pn pcap zs) (t : Nat) (ht0 : 0 < t) (ht : t ≤ 30000) (k : Int) (hk : dk % 3 = 2) (hpn : 0 < pn) :
    Calls Tryz.prog 8 #[deedV dk dp (.slice ta tn_ tcap) (.slice pa pn pcap), .int .i64 (t : Int), .int .i64 k] w fun e w' => ∃ a m cap l, e = .returned (opVal ⟨1 + k % 8, 1, 3, 0, ⟨#[]⟩, l, 0, 0, false⟩ (.slice a m cap)) ∧ Rng w' a m cap l ∧ (∀ g off, a = some ⟨g, off, none⟩ → w.heap.size ≤ g) ∧ Sp.Norm (-1) l ∧ (∀ r ∈ l, r.2 ≤ (t : Int)) ∧ l ≠ [] ∧ l.length ≤ t ∧ Below w.heap.size w w' := by
  have b0 := Int.emod_nonneg k (show (8 : Int) ≠ 0 by decide)
  have b1 := Int.emod_lt_of_pos k (show (0 : Int) < 8 by decide)
  have H1 : Hid (∀ w : World, Calls Tryz.prog 24 #[.int .i64 k, .int .i64 8] w fun e w' => e = .returned (.int .i64 (k % 8)) ∧ w' = w) := pick_any k 8 (by decide) (by decide)
  have H2 : Hid (∀ w : World, Calls Tryz.prog 24 #[.int .i64 dk, .int .i64 3] w fun e w' => e = .returned (.int .i64 2) ∧ w' = w) := hk ▸ pick_any dk 3 (by decide) (by decide)
  have HL : Hid (∀ w' : World, Below w.heap.size w w' → Calls Tryz.prog 26 #[.slice pa pn pcap, .int .i64 (t : Int)] w' fun e w'' => ∃ v l, e = .returned v ∧ OwnF rngV 2 105 w'' w'.heap.size v l ∧ Sp.Norm (-1) l ∧ (∀ r ∈ l, r.2 ≤ (t : Int)) ∧ (0 < pn → l ≠ []) ∧ l.length ≤ t ∧ Below w'.heap.size w' w'') := fun w' hb => chosenP_any (hPt.below hb) ht0 (by omega)
  have t3 : ((t : Int) == 0) = false := beq_eq_false_iff_ne.2 (by omega)
  have t5 : ((pn : Int) == 0) = false := beq_eq_false_iff_ne.2 (by omega)
  have HPN : Hid (0 < pn) := hpn
  clear hPt hk hpn ht0
  generalize k % 8 = kk at *
  simp only [deedV, opVal]
  go_enter Tryz.func8, Tryz.ntmps8
  go_wp2_with fail
  refine (H1.out _).mono ?_
  rintro e w1 ⟨rfl, hw1⟩
  subst hw1
  go_wp2_with fail
  refine (H2.out _).mono ?_
  rintro e w1 ⟨rfl, hw1⟩
  subst hw1
  go_wp2_with fail
  have hX : Below w.heap.size w (((w.alloc (Obj.cells #[.int .i64 dk, .int .i64 dp, .slice ta tn_ tcap, .slice pa pn pcap] 47)).alloc (Obj.cells #[.int .i64 0, .int .i64 0, .int .i64 0, .int .i64 0, .string ⟨#[]⟩, .slice none 0 0, .int .i64 0, .int .i64 0, .bool false] 42)).alloc (Obj.cells #[.int .i64 (1 + kk), .int .i64 1, .int .i64 3, .int .i64 0, .string ⟨#[]⟩, .slice none 0 0, .int .i64 0, .int .i64 0, .bool false] 42)) := (((Below.refl w.heap.size w).alloc (Nat.le_refl _) _).alloc (by simp) _).alloc (by simp; omega) _
  have x0 : (((w.alloc (Obj.cells #[.int .i64 dk, .int .i64 dp, .slice ta tn_ tcap, .slice pa pn pcap] 47)).alloc (Obj.cells #[.int .i64 0, .int .i64 0, .int .i64 0, .int .i64 0, .string ⟨#[]⟩, .slice none 0 0, .int .i64 0, .int .i64 0, .bool false] 42)).alloc (Obj.cells #[.int .i64 (1 + kk), .int .i64 1, .int .i64 3, .int .i64 0, .string ⟨#[]⟩, .slice none 0 0, .int .i64 0, .int .i64 0, .bool false] 42)).heap[w.heap.size + 1]? = some (Obj.cells #[.int .i64 0, .int .i64 0, .int .i64 0, .int .i64 0, .string ⟨#[]⟩, .slice none 0 0, .int .i64 0, .int .i64 0, .bool false] 42) := (Below.heap_alloc _ _ _ (by simp)).trans (alloc_last _ _ _ (by simp))
  have y0 : (((w.alloc (Obj.cells #[.int .i64 dk, .int .i64 dp, .slice ta tn_ tcap, .slice pa pn pcap] 47)).alloc (Obj.cells #[.int .i64 0, .int .i64 0, .int .i64 0, .int .i64 0, .string ⟨#[]⟩, .slice none 0 0, .int .i64 0, .int .i64 0, .bool false] 42)).alloc (Obj.cells #[.int .i64 (1 + kk), .int .i64 1, .int .i64 3, .int .i64 0, .string ⟨#[]⟩, .slice none 0 0, .int .i64 0, .int .i64 0, .bool false] 42)).heap[w.heap.size + 1 + 1]? = some (Obj.cells #[.int .i64 (1 + kk), .int .i64 1, .int .i64 3, .int .i64 0, .string ⟨#[]⟩, .slice none 0 0, .int .i64 0, .int .i64 0, .bool false] 42) := alloc_last _ _ _ (by simp)
  have hXs : (((w.alloc (Obj.cells #[.int .i64 dk, .int .i64 dp, .slice ta tn_ tcap, .slice pa pn pcap] 47)).alloc (Obj.cells #[.int .i64 0, .int .i64 0, .int .i64 0, .int .i64 0, .string ⟨#[]⟩, .slice none 0 0, .int .i64 0, .int .i64 0, .bool false] 42)).alloc (Obj.cells #[.int .i64 (1 + kk), .int .i64 1, .int .i64 3, .int .i64 0, .string ⟨#[]⟩, .slice none 0 0, .int .i64 0, .int .i64 0, .bool false] 42)).heap.size = w.heap.size + 3 := by simp
  refine (HL.out _ hX).mono ?_
  rintro e w1 ⟨v, l, rfl, hown, hno, htop, hne, hle, hb1⟩
  have hB1 := hX.trans (hb1.mono hX.size)
  have x1 := (hb1.block _ (Array.getElem?_eq_some_iff.1 x0).1).trans x0
  have y1 := (hb1.block _ (Array.getElem?_eq_some_iff.1 y0).1).trans y0
  obtain ⟨va, vc, rfl⟩ := hown.shape
  have HR1 : Hid (Rng w1 va l.length vc l) := rng_of_rw (hown.rw_ layRo)
  have HAt : Hid (∀ g off, va = some ⟨g, off, none⟩ → w.heap.size + 3 ≤ g) := fun g off ha => by have := ownF_at hown g off ha; rw [hXs] at this; exact this
  have HRb : Hid (∀ g off, va = some ⟨g, off, none⟩ → 0 < l.length → g ≠ w.heap.size + 1) := fun g off ha _ => by have := HAt.out g off ha; omega
  have HRc : Hid (∀ g off, va = some ⟨g, off, none⟩ → 0 < l.length → g ≠ w.heap.size + 1 + 1) := fun g off ha _ => by have := HAt.out g off ha; omega
  have HN : Hid (Sp.Norm (-1) l ∧ (∀ r ∈ l, r.2 ≤ (t : Int)) ∧ l ≠ []) := ⟨hno, htop, hne HPN.out⟩
  clear hX x0 y0 hb1 hown hno htop hne hXs
  have f0 : w1.cell? ⟨w.heap.size + 1 + 1, 0, none⟩ = some (.int .i64 (1 + kk)) := by rw [Lib.cell_of_heap y1]; rfl
  have f1 : w1.cell? ⟨w.heap.size + 1 + 1, 1, none⟩ = some (.int .i64 1) := by rw [Lib.cell_of_heap y1]; rfl
  have f2 : w1.cell? ⟨w.heap.size + 1 + 1, 2, none⟩ = some (.int .i64 3) := by rw [Lib.cell_of_heap y1]; rfl
  have f3 : w1.cell? ⟨w.heap.size + 1 + 1, 3, none⟩ = some (.int .i64 0) := by rw [Lib.cell_of_heap y1]; rfl
  have f4 : w1.cell? ⟨w.heap.size + 1 + 1, 4, none⟩ = some (.string ⟨#[]⟩) := by rw [Lib.cell_of_heap y1]; rfl
  have f5 : w1.cell? ⟨w.heap.size + 1 + 1, 5, none⟩ = some (.slice none 0 0) := by rw [Lib.cell_of_heap y1]; rfl
  have f6 : w1.cell? ⟨w.heap.size + 1 + 1, 6, none⟩ = some (.int .i64 0) := by rw [Lib.cell_of_heap y1]; rfl
  have f7 : w1.cell? ⟨w.heap.size + 1 + 1, 7, none⟩ = some (.int .i64 0) := by rw [Lib.cell_of_heap y1]; rfl
  have f8 : w1.cell? ⟨w.heap.size + 1 + 1, 8, none⟩ = some (.bool false) := by rw [Lib.cell_of_heap y1]; rfl
  have z5 : w1.frozen? ⟨w.heap.size + 1 + 1, 5, none⟩ = false := Lib.frozen_of_heap y1 5
  have d0_ : w1.cell? ⟨w.heap.size + 1, 0, none⟩ = some (.int .i64 0) := by rw [Lib.cell_of_heap x1]; rfl
  have z10 : w1.frozen? ⟨w.heap.size + 1, 0, none⟩ = false := Lib.frozen_of_heap x1 0
  have d1_ : w1.cell? ⟨w.heap.size + 1, 1, none⟩ = some (.int .i64 0) := by rw [Lib.cell_of_heap x1]; rfl
  have z11 : w1.frozen? ⟨w.heap.size + 1, 1, none⟩ = false := Lib.frozen_of_heap x1 1
  have d2_ : w1.cell? ⟨w.heap.size + 1, 2, none⟩ = some (.int .i64 0) := by rw [Lib.cell_of_heap x1]; rfl
  have z12 : w1.frozen? ⟨w.heap.size + 1, 2, none⟩ = false := Lib.frozen_of_heap x1 2
  have d3_ : w1.cell? ⟨w.heap.size + 1, 3, none⟩ = some (.int .i64 0) := by rw [Lib.cell_of_heap x1]; rfl
  have z13 : w1.frozen? ⟨w.heap.size + 1, 3, none⟩ = false := Lib.frozen_of_heap x1 3
  have d4_ : w1.cell? ⟨w.heap.size + 1, 4, none⟩ = some (.string ⟨#[]⟩) := by rw [Lib.cell_of_heap x1]; rfl
  have z14 : w1.frozen? ⟨w.heap.size + 1, 4, none⟩ = false := Lib.frozen_of_heap x1 4
  have d5_ : w1.cell? ⟨w.heap.size + 1, 5, none⟩ = some (.slice none 0 0) := by rw [Lib.cell_of_heap x1]; rfl
  have z15 : w1.frozen? ⟨w.heap.size + 1, 5, none⟩ = false := Lib.frozen_of_heap x1 5
  have d6_ : w1.cell? ⟨w.heap.size + 1, 6, none⟩ = some (.int .i64 0) := by rw [Lib.cell_of_heap x1]; rfl
  have z16 : w1.frozen? ⟨w.heap.size + 1, 6, none⟩ = false := Lib.frozen_of_heap x1 6
  have d7_ : w1.cell? ⟨w.heap.size + 1, 7, none⟩ = some (.int .i64 0) := by rw [Lib.cell_of_heap x1]; rfl
  have z17 : w1.frozen? ⟨w.heap.size + 1, 7, none⟩ = false := Lib.frozen_of_heap x1 7
  have d8_ : w1.cell? ⟨w.heap.size + 1, 8, none⟩ = some (.bool false) := by rw [Lib.cell_of_heap x1]; rfl
  have z18 : w1.frozen? ⟨w.heap.size + 1, 8, none⟩ = false := Lib.frozen_of_heap x1 8
  have sx : (w1.setCell ⟨w.heap.size + 1 + 1, 5, none⟩ (.slice va l.length vc)).heap[w.heap.size + 1]? = some (Obj.cells #[.int .i64 0, .int .i64 0, .int .i64 0, .int .i64 0, .string ⟨#[]⟩, .slice none 0 0, .int .i64 0, .int .i64 0, .bool false] 42) := (Below.heap_setCell _ _ _ _ (by simp)).trans x1
  have sB := hB1.setCell (p := ⟨w.heap.size + 1 + 1, 5, none⟩) (by simp only; omega) (.slice va l.length vc)
  have hx9 := set9g (v0 := .int .i64 (1 + kk)) (v1 := .int .i64 1) (v2 := .int .i64 3) (v3 := .int .i64 0) (v4 := .string ⟨#[]⟩) (v5 := .slice va l.length vc) (v6 := .int .i64 0) (v7 := .int .i64 0) (v8 := .bool false) sx
  have hq0 := sB.setCell (p := ⟨w.heap.size + 1, 0, none⟩) (by simp only; omega) (.int .i64 (1 + kk))
  have hq1 := hq0.setCell (p := ⟨w.heap.size + 1, 1, none⟩) (by simp only; omega) (.int .i64 1)
  have hq2 := hq1.setCell (p := ⟨w.heap.size + 1, 2, none⟩) (by simp only; omega) (.int .i64 3)
  have hq3 := hq2.setCell (p := ⟨w.heap.size + 1, 3, none⟩) (by simp only; omega) (.int .i64 0)
  have hq4 := hq3.setCell (p := ⟨w.heap.size + 1, 4, none⟩) (by simp only; omega) (.string ⟨#[]⟩)
  have hq5 := hq4.setCell (p := ⟨w.heap.size + 1, 5, none⟩) (by simp only; omega) (.slice va l.length vc)
  have hq6 := hq5.setCell (p := ⟨w.heap.size + 1, 6, none⟩) (by simp only; omega) (.int .i64 0)
  have hq7 := hq6.setCell (p := ⟨w.heap.size + 1, 7, none⟩) (by simp only; omega) (.int .i64 0)
  have hq8 := hq7.setCell (p := ⟨w.heap.size + 1, 8, none⟩) (by simp only; omega) (.bool false)
  obtain ⟨w9, hw9⟩ : ∃ w9, ((((((((((w1.setCell ⟨w.heap.size + 1 + 1, 5, none⟩ (.slice va l.length vc)).setCell ⟨w.heap.size + 1, 0, none⟩ (.int .i64 (1 + kk))).setCell ⟨w.heap.size + 1, 1, none⟩ (.int .i64 1)).setCell ⟨w.heap.size + 1, 2, none⟩ (.int .i64 3)).setCell ⟨w.heap.size + 1, 3, none⟩ (.int .i64 0)).setCell ⟨w.heap.size + 1, 4, none⟩ (.string ⟨#[]⟩)).setCell ⟨w.heap.size + 1, 5, none⟩ (.slice va l.length vc)).setCell ⟨w.heap.size + 1, 6, none⟩ (.int .i64 0)).setCell ⟨w.heap.size + 1, 7, none⟩ (.int .i64 0)).setCell ⟨w.heap.size + 1, 8, none⟩ (.bool false)) = w9 := ⟨_, rfl⟩
  have HRg : Hid (Rng w9 va l.length vc l) := by
    show Rng _ _ _ _ _
    rw [← hw9]
    refine rng_set ?_ _ _ _ HRb.out
    refine rng_set ?_ _ _ _ HRb.out
    refine rng_set ?_ _ _ _ HRb.out
    refine rng_set ?_ _ _ _ HRb.out
    refine rng_set ?_ _ _ _ HRb.out
    refine rng_set ?_ _ _ _ HRb.out
    refine rng_set ?_ _ _ _ HRb.out
    refine rng_set ?_ _ _ _ HRb.out
    refine rng_set ?_ _ _ _ HRb.out
    refine rng_set ?_ _ _ _ HRc.out
    exact HR1.out
  rw [hw9] at hx9 hq8
  have r0 : w9.cell? ⟨w.heap.size + 1, 0, none⟩ = some (.int .i64 (1 + kk)) := by rw [Lib.cell_of_heap hx9]; rfl
  have r1 : w9.cell? ⟨w.heap.size + 1, 1, none⟩ = some (.int .i64 1) := by rw [Lib.cell_of_heap hx9]; rfl
  have r2 : w9.cell? ⟨w.heap.size + 1, 2, none⟩ = some (.int .i64 3) := by rw [Lib.cell_of_heap hx9]; rfl
  have r3 : w9.cell? ⟨w.heap.size + 1, 3, none⟩ = some (.int .i64 0) := by rw [Lib.cell_of_heap hx9]; rfl
  have r4 : w9.cell? ⟨w.heap.size + 1, 4, none⟩ = some (.string ⟨#[]⟩) := by rw [Lib.cell_of_heap hx9]; rfl
  have r5 : w9.cell? ⟨w.heap.size + 1, 5, none⟩ = some (.slice va l.length vc) := by rw [Lib.cell_of_heap hx9]; rfl
  have r6 : w9.cell? ⟨w.heap.size + 1, 6, none⟩ = some (.int .i64 0) := by rw [Lib.cell_of_heap hx9]; rfl
  have r7 : w9.cell? ⟨w.heap.size + 1, 7, none⟩ = some (.int .i64 0) := by rw [Lib.cell_of_heap hx9]; rfl
  have r8 : w9.cell? ⟨w.heap.size + 1, 8, none⟩ = some (.bool false) := by rw [Lib.cell_of_heap hx9]; rfl
  clear hq7 hq6 hq5 hq4 hq3 hq2 hq1 hq0 sx sB
  go_wp2_with fail
  try rw [hw9]
  refine bodyPost_ret (v := .agg #[.int .i64 (1 + kk), .int .i64 1, .int .i64 3, .int .i64 0, .string ⟨#[]⟩, .slice va l.length vc, .int .i64 0, .int .i64 0, .bool false]) (by simp [results, Tryz.results8, go_sem, r0, r1, r2, r3, r4, r5, r6, r7, r8]) rfl ⟨va, l.length, vc, l, rfl, HRg.out, (fun g off ha => by have := HAt.out g off ha; omega), HN.out.1, HN.out.2.1, HN.out.2.2, hle, hq8⟩
end Go.Proofs.YtggdocnnbgcniaaGreatDoor
