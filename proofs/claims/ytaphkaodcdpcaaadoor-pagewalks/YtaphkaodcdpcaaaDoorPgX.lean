import Derived.Test.YtaphkaodcdpcaaaDoorPgW
import Derived.Test.YtaphkaodcdpcaaaDoorPgU
/-! PageWalks. -/
namespace Go.Proofs.YtaphkaodcdpcaaaDoor
open Go.RowKit Go.Lib Go.Shelf
set_option maxRecDepth 100000

/-- In which row a caret stands that goes down n rows and up again. -/
def posW (row n i : Nat) : Nat := if i ≤ n then row + i else row + 2 * n - i
structure WInv (rs : List Int) (W row n col at_ i q : Nat) (wv : Int) : Prop where
  row_ : ∃ lo hi hard, (rowsP rs W)[posW row n i]? = some ⟨lo, hi, hard⟩ ∧ lo ≤ q ∧ q ≤ lastP hi hard ∧ (0 < i → FindP rs lo hi hard (col : Int) q)
  first : i = 0 → q = at_ ∧ wv = -1
  wish : 0 < i → wv = (col : Int)
section
variable {rs : List Int} {W row n at_ i q : Nat} {wv : Int} {lo0 hi0 : Nat} {hard0 : Bool}
theorem Stands.same {r1 r2 lo1 hi1 lo2 hi2 : Nat} {d1 d2 : Bool} (h1 : Stands rs W at_ r1 lo1 hi1 d1) (h2 : Stands rs W at_ r2 lo2 hi2 d2) : r1 = r2 ∧ lo1 = lo2 ∧ hi1 = hi2 ∧ d1 = d2 := by
  obtain rfl := h1.unique h2
  have := h1.get
  rw [h2.get] at this
  simp only [Option.some.injEq, Rv.mk.injEq] at this
  obtain ⟨rfl, rfl, rfl⟩ := this
  exact ⟨rfl, rfl, rfl, rfl⟩
theorem WInv.col_ {c : Int} (h : WInv rs W row n (wd rs lo0 at_) at_ i q wv) (hst : Stands rs W at_ row lo0 hi0 hard0) (hw : WishP rs W q wv c) : c = (wd rs lo0 at_ : Nat) := by
  rcases Nat.eq_zero_or_pos i with h0 | h0
  · obtain ⟨rfl, rfl⟩ := h.first h0
    rcases hw with ⟨_, k, rfl, r, lo, hi, hard, h1, rfl⟩ | ⟨h1, _⟩
    · obtain ⟨_, rfl, _, _⟩ := hst.same h1
      rfl
    · omega
  · have hwv := h.wish h0
    rcases hw with ⟨h1, _⟩ | ⟨_, h2⟩
    · omega
    · rw [h2, hwv]
theorem WInv.down {c : Int} {p : Nat} (h : WInv rs W row n (wd rs lo0 at_) at_ i q wv) (hst : Stands rs W at_ row lo0 hi0 hard0) (hi : i < n) (hk : row + n < (rowsP rs W).length) (hd : DownP rs W q wv p c) : c = (wd rs lo0 at_ : Nat) ∧ WInv rs W row n (wd rs lo0 at_) at_ (i + 1) p c := by
  obtain ⟨hw, r, lo, hi', hard, hs, hor⟩ := hd
  have hc := h.col_ hst hw
  obtain ⟨lo1, hi1, hard1, g1, g2, g3, _⟩ := h.row_
  obtain ⟨rfl, -, -, -⟩ := hs.same (Stands.of g1 g2 g3)
  have e : posW row n i = row + i := by unfold posW; rw [if_pos (by omega)]
  have e2 : posW row n (i + 1) = posW row n i + 1 := by unfold posW; rw [if_pos (by omega), if_pos (by omega)]; omega
  refine ⟨hc, ?_, fun h0 => (by omega), fun _ => hc⟩
  rcases hor with ⟨h1, _⟩ | ⟨lo2, hi2, hard2, h1, h2⟩
  · rw [List.getElem?_eq_none_iff] at h1
    omega
  · rw [e2]
    exact ⟨lo2, hi2, hard2, h1, h2.ge, h2.last, fun _ => by rw [← hc]; exact h2⟩
theorem WInv.up {c : Int} {p : Nat} (h : WInv rs W row n (wd rs lo0 at_) at_ i q wv) (hst : Stands rs W at_ row lo0 hi0 hard0) (hi : n ≤ i) (hi2 : i < 2 * n) (hd : UpP rs W q wv p c) : c = (wd rs lo0 at_ : Nat) ∧ WInv rs W row n (wd rs lo0 at_) at_ (i + 1) p c := by
  obtain ⟨hw, r, lo, hi', hard, hs, hor⟩ := hd
  have hc := h.col_ hst hw
  obtain ⟨lo1, hi1, hard1, g1, g2, g3, _⟩ := h.row_
  obtain ⟨rfl, -, -, -⟩ := hs.same (Stands.of g1 g2 g3)
  have e : posW row n i = row + 2 * n - i := by
    unfold posW
    split <;> omega
  have e2 : posW row n (i + 1) = posW row n i - 1 := by
    rw [e]
    unfold posW
    rw [if_neg (by omega)]
    omega
  refine ⟨hc, ?_, fun h0 => (by omega), fun _ => hc⟩
  rcases hor with ⟨h1, _⟩ | ⟨_, lo2, hi2', hard2, h1, h2⟩
  · omega
  · rw [e2]
    exact ⟨lo2, hi2', hard2, h1, h2.ge, h2.last, fun _ => by rw [← hc]; exact h2⟩
theorem WInv.ends (h : WInv rs W row n (wd rs lo0 at_) at_ (2 * n) q wv) (hst : Stands rs W at_ row lo0 hi0 hard0) (hat : at_ ≤ rs.length) {r c : Nat} (hs : SpotP rs W q r c) : r = row ∧ c = wd rs lo0 at_ := by
  obtain ⟨lo, hi, hard, hs, rfl⟩ := hs
  obtain ⟨lo1, hi1, hard1, g1, g2, g3, g4⟩ := h.row_
  have e : posW row n (2 * n) = row := by
    unfold posW
    split <;> omega
  rw [e] at g1
  obtain ⟨rfl, rfl, rfl, rfl⟩ := hs.same (Stands.of g1 g2 g3)
  have hg := hst.get
  rw [g1] at hg
  simp only [Option.some.injEq, Rv.mk.injEq] at hg
  obtain ⟨rfl, rfl, rfl⟩ := hg
  refine ⟨rfl, ?_⟩
  rcases Nat.eq_zero_or_pos n with h0 | h0
  · rw [(h.first (by omega)).1]
  · exact ((g4 (by omega)).back hst.le (hst.last hat)).2
theorem WInv.bound (h : WInv rs W row n (wd rs lo0 at_) at_ i q wv) : q ≤ rs.length := by
  obtain ⟨lo1, hi1, hard1, g1, g2, g3, g4⟩ := h.row_
  have := (rowP_ok g1).2.1
  have : lastP hi1 hard1 ≤ hi1 := by unfold lastP; split <;> omega
  omega
theorem up_home {c : Int} {u : Nat} (hst : Stands rs W at_ row lo0 hi0 hard0) (hd : UpP rs W lo0 (-1) u c) : c = 0 ∧ u ≤ rs.length ∧ ((row = 0 ∧ u = 0) ∨ (0 < row ∧ ∀ r2 c2, SpotP rs W u r2 c2 → r2 + 1 = row)) := by
  obtain ⟨hw, r, lo, hi, hard, hs, hor⟩ := hd
  have hh : Stands rs W lo0 row lo0 hi0 hard0 := Stands.of hst.get (Nat.le_refl _) (rowP_ok hst.get).2.2.2
  obtain ⟨rfl, -, -, -⟩ := hs.same hh
  refine ⟨?_, ?_⟩
  · rcases hw with ⟨_, k, rfl, r', lo', hi', hard', h1, rfl⟩ | ⟨h1, _⟩
    · obtain ⟨_, rfl, _, _⟩ := hh.same h1
      rw [wd_self]
      rfl
    · omega
  · rcases hor with ⟨h1, h2⟩ | ⟨h1, lo', hi', hard', h2, h3⟩
    · exact ⟨by omega, .inl ⟨h1, h2⟩⟩
    · have h4 := (rowP_ok h2).2.1
      have h5 := h3.last
      have h6 : lastP hi' hard' ≤ hi' := by unfold lastP; split <;> omega
      refine ⟨by omega, .inr ⟨h1, fun r2 c2 hsp => ?_⟩⟩
      obtain ⟨lo2, hi2, hard2, hs2, _⟩ := hsp
      obtain ⟨rfl, -, -, -⟩ := hs2.same (Stands.of h2 h3.ge h3.last)
      omega
end
set_option maxHeartbeats 32000000 in
theorem pageWalks_any {w : World} {a : Option Addr} {n cap : Nat} {l : List Int} (h : Rw int1 1 w a n cap l) (wide place times : Int) (hP : PTab w) (hG : Glob w.heap.size) (hWl : Wlk w) :
    Calls Tryd.prog 5 #[.slice a n cap, .int .i64 wide, .int .i64 place, .int .i64 times] w fun e w' => e = .returned (.bool true) ∧ Below w.heap.size w w' := by
  have HWl : Hid (Wlk w) := hWl
  clear hWl
  have HMa := made_any h
  have HT : Hid (PTab w ∧ Glob w.heap.size) := ⟨hP, hG⟩
  have hok := madeR_ok l
  have hml := madeR_len l
  have HRe : Hid (∀ V, Calls Tryd.prog 9 #[.int .i64 wide, .int .i64 40] V fun e w' => e = .returned (.int .i64 (wide % 40)) ∧ w' = V) := fun V => rest_any wide 40 (by decide) (by decide) V
  have hw0 : 0 ≤ wide % 40 := Int.emod_nonneg _ (by decide)
  have hw1 : wide % 40 < 40 := Int.emod_lt_of_pos _ (by decide)
  obtain ⟨W, hW⟩ : ∃ W : Nat, 1 + wide % 40 = (W : Int) := ⟨(1 + wide % 40).toNat, by omega⟩
  have hWb : 1 ≤ W ∧ W ≤ 40 := by omega
  generalize wide % 40 = wi at *
  generalize madeR l = rs at *
  clear h hP hG
  go_enter Tryd.func5, Tryd.ntmps5
  go_wp2_with fail
  refine HMa.mono ?_
  rintro e w1 ⟨v, rfl, ho1, hb1⟩
  obtain ⟨sa, caps, ev⟩ := ho1.shape
  obtain ⟨m, hm⟩ : ∃ m, rs.length = m := ⟨_, rfl⟩
  rw [hm] at ev hml
  subst ev
  have hR1 := ho1.rw_ layRu
  have HLd := laid_any hR1 hok (by omega) W ⟨by omega, by omega⟩ (HT.out.1.below hb1) (HT.out.2.mono hb1.size)
  have HB1 : Hid (Below w.heap.size w w1) := hb1
  clear HMa ho1 hb1
  go_wp2_with fail
  refine (HRe.out _).mono ?_
  rintro e w' ⟨rfl, hwe⟩
  obtain rfl := hwe.symm
  clear hwe HRe
  have hWw : IntKind.i64.wrap (1 + wi) = (W : Int) := by rw [hW]; exact IntWalk.i64_in _ (by omega)
  go_wp2_with fail
  refine HLd.mono ?_
  rintro e w2 ⟨v2, rfl, ho2, hb2⟩
  obtain ⟨al, capl, ev⟩ := ho2.shape
  obtain ⟨k, hk⟩ : ∃ k, (rowsP rs W).length = k := ⟨_, rfl⟩
  rw [rowsL_len, hk] at ev
  subst ev
  have hR2 := ho2.rw_ layL4
  have hfw := rowsP_few rs W
  have hne : (rowsP rs W).length ≠ 0 := fun e => rowsP_ne rs W (List.length_eq_zero_iff.1 e)
  rw [hk] at hfw hne
  rw [hm] at hfw
  have HB2 : Hid (Below w1.heap.size w1 w2) := hb2
  have HM : Hid (rs.length = m ∧ (rowsP rs W).length = k) := ⟨hm, hk⟩
  obtain ⟨S, hS⟩ : ∃ S, strOf rs = S := ⟨_, rfl⟩
  have HTx : Hid (IsText S rs) := by rw [← hS]; exact strOf_text hok
  have hWW : 1 ≤ W ∧ W ≤ 1024 := by omega
  have hrl : rs.length ≤ 4294967000 := by omega
  obtain ⟨g, off, x, eal, hg, -, -⟩ := hR2.at 0 (by omega)
  subst eal
  have HCv : Hid (∀ V, Below w2.heap.size w2 V → (convert 23 9 (.slice sa m caps)).run Tryd.prog V = .ok (.string S) V) := fun V hV => by rw [← hS]; exact conv_rw (hR1.below (HB2.out.trans (hV.mono HB2.out.size)))
  have HRow : Hid (∀ i, i < k → ∃ lo hi hard, (rowsP rs W)[i]? = some ⟨lo, hi, hard⟩ ∧ lo ≤ hi ∧ hi ≤ m ∧ ∀ V, Below w2.heap.size w2 V → V.cell? ⟨g, off + i * 4, none⟩ = some (.int .i64 (lo : Int)) ∧ V.cell? ⟨g, off + i * 4 + 1, none⟩ = some (.int .i64 (hi : Int)) ∧ V.cell? ⟨g, off + i * 4 + 3, none⟩ = some (.bool hard)) := fun i hi_ => by
    obtain ⟨lo, hi, hard, hI⟩ := rowI rs W (i := i) (by rw [hk]; exact hi_)
    obtain ⟨g', off', x, eal, hg', hx, hc⟩ := hR2.at i hi_
    simp only [Option.some.injEq, Addr.mk.injEq, and_true] at eal
    obtain ⟨rfl, rfl⟩ := eal
    rw [rowsL_get rs W hI.get] at hx
    obtain rfl := Option.some.inj hx
    exact ⟨lo, hi, hard, hI.get, hI.le, by have := hI.len; omega, fun V hV => ⟨(hV.cell (p := ⟨g, off + i * 4, none⟩) hg).trans (hc 0 _ rfl), (hV.cell (p := ⟨g, off + i * 4 + 1, none⟩) hg).trans (hc 1 _ rfl), (hV.cell (p := ⟨g, off + i * 4 + 3, none⟩) hg).trans (hc 3 _ rfl)⟩⟩
  have HTb : Hid (∀ V, Below w2.heap.size w2 V → PTab V ∧ Glob V.heap.size) := fun V hV => ⟨(HT.out.1.below HB1.out).below (HB2.out.trans (hV.mono HB2.out.size)), HT.out.2.mono (by have := HB1.out.size; have := HB2.out.size; have := hV.size; omega)⟩
  have HSp : Hid (∀ V, Below w2.heap.size w2 V → ∀ at', at' ≤ m → Calls Tryd.prog 13 #[.string S, .int .i64 (W : Int), .int .i64 (at' : Int)] V fun e w' => ∃ r c : Nat, e = .returned (.tuple #[.int .i64 (r : Int), .int .i64 (c : Int), .int .i64 0]) ∧ SpotP rs W at' r c ∧ Below V.heap.size V w') := fun V hV at' ha => Spot_ok HTx.out W hWW hrl (HTb.out V hV).1 (HTb.out V hV).2 at' (by rw [HM.out.1]; exact ha)
  have HWt : Hid (∀ V, Below w2.heap.size w2 V → Wlk V) := fun V hV => ((HWl.out.below HB1.out).below HB2.out).below hV
  have hsz : S.size ≤ 9223372036854775806 := by have := HTx.out.small; omega
  have hrl2 : rs.length ≤ 70368744177664 := by omega
  have HS1 : Hid (∀ at' : Nat, at' ≤ m → ∃ q : Nat, (∀ V, Below w2.heap.size w2 V → Calls Tryd.prog 15 #[.string S, .int .i64 (at' : Int), .int .i64 1] V fun e w' => e = .returned (.tuple #[.int .i64 (q : Int), .int .i64 0]) ∧ Below V.heap.size V w') ∧ ∀ V, Below w2.heap.size w2 V → Calls Tryd.prog 14 #[.string S, .int .i64 (W : Int), .int .i64 (at' : Int), .int .i64 3, .int .i64 1] V fun e w' => e = .returned (.tuple #[.int .i64 (q : Int), .int .i64 (-1), .int .i64 0]) ∧ Below V.heap.size V w') := fun at' ha => by
    have ha' : at' ≤ rs.length := by rw [HM.out.1]; exact ha
    obtain ⟨q, hq⟩ : ∃ q : Nat, ∀ V, Below w2.heap.size w2 V → Calls Tryd.prog 15 #[.string S, .int .i64 (at' : Int), .int .i64 1] V fun e w' => e = .returned (.tuple #[.int .i64 (q : Int), .int .i64 0]) ∧ Below V.heap.size V w' := ⟨_, fun V hV => step_left HTx.out hsz hrl2 at' ha' V ⟨(HTb.out V hV).1.bar⟩ (HWt.out V hV)⟩
    refine ⟨q, hq, fun V hV => ?_⟩
    refine (walk1_any HTx.out W hWW hrl (HTb.out V hV).1 (HTb.out V hV).2 at' ha' 3 (Q := fun p c => p = q ∧ c = -1) (fun a k cap V' hV' _ => ?_)).mono ?_
    · refine (wstep_any S rs.length a k cap at' 3 1 V' q (fun V2 h2 => hq V2 (hV.trans ((hV'.trans (h2.mono hV'.size)).mono hV.size)))).mono ?_
      rintro e w' ⟨rfl, hb⟩
      exact ⟨q, -1, rfl, ⟨rfl, rfl⟩, hb⟩
    · rintro e w' ⟨p, c, rfl, ⟨rfl, rfl⟩, hb⟩
      exact ⟨rfl, hb⟩
  have HS2 : Hid (∀ at' : Nat, at' ≤ m → ∃ q : Nat, (∀ V, Below w2.heap.size w2 V → Calls Tryd.prog 15 #[.string S, .int .i64 (at' : Int), .int .i64 2] V fun e w' => e = .returned (.tuple #[.int .i64 (q : Int), .int .i64 0]) ∧ Below V.heap.size V w') ∧ ∀ V, Below w2.heap.size w2 V → Calls Tryd.prog 14 #[.string S, .int .i64 (W : Int), .int .i64 (at' : Int), .int .i64 3, .int .i64 2] V fun e w' => e = .returned (.tuple #[.int .i64 (q : Int), .int .i64 (-1), .int .i64 0]) ∧ Below V.heap.size V w') := fun at' ha => by
    have ha' : at' ≤ rs.length := by rw [HM.out.1]; exact ha
    obtain ⟨q, hq⟩ : ∃ q : Nat, ∀ V, Below w2.heap.size w2 V → Calls Tryd.prog 15 #[.string S, .int .i64 (at' : Int), .int .i64 2] V fun e w' => e = .returned (.tuple #[.int .i64 (q : Int), .int .i64 0]) ∧ Below V.heap.size V w' := ⟨_, fun V hV => step_right HTx.out hsz hrl2 at' ha' V ⟨(HTb.out V hV).1.bar⟩ (HWt.out V hV)⟩
    refine ⟨q, hq, fun V hV => ?_⟩
    refine (walk2_any HTx.out W hWW hrl (HTb.out V hV).1 (HTb.out V hV).2 at' ha' 3 (Q := fun p c => p = q ∧ c = -1) (fun a k cap V' hV' _ => ?_)).mono ?_
    · refine (wstep_any S rs.length a k cap at' 3 2 V' q (fun V2 h2 => hq V2 (hV.trans ((hV'.trans (h2.mono hV'.size)).mono hV.size)))).mono ?_
      rintro e w' ⟨rfl, hb⟩
      exact ⟨q, -1, rfl, ⟨rfl, rfl⟩, hb⟩
    · rintro e w' ⟨p, c, rfl, ⟨rfl, rfl⟩, hb⟩
      exact ⟨rfl, hb⟩
  have HS7 : Hid (∀ at' : Nat, at' ≤ m → ∃ q : Nat, (∀ V, Below w2.heap.size w2 V → Calls Tryd.prog 15 #[.string S, .int .i64 (at' : Int), .int .i64 7] V fun e w' => e = .returned (.tuple #[.int .i64 (q : Int), .int .i64 0]) ∧ Below V.heap.size V w') ∧ ∀ V, Below w2.heap.size w2 V → Calls Tryd.prog 14 #[.string S, .int .i64 (W : Int), .int .i64 (at' : Int), .int .i64 3, .int .i64 7] V fun e w' => e = .returned (.tuple #[.int .i64 (q : Int), .int .i64 (-1), .int .i64 0]) ∧ Below V.heap.size V w') := fun at' ha => by
    have ha' : at' ≤ rs.length := by rw [HM.out.1]; exact ha
    obtain ⟨q, hq⟩ : ∃ q : Nat, ∀ V, Below w2.heap.size w2 V → Calls Tryd.prog 15 #[.string S, .int .i64 (at' : Int), .int .i64 7] V fun e w' => e = .returned (.tuple #[.int .i64 (q : Int), .int .i64 0]) ∧ Below V.heap.size V w' := ⟨_, fun V hV => step_wordLeft HTx.out hsz hrl2 at' ha' V ⟨(HTb.out V hV).1.bar⟩ (HWt.out V hV)⟩
    refine ⟨q, hq, fun V hV => ?_⟩
    refine (walk7_any HTx.out W hWW hrl (HTb.out V hV).1 (HTb.out V hV).2 at' ha' 3 (Q := fun p c => p = q ∧ c = -1) (fun a k cap V' hV' _ => ?_)).mono ?_
    · refine (wstep_any S rs.length a k cap at' 3 7 V' q (fun V2 h2 => hq V2 (hV.trans ((hV'.trans (h2.mono hV'.size)).mono hV.size)))).mono ?_
      rintro e w' ⟨rfl, hb⟩
      exact ⟨q, -1, rfl, ⟨rfl, rfl⟩, hb⟩
    · rintro e w' ⟨p, c, rfl, ⟨rfl, rfl⟩, hb⟩
      exact ⟨rfl, hb⟩
  have HS8 : Hid (∀ at' : Nat, at' ≤ m → ∃ q : Nat, (∀ V, Below w2.heap.size w2 V → Calls Tryd.prog 15 #[.string S, .int .i64 (at' : Int), .int .i64 8] V fun e w' => e = .returned (.tuple #[.int .i64 (q : Int), .int .i64 0]) ∧ Below V.heap.size V w') ∧ ∀ V, Below w2.heap.size w2 V → Calls Tryd.prog 14 #[.string S, .int .i64 (W : Int), .int .i64 (at' : Int), .int .i64 3, .int .i64 8] V fun e w' => e = .returned (.tuple #[.int .i64 (q : Int), .int .i64 (-1), .int .i64 0]) ∧ Below V.heap.size V w') := fun at' ha => by
    have ha' : at' ≤ rs.length := by rw [HM.out.1]; exact ha
    obtain ⟨q, hq⟩ : ∃ q : Nat, ∀ V, Below w2.heap.size w2 V → Calls Tryd.prog 15 #[.string S, .int .i64 (at' : Int), .int .i64 8] V fun e w' => e = .returned (.tuple #[.int .i64 (q : Int), .int .i64 0]) ∧ Below V.heap.size V w' := ⟨_, fun V hV => step_wordRight HTx.out hsz hrl2 at' ha' V ⟨(HTb.out V hV).1.bar⟩ (HWt.out V hV)⟩
    refine ⟨q, hq, fun V hV => ?_⟩
    refine (walk8_any HTx.out W hWW hrl (HTb.out V hV).1 (HTb.out V hV).2 at' ha' 3 (Q := fun p c => p = q ∧ c = -1) (fun a k cap V' hV' _ => ?_)).mono ?_
    · refine (wstep_any S rs.length a k cap at' 3 8 V' q (fun V2 h2 => hq V2 (hV.trans ((hV'.trans (h2.mono hV'.size)).mono hV.size)))).mono ?_
      rintro e w' ⟨rfl, hb⟩
      exact ⟨q, -1, rfl, ⟨rfl, rfl⟩, hb⟩
    · rintro e w' ⟨p, c, rfl, ⟨rfl, rfl⟩, hb⟩
      exact ⟨rfl, hb⟩
  have HS9 : Hid (∀ at' : Nat, at' ≤ m → ∃ q : Nat, (∀ V, Below w2.heap.size w2 V → Calls Tryd.prog 15 #[.string S, .int .i64 (at' : Int), .int .i64 9] V fun e w' => e = .returned (.tuple #[.int .i64 (q : Int), .int .i64 0]) ∧ Below V.heap.size V w') ∧ ∀ V, Below w2.heap.size w2 V → Calls Tryd.prog 14 #[.string S, .int .i64 (W : Int), .int .i64 (at' : Int), .int .i64 3, .int .i64 9] V fun e w' => e = .returned (.tuple #[.int .i64 (q : Int), .int .i64 (-1), .int .i64 0]) ∧ Below V.heap.size V w') := fun at' ha => by
    have ha' : at' ≤ rs.length := by rw [HM.out.1]; exact ha
    obtain ⟨q, hq⟩ : ∃ q : Nat, ∀ V, Below w2.heap.size w2 V → Calls Tryd.prog 15 #[.string S, .int .i64 (at' : Int), .int .i64 9] V fun e w' => e = .returned (.tuple #[.int .i64 (q : Int), .int .i64 0]) ∧ Below V.heap.size V w' := ⟨_, fun V hV => step_top HTx.out hsz hrl2 at' ha' V ⟨(HTb.out V hV).1.bar⟩ (HWt.out V hV)⟩
    refine ⟨q, hq, fun V hV => ?_⟩
    refine (walk9_any HTx.out W hWW hrl (HTb.out V hV).1 (HTb.out V hV).2 at' ha' 3 (Q := fun p c => p = q ∧ c = -1) (fun a k cap V' hV' _ => ?_)).mono ?_
    · refine (wstep_any S rs.length a k cap at' 3 9 V' q (fun V2 h2 => hq V2 (hV.trans ((hV'.trans (h2.mono hV'.size)).mono hV.size)))).mono ?_
      rintro e w' ⟨rfl, hb⟩
      exact ⟨q, -1, rfl, ⟨rfl, rfl⟩, hb⟩
    · rintro e w' ⟨p, c, rfl, ⟨rfl, rfl⟩, hb⟩
      exact ⟨rfl, hb⟩
  have HS10 : Hid (∀ at' : Nat, at' ≤ m → ∃ q : Nat, (∀ V, Below w2.heap.size w2 V → Calls Tryd.prog 15 #[.string S, .int .i64 (at' : Int), .int .i64 10] V fun e w' => e = .returned (.tuple #[.int .i64 (q : Int), .int .i64 0]) ∧ Below V.heap.size V w') ∧ ∀ V, Below w2.heap.size w2 V → Calls Tryd.prog 14 #[.string S, .int .i64 (W : Int), .int .i64 (at' : Int), .int .i64 3, .int .i64 10] V fun e w' => e = .returned (.tuple #[.int .i64 (q : Int), .int .i64 (-1), .int .i64 0]) ∧ Below V.heap.size V w') := fun at' ha => by
    have ha' : at' ≤ rs.length := by rw [HM.out.1]; exact ha
    obtain ⟨q, hq⟩ : ∃ q : Nat, ∀ V, Below w2.heap.size w2 V → Calls Tryd.prog 15 #[.string S, .int .i64 (at' : Int), .int .i64 10] V fun e w' => e = .returned (.tuple #[.int .i64 (q : Int), .int .i64 0]) ∧ Below V.heap.size V w' := ⟨_, fun V hV => step_bottom HTx.out hsz hrl2 at' ha' V ⟨(HTb.out V hV).1.bar⟩ (HWt.out V hV)⟩
    refine ⟨q, hq, fun V hV => ?_⟩
    refine (walk10_any HTx.out W hWW hrl (HTb.out V hV).1 (HTb.out V hV).2 at' ha' 3 (Q := fun p c => p = q ∧ c = -1) (fun a k cap V' hV' _ => ?_)).mono ?_
    · refine (wstep_any S rs.length a k cap at' 3 10 V' q (fun V2 h2 => hq V2 (hV.trans ((hV'.trans (h2.mono hV'.size)).mono hV.size)))).mono ?_
      rintro e w' ⟨rfl, hb⟩
      exact ⟨q, -1, rfl, ⟨rfl, rfl⟩, hb⟩
    · rintro e w' ⟨p, c, rfl, ⟨rfl, rfl⟩, hb⟩
      exact ⟨rfl, hb⟩
  have HUp : Hid (∀ V, Below w2.heap.size w2 V → ∀ at' : Nat, at' ≤ m → ∀ want : Int, Calls Tryd.prog 14 #[.string S, .int .i64 (W : Int), .int .i64 (at' : Int), .int .i64 want, .int .i64 5] V fun e w' => ∃ q : Nat, ∃ c : Int, e = .returned (.tuple #[.int .i64 (q : Int), .int .i64 c, .int .i64 0]) ∧ UpP rs W at' want q c ∧ Below V.heap.size V w') := fun V hV at' ha want =>
    walk5_any HTx.out W hWW hrl (HTb.out V hV).1 (HTb.out V hV).2 at' (by rw [HM.out.1]; exact ha) want (fun a k cap V' hV' hsh => up_any HTx.out hsh ((HTb.out V hV).1.below hV') rfl at' (by rw [HM.out.1]; exact ha) want 5)
  have HDown : Hid (∀ V, Below w2.heap.size w2 V → ∀ at' : Nat, at' ≤ m → ∀ want : Int, Calls Tryd.prog 14 #[.string S, .int .i64 (W : Int), .int .i64 (at' : Int), .int .i64 want, .int .i64 6] V fun e w' => ∃ q : Nat, ∃ c : Int, e = .returned (.tuple #[.int .i64 (q : Int), .int .i64 c, .int .i64 0]) ∧ DownP rs W at' want q c ∧ Below V.heap.size V w') := fun V hV at' ha want =>
    walk6_any HTx.out W hWW hrl (HTb.out V hV).1 (HTb.out V hV).2 at' (by rw [HM.out.1]; exact ha) want (fun a k cap V' hV' hsh => down_any HTx.out hsh ((HTb.out V hV).1.below hV') rfl at' (by rw [HM.out.1]; exact ha) want 6)
  have HHome : Hid (∀ V, Below w2.heap.size w2 V → ∀ at' : Nat, at' ≤ m → Calls Tryd.prog 14 #[.string S, .int .i64 (W : Int), .int .i64 (at' : Int), .int .i64 (-1), .int .i64 3] V fun e w' => ∃ q : Nat, e = .returned (.tuple #[.int .i64 (q : Int), .int .i64 (-1), .int .i64 0]) ∧ HomeP rs W at' q ∧ Below V.heap.size V w') := fun V hV at' ha => by
    refine (walk3_any HTx.out W hWW hrl (HTb.out V hV).1 (HTb.out V hV).2 at' (by rw [HM.out.1]; exact ha) (-1) (Q := fun q c => HomeP rs W at' q ∧ c = -1) (fun a k cap V' hV' hsh => ?_)).mono ?_
    · refine (homeW_any hsh rs.length at' (-1) 3).mono ?_
      rintro e w' ⟨q, rfl, hq, hb⟩
      exact ⟨q, -1, rfl, ⟨hq, rfl⟩, hb⟩
    · rintro e w' ⟨q, c, rfl, ⟨hq, rfl⟩, hb⟩
      exact ⟨q, rfl, hq, hb⟩
  have HEnd : Hid (∀ V, Below w2.heap.size w2 V → ∀ at' : Nat, at' ≤ m → Calls Tryd.prog 14 #[.string S, .int .i64 (W : Int), .int .i64 (at' : Int), .int .i64 (-1), .int .i64 4] V fun e w' => ∃ q : Nat, e = .returned (.tuple #[.int .i64 (q : Int), .int .i64 (-1), .int .i64 0]) ∧ EndP rs W at' q ∧ Below V.heap.size V w') := fun V hV at' ha => by
    refine (walk4_any HTx.out W hWW hrl (HTb.out V hV).1 (HTb.out V hV).2 at' (by rw [HM.out.1]; exact ha) (-1) (Q := fun q c => EndP rs W at' q ∧ c = -1) (fun a k cap V' hV' hsh => ?_)).mono ?_
    · refine (endW_any hsh rs.length at' (-1) 4).mono ?_
      rintro e w' ⟨q, rfl, hq, hb⟩
      exact ⟨q, -1, rfl, ⟨hq, rfl⟩, hb⟩
    · rintro e w' ⟨q, c, rfl, ⟨hq, rfl⟩, hb⟩
      exact ⟨q, rfl, hq, hb⟩
  have HWk : Hid (Below w.heap.size w w2) := HB1.out.trans (HB2.out.mono HB1.out.size)
  clear HLd ho2 hb2 hok hm hW hk hR1 hS hWW hrl hsz hrl2 HWl
  have hr0 : 0 ≤ place % ((m : Int) + 1) := Int.emod_nonneg _ (by omega)
  have hr1 : place % ((m : Int) + 1) < (m : Int) + 1 := Int.emod_lt_of_pos _ (by omega)
  obtain ⟨at', hat0⟩ : ∃ at' : Nat, place % ((m : Int) + 1) = (at' : Int) := ⟨(place % ((m : Int) + 1)).toNat, by omega⟩
  have hat : at' ≤ m := by omega
  have HRa := rest_any place ((m : Int) + 1) (by omega) (by omega) w2
  rw [hat0] at HRa
  have y0 : IntKind.i64.wrap ((m : Int) + 1) = (m : Int) + 1 := IntWalk.i64_in _ (by omega)
  clear hr0 hr1 hat0
  go_wp2_with fail
  refine HRa.mono ?_
  rintro e w' ⟨rfl, hwe⟩
  obtain rfl := hwe.symm
  clear hwe HRa
  have hcv := HCv.out _ (Below.refl _ w2)
  have HS0 := HSp.out w2 (Below.refl _ _) at' hat
  go_wp2_with fail
  refine HS0.mono ?_
  rintro e w3 ⟨row, col, rfl, hsp, hb3⟩
  obtain ⟨lo, hi, hard, hst, hcol⟩ := hsp
  have hrk : row < k := by have := (List.getElem?_eq_some_iff.1 hst.get).1; have := HM.out.2; omega
  have HSt : Hid (Stands rs W at' row lo hi hard ∧ col = wd rs lo at') := ⟨hst, hcol⟩
  obtain ⟨lo', hi', hard', g1, hlh, hhm, hcl⟩ := HRow.out row hrk
  rw [hst.get] at g1
  simp only [Option.some.injEq, Rv.mk.injEq] at g1
  obtain ⟨rfl, rfl, rfl⟩ := g1
  have HCl : Hid (∀ V, Below w2.heap.size w2 V → V.cell? ⟨g, off + row * 4, none⟩ = some (.int .i64 (lo : Int)) ∧ V.cell? ⟨g, off + row * 4 + 1, none⟩ = some (.int .i64 (hi : Int)) ∧ V.cell? ⟨g, off + row * 4 + 3, none⟩ = some (.bool hard)) := hcl
  have HBd : Hid (lo ≤ hi ∧ hi ≤ m ∧ (hard = false → lo < hi) ∧ row < k) := ⟨hlh, hhm, (rowP_ok hst.get).2.2.1, hrk⟩
  have x1 : decide ((row : Int) < 0) = false := decide_eq_false (by omega)
  have x2 : decide ((row : Int) ≥ k) = false := decide_eq_false (by omega)
  have x3 : decide (k ≤ row) = false := decide_eq_false (by omega)
  have HB3 : Hid (Below w2.heap.size w2 w3) := hb3
  clear hst hcol hcl hb3 HS0 hcv hlh hhm
  obtain ⟨wl, hwl⟩ : ∃ V, w3.alloc (.cells #[.int .i64 1, .int .i64 2, .int .i64 7, .int .i64 8, .int .i64 9, .int .i64 10] 3) = V := ⟨_, rfl⟩
  have hbl : Below w3.heap.size w3 wl := by rw [← hwl]; exact (Below.refl _ _).alloc (Nat.le_refl _) _
  have hxl : wl.heap[w3.heap.size]? = some (.cells #[.int .i64 1, .int .i64 2, .int .i64 7, .int .i64 8, .int .i64 9, .int .i64 10] 3) := by rw [← hwl]; exact heap_alloc_new _ _
  have HL : Hid (wl.heap[w3.heap.size]? = some (.cells #[.int .i64 1, .int .i64 2, .int .i64 7, .int .i64 8, .int .i64 9, .int .i64 10] 3) ∧ Below w2.heap.size w2 wl) := ⟨hxl, HB3.out.trans (hbl.mono HB3.out.size)⟩
  clear hbl hxl
  go_wp2_with fail
  try rw [hwl]
  clear hwl
  go_loopw [81] (fun vi w' => ∃ i : Nat, vi = .int .i64 (i : Int) ∧ i ≤ 6 ∧ Below wl.heap.size wl w') (fun vi _ => 6 - (intOf vi).toNat)
  case atStart => exact ⟨0, rfl, by omega, Below.refl _ _⟩
  case round =>
    obtain ⟨i, rfl, hi6, hb⟩ := hrel
    have hbw := HL.out.2.trans (hb.mono HL.out.2.size)
    obtain ⟨l0, l1, l2, l3, l4, l5⟩ := box6 ((hb.block _ (Array.getElem?_eq_some_iff.1 HL.out.1).1).trans HL.out.1)
    have hcv := HCv.out _ hbw
    have hi7 : i = 0 ∨ i = 1 ∨ i = 2 ∨ i = 3 ∨ i = 4 ∨ i = 5 ∨ i = 6 := by omega
    rcases hi7 with rfl | rfl | rfl | rfl | rfl | rfl | rfl
    · obtain ⟨q, hs, hk⟩ := HS1.out at' hat
      have HK := hk wr hbw
      have HSt2 : Hid (∀ V, Below w2.heap.size w2 V → Calls Tryd.prog 15 #[.string S, .int .i64 (at' : Int), .int .i64 1] V fun e w' => e = .returned (.tuple #[.int .i64 (q : Int), .int .i64 0]) ∧ Below V.heap.size V w') := hs
      have HBw : Hid (Below w2.heap.size w2 wr ∧ Below wl.heap.size wl wr) := ⟨hbw, hb⟩
      clear hs hk hbw hb
      go_wp2_with fail
      refine HK.mono ?_
      rintro e w4 ⟨rfl, hb4⟩
      have hbw4 := HBw.out.1.trans (hb4.mono HBw.out.1.size)
      have HK2 := HSt2.out w4 hbw4
      have hcv := HCv.out _ hbw4
      have HB4 : Hid (Below wl.heap.size wl w4) := HBw.out.2.trans (hb4.mono HBw.out.2.size)
      clear HK hb4 hbw4
      go_wp2_with fail
      refine HK2.mono ?_
      rintro e w5 ⟨rfl, hb5⟩
      have HB5 : Hid (Below wl.heap.size wl w5) := HB4.out.trans (hb5.mono HB4.out.size)
      clear HK2 hb5
      go_wp2_with fail
      exact ⟨⟨1, by go_num, by omega, HB5.out⟩, by simp [intOf]⟩
    · obtain ⟨q, hs, hk⟩ := HS2.out at' hat
      have HK := hk wr hbw
      have HSt2 : Hid (∀ V, Below w2.heap.size w2 V → Calls Tryd.prog 15 #[.string S, .int .i64 (at' : Int), .int .i64 2] V fun e w' => e = .returned (.tuple #[.int .i64 (q : Int), .int .i64 0]) ∧ Below V.heap.size V w') := hs
      have HBw : Hid (Below w2.heap.size w2 wr ∧ Below wl.heap.size wl wr) := ⟨hbw, hb⟩
      clear hs hk hbw hb
      go_wp2_with fail
      refine HK.mono ?_
      rintro e w4 ⟨rfl, hb4⟩
      have hbw4 := HBw.out.1.trans (hb4.mono HBw.out.1.size)
      have HK2 := HSt2.out w4 hbw4
      have hcv := HCv.out _ hbw4
      have HB4 : Hid (Below wl.heap.size wl w4) := HBw.out.2.trans (hb4.mono HBw.out.2.size)
      clear HK hb4 hbw4
      go_wp2_with fail
      refine HK2.mono ?_
      rintro e w5 ⟨rfl, hb5⟩
      have HB5 : Hid (Below wl.heap.size wl w5) := HB4.out.trans (hb5.mono HB4.out.size)
      clear HK2 hb5
      go_wp2_with fail
      exact ⟨⟨2, by go_num, by omega, HB5.out⟩, by simp [intOf]⟩
    · obtain ⟨q, hs, hk⟩ := HS7.out at' hat
      have HK := hk wr hbw
      have HSt2 : Hid (∀ V, Below w2.heap.size w2 V → Calls Tryd.prog 15 #[.string S, .int .i64 (at' : Int), .int .i64 7] V fun e w' => e = .returned (.tuple #[.int .i64 (q : Int), .int .i64 0]) ∧ Below V.heap.size V w') := hs
      have HBw : Hid (Below w2.heap.size w2 wr ∧ Below wl.heap.size wl wr) := ⟨hbw, hb⟩
      clear hs hk hbw hb
      go_wp2_with fail
      refine HK.mono ?_
      rintro e w4 ⟨rfl, hb4⟩
      have hbw4 := HBw.out.1.trans (hb4.mono HBw.out.1.size)
      have HK2 := HSt2.out w4 hbw4
      have hcv := HCv.out _ hbw4
      have HB4 : Hid (Below wl.heap.size wl w4) := HBw.out.2.trans (hb4.mono HBw.out.2.size)
      clear HK hb4 hbw4
      go_wp2_with fail
      refine HK2.mono ?_
      rintro e w5 ⟨rfl, hb5⟩
      have HB5 : Hid (Below wl.heap.size wl w5) := HB4.out.trans (hb5.mono HB4.out.size)
      clear HK2 hb5
      go_wp2_with fail
      exact ⟨⟨3, by go_num, by omega, HB5.out⟩, by simp [intOf]⟩
    · obtain ⟨q, hs, hk⟩ := HS8.out at' hat
      have HK := hk wr hbw
      have HSt2 : Hid (∀ V, Below w2.heap.size w2 V → Calls Tryd.prog 15 #[.string S, .int .i64 (at' : Int), .int .i64 8] V fun e w' => e = .returned (.tuple #[.int .i64 (q : Int), .int .i64 0]) ∧ Below V.heap.size V w') := hs
      have HBw : Hid (Below w2.heap.size w2 wr ∧ Below wl.heap.size wl wr) := ⟨hbw, hb⟩
      clear hs hk hbw hb
      go_wp2_with fail
      refine HK.mono ?_
      rintro e w4 ⟨rfl, hb4⟩
      have hbw4 := HBw.out.1.trans (hb4.mono HBw.out.1.size)
      have HK2 := HSt2.out w4 hbw4
      have hcv := HCv.out _ hbw4
      have HB4 : Hid (Below wl.heap.size wl w4) := HBw.out.2.trans (hb4.mono HBw.out.2.size)
      clear HK hb4 hbw4
      go_wp2_with fail
      refine HK2.mono ?_
      rintro e w5 ⟨rfl, hb5⟩
      have HB5 : Hid (Below wl.heap.size wl w5) := HB4.out.trans (hb5.mono HB4.out.size)
      clear HK2 hb5
      go_wp2_with fail
      exact ⟨⟨4, by go_num, by omega, HB5.out⟩, by simp [intOf]⟩
    · obtain ⟨q, hs, hk⟩ := HS9.out at' hat
      have HK := hk wr hbw
      have HSt2 : Hid (∀ V, Below w2.heap.size w2 V → Calls Tryd.prog 15 #[.string S, .int .i64 (at' : Int), .int .i64 9] V fun e w' => e = .returned (.tuple #[.int .i64 (q : Int), .int .i64 0]) ∧ Below V.heap.size V w') := hs
      have HBw : Hid (Below w2.heap.size w2 wr ∧ Below wl.heap.size wl wr) := ⟨hbw, hb⟩
      clear hs hk hbw hb
      go_wp2_with fail
      refine HK.mono ?_
      rintro e w4 ⟨rfl, hb4⟩
      have hbw4 := HBw.out.1.trans (hb4.mono HBw.out.1.size)
      have HK2 := HSt2.out w4 hbw4
      have hcv := HCv.out _ hbw4
      have HB4 : Hid (Below wl.heap.size wl w4) := HBw.out.2.trans (hb4.mono HBw.out.2.size)
      clear HK hb4 hbw4
      go_wp2_with fail
      refine HK2.mono ?_
      rintro e w5 ⟨rfl, hb5⟩
      have HB5 : Hid (Below wl.heap.size wl w5) := HB4.out.trans (hb5.mono HB4.out.size)
      clear HK2 hb5
      go_wp2_with fail
      exact ⟨⟨5, by go_num, by omega, HB5.out⟩, by simp [intOf]⟩
    · obtain ⟨q, hs, hk⟩ := HS10.out at' hat
      have HK := hk wr hbw
      have HSt2 : Hid (∀ V, Below w2.heap.size w2 V → Calls Tryd.prog 15 #[.string S, .int .i64 (at' : Int), .int .i64 10] V fun e w' => e = .returned (.tuple #[.int .i64 (q : Int), .int .i64 0]) ∧ Below V.heap.size V w') := hs
      have HBw : Hid (Below w2.heap.size w2 wr ∧ Below wl.heap.size wl wr) := ⟨hbw, hb⟩
      clear hs hk hbw hb
      go_wp2_with fail
      refine HK.mono ?_
      rintro e w4 ⟨rfl, hb4⟩
      have hbw4 := HBw.out.1.trans (hb4.mono HBw.out.1.size)
      have HK2 := HSt2.out w4 hbw4
      have hcv := HCv.out _ hbw4
      have HB4 : Hid (Below wl.heap.size wl w4) := HBw.out.2.trans (hb4.mono HBw.out.2.size)
      clear HK hb4 hbw4
      go_wp2_with fail
      refine HK2.mono ?_
      rintro e w5 ⟨rfl, hb5⟩
      have HB5 : Hid (Below wl.heap.size wl w5) := HB4.out.trans (hb5.mono HB4.out.size)
      clear HK2 hb5
      go_wp2_with fail
      exact ⟨⟨6, by go_num, by omega, HB5.out⟩, by simp [intOf]⟩
    · clear l0 l1 l2 l3 l4 l5 HS1 HS2 HS7 HS8 HS9 HS10
      have HH := HHome.out wr hbw at' hat
      have HBw : Hid (Below w2.heap.size w2 wr) := hbw
      clear hb hbw
      go_wp2_with fail
      refine HH.mono ?_
      rintro e w4 ⟨hm', rfl, hhp, hb4⟩
      obtain ⟨r', hi2, hard2, hst2⟩ := hhp
      obtain rfl := HSt.out.1.unique hst2
      have hg2 := hst2.get
      rw [HSt.out.1.get] at hg2
      simp only [Option.some.injEq, Rv.mk.injEq] at hg2
      obtain ⟨rfl, rfl, rfl⟩ := hg2
      have hbw4 := HBw.out.trans (hb4.mono HBw.out.size)
      have hcv := HCv.out _ hbw4
      have HE := HEnd.out w4 hbw4 at' hat
      have HB4 : Hid (Below w2.heap.size w2 w4) := hbw4
      clear hst2 hb4 hbw4 HH
      go_wp2_with fail
      refine HE.mono ?_
      rintro e w5 ⟨en, rfl, hep, hb5⟩
      obtain ⟨r', lo2, hi2, hard2, hst2, hen⟩ := hep
      obtain rfl := HSt.out.1.unique hst2
      have hg2 := hst2.get
      rw [HSt.out.1.get] at hg2
      simp only [Option.some.injEq, Rv.mk.injEq] at hg2
      obtain ⟨rfl, rfl, rfl⟩ := hg2
      have hbw5 := HB4.out.trans (hb5.mono HB4.out.size)
      obtain ⟨d0, d1, d3⟩ := HCl.out w5 hbw5
      have HB5 : Hid (Below w2.heap.size w2 w5) := hbw5
      have hkr : IntKind.i64.wrap ((k : Int) - row) = ((k - row : Nat) : Int) := by rw [IntWalk.i64_in _ (by omega)]; omega
      obtain ⟨kr, hkr0⟩ : ∃ kr, k - row = kr := ⟨_, rfl⟩
      rw [hkr0] at hkr
      have hkr1 : 0 < kr ∧ row + kr = k := by omega
      have hn0 : 0 ≤ times % (kr : Int) := Int.emod_nonneg _ (by omega)
      have hn1 : times % (kr : Int) < kr := Int.emod_lt_of_pos _ (by omega)
      obtain ⟨nn, hnn⟩ : ∃ nn : Nat, times % (kr : Int) = (nn : Int) := ⟨(times % (kr : Int)).toNat, by omega⟩
      have hnk : row + nn < k := by omega
      have HRt : Hid (∀ V, Calls Tryd.prog 9 #[.int .i64 times, .int .i64 (kr : Int)] V fun e w' => e = .returned (.int .i64 (nn : Int)) ∧ w' = V) := fun V => by
        have := rest_any times (kr : Int) (by omega) (by omega) V
        rw [hnn] at this
        exact this
      clear hn0 hn1 hnn hkr0 hst2 hb5 hbw5 HE
      have hbd := HBd.out
      cases hard with
      | true =>
        have hen2 : ((en : Int) != (hi : Int)) = false := by rw [hen]; simp [lastP]
        clear hen
        go_wp2_with fail
        refine (HRt.out _).mono ?_
        rintro e w' ⟨rfl, hwe⟩
        obtain rfl := hwe.symm
        clear hwe HRt
        obtain ⟨N2, hN2⟩ : ∃ N2, 2 * nn = N2 := ⟨_, rfl⟩
        have yN : IntKind.i64.wrap (2 * (nn : Int)) = (N2 : Int) := by rw [IntWalk.i64_in _ (by omega)]; omega
        have hml2 : N2 ≤ 402 := by omega
        have HIn : Hid (WInv rs W row nn (wd rs lo at') at' 0 at' (-1)) := ⟨⟨lo, hi, _, by rw [show posW row nn 0 = row by unfold posW; simp]; exact HSt.out.1.get, HSt.out.1.le, HSt.out.1.last (by have := HM.out.1; omega), fun h => absurd h (Nat.lt_irrefl _)⟩, fun _ => ⟨rfl, rfl⟩, fun h => absurd h (Nat.lt_irrefl _)⟩
        have HN2 : Hid (2 * nn = N2) := hN2
        clear d0 d1 d3 hbd hN2
        go_wp2_with fail
        go_loopw [31, 32, 33] (fun vq vw vi w' => ∃ (i q : Nat) (wv : Int), vq = .int .i64 (q : Int) ∧ vw = .int .i64 wv ∧ vi = .int .i64 (i : Int) ∧ i ≤ N2 ∧ q ≤ m ∧ Hid (WInv rs W row nn (wd rs lo at') at' i q wv) ∧ Below w2.heap.size w2 w') (fun _ _ vi _ => N2 - (intOf vi).toNat)
        case atStart => exact ⟨0, at', -1, rfl, rfl, rfl, by omega, hat, HIn.out, HB5.out⟩
        case round =>
          clear HIn
          obtain ⟨i, q, wv, rfl, rfl, rfl, hiN, hqm, HW, hb⟩ := hrel
          have hcv := HCv.out _ hb
          by_cases hi2 : i < N2
          · have z1 : decide ((i : Int) < N2) = true := decide_eq_true (by omega)
            by_cases hin : i < nn
            · have z2 : decide ((i : Int) ≥ nn) = false := decide_eq_false (by omega)
              have z3 : decide (nn ≤ i) = false := decide_eq_false (by omega)
              have HD := HDown.out wr hb q hqm wv
              have HB : Hid (Below w2.heap.size w2 wr) := hb
              clear hb
              go_wp2_with fail
              refine HD.mono ?_
              rintro e w6 ⟨p, c, rfl, hdp, hb6⟩
              obtain ⟨hcc, hW2⟩ := HW.out.down HSt.out.1 hin (by have := HM.out.2; omega) hdp
              have HW2 : Hid (WInv rs W row nn (wd rs lo at') at' (i + 1) p c) := hW2
              have hpm := hW2.bound
              have HX : Hid (Below w2.heap.size w2 w6 ∧ p ≤ m) := ⟨HB.out.trans (hb6.mono HB.out.size), by have := HM.out.1; omega⟩
              have z4 : (c != (col : Int)) = false := by rw [hcc, ← HSt.out.2]; simp
              have z5 : (c == (col : Int)) = true := by rw [hcc, ← HSt.out.2]; simp
              clear hcc hW2 hdp hb6 HD hpm hcv
              go_wp2_with fail
              exact ⟨⟨i + 1, p, c, rfl, rfl, by go_num, by omega, HX.out.2, HW2.out, HX.out.1⟩, by simp [intOf]; omega⟩
            · have z2 : decide ((i : Int) ≥ nn) = true := decide_eq_true (by omega)
              have z3 : decide (nn ≤ i) = true := decide_eq_true (by omega)
              have HD := HUp.out wr hb q hqm wv
              have HB : Hid (Below w2.heap.size w2 wr) := hb
              clear hb
              go_wp2_with fail
              refine HD.mono ?_
              rintro e w6 ⟨p, c, rfl, hdp, hb6⟩
              obtain ⟨hcc, hW2⟩ := HW.out.up HSt.out.1 (by omega) (by have := HN2.out; omega) hdp
              have HW2 : Hid (WInv rs W row nn (wd rs lo at') at' (i + 1) p c) := hW2
              have hpm := hW2.bound
              have HX : Hid (Below w2.heap.size w2 w6 ∧ p ≤ m) := ⟨HB.out.trans (hb6.mono HB.out.size), by have := HM.out.1; omega⟩
              have z4 : (c != (col : Int)) = false := by rw [hcc, ← HSt.out.2]; simp
              have z5 : (c == (col : Int)) = true := by rw [hcc, ← HSt.out.2]; simp
              clear hcc hW2 hdp hb6 HD hpm hcv
              go_wp2_with fail
              exact ⟨⟨i + 1, p, c, rfl, rfl, by go_num, by omega, HX.out.2, HW2.out, HX.out.1⟩, by simp [intOf]; omega⟩
          · have z1 : decide ((i : Int) < N2) = false := decide_eq_false (by omega)
            have z2 : decide (i < N2) = false := decide_eq_false hi2
            have HI2 : Hid (i = N2) := by show _ = _; omega
            have HSp2 := HSp.out wr hb q hqm
            have HB : Hid (Below w2.heap.size w2 wr) := hb
            clear hb
            go_wp2_with fail
            refine HSp2.mono ?_
            rintro e w6 ⟨r6, c6, rfl, hsp, hb6⟩
            have hWe := HW.out
            rw [HI2.out, ← HN2.out] at hWe
            obtain ⟨he1, he2⟩ := hWe.ends HSt.out.1 (by have := HM.out.1; omega) hsp
            have b1 : ((r6 : Int) != row) = false := by rw [he1]; simp
            have b2 : ((c6 : Int) != col) = false := by rw [he2, ← HSt.out.2]; simp
            have hbw6 := HB.out.trans (hb6.mono HB.out.size)
            have hcv := HCv.out _ hbw6
            have HU := HUp.out w6 hbw6 lo (by have := HBd.out; omega) (-1)
            have HB6 : Hid (Below w2.heap.size w2 w6) := hbw6
            clear he1 he2 hWe hsp hb6 HSp2 hbw6
            go_wp2_with fail
            refine HU.mono ?_
            rintro e w7 ⟨u, c7, rfl, hup, hb7⟩
            obtain ⟨hc7, hum, hcase⟩ := up_home HSt.out.1 hup
            have HCs : Hid ((row = 0 ∧ u = 0) ∨ (0 < row ∧ ∀ r2 c2, SpotP rs W u r2 c2 → r2 + 1 = row)) := hcase
            subst hc7
            have hbw7 := HB6.out.trans (hb7.mono HB6.out.size)
            have hcv := HCv.out _ hbw7
            have HS7 := HSp.out w7 hbw7 u (by have := HM.out.1; omega)
            have HB7 : Hid (Below w2.heap.size w2 w7) := hbw7
            clear hup hb7 hcase hum HU hbw7
            go_wp2_with fail
            refine HS7.mono ?_
            rintro e w8 ⟨r8, c8, rfl, hsp, hb8⟩
            have HB8 : Hid (Below w.heap.size w w8) := HWk.out.trans ((HB7.out.trans (hb8.mono HB7.out.size)).mono HWk.out.size)
            have hcs := HCs.out
            rcases hcs with ⟨h1, h2⟩ | ⟨h1, h2⟩
            · have b3 : ((row : Int) == 0) = true := by rw [h1]; rfl
              have b4 : ((u : Int) == 0) = true := by rw [h2]; rfl
              clear h1 h2 hsp hb8 HS7 hcv
              go_wp2_with fail
              go_ret
              exact ⟨rfl, HB8.out⟩
            · have h3 := h2 r8 c8 hsp
              have b3 : ((row : Int) == 0) = false := by rw [beq_eq_false_iff_ne]; omega
              have b4 : IntKind.i64.wrap ((row : Int) - 1) = (r8 : Int) := by rw [IntWalk.i64_in _ (by omega)]; omega
              have b5 : ((r8 : Int) == (r8 : Int)) = true := by rw [beq_iff_eq]
              clear h2 h3 hsp hb8 HS7 hcv
              go_wp2_with fail
              go_ret
              exact ⟨rfl, HB8.out⟩
      | false =>
        have hlt := hbd.2.2.1 rfl
        have hw9 : IntKind.i64.wrap ((hi : Int) - 1) = (en : Int) := by rw [hen, IntWalk.i64_in _ (by omega)]; simp only [lastP]; simp; omega
        clear hen
        go_wp2_with fail
        refine (HRt.out _).mono ?_
        rintro e w' ⟨rfl, hwe⟩
        obtain rfl := hwe.symm
        clear hwe HRt
        obtain ⟨N2, hN2⟩ : ∃ N2, 2 * nn = N2 := ⟨_, rfl⟩
        have yN : IntKind.i64.wrap (2 * (nn : Int)) = (N2 : Int) := by rw [IntWalk.i64_in _ (by omega)]; omega
        have hml2 : N2 ≤ 402 := by omega
        have HIn : Hid (WInv rs W row nn (wd rs lo at') at' 0 at' (-1)) := ⟨⟨lo, hi, _, by rw [show posW row nn 0 = row by unfold posW; simp]; exact HSt.out.1.get, HSt.out.1.le, HSt.out.1.last (by have := HM.out.1; omega), fun h => absurd h (Nat.lt_irrefl _)⟩, fun _ => ⟨rfl, rfl⟩, fun h => absurd h (Nat.lt_irrefl _)⟩
        have HN2 : Hid (2 * nn = N2) := hN2
        clear d0 d1 d3 hbd hN2
        go_wp2_with fail
        go_loopw [31, 32, 33] (fun vq vw vi w' => ∃ (i q : Nat) (wv : Int), vq = .int .i64 (q : Int) ∧ vw = .int .i64 wv ∧ vi = .int .i64 (i : Int) ∧ i ≤ N2 ∧ q ≤ m ∧ Hid (WInv rs W row nn (wd rs lo at') at' i q wv) ∧ Below w2.heap.size w2 w') (fun _ _ vi _ => N2 - (intOf vi).toNat)
        case atStart => exact ⟨0, at', -1, rfl, rfl, rfl, by omega, hat, HIn.out, HB5.out⟩
        case round =>
          clear HIn
          obtain ⟨i, q, wv, rfl, rfl, rfl, hiN, hqm, HW, hb⟩ := hrel
          have hcv := HCv.out _ hb
          by_cases hi2 : i < N2
          · have z1 : decide ((i : Int) < N2) = true := decide_eq_true (by omega)
            by_cases hin : i < nn
            · have z2 : decide ((i : Int) ≥ nn) = false := decide_eq_false (by omega)
              have z3 : decide (nn ≤ i) = false := decide_eq_false (by omega)
              have HD := HDown.out wr hb q hqm wv
              have HB : Hid (Below w2.heap.size w2 wr) := hb
              clear hb
              go_wp2_with fail
              refine HD.mono ?_
              rintro e w6 ⟨p, c, rfl, hdp, hb6⟩
              obtain ⟨hcc, hW2⟩ := HW.out.down HSt.out.1 hin (by have := HM.out.2; omega) hdp
              have HW2 : Hid (WInv rs W row nn (wd rs lo at') at' (i + 1) p c) := hW2
              have hpm := hW2.bound
              have HX : Hid (Below w2.heap.size w2 w6 ∧ p ≤ m) := ⟨HB.out.trans (hb6.mono HB.out.size), by have := HM.out.1; omega⟩
              have z4 : (c != (col : Int)) = false := by rw [hcc, ← HSt.out.2]; simp
              have z5 : (c == (col : Int)) = true := by rw [hcc, ← HSt.out.2]; simp
              clear hcc hW2 hdp hb6 HD hpm hcv
              go_wp2_with fail
              exact ⟨⟨i + 1, p, c, rfl, rfl, by go_num, by omega, HX.out.2, HW2.out, HX.out.1⟩, by simp [intOf]; omega⟩
            · have z2 : decide ((i : Int) ≥ nn) = true := decide_eq_true (by omega)
              have z3 : decide (nn ≤ i) = true := decide_eq_true (by omega)
              have HD := HUp.out wr hb q hqm wv
              have HB : Hid (Below w2.heap.size w2 wr) := hb
              clear hb
              go_wp2_with fail
              refine HD.mono ?_
              rintro e w6 ⟨p, c, rfl, hdp, hb6⟩
              obtain ⟨hcc, hW2⟩ := HW.out.up HSt.out.1 (by omega) (by have := HN2.out; omega) hdp
              have HW2 : Hid (WInv rs W row nn (wd rs lo at') at' (i + 1) p c) := hW2
              have hpm := hW2.bound
              have HX : Hid (Below w2.heap.size w2 w6 ∧ p ≤ m) := ⟨HB.out.trans (hb6.mono HB.out.size), by have := HM.out.1; omega⟩
              have z4 : (c != (col : Int)) = false := by rw [hcc, ← HSt.out.2]; simp
              have z5 : (c == (col : Int)) = true := by rw [hcc, ← HSt.out.2]; simp
              clear hcc hW2 hdp hb6 HD hpm hcv
              go_wp2_with fail
              exact ⟨⟨i + 1, p, c, rfl, rfl, by go_num, by omega, HX.out.2, HW2.out, HX.out.1⟩, by simp [intOf]; omega⟩
          · have z1 : decide ((i : Int) < N2) = false := decide_eq_false (by omega)
            have z2 : decide (i < N2) = false := decide_eq_false hi2
            have HI2 : Hid (i = N2) := by show _ = _; omega
            have HSp2 := HSp.out wr hb q hqm
            have HB : Hid (Below w2.heap.size w2 wr) := hb
            clear hb
            go_wp2_with fail
            refine HSp2.mono ?_
            rintro e w6 ⟨r6, c6, rfl, hsp, hb6⟩
            have hWe := HW.out
            rw [HI2.out, ← HN2.out] at hWe
            obtain ⟨he1, he2⟩ := hWe.ends HSt.out.1 (by have := HM.out.1; omega) hsp
            have b1 : ((r6 : Int) != row) = false := by rw [he1]; simp
            have b2 : ((c6 : Int) != col) = false := by rw [he2, ← HSt.out.2]; simp
            have hbw6 := HB.out.trans (hb6.mono HB.out.size)
            have hcv := HCv.out _ hbw6
            have HU := HUp.out w6 hbw6 lo (by have := HBd.out; omega) (-1)
            have HB6 : Hid (Below w2.heap.size w2 w6) := hbw6
            clear he1 he2 hWe hsp hb6 HSp2 hbw6
            go_wp2_with fail
            refine HU.mono ?_
            rintro e w7 ⟨u, c7, rfl, hup, hb7⟩
            obtain ⟨hc7, hum, hcase⟩ := up_home HSt.out.1 hup
            have HCs : Hid ((row = 0 ∧ u = 0) ∨ (0 < row ∧ ∀ r2 c2, SpotP rs W u r2 c2 → r2 + 1 = row)) := hcase
            subst hc7
            have hbw7 := HB6.out.trans (hb7.mono HB6.out.size)
            have hcv := HCv.out _ hbw7
            have HS7 := HSp.out w7 hbw7 u (by have := HM.out.1; omega)
            have HB7 : Hid (Below w2.heap.size w2 w7) := hbw7
            clear hup hb7 hcase hum HU hbw7
            go_wp2_with fail
            refine HS7.mono ?_
            rintro e w8 ⟨r8, c8, rfl, hsp, hb8⟩
            have HB8 : Hid (Below w.heap.size w w8) := HWk.out.trans ((HB7.out.trans (hb8.mono HB7.out.size)).mono HWk.out.size)
            have hcs := HCs.out
            rcases hcs with ⟨h1, h2⟩ | ⟨h1, h2⟩
            · have b3 : ((row : Int) == 0) = true := by rw [h1]; rfl
              have b4 : ((u : Int) == 0) = true := by rw [h2]; rfl
              clear h1 h2 hsp hb8 HS7 hcv
              go_wp2_with fail
              go_ret
              exact ⟨rfl, HB8.out⟩
            · have h3 := h2 r8 c8 hsp
              have b3 : ((row : Int) == 0) = false := by rw [beq_eq_false_iff_ne]; omega
              have b4 : IntKind.i64.wrap ((row : Int) - 1) = (r8 : Int) := by rw [IntWalk.i64_in _ (by omega)]; omega
              have b5 : ((r8 : Int) == (r8 : Int)) = true := by rw [beq_iff_eq]
              clear h2 h3 hsp hb8 HS7 hcv
              go_wp2_with fail
              go_ret
              exact ⟨rfl, HB8.out⟩
end Go.Proofs.YtaphkaodcdpcaaaDoor
