import Derived.Test.YtokclnjaglklhaaDoorRpA
import Derived.Test.YtokclnjaglklhaaDoorRpM
import Derived.Deep.QuietTactic
import Derived.BigQuiet
import Derived.BigRegion
import Derived.Deep.RegionWith
import Derived.Deep.RegionHeld3
namespace Go.Proofs.YtokclnjaglklhaaDoor
open Go.RowKit Go.Lib
set_option maxRecDepth 100000

def pieceV (x : Int × Int) : List Value := [.int .i64 x.1, .int .i64 x.2]
def cellV (x : Int × Int) : List Value := [.int .i32 x.1, .int .i64 x.2]
/-- A run: its text, the text's runes, its counter. -/
structure GRun where
  s : ByteArray
  rs : List Int
  h : Int
def runV (x : GRun) : List Value := [.string x.s, .int .i64 x.h]
theorem layP : Lay pieceV 2 := ⟨fun _ => rfl, by decide, fun x u hu => by simp [pieceV] at hu; rcases hu with rfl | rfl <;> rfl⟩
theorem layC : Lay cellV 2 := ⟨fun _ => rfl, by decide, fun x u hu => by simp [cellV] at hu; rcases hu with rfl | rfl <;> rfl⟩
theorem layR : Lay runV 2 := ⟨fun _ => rfl, by decide, fun x u hu => by simp [runV] at hu; rcases hu with rfl | rfl <;> rfl⟩
theorem kindR : Kind Tryd.prog 24 47 2 24 := kind_of Tryd.underlying24 (z := .agg #[.string ⟨#[]⟩, .int .i64 0]) (by kernel_rfl) rfl
theorem kindC : Kind Tryd.prog 26 41 2 16 := kind_of Tryd.underlying26 (z := .agg #[.int .i32 0, .int .i64 0]) (by kernel_rfl) rfl
def cellsOf (L : List GRun) : List (Int × Int) := L.flatMap fun x => x.rs.map fun c => (c, x.h)
structure OkRun (x : GRun) : Prop where
  text : IsText x.s x.rs
  some_ : x.rs ≠ []
  few : x.rs.length ≤ 48
  lo : 0 ≤ x.h
  hi : x.h ≤ 2
structure OkRuns (L : List GRun) : Prop where
  few : L.length ≤ 24
  each : ∀ x ∈ L, OkRun x
  apart : ∀ j x y, L[j]? = some x → L[j + 1]? = some y → x.h ≠ y.h
theorem okRuns_nil : OkRuns [] := ⟨by decide, fun x hx => (by cases hx), fun j x y hx => (by simp at hx)⟩
theorem OkRuns.snoc {L : List GRun} (h : OkRuns L) {x : GRun} (hx : OkRun x) (hl : L.length < 24) (hd : ∀ y, L.getLast? = some y → y.h ≠ x.h) : OkRuns (L ++ [x]) := by
  refine ⟨by simp; omega, fun y hy => ?_, fun j y z hy hz => ?_⟩
  · rcases List.mem_append.1 hy with hy | hy
    · exact h.each y hy
    · simp at hy; subst hy; exact hx
  · rcases Nat.lt_trichotomy (j + 1) L.length with hj | hj | hj
    · rw [List.getElem?_append_left (by omega)] at hy hz
      exact h.apart j y z hy hz
    · rw [List.getElem?_append_left (by omega)] at hy
      rw [List.getElem?_append_right (by omega), show j + 1 - L.length = 0 by omega] at hz
      simp at hz; subst hz
      refine hd y ?_
      rw [List.getLast?_eq_getElem?, ← hy]
      congr 1; omega
    · rw [List.getElem?_eq_none (by simp; omega)] at hz
      cases hz

theorem okRun_mk {s : ByteArray} {rs : List Int} {h m : Int} (ht : IsText s rs) (hrl : (rs.length : Int) = 1 + m) (k3 : 0 ≤ m) (k4 : m < 48) (h0 : 0 ≤ h) (h2 : h ≤ 2) : OkRun ⟨s, rs, h⟩ :=
  ⟨ht, by intro e; simp only at e; rw [e] at hrl; simp at hrl; omega, by simp only; omega, h0, h2⟩
set_option maxHeartbeats 1000000 in
theorem runs_any {w : World} {a : Option Addr} {n cap : Nat} {l : List (Int × Int)} (h : Rw pieceV 2 w a n cap l) :
    Calls Tryd.prog 4 #[.slice a n cap] w fun e w' => ∃ v L, e = .returned v ∧ OwnF runV 2 47 w' w.heap.size v L ∧ OkRuns L ∧ Below w.heap.size w w' := by
  have hlen := h.len
  have hroom := h.room
  have hn : n ≤ 9223372036854775807 := by simp only [maxLen] at hroom; omega
  go_enter Tryd.func4, Tryd.ntmps4
  go_wp2_with fail
  go_loopw [3, 4] (fun v vi w' => ∃ L, vi = .int .i64 (L.length : Int) ∧ L.length ≤ n ∧ OkRuns L ∧ OwnF runV 2 47 w' w.heap.size v L ∧ Below w.heap.size w w') (fun _ i _ => n - (intOf i).toNat)
  case atStart => exact ⟨[], rfl, Nat.zero_le _, okRuns_nil, ownF_nil _ _, Below.refl _ _⟩
  case round =>
    obtain ⟨L, rfl, hLn, hL, ho, hb⟩ := hrel
    have hfew := hL.few
    by_cases hj : L.length < n ∧ L.length < 24
    · obtain ⟨hj1, hj2⟩ := hj
      have b1 : (L.length : Int) < (n : Int) := by omega
      have b2 : (L.length : Int) < 24 := by omega
      obtain ⟨g, off, x, rfl, hg, hx, hc⟩ := h.at L.length hj1
      have c0 := (hb.cell (p := ⟨g, off + L.length * 2 + 0, none⟩) hg).trans (hc 0 _ rfl)
      have c1 := (hb.cell (p := ⟨g, off + L.length * 2 + 1, none⟩) hg).trans (hc 1 _ rfl)
      simp only [Nat.add_zero] at c0
      clear hc
      obtain ⟨x1, x2⟩ := x
      simp only at c0 c1
      have k1 := Int.emod_nonneg x2 (show (3 : Int) ≠ 0 by decide)
      have k2 := Int.emod_lt_of_pos x2 (show (0 : Int) < 3 by decide)
      have k3 := Int.emod_nonneg x1 (show (48 : Int) ≠ 0 by decide)
      have k4 := Int.emod_lt_of_pos x1 (show (0 : Int) < 48 by decide)
      have H48 := rest_any x1 48 (by decide) (by decide)
      rcases List.eq_nil_or_concat L with rfl | ⟨L0, y, hL0⟩
      · simp only [List.length_nil, Nat.zero_mul, Nat.add_zero] at c0 c1
        go_wp2_with fail
        refine (rest_any x2 3 (by decide) (by decide) _).mono ?_
        rintro e w1 ⟨rfl, rfl⟩
        generalize x2 % 3 = hid at *
        generalize x1 % 48 = m at *
        go_wp2_with fail
        refine (H48 _).mono ?_
        rintro e w4 ⟨rfl, rfl⟩
        go_wp2_with fail
        refine (words_any _ _ (by omega) (by omega) _).mono ?_
        rintro e w5 ⟨s, rfl, ⟨rs, ht, hrl⟩, rfl⟩
        obtain ⟨g5, cap5, w6, hr, ho6, hb6, _, _⟩ := appendF_one kindR layR ho hb.size (GRun.mk s rs hid) #[.string s, .int .i64 hid] rfl 47 (by omega) (by omega) 24
        have hok : OkRuns ([] ++ [GRun.mk s rs hid]) := hL.snoc (okRun_mk ht hrl k3 k4 (by omega) (by omega)) hj2 (fun y hy => by simp at hy)
        have HO : Hid (OkRuns ([] ++ [GRun.mk s rs hid])) := hok
        clear hok hL
        have hb7 : Below w.heap.size w w6 := hb.trans hb6
        clear hb6 ho ht hb
        go_wp2_with (at_builtin; refine wpList_append_hr rfl _ _ 24 rfl _ _ rfl rfl hr ?_)
        go_roundw
        case rel => exact ⟨[] ++ [GRun.mk s rs hid], by simp, by simp at hj1 ⊢; omega, HO.out, ho6, hb7⟩
        case measure => simp [intOf] at hj1 ⊢; omega
      · rw [List.concat_eq_append] at hL0
        subst hL0
        have hyk : OkRun y := hL.each y (by simp)
        have hy0 := hyk.lo
        have hy2 := hyk.hi
        clear hyk
        have hlast : (L0 ++ [y])[L0.length]? = some y := by simp
        obtain ⟨ao, co, rfl⟩ := ho.shape
        obtain ⟨go, offo, y', rfl, hgo, hy', hco⟩ := (ho.rw_ layR).at L0.length (by simp)
        rw [hlast] at hy'
        cases hy'
        obtain ⟨go', hgo0⟩ : offo = 0 ∧ True := by
          rcases ho.2 with ⟨e, _⟩ | ⟨_, _, _, e, _⟩
          · cases e
          · simp only [Value.slice.injEq, Option.some.injEq, Addr.mk.injEq] at e; exact ⟨e.1.2.1, trivial⟩
        subst go'
        have c2 := hco 1 _ rfl
        clear hco hlast hgo0
        obtain ⟨ys, yr, yh⟩ := y
        simp only [Nat.zero_add] at c2 hy0 hy2
        have elen : (L0 ++ [GRun.mk ys yr yh]).length = L0.length + 1 := by simp
        rw [elen] at c0 c1 hj1 hj2 b1 b2 hLn hfew
        go_wp2_with fail
        refine (rest_any x2 3 (by decide) (by decide) _).mono ?_
        rintro e w1 ⟨rfl, rfl⟩
        generalize x2 % 3 = hid at *
        generalize x1 % 48 = m at *
        by_cases heq2 : yh = hid
        · have heq : (yh == hid) = true := by simpa using heq2
          have HQ : Hid (yh = hid) := heq2
          clear heq2
          go_wp2_with fail
          refine (rest_any (hid + 1) 3 (by decide) (by decide) _).mono ?_
          rintro e w2 ⟨rfl, rfl⟩
          have k5 := Int.emod_nonneg (hid + 1) (show (3 : Int) ≠ 0 by decide)
          have k6 := Int.emod_lt_of_pos (hid + 1) (show (0 : Int) < 3 by decide)
          have k7 : (hid + 1) % 3 ≠ hid := by omega
          generalize (hid + 1) % 3 = hid2 at *
          have heq2 := HQ.out
          subst heq2
          clear heq HQ
          go_wp2_with fail
          refine (H48 _).mono ?_
          rintro e w4 ⟨rfl, rfl⟩
          go_wp2_with fail
          refine (words_any _ _ (by omega) (by omega) _).mono ?_
          rintro e w5 ⟨s, rfl, ⟨rs, ht, hrl⟩, rfl⟩
          obtain ⟨g5, cap5, w6, hr, ho6, hb6, _, _⟩ := appendF_one kindR layR ho hb.size (GRun.mk s rs hid2) #[.string s, .int .i64 hid2] rfl 47 (by omega) (by omega) 24
          have hok : OkRuns ((L0 ++ [GRun.mk ys yr yh]) ++ [GRun.mk s rs hid2]) := hL.snoc (okRun_mk ht hrl k3 k4 (by omega) (by omega)) (by omega) (fun y hy => by simp at hy; subst hy; simp only; omega)
          have HO : Hid (OkRuns ((L0 ++ [GRun.mk ys yr yh]) ++ [GRun.mk s rs hid2])) := hok
          clear hok hL
          have hb7 : Below w.heap.size w w6 := hb.trans hb6
          rw [elen] at hr ho6
          clear hb6 ho ht hb
          go_wp2_with (at_builtin; refine wpList_append_hr rfl _ _ 24 rfl _ _ rfl rfl hr ?_)
          go_roundw
          case rel => exact ⟨(L0 ++ [GRun.mk ys yr yh]) ++ [GRun.mk s rs hid2], by simp; omega, by simp at hj1 ⊢; omega, HO.out, ho6, hb7⟩
          case measure => simp [intOf] at hj1 ⊢; omega
        · have hne : (yh == hid) = false := by simpa using heq2
          go_wp2_with fail
          refine (H48 _).mono ?_
          rintro e w4 ⟨rfl, rfl⟩
          go_wp2_with fail
          refine (words_any _ _ (by omega) (by omega) _).mono ?_
          rintro e w5 ⟨s, rfl, ⟨rs, ht, hrl⟩, rfl⟩
          obtain ⟨g5, cap5, w6, hr, ho6, hb6, _, _⟩ := appendF_one kindR layR ho hb.size (GRun.mk s rs hid) #[.string s, .int .i64 hid] rfl 47 (by omega) (by omega) 24
          have hok : OkRuns ((L0 ++ [GRun.mk ys yr yh]) ++ [GRun.mk s rs hid]) := hL.snoc (okRun_mk ht hrl k3 k4 (by omega) (by omega)) (by omega) (fun y hy => by simp at hy; subst hy; simp only; omega)
          have HO : Hid (OkRuns ((L0 ++ [GRun.mk ys yr yh]) ++ [GRun.mk s rs hid])) := hok
          clear hok hL
          have hb7 : Below w.heap.size w w6 := hb.trans hb6
          rw [elen] at hr ho6
          clear hb6 ho ht hb
          go_wp2_with (at_builtin; refine wpList_append_hr rfl _ _ 24 rfl _ _ rfl rfl hr ?_)
          go_roundw
          case rel => exact ⟨(L0 ++ [GRun.mk ys yr yh]) ++ [GRun.mk s rs hid], by simp; omega, by simp at hj1 ⊢; omega, HO.out, ho6, hb7⟩
          case measure => simp [intOf] at hj1 ⊢; omega
    · have hcs : (n : Int) ≤ L.length ∨ ((L.length : Int) < n ∧ (24 : Int) ≤ L.length) := by omega
      clear hj
      rcases hcs with hj | ⟨hj, hj2⟩
      all_goals
        go_wp2_with fail
        go_ret
        exact ⟨_, L, rfl, ho, hL, hb⟩
end Go.Proofs.YtokclnjaglklhaaDoor
