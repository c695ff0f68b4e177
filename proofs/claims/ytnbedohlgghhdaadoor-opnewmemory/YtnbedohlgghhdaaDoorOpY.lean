import Derived.Test.YtnbedohlgghhdaaDoorOpX
import Derived.Test.YtnbedohlgghhdaaDoorRpM
namespace Go.Proofs.YtnbedohlgghhdaaDoor
open Go.RowKit Go.Lib Sp
set_option maxRecDepth 100000

def rangeV (x : Int × Int) : List Value := [.int .i64 x.1, .int .i64 x.2]
theorem layG : Lay rangeV 2 := ⟨fun _ => rfl, by decide, fun x u hu => by simp [rangeV] at hu; rcases hu with rfl | rfl <;> rfl⟩
theorem kindG : Kind Tryd.prog 36 60 2 16 := kind_of Tryd.underlying36 (z := .agg #[.int .i64 0, .int .i64 0]) (by kernel_rfl) rfl
theorem rng_of_rw {w : World} {a : Option Addr} {n cap : Nat} {l : List (Int × Int)} (h : Rw rangeV 2 w a n cap l) : Rng w a n cap l :=
  ⟨h.len, h.room, fun j hj => by
    obtain ⟨g, off, x, ha, hg, hx, hc⟩ := h.at j hj
    have e : l.getD j (0, 0) = x := by rw [List.getD_eq_getElem?_getD, hx]; rfl
    rw [e]
    refine ⟨g, off, ha, hg, ?_, hc 1 _ rfl⟩
    have := hc 0 _ rfl
    simpa using this⟩

theorem ownF_at {w : World} {B : Nat} {a : Option Addr} {m cap : Nat} {l : List (Int × Int)} (h : OwnF rangeV 2 60 w B (.slice a m cap) l) : ∀ g off, a = some ⟨g, off, none⟩ → B ≤ g := fun g off ha => by
  subst ha
  rcases h.2 with ⟨e, _⟩ | ⟨g', cap', cur, e, h1, _⟩
  · cases e
  · simp only [Value.slice.injEq, Option.some.injEq, Addr.mk.injEq] at e
    omega
/-- One range of a line. -/
def oneP (l : List UInt8) : Int × Int := (numP (cut1 l 45).1, numP (cut1 l 45).2.1)
def rngsP : Nat → List UInt8 → List (Int × Int)
  | 0, _ => []
  | f + 1, l => oneP (cut1 l 44).1 :: (if (cut1 l 44).2.2 = true then rngsP f (cut1 l 44).2.1 else [])
def restP (more : Bool) (j : Nat) (l : List UInt8) : List (Int × Int) := if more = true then rngsP (32769 - j) l else []
theorem restP_step (j : Nat) (hj : j ≤ 32768) (l : List UInt8) : restP true j l = oneP (cut1 l 44).1 :: restP (cut1 l 44).2.2 (j + 1) (cut1 l 44).2.1 := by
  unfold restP
  rw [if_pos rfl, show 32769 - j = (32769 - (j + 1)) + 1 by omega, rngsP]
theorem restP_full (more : Bool) (j : Nat) (hj : 32768 < j) (l : List UInt8) : restP more j l = [] := by
  unfold restP
  split
  · rw [show 32769 - j = 0 by omega]; rfl
  · rfl
theorem rngsP_length : ∀ (f : Nat) (l : List UInt8), (rngsP f l).length ≤ f
  | 0, _ => by simp [rngsP]
  | f + 1, l => by
    rw [rngsP, List.length_cons]
    split
    · have := rngsP_length f (cut1 l 44).2.1; omega
    · simp

def lenV : Value → Nat
  | .slice _ n _ => n
  | _ => 0

set_option maxHeartbeats 2000000 in
theorem readRanges_any (l : List UInt8) (hl : l.length ≤ 4294967296) (w : World) (he : Errs w) :
    Calls Tryd.prog 32 #[.string (bs l)] w fun e w' => ∃ a m cap, e = .returned (.slice a m cap) ∧ Rng w' a m cap (rngsP 32769 l) ∧ OwnF rangeV 2 60 w' w.heap.size (.slice a m cap) (rngsP 32769 l) ∧ Below w.heap.size w w' := by
  have HC : Hid (∀ (l : List UInt8) (c : UInt8) (w : World), l.length ≤ 4294967296 → Calls Tryd.prog 28 #[.string (bs l), .string ⟨#[c]⟩] w fun e w' => e = .returned (.tuple #[.string (bs (cut1 l c).1), .string (bs (cut1 l c).2.1), .bool (cut1 l c).2.2]) ∧ Below w.heap.size w w') := fun l c w h => cut_any l c h w
  have HX : Hid (∀ (l : List UInt8) (w' : World), l.length ≤ 4294967296 → Below w.heap.size w w' → Calls Tryd.prog 30 #[.string (bs l)] w' fun e w'' => e = .returned (.int .i64 (numP l)) ∧ Below w'.heap.size w' w'') := fun l w' h hb => readNumber_any _ (by omega) w' (he.below hb)
  have HR0 : Hid (restP true 0 l = rngsP 32769 l) := rfl
  generalize rngsP 32769 l = R at *
  clear he
  go_enter Tryd.func32, Tryd.ntmps32
  go_wp2_with fail
  go_loopw [0, 3, 4, 5, 6, 7, 8] (fun vs vl vm _ _ _ _ W => ∃ (acc : List (Int × Int)) (u : List UInt8) (more : Bool), vs = .string (bs u) ∧ vm = .bool more ∧ u.length ≤ 4294967296 ∧ acc.length ≤ 32769 ∧ OwnF rangeV 2 60 W w.heap.size vl acc ∧ Below w.heap.size w W ∧ Hid (acc ++ restP more acc.length u = R)) (fun _ vl _ _ _ _ _ _ => 32770 - lenV vl)
  case atStart => exact ⟨[], l, true, rfl, rfl, hl, by simp, ownF_nil _ _, Below.refl _ _, HR0⟩
  case round =>
    obtain ⟨acc, u, more, rfl, rfl, hu, hacc, ho, hB, HR⟩ := hrel
    obtain ⟨ao, co, rfl⟩ := ho.shape
    have fin : ∀ hR : acc = R, ∃ a m cap, Ending.returned (.slice ao acc.length co) = Ending.returned (.slice a m cap) ∧ Rng wr a m cap R ∧ OwnF rangeV 2 60 wr w.heap.size (.slice a m cap) R ∧ Below w.heap.size w wr := fun hR => by subst hR; exact ⟨ao, acc.length, co, rfl, rng_of_rw (ho.rw_ layG), ho, hB⟩
    cases more with
    | false =>
      have hR : acc = R := by have := HR.out; unfold restP at this; simpa using this
      have HF : Hid (∃ a m cap, Ending.returned (.slice ao acc.length co) = Ending.returned (.slice a m cap) ∧ Rng wr a m cap R ∧ OwnF rangeV 2 60 wr w.heap.size (.slice a m cap) R ∧ Below w.heap.size w wr) := fin hR
      clear fin hR HR
      go_wp2_with fail
      go_ret
      exact HF.out
    | true =>
      by_cases hj : 32768 < acc.length
      · have hR : acc = R := by have := HR.out; rw [restP_full _ _ hj] at this; simpa using this
        have HF : Hid (∃ a m cap, Ending.returned (.slice ao acc.length co) = Ending.returned (.slice a m cap) ∧ Rng wr a m cap R ∧ OwnF rangeV 2 60 wr w.heap.size (.slice a m cap) R ∧ Below w.heap.size w wr) := fin hR
        have hj2 : ¬ (acc.length : Int) ≤ 32768 := by omega
        clear fin hR HR
        go_wp2_with fail
        go_ret
        exact HF.out
      · have HN : Hid ((acc ++ [oneP (cut1 u 44).1]) ++ restP (cut1 u 44).2.2 (acc ++ [oneP (cut1 u 44).1]).length (cut1 u 44).2.1 = R) := by
          have := HR.out
          rw [restP_step _ (by omega)] at this
          show _ = _
          rw [← this]
          simp
        have hj2 : (acc.length : Int) ≤ 32768 := by omega
        have hle := cut1_le u 44
        have hle2 := cut1_le (cut1 u 44).1 45
        have H1 : Hid (∀ w : World, Calls Tryd.prog 28 #[.string (bs u), .string ⟨#[44]⟩] w fun e w' => e = .returned (.tuple #[.string (bs (cut1 u 44).1), .string (bs (cut1 u 44).2.1), .bool (cut1 u 44).2.2]) ∧ Below w.heap.size w w') := fun w => HC.out u 44 w hu
        have H2 : Hid (∀ w : World, Calls Tryd.prog 28 #[.string (bs (cut1 u 44).1), .string ⟨#[45]⟩] w fun e w' => e = .returned (.tuple #[.string (bs (cut1 (cut1 u 44).1 45).1), .string (bs (cut1 (cut1 u 44).1 45).2.1), .bool (cut1 (cut1 u 44).1 45).2.2]) ∧ Below w.heap.size w w') := fun w => HC.out _ 45 w (by omega)
        have H3 := fun w' hb => HX.out (cut1 (cut1 u 44).1 45).1 w' (by omega) hb
        have H4 := fun w' hb => HX.out (cut1 (cut1 u 44).1 45).2.1 w' (by omega) hb
        have h3 : Hid (∀ w' : World, Below w.heap.size w w' → Calls Tryd.prog 30 #[.string (bs (cut1 (cut1 u 44).1 45).1)] w' fun e w'' => e = .returned (.int .i64 (oneP (cut1 u 44).1).1) ∧ Below w'.heap.size w' w'') := H3
        have h4 : Hid (∀ w' : World, Below w.heap.size w w' → Calls Tryd.prog 30 #[.string (bs (cut1 (cut1 u 44).1 45).2.1)] w' fun e w'' => e = .returned (.int .i64 (oneP (cut1 u 44).1).2) ∧ Below w'.heap.size w' w'') := H4
        have hu2 : (cut1 u 44).2.1.length ≤ 4294967296 := by omega
        clear fin HR H3 H4 hle hle2
        generalize oneP (cut1 u 44).1 = r at *
        generalize bs (cut1 (cut1 u 44).1 45).1 = p1 at *
        generalize bs (cut1 (cut1 u 44).1 45).2.1 = p2 at *
        generalize (cut1 (cut1 u 44).1 45).2.2 = p3 at *
        generalize bs (cut1 u 44).1 = p4 at *
        generalize (cut1 u 44).2.1 = v at *
        generalize (cut1 u 44).2.2 = mo at *
        obtain ⟨lo, hi⟩ := r
        simp only at h3 h4
        go_wp2_with fail
        refine (H1.out _).mono ?_
        rintro e w1 ⟨rfl, hb1⟩
        have hB1 := hB.trans (hb1.mono hB.size)
        have ho1 := ho.below hb1
        clear hb1 hB ho H1
        go_wp2_with fail
        refine (H2.out _).mono ?_
        rintro e w2 ⟨rfl, hb2⟩
        have hB2 := hB1.trans (hb2.mono hB1.size)
        have ho2 := ho1.below hb2
        clear hb2 hB1 ho1 H2
        go_wp2_with fail
        refine (h3.out _ hB2).mono ?_
        rintro e w3 ⟨rfl, hb3⟩
        have hB3 := hB2.trans (hb3.mono hB2.size)
        have ho3 := ho2.below hb3
        clear hb3 hB2 ho2 h3
        go_wp2_with fail
        refine (h4.out _ hB3).mono ?_
        rintro e w4 ⟨rfl, hb4⟩
        have hB4 := hB3.trans (hb4.mono hB3.size)
        have ho4 := ho3.below hb4
        clear hb4 hB3 ho3 h4
        obtain ⟨g5, cap5, w6, hr, ho6, hb6, _, _⟩ := appendF_one kindG layG ho4 hB4.size (lo, hi) #[.int .i64 lo, .int .i64 hi] rfl 60 (by omega) (by omega) 36
        have hb7 : Below w.heap.size w w6 := hB4.trans hb6
        clear hb6 ho4 hB4
        go_wp2_with (at_builtin; refine wpList_append_hr rfl _ _ 36 rfl _ _ rfl rfl hr ?_)
        go_roundw
        case rel => exact ⟨acc ++ [(lo, hi)], v, mo, rfl, rfl, hu2, by simp; omega, by simpa using ho6, hb7, HN⟩
        case measure => simp [lenV]; omega
end Go.Proofs.YtnbedohlgghhdaaDoor
