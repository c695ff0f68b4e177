import Derived.Test.YtijpfbcippijoaaGreatDoorTxtF
import Derived.ProofKit
import Derived.OpenShut
import Derived.Deep.DeepHandedRow
import Derived.Lib.LaidTab
import Derived.Test.YtijpfbcippijoaaGreatDoorProg
import Derived.WalkKit
import Derived.WalkSpells
import Derived.WalkLawsBesides
import Derived.Lib.OthersKept
import Derived.Laws.OwnMore
import Derived.Laws.CopyOwn
import Derived.Maps.AppendAt
import Derived.Deep.QuietTactic
import Derived.BigQuiet
import Derived.BigRegion
import Derived.Deep.RegionWith
namespace Go.Proofs.YtijpfbcippijoaaGreatDoor
open Go.ChangeShapes Go.WideShapes Go.ChangeAt Go.RowKit
theorem own : ownKnob Tryz.prog.godebug = none := by kernel_rfl
theorem gBar : Tryz.prog.globalNamed "redraft/utext.barred" = some 0 := by kernel_rfl
theorem gBarType : (Tryz.prog.globals[0]?).map (·.type) = some 164 := by kernel_rfl
theorem cellsArr : Tryz.prog.cellsOf 164 = 10 := by kernel_rfl
theorem cellsStr : Tryz.prog.cellsOf 163 = 2 := by kernel_rfl
theorem cells32 : Tryz.prog.cellsOf 21 = 1 := by kernel_rfl
theorem pairCells {H : Type} {enc : TypeId × Value → H} {W : World} {base m : Nat} {sp : Nat → Bool} {held : Bool} {l : List Value} {lo hi : Int} {p : List MemPlace}
    (h : DataW.trod enc Tryz.prog W base sp held m 163 l = some (.agg [.lit (.int .i32 lo), .lit (.int .i32 hi)], p)) : l = [.int .i32 lo, .int .i32 hi] := by
  obtain ⟨y0, y1, n, hx, hl, h0, h1⟩ := trod_struct2 Tryz.underlying163 h
  rw [cellsStr] at hl
  simp only [cells32] at h0 h1
  obtain ⟨a, e0, f0, _⟩ := DataW.trod_int Tryz.underlying21 h0
  obtain ⟨b, e1, f1, _⟩ := DataW.trod_int Tryz.underlying21 h1
  subst f0 f1
  simp only [Prod.mk.injEq, DataW.agg.injEq, List.cons.injEq, DataW.lit.injEq, Lit.int.injEq] at hx
  obtain ⟨⟨⟨_, ra⟩, ⟨_, rb⟩, _⟩, _⟩ := hx
  subst ra rb
  match l, hl, e0, e1 with
  | [x, y], _, e0, e1 =>
    simp at e0 e1
    simp [e0, e1]
theorem table {W : World} {cs0 : Array Value} {f0 : Nat} {p0 : List MemPlace} (hv0 : World.var? Tryz.prog W "redraft/utext.barred" = some cs0)
    (hd0 : DataW.trod (fun _ => ()) Tryz.prog W 0 (fun _ => true) false f0 164 cs0.toList = some (.agg [.agg [.lit (.int .i32 0), .lit (.int .i32 8)], .agg [.lit (.int .i32 11), .lit (.int .i32 31)], .agg [.lit (.int .i32 127), .lit (.int .i32 159)], .agg [.lit (.int .i32 64976), .lit (.int .i32 65007)], .agg [.lit (.int .i32 65279), .lit (.int .i32 65279)]], p0)) :
    ∃ t fr, W.heap[0]? = some (.cells barCells t fr) := by
  obtain ⟨xs, m, _, hx, hlen, hn, hel⟩ := DataW.trod_array Tryz.underlying164 hd0
  rw [cellsArr] at hlen
  rw [cellsStr] at hel
  have hcs : cs0.toList = barCells.toList := by
    match xs, hn, hx with
    | [x0, x1, x2, x3, x4], _, hx =>
      simp only [Prod.mk.injEq, DataW.agg.injEq, List.map_cons, List.map_nil, List.cons.injEq] at hx
      obtain ⟨⟨r0, r1, r2, r3, r4, _⟩, _⟩ := hx
      have q0 := pairCells ((hel 0 (by decide)).trans (congrArg some (Prod.ext r0.symm rfl)))
      have q1 := pairCells ((hel 1 (by decide)).trans (congrArg some (Prod.ext r1.symm rfl)))
      have q2 := pairCells ((hel 2 (by decide)).trans (congrArg some (Prod.ext r2.symm rfl)))
      have q3 := pairCells ((hel 3 (by decide)).trans (congrArg some (Prod.ext r3.symm rfl)))
      have q4 := pairCells ((hel 4 (by decide)).trans (congrArg some (Prod.ext r4.symm rfl)))
      generalize cs0.toList = l at *
      match l, hlen, q0, q1, q2, q3, q4 with
      | [c0, c1, c2, c3, c4, c5, c6, c7, c8, c9], _, q0, q1, q2, q3, q4 =>
        simp at q0 q1 q2 q3 q4
        simp [barCells, q0, q1, q2, q3, q4]
  have hcs' : cs0 = barCells := Array.toList_inj.1 hcs
  subst hcs'
  unfold World.var? at hv0
  rw [gBar] at hv0
  simp only [Option.bind_some] at hv0
  split at hv0
  · rename_i c t fr he
    refine ⟨t, fr, ?_⟩
    rw [he]
    simp only [Option.some.injEq] at hv0
    rw [hv0]
  · cases hv0
end Go.Proofs.YtijpfbcippijoaaGreatDoor

namespace Go.Proofs.YtijpfbcippijoaaGreatDoor.Sp
def Norm : Int → List (Int × Int) → Prop
  | _, [] => True
  | b, r :: t => b < r.1 ∧ r.1 < r.2 ∧ Norm r.2 t
theorem norm_lt {b : Int} {l : List (Int × Int)} (h : Norm b l) : ∀ r ∈ l, b < r.1 ∧ r.1 < r.2 := by
  induction l generalizing b with
  | nil => intro r hr; cases hr
  | cons x t ih =>
    intro r hr
    rcases List.mem_cons.1 hr with rfl | hr
    · exact ⟨h.1, h.2.1⟩
    · have := ih h.2.2 r hr
      have := h.1
      have := h.2.1
      omega
def chk : Nat → Int → List (Int × Int) → Int × Int
  | _, _, [] => (0, 0)
  | i, b, r :: t => if r.1 < 0 ∨ 1048576 < r.2 ∨ r.2 ≤ r.1 then ((i : Int), 20) else if r.1 ≤ b then ((i : Int), 22) else chk (i + 1) r.2 t
def checkL (l : List (Int × Int)) : Int × Int := if 32768 < l.length then (32768, 21) else chk 0 (-1) l
structure Lst (l : List (Int × Int)) : Prop where
  norm : Norm (-1) l
  top : ∀ r ∈ l, r.2 ≤ 1048576
  few : l.length ≤ 32768
theorem chk_ok {i : Nat} {b : Int} {l : List (Int × Int)} (h : (chk i b l).2 = 0) (hb : -1 ≤ b) : Norm b l ∧ ∀ r ∈ l, r.2 ≤ 1048576 := by
  induction l generalizing i b with
  | nil => exact ⟨trivial, fun r hr => by cases hr⟩
  | cons r t ih =>
    unfold chk at h
    split at h
    · simp at h
    · split at h
      · simp at h
      · rename_i h1 h2
        have := ih h (by omega)
        refine ⟨⟨by omega, by omega, this.1⟩, fun x hx => ?_⟩
        rcases List.mem_cons.1 hx with rfl | hx
        · omega
        · exact this.2 x hx
theorem checkL_ok {l : List (Int × Int)} (h : (checkL l).2 = 0) : Lst l := by
  unfold checkL at h
  split at h
  · simp at h
  · have := chk_ok h (by omega)
    exact ⟨this.1, this.2, by omega⟩
theorem Lst.nonneg {l : List (Int × Int)} (h : Lst l) : ∀ r ∈ l, 0 ≤ r.1 ∧ r.1 < r.2 ∧ r.2 ≤ 1048576 := fun r hr => by
  have := norm_lt h.norm r hr
  have := h.top r hr
  omega
end Go.Proofs.YtijpfbcippijoaaGreatDoor.Sp

namespace Go.Proofs.YtijpfbcippijoaaGreatDoor.Sp
open Go.RowKit Go.Lib
set_option maxRecDepth 100000
structure Rng (w : World) (a : Option Addr) (n cap : Nat) (l : List (Int × Int)) : Prop where
  len : l.length = n
  room : n ≤ cap ∧ cap ≤ maxLen
  cells : ∀ j, j < n → ∃ g off, a = some ⟨g, off, none⟩ ∧ g < w.heap.size ∧ w.cell? ⟨g, off + j * 2, none⟩ = some (.int .i64 (l.getD j (0, 0)).1) ∧ w.cell? ⟨g, off + j * 2 + 1, none⟩ = some (.int .i64 (l.getD j (0, 0)).2)
def Under (B : Nat) (a : Option Addr) (n : Nat) : Prop := 0 < n → ∀ g off, a = some ⟨g, off, none⟩ → g < B
theorem Rng.belowB {B : Nat} {w w' : World} {a : Option Addr} {n cap : Nat} {l : List (Int × Int)} (h : Rng w a n cap l) (hu : Under B a n) (hb : Below B w w') : Rng w' a n cap l :=
  ⟨h.len, h.room, fun j hj => by
    obtain ⟨g, off, ha, hg, hc, hd⟩ := h.cells j hj
    have hlt := hu (by omega) g off ha
    exact ⟨g, off, ha, by have := hb.size; omega, (hb.cell (p := ⟨g, off + j * 2, none⟩) hlt).trans hc, (hb.cell (p := ⟨g, off + j * 2 + 1, none⟩) hlt).trans hd⟩⟩
theorem Rng.under {w : World} {a : Option Addr} {n cap : Nat} {l : List (Int × Int)} (h : Rng w a n cap l) : Under w.heap.size a n := fun hn g off ha => by
  obtain ⟨g', off', ha', hg, _⟩ := h.cells 0 hn
  rw [ha] at ha'
  cases ha'
  exact hg
theorem Rng.below {w w' : World} {a : Option Addr} {n cap : Nat} {l : List (Int × Int)} (h : Rng w a n cap l) (hb : Below w.heap.size w w') : Rng w' a n cap l := h.belowB h.under hb
theorem rng_nil (w : World) : Rng w none 0 0 [] := ⟨rfl, ⟨Nat.le_refl _, Nat.zero_le _⟩, fun _ hj => absurd hj (Nat.not_lt_zero _)⟩
theorem below_grown {B : Nat} {w w' : World} {row : Option Nat} (hg : w.grownBy w' row) (hrow : ∀ k, row = some k → B ≤ k) (hB : B ≤ w.heap.size) : Below B w w' :=
  (Below.refl B w).grown hg hB hrow
end Go.Proofs.YtijpfbcippijoaaGreatDoor.Sp

namespace Go.Proofs.YtijpfbcippijoaaGreatDoor.Sp
open Go.RowKit Go.Lib
set_option maxRecDepth 100000
set_option maxHeartbeats 400000 in
theorem isPart_yes (lo hi : Int) (h : 0 ≤ lo ∧ lo ≤ hi ∧ hi ≤ 1048576) (w : World) :
    Calls Tryz.prog 96 #[.agg #[.int .i64 lo, .int .i64 hi]] w fun e w' => e = .returned (.bool true) ∧ Below w.heap.size w w' := by
  obtain ⟨h1, h2, h3⟩ := h
  go_enter Tryz.func96, Tryz.ntmps96
  go_wp2_with fail
  go_ret
  exact ⟨rfl, (Below.refl _ _).alloc (Nat.le_refl _) _⟩
set_option maxHeartbeats 400000 in
theorem isPart_no (lo hi : Int) (h : ¬ (0 ≤ lo ∧ lo ≤ hi ∧ hi ≤ 1048576)) (w : World) :
    Calls Tryz.prog 96 #[.agg #[.int .i64 lo, .int .i64 hi]] w fun e w' => e = .returned (.bool false) ∧ Below w.heap.size w w' := by
  have hcs : lo < 0 ∨ (0 ≤ lo ∧ hi < lo) ∨ (0 ≤ lo ∧ lo ≤ hi ∧ 1048576 < hi) := by omega
  clear h
  rcases hcs with k1 | ⟨k1, k2⟩ | ⟨k1, k2, k3⟩
  all_goals
    go_enter Tryz.func96, Tryz.ntmps96
    go_wp2_with fail
    go_ret
    first
      | exact ⟨rfl, (Below.refl _ _).alloc (Nat.le_refl _) _⟩
      | exact ⟨congrArg (fun b => Ending.returned (.bool b)) (by simp; omega), (Below.refl _ _).alloc (Nat.le_refl _) _⟩
theorem below_drewN {B : Nat} {a w : World} (h : Below B a w) (m : Nat) : Below B a (w.drewN m) := h.trans ⟨rfl, rfl, rfl, Nat.le_refl _, fun _ _ => rfl⟩
def prevHi (l : List (Int × Int)) (j : Nat) : Int := if j = 0 then -1 else (l.getD (j - 1) (0, 0)).2
theorem drop_getD (l : List (Int × Int)) (j : Nat) (hj : j < l.length) : l.drop j = l.getD j (0, 0) :: l.drop (j + 1) := by
  rw [List.getD_eq_getElem?_getD, List.getElem?_eq_getElem hj]
  exact List.drop_eq_getElem_cons hj
set_option maxHeartbeats 2000000 in
theorem check_any {w : World} {a : Option Addr} {n cap : Nat} {l : List (Int × Int)} (h : Rng w a n cap l) :
    Calls Tryz.prog 59 #[.slice a n cap] w fun e w' => e = .returned (.tuple #[.int .i64 (checkL l).1, .int .i64 (checkL l).2]) ∧ Below w.heap.size w w' := by
  have hlen := h.len
  have hroom := h.room
  by_cases hmany : 32768 < n
  · have e0 : checkL l = (32768, 21) := by unfold checkL; rw [if_pos (by omega)]
    rw [e0]
    clear e0 hlen
    go_enter Tryz.func59, Tryz.ntmps59
    go_wp2_with fail
    go_ret2
    exact ⟨rfl, Below.refl _ _⟩
  · obtain ⟨ri, rc, hck⟩ : ∃ i c, checkL l = (i, c) := ⟨_, _, rfl⟩
    have hck2 := hck
    unfold checkL at hck2
    rw [if_neg (by omega)] at hck2
    have HC : Hid (chk 0 (-1) l = (ri, rc)) := hck2
    clear hck2
    rw [hck]
    clear hck
    go_enter Tryz.func59, Tryz.ntmps59
    go_wp2_with fail
    go_loopw [11] (fun i w' => ∃ j : Nat, j ≤ n ∧ i = .int .i64 j ∧ Below w.heap.size w w' ∧ Hid (chk j (prevHi l j) (l.drop j) = (ri, rc))) (fun i _ => n - (RowKit.intOf i).toNat)
    case atStart => exact ⟨0, Nat.zero_le _, rfl, Below.refl _ _, HC⟩
    case round =>
      obtain ⟨j, hjn, rfl, hb, HR⟩ := hrel
      by_cases hj : j < n
      · obtain ⟨g, off, rfl, hg, hc, hd⟩ := h.cells j hj
        have c0 := (hb.cell (p := ⟨g, off + j * 2, none⟩) hg).trans hc
        have c1 := (hb.cell (p := ⟨g, off + j * 2 + 1, none⟩) hg).trans hd
        have HR2 := HR.out
        rw [drop_getD l j (by omega)] at HR2
        obtain ⟨lo, hi, hlh⟩ : ∃ lo hi, l.getD j (0, 0) = (lo, hi) := ⟨_, _, rfl⟩
        rw [hlh] at HR2 c0 c1
        simp only at c0 c1
        have HL : Hid (l.getD j (0, 0) = (lo, hi)) := hlh
        clear hlh hc hd HR
        unfold chk at HR2
        by_cases hp : 0 ≤ lo ∧ lo ≤ hi ∧ hi ≤ 1048576
        · have HP : Hid (∀ w, Calls Tryz.prog 96 #[.agg #[.int .i64 lo, .int .i64 hi]] w fun e w' => e = .returned (.bool true) ∧ Below w.heap.size w w') := isPart_yes lo hi hp
          obtain ⟨p1, p2, p3⟩ := hp
          by_cases he : lo = hi
          · subst he
            rw [if_pos (by simp only; omega)] at HR2
            simp only [Prod.mk.injEq] at HR2
            obtain ⟨rfl, rfl⟩ := HR2
            go_wp2_with fail
            refine (HP.out _).mono ?_
            rintro e w1 ⟨rfl, hb1⟩
            have hs1 := hb1.size
            have c2 : w1.cell? ⟨wr.heap.size, 0, none⟩ = some (.int .i64 lo) := (hb1.cell (p := ⟨wr.heap.size, 0, none⟩) (by simp)).trans (World.cell?_alloc_mark _ _ _ _ _)
            have c3 : w1.cell? ⟨wr.heap.size, 1, none⟩ = some (.int .i64 lo) := (hb1.cell (p := ⟨wr.heap.size, 1, none⟩) (by simp)).trans (World.cell?_alloc_mark _ _ _ _ _)
            have hB1 : Below w.heap.size w w1 := (hb.alloc hb.size _).trans (hb1.mono (by have := hb.size; simp; omega))
            go_wp2_with fail
            go_ret2
            exact ⟨rfl, hB1⟩
          · rw [if_neg (by simp only; omega)] at HR2
            simp only at HR2
            have t1 : (lo == hi) = false := by simp [he]
            by_cases ho : lo ≤ prevHi l j
            · rw [if_pos ho] at HR2
              simp only [Prod.mk.injEq] at HR2
              obtain ⟨rfl, rfl⟩ := HR2
              have hj0 : j ≠ 0 := fun e => by rw [prevHi, if_pos e] at ho; omega
              obtain ⟨i, rfl⟩ : ∃ i, j = i + 1 := ⟨j - 1, by omega⟩
              rw [prevHi, if_neg (by omega), Nat.add_sub_cancel] at ho
              obtain ⟨g', off', hga, hg', _, hd'⟩ := h.cells i (by omega)
              cases hga
              have c4 := (hb.cell (p := ⟨g, off + i * 2 + 1, none⟩) hg).trans hd'
              generalize (l.getD i (0, 0)).2 = ph at ho c4
              clear hd' he
              go_wp2_with fail
              refine (HP.out _).mono ?_
              rintro e w1 ⟨rfl, hb1⟩
              have hs1 := hb1.size
              have c2 : w1.cell? ⟨wr.heap.size, 0, none⟩ = some (.int .i64 lo) := (hb1.cell (p := ⟨wr.heap.size, 0, none⟩) (by simp)).trans (World.cell?_alloc_mark _ _ _ _ _)
              have c3 : w1.cell? ⟨wr.heap.size, 1, none⟩ = some (.int .i64 hi) := (hb1.cell (p := ⟨wr.heap.size, 1, none⟩) (by simp)).trans (World.cell?_alloc_mark _ _ _ _ _)
              have hB1 : Below w.heap.size w w1 := (hb.alloc hb.size _).trans (hb1.mono (by have := hb.size; simp; omega))
              have c5 : w1.cell? ⟨g, off + i * 2 + 1, none⟩ = some (.int .i64 ph) := (hB1.cell (p := ⟨g, off + i * 2 + 1, none⟩) hg).trans ((hb.cell (p := ⟨g, off + i * 2 + 1, none⟩) hg).symm.trans c4)
              clear c4 c0 c1
              go_wp2_with fail
              go_quiet (fail)
              go_wp2_with fail
              go_ret2
              exact ⟨rfl, below_drewN hB1 _⟩
            · rw [if_neg ho] at HR2
              have HN : Hid (chk (j + 1) (prevHi l (j + 1)) (l.drop (j + 1)) = (ri, rc)) := by
                show _ = _
                rw [prevHi, if_neg (by omega), Nat.add_sub_cancel, HL.out]
                exact HR2
              clear HR2 he
              by_cases hj0 : j = 0
              · subst hj0
                simp only [Nat.zero_mul, Nat.add_zero] at c0 c1
                clear ho
                go_wp2_with fail
                refine (HP.out _).mono ?_
                rintro e w1 ⟨rfl, hb1⟩
                have hs1 := hb1.size
                have c2 : w1.cell? ⟨wr.heap.size, 0, none⟩ = some (.int .i64 lo) := (hb1.cell (p := ⟨wr.heap.size, 0, none⟩) (by simp)).trans (World.cell?_alloc_mark _ _ _ _ _)
                have c3 : w1.cell? ⟨wr.heap.size, 1, none⟩ = some (.int .i64 hi) := (hb1.cell (p := ⟨wr.heap.size, 1, none⟩) (by simp)).trans (World.cell?_alloc_mark _ _ _ _ _)
                have hB1 : Below w.heap.size w w1 := (hb.alloc hb.size _).trans (hb1.mono (by have := hb.size; simp; omega))
                clear c0 c1
                go_wp2_with fail
                go_quiet (fail)
                go_wp2_with fail
                go_roundw
                case rel => exact ⟨1, by omega, rfl, below_drewN hB1 _, HN⟩
                case measure => simp [RowKit.intOf]; omega
              · obtain ⟨i, rfl⟩ : ∃ i, j = i + 1 := ⟨j - 1, by omega⟩
                rw [prevHi, if_neg (by omega), Nat.add_sub_cancel] at ho
                obtain ⟨g', off', hga, hg', _, hd'⟩ := h.cells i (by omega)
                cases hga
                have c4 := (hb.cell (p := ⟨g, off + i * 2 + 1, none⟩) hg).trans hd'
                generalize (l.getD i (0, 0)).2 = ph at ho c4
                clear hd' hj0
                go_wp2_with fail
                refine (HP.out _).mono ?_
                rintro e w1 ⟨rfl, hb1⟩
                have hs1 := hb1.size
                have c2 : w1.cell? ⟨wr.heap.size, 0, none⟩ = some (.int .i64 lo) := (hb1.cell (p := ⟨wr.heap.size, 0, none⟩) (by simp)).trans (World.cell?_alloc_mark _ _ _ _ _)
                have c3 : w1.cell? ⟨wr.heap.size, 1, none⟩ = some (.int .i64 hi) := (hb1.cell (p := ⟨wr.heap.size, 1, none⟩) (by simp)).trans (World.cell?_alloc_mark _ _ _ _ _)
                have hB1 : Below w.heap.size w w1 := (hb.alloc hb.size _).trans (hb1.mono (by have := hb.size; simp; omega))
                have c5 : w1.cell? ⟨g, off + i * 2 + 1, none⟩ = some (.int .i64 ph) := (hB1.cell (p := ⟨g, off + i * 2 + 1, none⟩) hg).trans ((hb.cell (p := ⟨g, off + i * 2 + 1, none⟩) hg).symm.trans c4)
                clear c4 c0 c1
                go_wp2_with fail
                go_quiet (fail)
                go_wp2_with fail
                go_roundw
                case rel => exact ⟨i + 1 + 1, by omega, by go_num, below_drewN hB1 _, HN⟩
                case measure => simp [RowKit.intOf]; omega
        · have HP : Hid (∀ w, Calls Tryz.prog 96 #[.agg #[.int .i64 lo, .int .i64 hi]] w fun e w' => e = .returned (.bool false) ∧ Below w.heap.size w w') := isPart_no lo hi hp
          rw [if_pos (by simp only; omega)] at HR2
          simp only [Prod.mk.injEq] at HR2
          obtain ⟨rfl, rfl⟩ := HR2
          clear hp
          go_wp2_with fail
          refine (HP.out _).mono ?_
          rintro e w1 ⟨rfl, hb1⟩
          have hB1 : Below w.heap.size w w1 := (hb.alloc hb.size _).trans (hb1.mono (by have := hb.size; simp; omega))
          go_wp2_with fail
          go_ret2
          exact ⟨rfl, hB1⟩
      · have e1 : l.drop j = [] := List.drop_eq_nil_of_le (by omega)
        have HR2 := HR.out
        rw [e1] at HR2
        simp only [chk, Prod.mk.injEq] at HR2
        obtain ⟨rfl, rfl⟩ := HR2
        go_wp2_with fail
        go_ret2
        exact ⟨rfl, hb⟩
end Go.Proofs.YtijpfbcippijoaaGreatDoor.Sp
