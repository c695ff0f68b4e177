import Derived.Test.YtchkeckblpmehaaWxF
import Derived.Test.YtchkeckblpmehaaWdA
/-! The lists that were handed out, in memory; the sentences' hold. -/
namespace Go.Proofs.Ytchkeckblpmehaa
open Go.RowKit Go.Lib
set_option maxRecDepth 100000

/-- A list that was handed out, what it must hold, and what both hold. -/
structure Hp where
  ga : Option Addr
  gn : Nat
  gc : Nat
  wa : Option Addr
  wn : Nat
  wc : Nat
  l : List Int
def gotV (x : Hp) : List Value := [.slice x.ga x.gn x.gc]
def wantV (x : Hp) : List Value := [.slice x.wa x.wn x.wc]
theorem layGot : Lay gotV 1 := ⟨fun _ => rfl, by decide, fun x u hu => by simp [gotV] at hu; subst hu; rfl⟩
theorem layWant : Lay wantV 1 := ⟨fun _ => rfl, by decide, fun x u hu => by simp [wantV] at hu; subst hu; rfl⟩
theorem kindGot : Kind Try.prog 26 56 1 24 := kind_of Try.underlying26 (z := .slice none 0 0) (by kernel_rfl) rfl
def Hp.g (x : Hp) : Value := .slice x.ga x.gn x.gc
def Hp.w (x : Hp) : Value := .slice x.wa x.wn x.wc
/-- All lists that were handed out: rows of their own from B on. -/
structure HdAt (W : World) (B q : Nat) (va vb : Value) (ps : List Hp) : Prop where
  box : W.heap[q]? = some (.cells #[va, vb] 28)
  got : OwnF gotV 1 56 W B va ps
  want : OwnF wantV 1 56 W B vb ps
  ne : ∀ g, va.ownBlock = some g → vb.ownBlock ≠ some g
  each : ∀ x ∈ ps, OwnF intV 1 3 W B x.g x.l ∧ OwnF intV 1 3 W B x.w x.l
  base : B ≤ W.heap.size
/-- Its blocks. -/
def HB (q : Nat) (va vb : Value) (ps : List Hp) (g : Nat) : Prop := g = q ∨ va.ownBlock = some g ∨ vb.ownBlock = some g ∨ ∃ x ∈ ps, x.g.ownBlock = some g ∨ x.w.ownBlock = some g
theorem HdAt.chg {W W' : World} {B q : Nat} {va vb : Value} {ps : List Hp} {D : Nat → Prop} (h : HdAt W B q va vb ps) (hC : Chg D W W') (hD : ∀ g, HB q va vb ps g → ¬ D g) : HdAt W' B q va vb ps :=
  ⟨hC.block h.box (hD _ (.inl rfl)), h.got.chgX hC (fun g hg => hD g (.inr (.inl hg))), h.want.chgX hC (fun g hg => hD g (.inr (.inr (.inl hg)))), h.ne,
    fun x hx => ⟨(h.each x hx).1.chgX hC (fun g hg => hD g (.inr (.inr (.inr ⟨x, hx, .inl hg⟩)))), (h.each x hx).2.chgX hC (fun g hg => hD g (.inr (.inr (.inr ⟨x, hx, .inr hg⟩))))⟩, Nat.le_trans h.base hC.size⟩
theorem HdAt.below {W W' : World} {B q : Nat} {va vb : Value} {ps : List Hp} (h : HdAt W B q va vb ps) (hb : Below W.heap.size W W') : HdAt W' B q va vb ps :=
  h.chg (D := fun _ => False) (Chg.of_below hb) (fun _ _ f => f)
theorem HdAt.lt {W : World} {B q : Nat} {va vb : Value} {ps : List Hp} (h : HdAt W B q va vb ps) {g : Nat} (hg : HB q va vb ps g) : g < W.heap.size := by
  rcases hg with rfl | hg | hg | ⟨x, hx, hg | hg⟩
  · exact (Array.getElem?_eq_some_iff.1 h.box).1
  · exact h.got.lt hg
  · exact h.want.lt hg
  · exact (h.each x hx).1.lt hg
  · exact (h.each x hx).2.lt hg
set_option maxHeartbeats 2000000 in
theorem hold_ok {w : World} {B q : Nat} {va vb : Value} {ps : List Hp} (h : HdAt w B q va vb ps) (hn : ps.length ≤ 1073741824) (hl : ∀ x ∈ ps, x.l.length ≤ 1073741824) :
    Calls Try.prog 6 #[.pointer (some ⟨q, 0, none⟩)] w fun e w' => e = .returned (.bool true) ∧ ∃ k, w' = w.drewN k := by
  obtain ⟨a, c, rfl⟩ := h.got.shape
  obtain ⟨a', c', rfl⟩ := h.want.shape
  have hg := h.got.rw_ layGot
  have hw := h.want.rw_ layWant
  obtain ⟨c0, c1⟩ := box2 h.box
  obtain ⟨n, hnn⟩ : ∃ n, ps.length = n := ⟨_, rfl⟩
  rw [hnn] at hg hw c0 c1 hn
  have HH : Hid (Rw gotV 1 w a n c ps ∧ Rw wantV 1 w a' n c' ps ∧ (∀ x ∈ ps, Rw intV 1 w x.ga x.gn x.gc x.l ∧ Rw intV 1 w x.wa x.wn x.wc x.l) ∧ ∀ x ∈ ps, x.l.length ≤ 1073741824) := ⟨hg, hw, fun x hx => ⟨(h.each x hx).1.rw_ layI, (h.each x hx).2.rw_ layI⟩, hl⟩
  have hnc : (n : Int) ≤ 1073741824 := by omega
  clear h hg hw hn hl hnn
  go_enter Try.func6, Try.ntmps6
  go_wp2_with fail
  go_loopw [3] (fun v wr => ∃ i k : Nat, i ≤ n ∧ v = .int .i64 (i : Int) ∧ wr = w.drewN k) (fun v _ => n - (RowKit.intOf v).toNat)
  case atStart => exact ⟨0, 0, Nat.zero_le _, rfl, rfl⟩
  case round =>
    obtain ⟨i, k, hi, rfl, hwr⟩ := hrel
    have HW : Hid (wr = w.drewN k) := hwr
    have hB : Below w.heap.size w wr := by rw [hwr]; exact below_drewN (Below.refl _ _) k
    have z0 : wr.cell? ⟨q, 0, none⟩ = _ := (hB.cell (p := ⟨q, 0, none⟩) (World.block_lt_of_cell? _ _ c0)).trans c0
    have z1 : wr.cell? ⟨q, 1, none⟩ = _ := (hB.cell (p := ⟨q, 1, none⟩) (World.block_lt_of_cell? _ _ c1)).trans c1
    have HZ : Hid (Rw gotV 1 wr a n c ps ∧ Rw wantV 1 wr a' n c' ps ∧ (∀ x ∈ ps, Rw intV 1 wr x.ga x.gn x.gc x.l ∧ Rw intV 1 wr x.wa x.wn x.wc x.l)) := ⟨HH.out.1.below hB, HH.out.2.1.below hB, fun x hx => ⟨(HH.out.2.2.1 x hx).1.below hB, (HH.out.2.2.1 x hx).2.below hB⟩⟩
    clear hwr hB
    by_cases hlt : i < n
    · have hlt2 : (i : Int) < (n : Int) := by omega
      obtain ⟨g, off, o, hoa, hgl, hoi, hcell⟩ := HZ.out.1.at i hlt
      obtain ⟨g', off', o', hoa', hgl', hoi', hcell'⟩ := HZ.out.2.1.at i hlt
      rw [hoi] at hoi'
      obtain rfl : o = o' := by simpa using hoi'
      subst hoa hoa'
      have o0 := hcell 0 _ rfl
      have o1 := hcell' 0 _ rfl
      rw [Nat.add_zero, Nat.mul_one] at o0 o1
      have gi : IntKind.i64.wrap ((i : Int) + 1) = ((i + 1 : Nat) : Int) := by rw [IntWalk.i64_in _ (by omega)]; omega
      have hm := List.mem_of_getElem? hoi
      obtain ⟨e1, e2⟩ := HZ.out.2.2 o hm
      have e3 := HH.out.2.2.2 o hm
      have hwn : o.wn = o.gn := by rw [← e2.len, ← e1.len]
      rw [hwn] at o1 e2
      have HSM : Hid (∀ m, Calls Try.prog 19 #[.slice o.ga o.gn o.gc, .slice o.wa o.gn o.wc] (wr.drewN m) fun e w' => e = .returned (.bool true) ∧ ∃ k, w' = (wr.drewN m).drewN k) := fun m =>
        sameInts_eq (e1.below (below_drewN (Below.refl _ _) m)) (e2.below (below_drewN (Below.refl _ _) m)) (by have := e1.len; omega)
      clear hcell hcell' hgl hgl' hoi hoi' hm e1 e2 e3 hwn
      go_wp2_with fail
      go_quiet (refine Calls.quiet_of (HSM.out _))
      go_wp2_with fail
      go_roundw
      case rel => exact ⟨i + 1, k + nq, by omega, by first | rfl | go_num, by rw [HW.out, World.drewN_drewN]⟩
      case measure => simp [RowKit.intOf]; omega
    · obtain rfl : i = n := by omega
      have hlt2 : ¬ ((i : Int) < (i : Int)) := by omega
      go_wp2_with fail
      go_ret
      exact ⟨rfl, k, HW.out⟩
end Go.Proofs.Ytchkeckblpmehaa
