import Derived.Test.YtfnpmncmceocdaaDoorRpM
import Derived.Deep.RegionHeld3
import Derived.Deep.DeepCutAuto
import Derived.Laws.IdiomStrings
import Derived.Laws.CopyOwn
import Derived.Deep.DeepAppendWide
/-! A link: what changes, rows of bytes. -/
namespace Go.Proofs.YtfnpmncmceocdaaDoor
open Go.RowKit Go.Lib
set_option maxRecDepth 100000

/-- All stands but the blocks of D, and what is new. -/
def Chg (D : Nat → Prop) (w w' : World) : Prop := Below 0 w w' ∧ ∀ g, g < w.heap.size → ¬ D g → w'.heap[g]? = w.heap[g]?
theorem Chg.refl (D : Nat → Prop) (w : World) : Chg D w w := ⟨Below.refl _ _, fun _ _ _ => rfl⟩
theorem Chg.size {D : Nat → Prop} {a b : World} (h : Chg D a b) : a.heap.size ≤ b.heap.size := h.1.size
theorem Chg.trans {D : Nat → Prop} {a b c : World} (h : Chg D a b) (k : Chg D b c) : Chg D a c := ⟨h.1.trans k.1, fun g hg hq => (k.2 g (Nat.lt_of_lt_of_le hg h.1.size) hq).trans (h.2 g hg hq)⟩
theorem Chg.of_below {D : Nat → Prop} {a b : World} (h : Below a.heap.size a b) : Chg D a b := ⟨h.mono (Nat.zero_le _), fun g hg _ => h.block g hg⟩
theorem Chg.mono {D E : Nat → Prop} {a b : World} (h : Chg D a b) (hD : ∀ g, g < a.heap.size → D g → E g) : Chg E a b := ⟨h.1, fun g hg hE => h.2 g hg (fun hd => hE (hD g hg hd))⟩
theorem Chg.block {D : Nat → Prop} {a b : World} (h : Chg D a b) {g : Nat} {o : Obj} (hg : a.heap[g]? = some o) (hq : ¬ D g) : b.heap[g]? = some o := (h.2 g (Array.getElem?_eq_some_iff.1 hg).1 hq).trans hg
theorem Chg.set {D : Nat → Prop} {q : Nat} (i : Nat) (w : World) (u : Value) (hq : D q) : Chg D w (w.setCell ⟨q, i, none⟩ u) := ⟨(Below.refl _ _).setCell (Nat.zero_le _) _, fun g _ hk => Below.heap_setCell _ _ _ _ (by simp only; intro e; exact hk (e ▸ hq))⟩
theorem Chg.alloc (D : Nat → Prop) (w : World) (o : Obj) : Chg D w (w.alloc o) := Chg.of_below ((Below.refl _ _).alloc (Nat.le_refl _) _)
theorem Chg.drew {D : Nat → Prop} {a b : World} (h : Chg D a b) : Chg D a b.drew := ⟨h.1.drew, h.2⟩
theorem Chg.drewN {D : Nat → Prop} {a b : World} (h : Chg D a b) {m : Nat} : Chg D a (b.drewN m) := ⟨below_drewN h.1 m, h.2⟩
theorem Chg.cell {D : Nat → Prop} {a b : World} (h : Chg D a b) {p : Addr} (hp : p.block < a.heap.size) (hq : ¬ D p.block) : b.cell? p = a.cell? p := by
  obtain ⟨g, o, s⟩ := p
  have := h.2 g hp hq
  unfold World.cell?
  rw [this]
theorem Chg.below {D : Nat → Prop} {B : Nat} {a b : World} (h : Chg D a b) (hB : ∀ g, D g → B ≤ g) (hs : B ≤ a.heap.size) : Below B a b := ⟨h.1.os, h.1.tape, h.1.output, h.1.size, fun g hg => h.2 g (by omega) (fun hd => by have := hB g hd; omega)⟩
/-- What changes D and what is newer than a, seen from a. -/
theorem Chg.then {D E : Nat → Prop} {a b c : World} (h : Chg D a b) (k : Chg E b c) (hE : ∀ g, E g → D g ∨ a.heap.size ≤ g) : Chg D a c :=
  ⟨h.1.trans k.1, fun g hg hd => (k.2 g (Nat.lt_of_lt_of_le hg h.1.size) (fun he => by rcases hE g he with h1 | h1; exact hd h1; omega)).trans (h.2 g hg hd)⟩
theorem Rw.chg {α : Type} {f : α → List Value} {k : Nat} {D : Nat → Prop} {W W' : World} {a : Option Addr} {n cap : Nat} {l : List α} (h : Rw f k W a n cap l) (hC : Chg D W W') (hd : ∀ g, a = some g → ¬ D g.block) : Rw f k W' a n cap l :=
  ⟨h.len, h.room, fun hn => by
    obtain ⟨g, off, ha, hg, hc⟩ := h.cells hn
    exact ⟨g, off, ha, by have := hC.size; omega, fun j x hj i v hv => (hC.cell (p := ⟨g, off + j * k + i, none⟩) hg (hd ⟨g, off, none⟩ ha)).trans (hc j x hj i v hv)⟩⟩
theorem OwnF.chg {α : Type} {f : α → List Value} {k : Nat} {T : TypeId} {D : Nat → Prop} {a b : World} {B : Nat} {v : Value} {l : List α} (ho : OwnF f k T a B v l) (h : Chg D a b) (hq : ∀ g, v.ownBlock = some g → ¬ D g) : OwnF f k T b B v l := by
  refine ⟨ho.1, ?_⟩
  rcases ho.2 with h0 | ⟨g, cap, cur, e, h1, hh, rest⟩
  · exact .inl h0
  · exact .inr ⟨g, cap, cur, e, h1, h.block hh (hq g (by rw [e]; rfl)), rest⟩
theorem heap_setCell_cells {W : World} {b : Nat} {cs : Array Value} {T : TypeId} (h : W.heap[b]? = some (.cells cs T)) (i : Nat) (u : Value) : (W.setCell ⟨b, i, none⟩ u).heap[b]? = some (.cells (cs.setIfInBounds i u) T) := by
  unfold World.setCell
  simp [Array.getElem?_modify, h]
theorem box2 {W : World} {b : Nat} {T : TypeId} {v0 v1 : Value} (h : W.heap[b]? = some (.cells #[v0, v1] T)) : W.cell? ⟨b, 0, none⟩ = some v0 ∧ W.cell? ⟨b, 1, none⟩ = some v1 := by
  simp only [Lib.cell_of_heap h]
  exact ⟨rfl, rfl⟩
theorem box5 {W : World} {b : Nat} {T : TypeId} {v0 v1 v2 v3 v4 : Value} (h : W.heap[b]? = some (.cells #[v0, v1, v2, v3, v4] T)) : W.cell? ⟨b, 0, none⟩ = some v0 ∧ W.cell? ⟨b, 1, none⟩ = some v1 ∧ W.cell? ⟨b, 2, none⟩ = some v2 ∧ W.cell? ⟨b, 3, none⟩ = some v3 ∧ W.cell? ⟨b, 4, none⟩ = some v4 := by
  simp only [Lib.cell_of_heap h]
  exact ⟨rfl, rfl, rfl, rfl, rfl⟩

/-! ## Bytes -/
def byU (b : UInt8) : List Value := [.int .u8 (b.toNat : Int)]
theorem layU : Lay byU 1 := ⟨fun _ => rfl, by decide, fun x u hu => by simp [byU] at hu; subst hu; rfl⟩
theorem kindU : Kind Tryd.prog 62 5 1 1 := kind_of Tryd.underlying62 (z := .int .u8 0) (by kernel_rfl) rfl
theorem elemU : Tryd.prog.elem 62 = 5 := by kernel_rfl
theorem cutU (W : World) (a : Option Addr) (n cap m : Nat) (hm : m ≤ cap) : (Instr.slice 62 (.slice a n cap) none (some (.int .i64 (m : Int))) none).run Tryd.prog W = .ok (.slice a m cap) W := by
  obtain ⟨i, z, hi, hz, hsz, hby, _⟩ := kindU.info
  have := run_slice_h (P := Tryd.prog) W 62 a n cap (by rw [elemU]; exact kindU.under) .i64 (m : Int) (by omega) (by omega)
  rw [this, elemU]
  simp [sizeOf, typeInfo, hi, hsz, sliced]
  cases a with
  | none => simp
  | some q => simp [Addr.add]
theorem conv_bytes {W : World} {a : Option Addr} {n cap : Nat} {l : List UInt8} (h : Rw byU 1 W a n cap l) : (convert 62 9 (.slice a n cap)).run Tryd.prog W = .ok (.string ⟨l.toArray⟩) W := by
  have hl := h.len
  by_cases h0 : 0 < n
  · obtain ⟨g, off, rfl, hg, hc⟩ := h.cells h0
    have := run_convert_bytes_back (P := Tryd.prog) W 62 9 5 ⟨g, off, none⟩ cap l Tryd.underlying62 Tryd.underlying5 Tryd.underlying9 (fun j hj => by
      have hx : l[j]? = some l[j] := List.getElem?_eq_getElem hj
      have h1 := hc j _ hx 0 _ rfl
      rw [addr_add']
      simpa using h1)
    rw [hl] at this
    exact this
  · obtain rfl : n = 0 := by omega
    obtain rfl : l = [] := List.length_eq_zero_iff.1 hl
    cases a with
    | none =>
      rw [run_convert_bytes_string (P := Tryd.prog) W 62 9 5 none 0 cap Tryd.underlying62 Tryd.underlying5 Tryd.underlying9]
      simp [Conv.bytesToString]
      rfl
    | some q => exact run_convert_bytes_back (P := Tryd.prog) W 62 9 5 q cap [] Tryd.underlying62 Tryd.underlying5 Tryd.underlying9 (fun j hj => absurd hj (Nat.not_lt_zero _))

theorem box4 {W : World} {b : Nat} {T : TypeId} {v0 v1 v2 v3 : Value} (h : W.heap[b]? = some (.cells #[v0, v1, v2, v3] T)) : W.cell? ⟨b, 0, none⟩ = some v0 ∧ W.cell? ⟨b, 1, none⟩ = some v1 ∧ W.cell? ⟨b, 2, none⟩ = some v2 ∧ W.cell? ⟨b, 3, none⟩ = some v3 := by
  simp only [Lib.cell_of_heap h]
  exact ⟨rfl, rfl, rfl, rfl⟩
theorem box3 {W : World} {b : Nat} {T : TypeId} {v0 v1 v2 : Value} (h : W.heap[b]? = some (.cells #[v0, v1, v2] T)) : W.cell? ⟨b, 0, none⟩ = some v0 ∧ W.cell? ⟨b, 1, none⟩ = some v1 ∧ W.cell? ⟨b, 2, none⟩ = some v2 := by
  simp only [Lib.cell_of_heap h]
  exact ⟨rfl, rfl, rfl⟩
theorem Chg.setRow {D : Nat → Prop} {q : Nat} (w : World) (cs : Array Value) (hq : D q) : Chg D w (w.setRow q cs) := ⟨⟨rfl, rfl, rfl, by simp, fun k hk => absurd hk (Nat.not_lt_zero _)⟩, fun g _ hk => setRow_other _ _ _ _ (fun e => hk (e ▸ hq))⟩
end Go.Proofs.YtfnpmncmceocdaaDoor
