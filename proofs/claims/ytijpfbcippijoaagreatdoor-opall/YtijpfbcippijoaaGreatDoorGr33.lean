import Derived.Shelf.Strings.BuilderK
import Derived.Test.YtijpfbcippijoaaGreatDoorProg
import Derived.Test.YtijpfbcippijoaaGreatDoorRrAC
import Derived.Test.YtijpfbcippijoaaGreatDoorRtH
namespace Go.Proofs
open Go.Shelf
def Tryz.lays169_ren : Go.Shelf.Ren := ⟨fun | 169 => 31 | n => n, fun | 70 => 84 | 9 => 9 | 0 => 0 | 72 => 87 | 37 => 85 | 127 => 127 | 3 => 3 | 5 => 5 | n => n, fun | n => n⟩
theorem Tryz.lays169 : Go.Proofs.Lays.n169 Tryz.prog Tryz.lays169_ren := {
  mixed := by kernel_rfl
  f169 := Tryz.func31.trans (congrArg some (by kernel_rfl))
  t0 := Tryz.underlying0
  a0 := Tryz.isAgg0
  z0 := Tryz.sizeOf0
  v0 := Tryz.zeroValue0
  t3 := Tryz.underlying3
  a3 := Tryz.isAgg3
  z3 := Tryz.sizeOf3
  v3 := Tryz.zeroValue3
  t9 := Tryz.underlying9
  a9 := Tryz.isAgg9
  z9 := Tryz.sizeOf9
  v9 := Tryz.zeroValue9
  t37 := Tryz.underlying85
  a37 := Tryz.isAgg85
  z37 := Tryz.sizeOf85
  v37 := Tryz.zeroValue85
  t70 := Tryz.underlying84
  a70 := Tryz.isAgg84
  z70 := Tryz.sizeOf84
  v70 := Tryz.zeroValue84
  t72 := Tryz.underlying87
  a72 := Tryz.isAgg87
  z72 := Tryz.sizeOf87
  v72 := Tryz.zeroValue87
  t127 := Tryz.underlying127
  a127 := Tryz.isAgg127
  z127 := Tryz.sizeOf127
  v127 := Tryz.zeroValue127 }
theorem Tryz.Builder_Extra_169 : Builder.Extra Tryz.prog Tryz.lays169_ren := {
  sizeBuilder := by kernel_rfl
  liesBuilder := by kernel_rfl
  t5 := Tryz.underlying5
  a5 := Tryz.isAgg5
  z5 := Tryz.sizeOf5
  v5 := Tryz.zeroValue5
  infoByte := by kernel_rfl
  cellsByte := by kernel_rfl
  sizeByte := by kernel_rfl
  neB5 := by decide }
open Go.RowKit in
theorem Tryz.Builder_String_any_k (B b : Nat) (l : List UInt8) (w : World) (h : Lib.IsBuilderF 87 5 B b (Lib.byteCells l) w) (hBw : B ≤ w.heap.size) :
    Calls Tryz.prog 31 #[.pointer (some ⟨b, 0, none⟩)] w fun e w' => e = .returned (.string ⟨l.toArray⟩) ∧ (Lib.IsBuilderF 87 5 B b (Lib.byteCells l) w' ∧ Below B w w' ∧ Lib.OthersKept 5 (some b) w w') := Any.Builder_String_any_k Tryz.lays169 Tryz.Builder_Extra_169 B b l w h hBw
end Go.Proofs

namespace Go.Proofs.YtijpfbcippijoaaGreatDoor
open Go.RowKit Go.Lib Go.Shelf
set_option maxRecDepth 100000
attribute [local go_sem] Oper.semAt_some
theorem encVs_bytes (rs : List Int) : encVs rs = Lib.byteCells (encs rs) := by
  unfold encVs encs Lib.byteCells encV
  induction rs with
  | nil => rfl
  | cons r rs ih => simp only [List.flatMap_cons, List.map_append, ih]
theorem builderAtF_keep {B b : Nat} {p : Value} {bs : List Value} {A C : World} {row : Option Nat} (h : Lib.BuilderAtF 87 5 B b p bs A) (hg : A.grownBy C row) (hr : ∀ r, row = some r → ∃ o : Obj, A.heap[r]? = some o ∧ o.isCells = false) : Lib.BuilderAtF 87 5 B b p bs C := by
  obtain ⟨hB, v, hb, hown, hne⟩ := h
  refine ⟨hB, v, (hg.block b (Array.getElem?_eq_some_iff.1 hb).1 (fun e => ?_)).trans hb, hown.kept hg ?_, hne⟩
  · obtain ⟨o, ho, hc⟩ := hr b e.symm
    rw [hb] at ho
    cases ho
    simp [Obj.isCells] at hc
  · by_cases e : v.ownBlock = row
    · left
      cases row with
      | none => exact e
      | some r =>
        obtain ⟨o, ho, hc⟩ := hr r rfl
        obtain ⟨c, fz, hh⟩ := Lib.ownsRowF_kind hown r e
        rw [hh] at ho
        cases ho
        simp [Obj.isCells] at hc
    · exact .inr e
theorem isBuilderF_keep {B b : Nat} {bs : List Value} {A C : World} {row : Option Nat} (h : Lib.IsBuilderF 87 5 B b bs A) (hg : A.grownBy C row) (hr : ∀ r, row = some r → ∃ o : Obj, A.heap[r]? = some o ∧ o.isCells = false) : Lib.IsBuilderF 87 5 B b bs C :=
  h.elim (fun x => .inl (builderAtF_keep x hg hr)) (fun x => .inr (builderAtF_keep x hg hr))
theorem isBuilderF_below {B b : Nat} {bs : List Value} {A C : World} (h : Lib.IsBuilderF 87 5 B b bs A) (hb : Below A.heap.size A C) : Lib.IsBuilderF 87 5 B b bs C :=
  isBuilderF_keep h (grown_of_below hb) (fun r e => by cases e)
theorem isBuilderF_new (w : World) : Lib.IsBuilderF 87 5 w.heap.size w.heap.size [] (w.alloc (.cells #[.pointer none, .slice none 0 0] 87)) :=
  .inl ⟨Nat.le_refl _, _, World.alloc_heap_new _ _, World.ownsRowF_nil _ _ _ _, by simp [Value.ownBlock]⟩
theorem keepsFrom_others {B b : Nat} {w w' : World} (h : Lib.OthersKept 5 (some b) w w') (hb : ∃ cs fz, w.heap[b]? = some (.cells cs 87 fz)) (hs : w.heap.size ≤ w'.heap.size) : KeepsFrom B w w' := by
  obtain ⟨cs, fz, hb⟩ := hb
  refine ⟨hs, fun k ob _ hk hc => h k ob hk (fun e => ?_) (fun c fz e => ?_)⟩
  · cases e; rw [hb] at hk; cases hk; simp [Obj.isCells] at hc
  · subst e; simp [Obj.isCells] at hc
theorem keepsFrom_below {B : Nat} {w w' : World} (h : Below w.heap.size w w') : KeepsFrom B w w' := ⟨h.size, fun k _ _ hk _ => (h.block k (Array.getElem?_eq_some_iff.1 hk).1).trans hk⟩
end Go.Proofs.YtijpfbcippijoaaGreatDoor

namespace Go.Proofs.YtijpfbcippijoaaGreatDoor
open Go.RowKit Go.Lib
set_option maxRecDepth 100000
end Go.Proofs.YtijpfbcippijoaaGreatDoor

namespace Go.Proofs.YtijpfbcippijoaaGreatDoor
open Go.RowKit Go.Lib
set_option maxRecDepth 100000
end Go.Proofs.YtijpfbcippijoaaGreatDoor

namespace Go.Proofs.YtijpfbcippijoaaGreatDoor
open Go.RowKit Go.Lib
set_option maxRecDepth 100000
end Go.Proofs.YtijpfbcippijoaaGreatDoor

namespace Go.Proofs.YtijpfbcippijoaaGreatDoor
open Go.RowKit Go.Lib
set_option maxRecDepth 100000
end Go.Proofs.YtijpfbcippijoaaGreatDoor

namespace Go.Proofs.YtijpfbcippijoaaGreatDoor
open Go.RowKit Go.Lib
set_option maxRecDepth 100000
end Go.Proofs.YtijpfbcippijoaaGreatDoor

namespace Go.Proofs.YtijpfbcippijoaaGreatDoor
open Go.RowKit Go.Lib
set_option maxRecDepth 100000
def strOf (rs : List Int) : ByteArray := ⟨(encs rs).toArray⟩
theorem tx_eq {s : ByteArray} {rs : List Int} (h : s.data.toList = encs rs) : s = strOf rs := by
  cases s with | mk d => simp only at h; unfold strOf; rw [← h]
def Holds (w2 : World) (q : Nat) (R : List (Int × Int)) (W : World) : Prop := ∃ t, RopeAt W q t ∧ t.Rp ∧ t.row = R ∧ Below w2.heap.size w2 W
theorem okl_row {t : Tr} (h : ∀ c ∈ t.row, okR c.1) : Okl t.lv := fun p hp r hr => h (r, p.2) (by
  rw [Tr.row_lv]
  unfold rowOf
  exact List.mem_flatMap.2 ⟨p, hp, List.mem_map.2 ⟨r, hr, rfl⟩⟩)
section
variable {w2 : World} {q : Nat} {R : List (Int × Int)} {W : World}
theorem Holds.nonneg (h : Holds w2 q R W) : Nonneg R := by obtain ⟨t, h1, h2, rfl, h3⟩ := h; exact h2.lo
theorem Holds.below (h : Holds w2 q R W) : Below w2.heap.size w2 W := by obtain ⟨t, h1, h2, rfl, h3⟩ := h; exact h3
theorem Holds.still {W' : World} (h : Holds w2 q R W) (hb : Below W.heap.size W W') : Holds w2 q R W' := by
  obtain ⟨t, h1, h2, e, h3⟩ := h
  exact ⟨t, h1.below hb, h2, e, h3.trans (hb.mono h3.size)⟩
theorem Holds.total (h : Holds w2 q R W) : Calls Tryz.prog 24 #[.pointer (some ⟨q, 0, none⟩)] W fun e W' => e = .returned (.int .i64 (R.length : Int)) ∧ Holds w2 q R W' := by
  have h' := h
  obtain ⟨t, h1, h2, rfl, h3⟩ := h
  exact (ropeTotal_any h1).mono fun e W' ⟨he, hw⟩ => ⟨he, hw ▸ h'⟩
def putL (R : List (Int × Int)) (m : Nat) (rs : List Int) (hid : Int) : List (Int × Int) := R.take m ++ (rs.map fun c => (c, hid)) ++ R.drop m
theorem putL_len (R : List (Int × Int)) (m : Nat) (rs : List Int) (hid : Int) : (putL R m rs hid).length = R.length + rs.length := by
  unfold putL
  simp only [List.length_append, List.length_take, List.length_drop, List.length_map]
  omega
theorem putL_ok {R : List (Int × Int)} {m : Nat} {rs : List Int} {hid : Int} (h : ∀ c ∈ R, okR c.1) (hr : ∀ r ∈ rs, okR r) : ∀ c ∈ putL R m rs hid, okR c.1 := fun c hc => by
  unfold putL at hc
  rcases List.mem_append.1 hc with hc | hc
  · rcases List.mem_append.1 hc with hc | hc
    · exact h c (List.mem_of_mem_take hc)
    · obtain ⟨r, hr2, rfl⟩ := List.mem_map.1 hc
      exact hr r hr2
  · exact h c (List.mem_of_mem_drop hc)
end
end Go.Proofs.YtijpfbcippijoaaGreatDoor

namespace Go.Proofs.YtijpfbcippijoaaGreatDoor
open Go.RowKit Go.Lib
set_option maxRecDepth 100000
end Go.Proofs.YtijpfbcippijoaaGreatDoor

namespace Go.Proofs.YtijpfbcippijoaaGreatDoor
open Go.RowKit Go.Lib
set_option maxRecDepth 100000
end Go.Proofs.YtijpfbcippijoaaGreatDoor

namespace Go.Proofs.YtijpfbcippijoaaGreatDoor
open Go.RowKit Go.Lib
set_option maxRecDepth 100000
end Go.Proofs.YtijpfbcippijoaaGreatDoor

namespace Go.Proofs.YtijpfbcippijoaaGreatDoor
open Go.RowKit Go.Lib
set_option maxRecDepth 100000
section
variable {α : Type} {f : α → List Value} {k : Nat} {S T : TypeId} {by_ : Nat}
end
end Go.Proofs.YtijpfbcippijoaaGreatDoor

namespace Go.Proofs.YtijpfbcippijoaaGreatDoor
open Go.RowKit Go.Lib
set_option maxRecDepth 100000
def upTo (R : List (Int × Int)) (lo q : Nat) (by_ : Int) : List (Int × Int) := R.mapIdx fun j c => if lo ≤ j ∧ j < q then (c.1, c.2 + by_) else c
theorem upTo_get (R : List (Int × Int)) (lo q : Nat) (by_ : Int) (j : Nat) : (upTo R lo q by_)[j]? = R[j]?.map fun c => if lo ≤ j ∧ j < q then (c.1, c.2 + by_) else c := by simp [upTo]
theorem OwnF.ptr {α : Type} {f : α → List Value} {k : Nat} {T : TypeId} {w : World} {B : Nat} {v : Value} {l : List α} (h : OwnF f k T w B v l) (hn : 0 < l.length) : ∃ g cap, v = .slice (some ⟨g, 0, none⟩) l.length cap ∧ B ≤ g ∧ g < w.heap.size ∧ l.length ≤ cap ∧ cap ≤ maxLen ∧ ∀ j, w.frozen? ⟨g, j, none⟩ = false := by
  rcases h.2 with ⟨e, h0⟩ | ⟨g, cap, cur, e, hb, hh, h1, h2, _⟩
  · omega
  · exact ⟨g, cap, e, hb, (Array.getElem?_eq_some_iff.1 hh).1, h1, h2, fun j => frozen_of_row w g j cur _ hh⟩
def Small (M : Int) (R : List (Int × Int)) : Prop := ∀ c ∈ R, -M ≤ c.2 ∧ c.2 ≤ M
theorem Small.up {M : Int} {R : List (Int × Int)} (h : Small M R) (lo q : Nat) {by_ : Int} (h1 : -1 ≤ by_) (h2 : by_ ≤ 1) : Small (M + 1) (upTo R lo q by_) := fun c hc => by
  obtain ⟨j, hj⟩ := List.getElem?_of_mem hc
  rw [upTo_get] at hj
  obtain ⟨d, hd, rfl⟩ := Option.map_eq_some_iff.1 hj
  have := h d (List.mem_of_getElem? hd)
  by_cases k : lo ≤ j ∧ j < q
  · rw [if_pos k]; simp only; omega
  · rw [if_neg k]; omega
end Go.Proofs.YtijpfbcippijoaaGreatDoor

namespace Go.Proofs.YtijpfbcippijoaaGreatDoor
open Go.RowKit Go.Lib
set_option maxRecDepth 100000
structure Chs (R : List (Int × Int)) (down : Bool) (q : Nat) (l : List (Int × Int)) : Prop where
  each : ∀ r ∈ l, 0 ≤ r.1 ∧ r.1 < r.2 ∧ r.2 ≤ (q : Int)
  gap : ∀ (j : Nat) x y, l[j]? = some x → l[j + 1]? = some y → x.2 < y.1
  few : l.length ≤ q
  low : down = true → ∀ r ∈ l, ∀ p : Nat, r.1 ≤ (p : Int) → (p : Int) < r.2 → ∀ c, R[p]? = some c → c.2 ≠ 0
theorem Chs.skip {R : List (Int × Int)} {down : Bool} {q : Nat} {l : List (Int × Int)} (h : Chs R down q l) : Chs R down (q + 1) l :=
  ⟨fun r hr => by have := h.each r hr; omega, h.gap, by have := h.few; omega, h.low⟩
theorem Chs.one {R : List (Int × Int)} {down : Bool} {q : Nat} {l : List (Int × Int)} (h : Chs R down q l) (hl : ∀ r, l.getLast? = some r → r.2 ≠ (q : Int)) (hd : down = true → ∀ c, R[q]? = some c → c.2 ≠ 0) : Chs R down (q + 1) (l ++ [((q : Int), (q : Int) + 1)]) := by
  refine ⟨fun r hr => ?_, fun j x y hx hy => ?_, ?_, fun e r hr p h1 h2 c hc => ?_⟩
  · rcases List.mem_append.1 hr with hr | hr
    · have := h.each r hr; omega
    · simp at hr; subst hr; simp only; omega
  · have hj : j < l.length := by
      have := (List.getElem?_eq_some_iff.1 hy).1
      simp at this; omega
    rw [List.getElem?_append_left hj] at hx
    by_cases e : j + 1 < l.length
    · rw [List.getElem?_append_left e] at hy
      exact h.gap j x y hx hy
    · have e2 : j + 1 = l.length := by omega
      rw [e2, List.getElem?_append_right (Nat.le_refl _)] at hy
      simp at hy
      subst hy
      have h3 := h.each x (List.mem_of_getElem? hx)
      have h4 := hl x (by rw [List.getLast?_eq_getElem?, show l.length - 1 = j by omega]; exact hx)
      simp only
      omega
  · have := h.few; simp; omega
  · rcases List.mem_append.1 hr with hr | hr
    · exact h.low e r hr p h1 h2 c hc
    · simp at hr; subst hr
      simp only at h1 h2
      have ep : p = q := by omega
      subst ep
      exact hd e c hc
end Go.Proofs.YtijpfbcippijoaaGreatDoor

namespace Go.Proofs.YtijpfbcippijoaaGreatDoor
open Go.RowKit Go.Lib
set_option maxRecDepth 100000
theorem Chs.srt {R : List (Int × Int)} {down : Bool} {q : Nat} {l : List (Int × Int)} (h : Chs R down q l) : Srt l := by
  refine ⟨fun x hx => (h.each x hx).2.1, ?_⟩
  have step : ∀ (k i : Nat) x y, l[i]? = some x → l[i + k + 1]? = some y → x.2 < y.1 := by
    intro k
    induction k with
    | zero => intro i x y hx hy; exact h.gap i x y hx hy
    | succ k ih =>
      intro i x y hx hy
      have hlt := (List.getElem?_eq_some_iff.1 hy).1
      have hz : l[i + k + 1]? = some l[i + k + 1] := List.getElem?_eq_getElem (by omega)
      have h1 := ih i x _ hx hz
      have h2 := h.gap (i + k + 1) _ y hz hy
      have h3 := (h.each _ (List.mem_of_getElem? hz)).2.1
      omega
  intro i j x y hij hx hy
  exact step (j - i - 1) i x y hx (by rw [show i + (j - i - 1) + 1 = j by omega]; exact hy)
def Cnt (M : Int) (R : List (Int × Int)) : Prop := ∀ c ∈ R, 0 ≤ c.2 ∧ c.2 ≤ M
end Go.Proofs.YtijpfbcippijoaaGreatDoor
