import Derived.Shelf.Strings.BuilderK
import Derived.Test.YtijpfbcippijoaaGreatDoorProg
import Derived.Test.YtijpfbcippijoaaGreatDoorRrAC
namespace Go.Proofs
open Go.Shelf
def Tryz.lays169_ren : Go.Shelf.Ren := ⟨fun | 169 => 31 | n => n, fun | 70 => 84 | 9 => 9 | 0 => 0 | 72 => 87 | 37 => 85 | 127 => 127 | 3 => 3 | 5 => 5 | n => n, fun | n => n⟩
theorem Tryz.lays169 : Go.Proofs.Lays.n169 Tryz.prog Tryz.lays169_ren := {
  mixed := by kernel_rfl
  f169 := Tryz.func31.trans (congrArg some (by kernel_rfl))
  t0 := Tryz.underlying0
  a0 := Tryz.isAgg0
  z0 := Tryz.sizeOf0
  v0 := Tryz.zeroValue0
  t3 := Tryz.underlying3
  a3 := Tryz.isAgg3
  z3 := Tryz.sizeOf3
  v3 := Tryz.zeroValue3
  t9 := Tryz.underlying9
  a9 := Tryz.isAgg9
  z9 := Tryz.sizeOf9
  v9 := Tryz.zeroValue9
  t37 := Tryz.underlying85
  a37 := Tryz.isAgg85
  z37 := Tryz.sizeOf85
  v37 := Tryz.zeroValue85
  t70 := Tryz.underlying84
  a70 := Tryz.isAgg84
  z70 := Tryz.sizeOf84
  v70 := Tryz.zeroValue84
  t72 := Tryz.underlying87
  a72 := Tryz.isAgg87
  z72 := Tryz.sizeOf87
  v72 := Tryz.zeroValue87
  t127 := Tryz.underlying127
  a127 := Tryz.isAgg127
  z127 := Tryz.sizeOf127
  v127 := Tryz.zeroValue127 }
theorem Tryz.Builder_Extra_169 : Builder.Extra Tryz.prog Tryz.lays169_ren := {
  sizeBuilder := by kernel_rfl
  liesBuilder := by kernel_rfl
  t5 := Tryz.underlying5
  a5 := Tryz.isAgg5
  z5 := Tryz.sizeOf5
  v5 := Tryz.zeroValue5
  infoByte := by kernel_rfl
  cellsByte := by kernel_rfl
  sizeByte := by kernel_rfl
  neB5 := by decide }
open Go.RowKit in
theorem Tryz.Builder_String_k (B b : Nat) (l : List UInt8) (w : World) (h : Lib.IsBuilderF 87 5 B b (Lib.byteCells l) w) (h0 : l ≠ []) :
    Calls Tryz.prog 31 #[.pointer (some ⟨b, 0, none⟩)] w fun e w' => e = .returned (.string ⟨l.toArray⟩) ∧ (Lib.IsBuilderF 87 5 B b (Lib.byteCells l) w' ∧ Below B w w' ∧ Lib.OthersKept 5 (some b) w w') := Any.Builder_String_k Tryz.lays169 Tryz.Builder_Extra_169 B b l w h h0
open Go.RowKit in
theorem Tryz.Builder_String_empty_k (B b : Nat) (w : World) (h : Lib.IsBuilderF 87 5 B b [] w) (hBw : B ≤ w.heap.size) :
    Calls Tryz.prog 31 #[.pointer (some ⟨b, 0, none⟩)] w fun e w' => e = .returned (.string ⟨#[]⟩) ∧ (Lib.IsBuilderF 87 5 B b [] w' ∧ Below B w w' ∧ Lib.OthersKept 5 (some b) w w') := Any.Builder_String_empty_k Tryz.lays169 Tryz.Builder_Extra_169 B b w h hBw
open Go.RowKit in
theorem Tryz.Builder_String_any_k (B b : Nat) (l : List UInt8) (w : World) (h : Lib.IsBuilderF 87 5 B b (Lib.byteCells l) w) (hBw : B ≤ w.heap.size) :
    Calls Tryz.prog 31 #[.pointer (some ⟨b, 0, none⟩)] w fun e w' => e = .returned (.string ⟨l.toArray⟩) ∧ (Lib.IsBuilderF 87 5 B b (Lib.byteCells l) w' ∧ Below B w w' ∧ Lib.OthersKept 5 (some b) w w') := Any.Builder_String_any_k Tryz.lays169 Tryz.Builder_Extra_169 B b l w h hBw
end Go.Proofs

namespace Go.Proofs.YtijpfbcippijoaaGreatDoor
open Go.RowKit Go.Lib Go.Shelf
set_option maxRecDepth 100000
attribute [local go_sem] Oper.semAt_some
def visR (l : List (Int × Int)) : List Int := (l.filter fun c => decide (c.2 ≤ 0)).map (·.1)
theorem visR_append (l k : List (Int × Int)) : visR (l ++ k) = visR l ++ visR k := by simp [visR]
def txG (ys : List (Int × List Int × Int)) : List Int := ys.flatMap fun y => if y.2.2 ≤ 0 then y.2.1 else []
theorem txG_append (l k : List (Int × List Int × Int)) : txG (l ++ k) = txG l ++ txG k := by simp [txG]
theorem visR_one (rs : List Int) (h : Int) : visR (rs.map fun c => (c, h)) = if h ≤ 0 then rs else [] := by
  unfold visR
  by_cases e : h ≤ 0
  · rw [if_pos e, List.filter_eq_self.2 (by simp [e]), List.map_map]
    exact List.map_id rs
  · rw [if_neg e, List.filter_eq_nil_iff.2 (by simp; intro _ _; omega)]
    rfl
theorem visR_cellsG : ∀ ys : List (Int × List Int × Int), visR (cellsG ys) = txG ys
  | [] => rfl
  | y :: ys => by
    have e : cellsG (y :: ys) = (y.2.1.map fun c => (c, y.2.2)) ++ cellsG ys := by simp [cellsG]
    have e2 : txG (y :: ys) = (if y.2.2 ≤ 0 then y.2.1 else []) ++ txG ys := by simp [txG]
    rw [e, visR_append, visR_one, visR_cellsG ys, e2]
theorem visR_sub (l : List (Int × Int)) : ∀ r ∈ visR l, ∃ c ∈ l, c.1 = r := fun r hr => by
  unfold visR at hr
  obtain ⟨c, hc, rfl⟩ := List.mem_map.1 hr
  exact ⟨c, (List.mem_filter.1 hc).1, rfl⟩
theorem visR_len (l : List (Int × Int)) : (visR l).length ≤ l.length := by
  unfold visR
  rw [List.length_map]
  exact List.length_filter_le _ _
theorem txG_pre {l k : List (Int × List Int × Int)} (h : l <+: k) : (txG l).length ≤ (txG k).length := by
  obtain ⟨m, rfl⟩ := h
  rw [txG_append, List.length_append]
  omega
def cutL (l : List (Int × Int)) (lo hi : Int) : List (Int × Int) := (l.take hi.toNat).drop lo.toNat
theorem encVs_bytes (rs : List Int) : encVs rs = Lib.byteCells (encs rs) := by
  unfold encVs encs Lib.byteCells encV
  induction rs with
  | nil => rfl
  | cons r rs ih => simp only [List.flatMap_cons, List.map_append, ih]
theorem builderAtF_keep {B b : Nat} {p : Value} {bs : List Value} {A C : World} {row : Option Nat} (h : Lib.BuilderAtF 87 5 B b p bs A) (hg : A.grownBy C row) (hr : ∀ r, row = some r → ∃ o : Obj, A.heap[r]? = some o ∧ o.isCells = false) : Lib.BuilderAtF 87 5 B b p bs C := by
  obtain ⟨hB, v, hb, hown, hne⟩ := h
  refine ⟨hB, v, (hg.block b (Array.getElem?_eq_some_iff.1 hb).1 (fun e => ?_)).trans hb, hown.kept hg ?_, hne⟩
  · obtain ⟨o, ho, hc⟩ := hr b e.symm
    rw [hb] at ho
    cases ho
    simp [Obj.isCells] at hc
  · by_cases e : v.ownBlock = row
    · left
      cases row with
      | none => exact e
      | some r =>
        obtain ⟨o, ho, hc⟩ := hr r rfl
        obtain ⟨c, fz, hh⟩ := Lib.ownsRowF_kind hown r e
        rw [hh] at ho
        cases ho
        simp [Obj.isCells] at hc
    · exact .inr e
theorem isBuilderF_keep {B b : Nat} {bs : List Value} {A C : World} {row : Option Nat} (h : Lib.IsBuilderF 87 5 B b bs A) (hg : A.grownBy C row) (hr : ∀ r, row = some r → ∃ o : Obj, A.heap[r]? = some o ∧ o.isCells = false) : Lib.IsBuilderF 87 5 B b bs C :=
  h.elim (fun x => .inl (builderAtF_keep x hg hr)) (fun x => .inr (builderAtF_keep x hg hr))
theorem isBuilderF_below {B b : Nat} {bs : List Value} {A C : World} (h : Lib.IsBuilderF 87 5 B b bs A) (hb : Below A.heap.size A C) : Lib.IsBuilderF 87 5 B b bs C :=
  isBuilderF_keep h (grown_of_below hb) (fun r e => by cases e)
theorem isBuilderF_new (w : World) : Lib.IsBuilderF 87 5 w.heap.size w.heap.size [] (w.alloc (.cells #[.pointer none, .slice none 0 0] 87)) :=
  .inl ⟨Nat.le_refl _, _, World.alloc_heap_new _ _, World.ownsRowF_nil _ _ _ _, by simp [Value.ownBlock]⟩
theorem keepsFrom_others {B b : Nat} {w w' : World} (h : Lib.OthersKept 5 (some b) w w') (hb : ∃ cs fz, w.heap[b]? = some (.cells cs 87 fz)) (hs : w.heap.size ≤ w'.heap.size) : KeepsFrom B w w' := by
  obtain ⟨cs, fz, hb⟩ := hb
  refine ⟨hs, fun k ob _ hk hc => h k ob hk (fun e => ?_) (fun c fz e => ?_)⟩
  · cases e; rw [hb] at hk; cases hk; simp [Obj.isCells] at hc
  · subst e; simp [Obj.isCells] at hc
theorem keepsFrom_below {B : Nat} {w w' : World} (h : Below w.heap.size w w') : KeepsFrom B w w' := ⟨h.size, fun k _ _ hk _ => (h.block k (Array.getElem?_eq_some_iff.1 hk).1).trans hk⟩
theorem keepsFrom_trans {B : Nat} {a b c : World} (h : KeepsFrom B a b) (k : KeepsFrom B b c) : KeepsFrom B a c := ⟨Nat.le_trans h.size k.size, fun i o hi ho hc => k.same i o hi (h.same i o hi ho hc) hc⟩
end Go.Proofs.YtijpfbcippijoaaGreatDoor
