import Derived.Shelf.Strings.BuilderK
import Derived.Test.YtijpfbcippijoaaGreatDoorProg
import Derived.Test.YtijpfbcippijoaaGreatDoorRrAC
import Derived.Test.YtijpfbcippijoaaGreatDoorRtH
namespace Go.Proofs
open Go.Shelf
def Tryz.lays169_ren : Go.Shelf.Ren:=⟨fun | 169=>31 | n=>n,fun | 70=>84 | 9=>9 | 0=>0 | 72=>87 | 37=>85 | 127=>127 | 3=>3 | 5=>5 | n=>n,fun | n=>n⟩
theorem Tryz.lays169 : Go.Proofs.Lays.n169 Tryz.prog Tryz.lays169_ren:={
  mixed:=by kernel_rfl
  f169:=Tryz.func31.trans (congrArg some (by kernel_rfl))
  t0:=Tryz.underlying0
  a0:=Tryz.isAgg0
  z0:=Tryz.sizeOf0
  v0:=Tryz.zeroValue0
  t3:=Tryz.underlying3
  a3:=Tryz.isAgg3
  z3:=Tryz.sizeOf3
  v3:=Tryz.zeroValue3
  t9:=Tryz.underlying9
  a9:=Tryz.isAgg9
  z9:=Tryz.sizeOf9
  v9:=Tryz.zeroValue9
  t37:=Tryz.underlying85
  a37:=Tryz.isAgg85
  z37:=Tryz.sizeOf85
  v37:=Tryz.zeroValue85
  t70:=Tryz.underlying84
  a70:=Tryz.isAgg84
  z70:=Tryz.sizeOf84
  v70:=Tryz.zeroValue84
  t72:=Tryz.underlying87
  a72:=Tryz.isAgg87
  z72:=Tryz.sizeOf87
  v72:=Tryz.zeroValue87
  t127:=Tryz.underlying127
  a127:=Tryz.isAgg127
  z127:=Tryz.sizeOf127
  v127:=Tryz.zeroValue127 }
theorem Tryz.Builder_Extra_169 : Builder.Extra Tryz.prog Tryz.lays169_ren:={
  sizeBuilder:=by kernel_rfl
  liesBuilder:=by kernel_rfl
  t5:=Tryz.underlying5
  a5:=Tryz.isAgg5
  z5:=Tryz.sizeOf5
  v5:=Tryz.zeroValue5
  infoByte:=by kernel_rfl
  cellsByte:=by kernel_rfl
  sizeByte:=by kernel_rfl
  neB5:=by decide }
open Go.RowKit in
theorem Tryz.Builder_String_any_k (B b : Nat) (l : List UInt8) (w : World) (h : Lib.IsBuilderF 87 5 B b (Lib.byteCells l) w) (hBw : B≤w.heap.size) :
    Calls Tryz.prog 31 #[.pointer (some ⟨b,0,none⟩)] w fun e w'=>e = .returned (.string ⟨l.toArray⟩)∧(Lib.IsBuilderF 87 5 B b (Lib.byteCells l) w'∧Below B w w'∧Lib.OthersKept 5 (some b) w w'):=Any.Builder_String_any_k Tryz.lays169 Tryz.Builder_Extra_169 B b l w h hBw
end Go.Proofs

namespace Go.Proofs.YtijpfbcippijoaaGreatDoor
open Go.RowKit Go.Lib Go.Shelf
set_option maxRecDepth 100000
attribute [local go_sem] Oper.semAt_some
theorem encVs_bytes (rs : List Int) : encVs rs = Lib.byteCells (encs rs):=by
  unfold encVs encs Lib.byteCells encV
  induction rs with
  | nil=>rfl
  | cons r rs ih=>simp only [List.flatMap_cons,List.map_append,ih]
theorem builderAtF_keep {B b : Nat} {p : Value} {bs : List Value} {A C : World} {row : Option Nat} (h : Lib.BuilderAtF 87 5 B b p bs A) (hg : A.grownBy C row) (hr : ∀ r,row = some r→∃ o : Obj,A.heap[r]? = some o∧o.isCells = false) : Lib.BuilderAtF 87 5 B b p bs C:=by
  obtain ⟨hB,v,hb,hown,hne⟩:=h
  refine ⟨hB,v,(hg.block b (Array.getElem?_eq_some_iff.1 hb).1 (fun e=>?_)).trans hb,hown.kept hg ?_,hne⟩
  · obtain ⟨o,ho,hc⟩:=hr b e.symm
    rw [hb] at ho
    cases ho
    simp [Obj.isCells] at hc
  · by_cases e : v.ownBlock = row
    · left
      cases row with
      | none=>exact e
      | some r =>
        obtain ⟨o,ho,hc⟩:=hr r rfl
        obtain ⟨c,fz,hh⟩:=Lib.ownsRowF_kind hown r e
        rw [hh] at ho
        cases ho
        simp [Obj.isCells] at hc
    · exact .inr e
theorem isBuilderF_keep {B b : Nat} {bs : List Value} {A C : World} {row : Option Nat} (h : Lib.IsBuilderF 87 5 B b bs A) (hg : A.grownBy C row) (hr : ∀ r,row = some r→∃ o : Obj,A.heap[r]? = some o∧o.isCells = false) : Lib.IsBuilderF 87 5 B b bs C :=
  h.elim (fun x=>.inl (builderAtF_keep x hg hr)) (fun x=>.inr (builderAtF_keep x hg hr))
theorem isBuilderF_below {B b : Nat} {bs : List Value} {A C : World} (h : Lib.IsBuilderF 87 5 B b bs A) (hb : Below A.heap.size A C) : Lib.IsBuilderF 87 5 B b bs C :=
  isBuilderF_keep h (grown_of_below hb) (fun r e=>by cases e)
theorem isBuilderF_new (w : World) : Lib.IsBuilderF 87 5 w.heap.size w.heap.size [] (w.alloc (.cells #[.pointer none,.slice none 0 0] 87)) :=
  .inl ⟨Nat.le_refl _,_,World.alloc_heap_new _ _,World.ownsRowF_nil _ _ _ _,by simp [Value.ownBlock]⟩
theorem keepsFrom_others {B b : Nat} {w w' : World} (h : Lib.OthersKept 5 (some b) w w') (hb : ∃ cs fz,w.heap[b]? = some (.cells cs 87 fz)) (hs : w.heap.size≤w'.heap.size) : KeepsFrom B w w':=by
  obtain ⟨cs,fz,hb⟩:=hb
  refine ⟨hs,fun k ob _ hk hc=>h k ob hk (fun e=>?_) (fun c fz e=>?_)⟩
  · cases e; rw [hb] at hk; cases hk; simp [Obj.isCells] at hc
  · subst e; simp [Obj.isCells] at hc
theorem keepsFrom_below {B : Nat} {w w' : World} (h : Below w.heap.size w w') : KeepsFrom B w w':=⟨h.size,fun k _ _ hk _=>(h.block k (Array.getElem?_eq_some_iff.1 hk).1).trans hk⟩
end Go.Proofs.YtijpfbcippijoaaGreatDoor

namespace Go.Proofs.YtijpfbcippijoaaGreatDoor
open Go.RowKit Go.Lib
set_option maxRecDepth 100000
end Go.Proofs.YtijpfbcippijoaaGreatDoor

namespace Go.Proofs.YtijpfbcippijoaaGreatDoor
open Go.RowKit Go.Lib
set_option maxRecDepth 100000
end Go.Proofs.YtijpfbcippijoaaGreatDoor

namespace Go.Proofs.YtijpfbcippijoaaGreatDoor
open Go.RowKit Go.Lib
set_option maxRecDepth 100000
end Go.Proofs.YtijpfbcippijoaaGreatDoor

namespace Go.Proofs.YtijpfbcippijoaaGreatDoor
open Go.RowKit Go.Lib
set_option maxRecDepth 100000
end Go.Proofs.YtijpfbcippijoaaGreatDoor

namespace Go.Proofs.YtijpfbcippijoaaGreatDoor
open Go.RowKit Go.Lib
set_option maxRecDepth 100000
end Go.Proofs.YtijpfbcippijoaaGreatDoor

namespace Go.Proofs.YtijpfbcippijoaaGreatDoor
open Go.RowKit Go.Lib
set_option maxRecDepth 100000
def strOf (rs : List Int) : ByteArray:=⟨(encs rs).toArray⟩
theorem tx_eq {s : ByteArray} {rs : List Int} (h : s.data.toList = encs rs) : s = strOf rs:=by
  cases s with | mk d=>simp only at h; unfold strOf; rw [← h]
def Holds (w2 : World) (q : Nat) (R : List (Int × Int)) (W : World) : Prop:=∃ t,RopeAt W q t∧t.Rp∧t.row = R∧Below w2.heap.size w2 W
theorem okl_row {t : Tr} (h : ∀ c ∈ t.row,okR c.1) : Okl t.lv:=fun p hp r hr=>h (r,p.2) (by
  rw [Tr.row_lv]
  unfold rowOf
  exact List.mem_flatMap.2 ⟨p,hp,List.mem_map.2 ⟨r,hr,rfl⟩⟩)
section
variable {w2 : World} {q : Nat} {R : List (Int × Int)} {W : World}
theorem Holds.below (h : Holds w2 q R W) : Below w2.heap.size w2 W:=by obtain ⟨t,h1,h2,rfl,h3⟩:=h; exact h3
theorem Holds.still {W' : World} (h : Holds w2 q R W) (hb : Below W.heap.size W W') : Holds w2 q R W':=by
  obtain ⟨t,h1,h2,e,h3⟩:=h
  exact ⟨t,h1.below hb,h2,e,h3.trans (hb.mono h3.size)⟩
def putL (R : List (Int × Int)) (m : Nat) (rs : List Int) (hid : Int) : List (Int × Int):=R.take m ++ (rs.map fun c=>(c,hid)) ++ R.drop m
theorem putL_len (R : List (Int × Int)) (m : Nat) (rs : List Int) (hid : Int) : (putL R m rs hid).length = R.length + rs.length:=by
  unfold putL
  simp only [List.length_append,List.length_take,List.length_drop,List.length_map]
  omega
theorem putL_ok {R : List (Int × Int)} {m : Nat} {rs : List Int} {hid : Int} (h : ∀ c ∈ R,okR c.1) (hr : ∀ r ∈ rs,okR r) : ∀ c ∈ putL R m rs hid,okR c.1:=fun c hc=>by
  unfold putL at hc
  rcases List.mem_append.1 hc with hc | hc
  · rcases List.mem_append.1 hc with hc | hc
    · exact h c (List.mem_of_mem_take hc)
    · obtain ⟨r,hr2,rfl⟩:=List.mem_map.1 hc
      exact hr r hr2
  · exact h c (List.mem_of_mem_drop hc)
end
end Go.Proofs.YtijpfbcippijoaaGreatDoor

namespace Go.Proofs.YtijpfbcippijoaaGreatDoor
open Go.RowKit Go.Lib
set_option maxRecDepth 100000
end Go.Proofs.YtijpfbcippijoaaGreatDoor

namespace Go.Proofs.YtijpfbcippijoaaGreatDoor
open Go.RowKit Go.Lib
set_option maxRecDepth 100000
end Go.Proofs.YtijpfbcippijoaaGreatDoor

namespace Go.Proofs.YtijpfbcippijoaaGreatDoor
open Go.RowKit Go.Lib
set_option maxRecDepth 100000
end Go.Proofs.YtijpfbcippijoaaGreatDoor

namespace Go.Proofs.YtijpfbcippijoaaGreatDoor
open Go.RowKit Go.Lib
set_option maxRecDepth 100000
section
variable {α : Type} {f : α→List Value} {k : Nat} {S T : TypeId} {by_ : Nat}
end
end Go.Proofs.YtijpfbcippijoaaGreatDoor

namespace Go.Proofs.YtijpfbcippijoaaGreatDoor
open Go.RowKit Go.Lib
set_option maxRecDepth 100000
end Go.Proofs.YtijpfbcippijoaaGreatDoor

namespace Go.Proofs.YtijpfbcippijoaaGreatDoor
open Go.RowKit Go.Lib
set_option maxRecDepth 100000
end Go.Proofs.YtijpfbcippijoaaGreatDoor

namespace Go.Proofs.YtijpfbcippijoaaGreatDoor
open Go.RowKit Go.Lib
set_option maxRecDepth 100000
end Go.Proofs.YtijpfbcippijoaaGreatDoor
