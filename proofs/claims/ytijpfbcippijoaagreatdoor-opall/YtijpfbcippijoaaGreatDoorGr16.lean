import Derived.Test.YtijpfbcippijoaaGreatDoorGr144
import Derived.Test.YtijpfbcippijoaaGreatDoorRows
import Derived.Test.YtijpfbcippijoaaGreatDoorGr131
import Derived.Test.YtijpfbcippijoaaGreatDoorGr121
import Derived.LaidLaws
import Derived.Test.YtijpfbcippijoaaGreatDoorGr145
namespace Go.Proofs.YtijpfbcippijoaaGreatDoor
open Go.ChangeShapes Go.WideShapes Go.ChangeAt Go.RowKit
theorem gDeb : Tryz.prog.globalNamed "math/bits.deBruijn64tab" = some 6 := by kernel_rfl
theorem gDebType:(Tryz.prog.globals[6]?).map (·.type)=some 221:=by kernel_rfl
theorem cells8:Tryz.prog.cellsOf 5=1:=by kernel_rfl
theorem var_heap {W:World} {n:String} {g:Nat} {cs:Array Value} (hg:Tryz.prog.globalNamed n=some g) (hv:World.var? Tryz.prog W n=some cs):∃ t fr,W.heap[g]?=some (.cells cs t fr):=by
 unfold World.var? at hv
 rw [hg] at hv
 simp only [Option.bind_some] at hv
 split at hv
 ·rename_i c t fr he
  refine ⟨t,fr,?_⟩
  rw [he]
  simp only [Option.some.injEq] at hv
  rw [hv]
 ·cases hv
set_option maxRecDepth 100000 in
theorem debTable {W : World} {cs0 : Array Value} {f0 : Nat} {p0 : List MemPlace} (hv0 : World.var? Tryz.prog W "math/bits.deBruijn64tab" = some cs0)
  (hd0:DataW.trod (fun _=>()) Tryz.prog W 0 (fun _=>true) false f0 221 cs0.toList=some (Rows.laid_math_bits_deBruijn64tab,p0)):Deb W:=by
 obtain ⟨xs,m,_,hx,hlen,hn,hel⟩:=DataW.trod_array Tryz.underlying221 hd0
 have h15:=hel 15 (by decide)
 rw [cells8] at h15
 have hx1:=congrArg Prod.fst hx
 unfold Rows.laid_math_bits_deBruijn64tab at hx1
 simp only [DataW.agg.injEq] at hx1
 have h2:=congrArg (fun l=>l[15]?) hx1
 simp only [List.getElem?_map] at h2
 obtain ⟨y,hy⟩:∃ y,xs[15]?=some y:=⟨xs[15]'(by omega),List.getElem?_eq_getElem (by omega)⟩
 rw [hy] at h15 h2
 obtain ⟨k,e2,f2,_⟩:=DataW.trod_int Tryz.underlying5 h15
 rw [f2] at h2
 have h3:k=4:=by
  simp at h2
  omega
 subst h3
 obtain ⟨t,fr,hh⟩:=var_heap gDeb hv0
 refine ⟨?_⟩
 have h4:cs0.toList[15]?=some (.int .u8 4):=by
  have:=congrArg (fun l=>l[0]?) e2
  simpa [List.getElem?_take,List.getElem?_drop] using this
 simp only [World.cell?,hh]
 simpa using h4
theorem gPowType:(Tryz.prog.globals[2]?).map (·.type)=some 204:=by kernel_rfl
theorem cells64:Tryz.prog.cellsOf 190=1:=by kernel_rfl
theorem cells20:Tryz.prog.cellsOf 204=20:=by kernel_rfl
theorem powLits:(Rows.laid_internal_strconv_uint64pow10:DataW Unit)=.agg (Lib.pow10Tab.map fun z=>.lit (.int .u64 z)):=rfl
set_option maxRecDepth 100000 in
theorem powTable {W : World} {cs0 : Array Value} {f0 : Nat} {p0 : List MemPlace} (hv0 : World.var? Tryz.prog W "internal/strconv.uint64pow10" = some cs0)
  (hd0:DataW.trod (fun _=>()) Tryz.prog W 0 (fun _=>true) false f0 204 cs0.toList=some (Rows.laid_internal_strconv_uint64pow10,p0)):Pow W:=by
 obtain ⟨xs,m,_,hx,hlen,hn,hel⟩:=DataW.trod_array Tryz.underlying204 hd0
 rw [cells20] at hlen
 have hx1:=congrArg Prod.fst hx
 rw [powLits] at hx1
 simp only [DataW.agg.injEq] at hx1
 have hcs:cs0=powCells:=by
  apply Array.ext_getElem?
  intro j
  by_cases hj:j<20
  ·have h15:=hel j hj
   rw [cells64] at h15
   have h2:=congrArg (fun l=>l[j]?) hx1
   simp only [List.getElem?_map] at h2
   obtain ⟨y,hy⟩:∃ y,xs[j]?=some y:=⟨xs[j]'(by omega),List.getElem?_eq_getElem (by omega)⟩
   rw [hy] at h15 h2
   obtain ⟨k,e2,f2,_⟩:=DataW.trod_int Tryz.underlying190 h15
   rw [f2] at h2
   have h4:cs0.toList[j]?=some (.int .u64 k):=by
    have:=congrArg (fun l=>l[0]?) e2
    simpa [List.getElem?_take,List.getElem?_drop] using this
   obtain ⟨z,hz⟩:∃ z,Lib.pow10Tab[j]?=some z:=⟨_,List.getElem?_eq_getElem (show j<Lib.pow10Tab.length from hj)⟩
   rw [hz] at h2
   simp only [Option.map_some,Option.some.injEq,DataW.lit.injEq,Lit.int.injEq,true_and] at h2
   subst h2
   have h5:powCells.toList[j]?=some (.int .u64 z):=by
    unfold powCells
    simp [List.getElem?_map,hz]
   rw [← Array.getElem?_toList,← Array.getElem?_toList,h4,h5]
  ·have h1:cs0.size=20:=by simpa using hlen
   have h2:powCells.size=20:=rfl
   rw [Array.getElem?_eq_none (by omega),Array.getElem?_eq_none (by omega)]
 subst hcs
 obtain ⟨t,fr,hh⟩:=var_heap gPow hv0
 exact ⟨t,fr,hh⟩
end Go.Proofs.YtijpfbcippijoaaGreatDoor
namespace Go.Proofs.YtijpfbcippijoaaGreatDoor
open Go.ChangeShapes Go.WideShapes Go.ChangeAt Go.RowKit
theorem gSyn : Tryz.prog.globalNamed "strconv.ErrSyntax" = some 3 := by kernel_rfl
theorem gSynType:(Tryz.prog.globals[3]?).map (·.type)=some 129:=by kernel_rfl
theorem gRng : Tryz.prog.globalNamed "strconv.ErrRange" = some 4 := by kernel_rfl
theorem gRngType:(Tryz.prog.globals[4]?).map (·.type)=some 129:=by kernel_rfl
theorem errVar {W:World} {n:String} {g:Nat} {cs0:Array Value} {f0:Nat} {nm:String} {d:DataW Unit} {p0:List MemPlace} (hg:Tryz.prog.globalNamed n=some g) (hv0:World.var? Tryz.prog W n=some cs0)
  (hd0:DataW.trod (fun _=>()) Tryz.prog W 0 (fun _=>true) false f0 129 cs0.toList=some (.iface nm d,p0)):∃ T v,W.cell? ⟨g,0,none⟩=some (.iface T v)∧g<W.heap.size:=by
 obtain ⟨f1,u,v,hcs,_,_⟩:=iface_of_trod Tryz.underlying129 hd0
 obtain ⟨t,fr,hh⟩:=var_heap hg hv0
 refine ⟨u,v,?_,(Array.getElem?_eq_some_iff.1 hh).1⟩
 have h4:cs0.toList[0]?=some (.iface u v):=by rw [hcs];rfl
 simp only [World.cell?,hh]
 simpa using h4
end Go.Proofs.YtijpfbcippijoaaGreatDoor
