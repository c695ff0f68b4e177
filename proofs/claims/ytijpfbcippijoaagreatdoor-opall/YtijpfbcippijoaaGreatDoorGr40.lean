import Derived.Test.YtijpfbcippijoaaGreatDoorTxtF
import Derived.WalkKit
import Derived.WalkSpells
import Derived.WalkLawsBesides
import Derived.Lib.OthersKept
import Derived.Laws.OwnMore
import Derived.Maps.AppendAt
import Derived.Test.YtijpfbcippijoaaGreatDoorGr23
import Derived.Deep.QuietTactic
import Derived.BigQuiet
import Derived.BigRegion
import Derived.Deep.RegionWith
import Derived.Deep.RegionHeld3
import Derived.Test.YtijpfbcippijoaaGreatDoorRpPR
import Derived.Shelf.Abstract
namespace Go.Proofs.YtijpfbcippijoaaGreatDoor
open Go.RowKit Go.Lib
set_option maxRecDepth 100000
theorem encB_le (r : Int) (h : okR r) : (encB r).length≤4:=by
  obtain ⟨h0,h1,h2⟩:=valid_le h.1
  obtain ⟨c,rfl⟩ : ∃ c : Nat,r = c:=⟨r.toNat,by omega⟩
  by_cases c1 : c < 0x80
  · rw [encB1 c c1]; simp
  · by_cases c2 : c < 0x800
    · rw [encB2 c c2 (by omega)]; simp
    · by_cases c3 : c < 0x10000
      · rw [encB3 c c3 (by omega) h.1]; simp
      · rw [encB4 c (by omega) h.1]; simp
theorem encs_le {rs : List Int} (h : ∀ r ∈ rs,okR r) : (encs rs).length≤rs.length * 4:=by
  induction rs with
  | nil=>simp [encs]
  | cons r t ih =>
    have h1:=encB_le r (h r (by simp))
    have h2:=ih (fun x hx=>h x (by simp [hx]))
    rw [encs_cons,List.length_append,List.length_cons]
    omega
theorem IsText.small {s : ByteArray} {rs : List Int} (h : IsText s rs) : s.size≤rs.length * 4:=by
  rw [size_data,h.bytes]
  exact encs_le h.ok
theorem IsText.big {s : ByteArray} {rs : List Int} (h : IsText s rs) : rs.length≤s.size:=by
  rw [size_data,h.bytes]
  exact encs_len2 rs
end Go.Proofs.YtijpfbcippijoaaGreatDoor

namespace Go.Proofs.YtijpfbcippijoaaGreatDoor
open Go.RowKit Go.Lib
set_option maxRecDepth 100000
def pieceV (x : Int × Int) : List Value:=[.int .i64 x.1,.int .i64 x.2]
def cellV (x : Int × Int) : List Value:=[.int .i32 x.1,.int .i64 x.2]
structure GRun where
  s : ByteArray
  rs : List Int
  h : Int
def runV (x : GRun) : List Value:=[.string x.s,.int .i64 x.h]
theorem layC : Lay cellV 2:=⟨fun _=>rfl,by decide,fun x u hu=>by simp [cellV] at hu; rcases hu with rfl | rfl <;> rfl⟩
theorem layR : Lay runV 2:=⟨fun _=>rfl,by decide,fun x u hu=>by simp [runV] at hu; rcases hu with rfl | rfl <;> rfl⟩
theorem kindR : Kind Tryz.prog 35 65 2 24:=kind_of Tryz.underlying35 (z:=.agg #[.string ⟨#[]⟩,.int .i64 0]) (by kernel_rfl) rfl
theorem kindC : Kind Tryz.prog 29 63 2 16:=kind_of Tryz.underlying29 (z:=.agg #[.int .i32 0,.int .i64 0]) (by kernel_rfl) rfl
def cellsOf (L : List GRun) : List (Int × Int):=L.flatMap fun x=>x.rs.map fun c=>(c,x.h)
end Go.Proofs.YtijpfbcippijoaaGreatDoor

namespace Go.Proofs.YtijpfbcippijoaaGreatDoor
open Go.RowKit Go.Lib
set_option maxRecDepth 100000
section
variable {α : Type} {f : α→List Value} {k : Nat} {T : TypeId}
theorem OwnF.keep {w w' : World} {B : Nat} {v : Value} {l : List α} (h : OwnF f k T w B v l) (hk : ∀ g,v.ownBlock = some g→w'.heap[g]? = w.heap[g]?) : OwnF f k T w' B v l:=by
  refine ⟨h.1,?_⟩
  rcases h.2 with h0 | ⟨g,cap,cur,e,h1,hh,rest⟩
  · exact .inl h0
  · exact .inr ⟨g,cap,cur,e,h1,(hk g (by rw [e]; rfl)).trans hh,rest⟩
theorem OwnF.notIter {w : World} {B K p : Nat} {s : ByteArray} {v : Value} {l : List α} (h : OwnF f k T w B v l) (hi : w.heap[K]? = some (.stringIter s p)) : v.ownBlock ≠ some K:=by
  intro e
  rcases h.2 with ⟨rfl,_⟩ | ⟨g,cap,cur,rfl,h1,hh,rest⟩
  · simp [Value.ownBlock] at e
  · simp only [Value.ownBlock,Option.some.injEq] at e
    subst e
    rw [hi] at hh
    cases hh
end
theorem cellsOf_take_succ (L : List GRun) (i : Nat) (x : GRun) (hx : L[i]? = some x) : cellsOf (L.take (i + 1)) = cellsOf (L.take i) ++ x.rs.map fun c=>(c,x.h):=by
  obtain ⟨hi,rfl⟩:=List.getElem?_eq_some_iff.1 hx
  rw [List.take_succ_eq_append_getElem hi]
  unfold cellsOf
  rw [List.flatMap_append]
  simp
theorem cellsOf_le (L : List GRun) (i : Nat) (x : GRun) (hx : L[i]? = some x) : (cellsOf (L.take i)).length + x.rs.length≤(cellsOf L).length:=by
  have h1:=cellsOf_take_succ L i x hx
  have h2 : cellsOf L = cellsOf (L.take (i + 1)) ++ cellsOf (L.drop (i + 1)):=by
    unfold cellsOf
    rw [← List.flatMap_append,List.take_append_drop]
  rw [h2,h1]
  simp
end Go.Proofs.YtijpfbcippijoaaGreatDoor

namespace Go.Proofs.YtijpfbcippijoaaGreatDoor
open Go.RowKit Go.Lib Go.Shelf
set_option maxRecDepth 100000
def Found (P : Nat→Bool) (n i : Nat) : Prop:=i≤n∧(0 < i→P (i - 1) = false)∧(i < n→P i = true)
set_option maxHeartbeats 4000000 in
theorem search_any (k : Nat) (caps : Array Value) (n : Nat) (hn : n≤4294967296) (P : Nat→Bool) (w : World) (hE : ∀ (args : Array Value) (w : World),(callFunc k args).run Tryz.prog w = .ok (.enter k args) w)
    (hC : ∀ h W,h < n→Below w.heap.size w W→Calls Tryz.prog k (#[.int .i64 (h : Int)] ++ caps) W fun e W'=>e = .returned (.bool (P h))∧Below W.heap.size W W') :
    Calls Tryz.prog 122 #[.int .i64 (n : Int),.func (.func k) #[] caps] w fun e w'=>∃ i : Nat,e = .returned (.int .i64 (i : Int))∧Found P n i∧Below w.heap.size w w':=by
  go_enter Tryz.func122,Tryz.ntmps122
  go_wp2_with fail
  go_loopw [5,6,7] (fun v3 v4 _ W=>∃ i j : Nat,i≤j∧j≤n∧v3 = .int .i64 i∧v4 = .int .i64 j∧(0 < i→P (i - 1) = false)∧(j < n→P j = true)∧Below w.heap.size w W) (fun v3 v4 _ _=>(RowKit.intOf v4 - RowKit.intOf v3).toNat)
  case atStart=>exact ⟨0,n,by omega,by omega,rfl,rfl,by omega,by omega,Below.refl _ _⟩
  case round =>
    obtain ⟨i,j,hij,hj,rfl,rfl,hi1,hj1,hB⟩:=hrel
    by_cases hlt : i < j
    · have b1 : decide ((i : Int) < (j : Int)) = true:=decide_eq_true (by omega)
      obtain ⟨h,hh⟩ : ∃ h,(i + j) / 2 = h:=⟨_,rfl⟩
      have hhi : i≤h∧h < j:=by omega
      have e1 : IntKind.i64.wrap ((i : Int) + (j : Int)) = (i : Int) + (j : Int):=IntWalk.i64_in _ (by omega)
      have e2 : IntKind.u64.wrap ((i : Int) + (j : Int)) = (i : Int) + (j : Int):=by rw [IntKind.wrap_u64]; omega
      have e3 : ((i : Int) + (j : Int)) / 2 = (h : Int):=by omega
      have e4 : IntKind.i64.wrap (h : Int) = (h : Int):=IntWalk.i64_in _ (by omega)
      have HCh:=hC h wr (by omega) hB
      clear hC
      go_wp2_with fail
      refine HCh.mono ?_
      rintro e W1 ⟨rfl,hb1⟩
      clear HCh
      have hB1 : Below w.heap.size w W1:=hB.trans (hb1.mono hB.size)
      cases hp : P h with
      | true =>
        go_wp2_with fail
        exact ⟨⟨i,h,by omega,by omega,rfl,rfl,hi1,fun _=>hp,hB1⟩,by simp [RowKit.intOf]; omega⟩
      | false =>
        go_wp2_with fail
        exact ⟨⟨h + 1,j,by omega,by omega,by simp,rfl,fun _=>by simpa using hp,hj1,hB1⟩,by simp [RowKit.intOf]; omega⟩
    · have b1 : decide ((i : Int) < (j : Int)) = false:=decide_eq_false (by omega)
      obtain rfl : i = j:=by omega
      clear hC
      go_wp2_with fail
      go_ret
      exact ⟨i,rfl,⟨hj,hi1,hj1⟩,hB⟩
def atP (l : List (Int × Int)) (j : Nat) : Int × Int:=l.getD j (0,0)
set_option maxHeartbeats 2000000 in
theorem meeting1_any {W : World} {a : Option Addr} {n cap : Nat} {l : List (Int × Int)} (h : Rw pieceV 2 W a n cap l) {bl bo : Nat} {lo : Int} (hl : W.heap[bl]? = some (.cells #[.slice a n cap] 42)) (ho : W.heap[bo]? = some (.cells #[.int .i64 lo] 3)) (j : Nat) (hj : j < n) :
    Calls Tryz.prog 123 #[.int .i64 (j : Int),.pointer (some ⟨bl,0,none⟩),.pointer (some ⟨bo,0,none⟩)] W fun e W'=>e = .returned (.bool (decide (lo < (atP l j).2)))∧Below W.heap.size W W':=by
  obtain ⟨g,off,x,rfl,hg,hx,hc⟩:=h.at j hj
  have e : atP l j = x:=by unfold atP; rw [List.getD_eq_getElem?_getD,hx]; rfl
  rw [e]
  have c1:=hc 1 _ rfl
  have k0 : W.cell? ⟨bl,0,none⟩ = some (.slice (some ⟨g,off,none⟩) n cap):=by rw [Lib.cell_of_heap hl]; rfl
  have k1 : W.cell? ⟨bo,0,none⟩ = some (.int .i64 lo):=by rw [Lib.cell_of_heap ho]; rfl
  clear h hc hx hl ho e
  go_enter Tryz.func123,Tryz.ntmps123
  go_wp2_with fail
  go_quiet (fail)
  go_wp2_with fail
  go_ret
  exact ⟨rfl,below_drewN (Below.refl _ _) _⟩
set_option maxHeartbeats 2000000 in
theorem meeting2_any {W : World} {a : Option Addr} {n cap : Nat} {l : List (Int × Int)} (h : Rw pieceV 2 W a n cap l) {bl bo : Nat} {hi : Int} (hl : W.heap[bl]? = some (.cells #[.slice a n cap] 42)) (ho : W.heap[bo]? = some (.cells #[.int .i64 hi] 3)) (j : Nat) (hj : j < n) :
    Calls Tryz.prog 124 #[.int .i64 (j : Int),.pointer (some ⟨bl,0,none⟩),.pointer (some ⟨bo,0,none⟩)] W fun e W'=>e = .returned (.bool (decide (hi≤(atP l j).1)))∧Below W.heap.size W W':=by
  obtain ⟨g,off,x,rfl,hg,hx,hc⟩:=h.at j hj
  have e : atP l j = x:=by unfold atP; rw [List.getD_eq_getElem?_getD,hx]; rfl
  rw [e]
  have c1:=hc 0 _ rfl
  simp only [Nat.add_zero] at c1
  have k0 : W.cell? ⟨bl,0,none⟩ = some (.slice (some ⟨g,off,none⟩) n cap):=by rw [Lib.cell_of_heap hl]; rfl
  have k1 : W.cell? ⟨bo,0,none⟩ = some (.int .i64 hi):=by rw [Lib.cell_of_heap ho]; rfl
  clear h hc hx hl ho e
  go_enter Tryz.func124,Tryz.ntmps124
  go_wp2_with fail
  go_quiet (fail)
  go_wp2_with fail
  go_ret
  exact ⟨rfl,below_drewN (Below.refl _ _) _⟩
theorem kindPc : Kind Tryz.prog 42 76 2 16:=kind_of Tryz.underlying42 (z:=.agg #[.int .i64 0,.int .i64 0]) (by kernel_rfl) rfl
theorem elemPc : Tryz.prog.elem 42 = 76:=by kernel_rfl
theorem cut_list {w : World} {a : Option Addr} {n cap : Nat} {l : List (Int × Int)} (h : Rw pieceV 2 w a n cap l) (i j : Nat) (h1 : i≤j) (h2 : j≤n) :
    ∃ a' cap',(∀ W : World,(Instr.slice 42 (.slice a n cap) (some (.int .i64 (i : Int))) (some (.int .i64 (j : Int))) none).run Tryz.prog W = .ok (.slice a' (j - i) cap') W)∧Rw pieceV 2 w a' (j - i) cap' ((l.take j).drop i):=by
  obtain ⟨ti,z,hti,hz,hsz,hby,_⟩:=kindPc.info
  have hroom:=h.room
  have hlen:=h.len
  have hrun:=fun W : World=>run_slice_lh (P:=Tryz.prog) W 42 a n cap (by rw [elemPc]; exact kindPc.under) .i64 .i64 (i : Int) (j : Int) (by omega) (by omega) (by omega)
  rcases Nat.eq_zero_or_pos n with h0 | h0
  · obtain rfl : j = 0:=by omega
    obtain rfl : i = 0:=by omega
    refine ⟨a,cap,fun W=>?_,⟨by simp,⟨by omega,hroom.2⟩,fun h=>absurd h (by omega)⟩⟩
    rw [hrun W,elemPc]
    cases a <;> simp [sizeOf,typeInfo,hti,hsz,sliced,Addr.add]
  · obtain ⟨g,off,rfl,hg,_⟩:=h.cells h0
    by_cases hc : i < cap
    · refine ⟨some ⟨g,off + i * 2,none⟩,cap - i,fun W=>?_,(h.take j h2).drop i h1⟩
      rw [hrun W,elemPc]
      simp [sizeOf,typeInfo,hti,hsz,sliced,addr_add']
      omega
    · obtain rfl : i = cap:=by omega
      obtain rfl : j = i:=by omega
      refine ⟨some ⟨g,off,none⟩,j - j,fun W=>?_,⟨by simp,⟨by omega,by omega⟩,fun h0=>by omega⟩⟩
      rw [hrun W,elemPc]
      simp [sizeOf,typeInfo,hti,hsz,sliced]
set_option maxHeartbeats 4000000 in
theorem meeting_any {w : World} {a : Option Addr} {n cap : Nat} {l : List (Int × Int)} (h : Rw pieceV 2 w a n cap l) (hn : n≤4294967296) (lo hi : Int) (hord : ∀ i j,Found (fun k=>decide (lo < (atP l k).2)) n i→Found (fun k=>decide (hi≤(atP l k).1)) n j→i≤j) :
    Calls Tryz.prog 97 #[.slice a n cap,.int .i64 lo,.int .i64 hi] w fun e w'=>∃ (i j : Nat) (a' : Option Addr) (cap' : Nat),Found (fun k=>decide (lo < (atP l k).2)) n i∧Found (fun k=>decide (hi≤(atP l k).1)) n j∧i≤j∧e = .returned (.slice a' (j - i) cap')∧Rw pieceV 2 w' a' (j - i) cap' ((l.take j).drop i)∧Below w.heap.size w w':=by
  obtain ⟨wa,ewa⟩ : ∃ W,((w.alloc (.cells #[.slice a n cap] 42)).alloc (.cells #[.int .i64 lo] 3)).alloc (.cells #[.int .i64 hi] 3) = W:=⟨_,rfl⟩
  have hba : Below w.heap.size w wa:=ewa ▸ ((((Below.refl _ w).alloc (Nat.le_refl _) _).alloc (by simp) _).alloc (by simp; omega) _)
  have h0 : wa.heap[w.heap.size]? = some (.cells #[.slice a n cap] 42):=by
    rw [← ewa]
    simp only [World.alloc,Array.getElem?_push,Array.size_push]
    rw [if_neg (by omega),if_neg (by omega),if_pos trivial]
  have h1 : wa.heap[w.heap.size + 1]? = some (.cells #[.int .i64 lo] 3):=by rw [← ewa]; simp only [World.alloc,Array.getElem?_push,Array.size_push]; simp
  have h2 : wa.heap[w.heap.size + 1 + 1]? = some (.cells #[.int .i64 hi] 3):=by rw [← ewa]; simp only [World.alloc,Array.getElem?_push,Array.size_push]; simp
  have hmf : ∀ (fn : Fn) (first cap : Array Value) (w : World),(Instr.makeFunc fn first cap).run Tryz.prog w = .ok (.func fn first cap) w:=fun _ _ _ _=>rfl
  have bx : ∀ {W : World} {b : Nat} {T : TypeId} {v : Value},wa.heap[b]? = some (.cells #[v] T)→Below wa.heap.size wa W→W.heap[b]? = some (.cells #[v] T):=fun hb hW=>(hW.block _ (Array.getElem?_eq_some_iff.1 hb).1).trans hb
  have S1 : ∀ W,Below wa.heap.size wa W→Calls Tryz.prog 122 #[.int .i64 (n : Int),.func (.func 123) #[] #[.pointer (some ⟨w.heap.size,0,none⟩),.pointer (some ⟨w.heap.size + 1,0,none⟩)]] W fun e w'=>∃ i : Nat,e = .returned (.int .i64 (i : Int))∧Found (fun k=>decide (lo < (atP l k).2)) n i∧Below W.heap.size W w':=fun W hW =>
    search_any _ _ n hn _ W (enters_of Tryz.func123 (by kernel_rfl) rfl) (fun k X hk hX=>meeting1_any ((h.below hba).below (hW.trans (hX.mono hW.size))) (bx h0 (hW.trans (hX.mono hW.size))) (bx h1 (hW.trans (hX.mono hW.size))) k hk)
  have S2 : ∀ W,Below wa.heap.size wa W→Calls Tryz.prog 122 #[.int .i64 (n : Int),.func (.func 124) #[] #[.pointer (some ⟨w.heap.size,0,none⟩),.pointer (some ⟨w.heap.size + 1 + 1,0,none⟩)]] W fun e w'=>∃ i : Nat,e = .returned (.int .i64 (i : Int))∧Found (fun k=>decide (hi≤(atP l k).1)) n i∧Below W.heap.size W w':=fun W hW =>
    search_any _ _ n hn _ W (enters_of Tryz.func124 (by kernel_rfl) rfl) (fun k X hk hX=>meeting2_any ((h.below hba).below (hW.trans (hX.mono hW.size))) (bx h0 (hW.trans (hX.mono hW.size))) (bx h2 (hW.trans (hX.mono hW.size))) k hk)
  have c0 : wa.cell? ⟨w.heap.size,0,none⟩ = some (.slice a n cap):=by rw [Lib.cell_of_heap h0]; rfl
  have hl0:=(Array.getElem?_eq_some_iff.1 h0).1
  have T1:=S1 wa (Below.refl _ _)
  have HS2 : Hid (∀ W,Below wa.heap.size wa W→Calls Tryz.prog 122 #[.int .i64 (n : Int),.func (.func 124) #[] #[.pointer (some ⟨w.heap.size,0,none⟩),.pointer (some ⟨w.heap.size + 1 + 1,0,none⟩)]] W fun e w'=>∃ i : Nat,e = .returned (.int .i64 (i : Int))∧Found (fun k=>decide (hi≤(atP l k).1)) n i∧Below W.heap.size W w'):=S2
  have HX : Hid (Rw pieceV 2 w a n cap l∧Below w.heap.size w wa∧wa.heap[w.heap.size]? = some (.cells #[.slice a n cap] 42)∧(∀ i j,Found (fun k=>decide (lo < (atP l k).2)) n i→Found (fun k=>decide (hi≤(atP l k).1)) n j→i≤j)):=⟨h,hba,h0,hord⟩
  clear S1 S2 bx h h1 h2 h0 hba hord
  go_enter Tryz.func97,Tryz.ntmps97
  go_wp2_with fail
  refine T1.mono ?_
  rintro e w1 ⟨i,rfl,hi1,hb1⟩
  clear T1
  obtain ⟨h,hba,h0,hord⟩:=HX.out
  have T2:=HS2.out w1 hb1
  have c1:=(hb1.cell (p:=⟨w.heap.size,0,none⟩) hl0).trans c0
  clear HS2 c0
  go_wp2_with fail
  refine T2.mono ?_
  rintro e w2 ⟨j,rfl,hj1,hb2⟩
  clear T2
  have hij:=hord i j hi1 hj1
  have c2:=(hb2.cell (p:=⟨w.heap.size,0,none⟩) (Nat.lt_of_lt_of_le hl0 hb1.size)).trans c1
  have hB2 : Below w.heap.size w w2:=(hba.trans (hb1.mono hba.size)).trans (hb2.mono (Nat.le_trans hba.size hb1.size))
  obtain ⟨a',cap',hs,hr⟩:=cut_list h i j hij hj1.1
  have HZ : Hid (Found (fun k=>decide (lo < (atP l k).2)) n i∧Found (fun k=>decide (hi≤(atP l k).1)) n j∧i≤j∧Rw pieceV 2 w2 a' (j - i) cap' ((l.take j).drop i)∧Below w.heap.size w w2):=⟨hi1,hj1,hij,hr.below hB2,hB2⟩
  clear h hba h0 hord hi1 hj1 hr hB2 hb1 hb2 c1
  go_wp2_with fail
  go_ret
  obtain ⟨z1,z2,z3,z4,z5⟩:=HZ.out
  exact ⟨i,j,a',cap',z1,z2,z3,rfl,z4,z5⟩
end Go.Proofs.YtijpfbcippijoaaGreatDoor

namespace Go.Proofs.YtijpfbcippijoaaGreatDoor
set_option maxRecDepth 100000
structure Srt (l : List (Int × Int)) : Prop where
  some_ : ∀ x ∈ l,x.1 < x.2
  apart : ∀ (i j : Nat) x y,i < j→l[i]? = some x→l[j]? = some y→x.2 < y.1
def meetL (lo hi : Int) (l : List (Int × Int)) : List (Int × Int):=l.filter fun x=>decide (lo < x.2∧x.1 < hi)
theorem atP_get {l : List (Int × Int)} {k : Nat} (h : k < l.length) : l[k]? = some (atP l k):=by
  unfold atP
  rw [List.getD_eq_getElem?_getD,List.getElem?_eq_getElem h]
  rfl
section
variable {l : List (Int × Int)} (h : Srt l) {lo hi : Int} {i j : Nat}
include h
theorem Srt.mono {k m : Nat} (hkm : k < m) (hm : m < l.length) : (atP l k).1 < (atP l m).1∧(atP l k).2 < (atP l m).2:=by
  have h1:=h.apart k m _ _ hkm (atP_get (by omega)) (atP_get hm)
  have h2:=h.some_ _ (List.mem_of_getElem? (atP_get (k:=k) (by omega)))
  have h3:=h.some_ _ (List.mem_of_getElem? (atP_get hm))
  omega
theorem Srt.found1 (hf : Found (fun k=>decide (lo < (atP l k).2)) l.length i) : (∀ k,k < i→(atP l k).2≤lo)∧∀ k,i≤k→k < l.length→lo < (atP l k).2:=by
  obtain ⟨h1,h2,h3⟩:=hf
  refine ⟨fun k hk=>?_,fun k hk hl=>?_⟩
  · have h4:=h2 (by omega)
    simp only [decide_eq_false_iff_not] at h4
    rcases Nat.lt_or_ge k (i - 1) with e | e
    · have:=(h.mono e (by omega)).2; omega
    · obtain rfl : k = i - 1:=by omega
      omega
  · have h4:=h3 (by omega)
    simp only [decide_eq_true_eq] at h4
    rcases Nat.lt_or_ge i k with e | e
    · have:=(h.mono e hl).2; omega
    · obtain rfl : k = i:=by omega
      exact h4
theorem Srt.found2 (hf : Found (fun k=>decide (hi≤(atP l k).1)) l.length j) : (∀ k,k < j→(atP l k).1 < hi)∧∀ k,j≤k→k < l.length→hi≤(atP l k).1:=by
  obtain ⟨h1,h2,h3⟩:=hf
  refine ⟨fun k hk=>?_,fun k hk hl=>?_⟩
  · have h4:=h2 (by omega)
    simp only [decide_eq_false_iff_not] at h4
    rcases Nat.lt_or_ge k (j - 1) with e | e
    · have:=(h.mono e (by omega)).1; omega
    · obtain rfl : k = j - 1:=by omega
      omega
  · have h4:=h3 (by omega)
    simp only [decide_eq_true_eq] at h4
    rcases Nat.lt_or_ge j k with e | e
    · have:=(h.mono e hl).1; omega
    · obtain rfl : k = j:=by omega
      exact h4
theorem Srt.order (hlh : lo≤hi) (h1 : Found (fun k=>decide (lo < (atP l k).2)) l.length i) (h2 : Found (fun k=>decide (hi≤(atP l k).1)) l.length j) : i≤j:=by
  rcases Nat.lt_or_ge j i with e | e
  · have a:=(h.found1 h1).1 j e
    have b:=(h.found2 h2).2 j (Nat.le_refl _) (by have:=h1.1; omega)
    have c:=h.some_ _ (List.mem_of_getElem? (atP_get (k:=j) (by have:=h1.1; omega)))
    omega
  · exact e
theorem Srt.cut (hij : i≤j) (h1 : Found (fun k=>decide (lo < (atP l k).2)) l.length i) (h2 : Found (fun k=>decide (hi≤(atP l k).1)) l.length j) : (l.take j).drop i = meetL lo hi l:=by
  obtain ⟨f1,f2⟩:=h.found1 h1
  obtain ⟨g1,g2⟩:=h.found2 h2
  have hj:=h2.1
  have e : l = l.take i ++ ((l.take j).drop i ++ l.drop j):=by
    have e1 : l = l.take j ++ l.drop j:=(List.take_append_drop j l).symm
    have e2 : l.take j = (l.take j).take i ++ (l.take j).drop i:=(List.take_append_drop i _).symm
    rw [List.take_take,Nat.min_eq_left hij] at e2
    conv=>lhs; rw [e1,e2]
    rw [List.append_assoc]
  have mem : ∀ (m : List (Int × Int)) (P : Int × Int→Prop),(∀ k x,m[k]? = some x→P x)→∀ x ∈ m,P x:=fun m P hm x hx=>by
    obtain ⟨k,hk⟩:=List.getElem?_of_mem hx
    exact hm k x hk
  have key : ∀ k x,l[k]? = some x→x = atP l k∧k < l.length:=fun k x hx=>by
    have hl:=(List.getElem?_eq_some_iff.1 hx).1
    rw [atP_get hl] at hx
    exact ⟨(Option.some.inj hx).symm,hl⟩
  unfold meetL
  conv=>rhs; rw [e]
  rw [List.filter_append,List.filter_append,List.filter_eq_nil_iff.2,List.filter_eq_self.2,List.filter_eq_nil_iff.2]
  · simp
  · refine mem _ _ fun k x hx=>?_
    rw [List.getElem?_drop] at hx
    obtain ⟨rfl,hl⟩:=key _ _ hx
    have:=g2 (j + k) (by omega) hl
    simp only [decide_eq_true_eq]
    omega
  · refine mem _ _ fun k x hx=>?_
    rw [List.getElem?_drop,List.getElem?_take] at hx
    split at hx
    · obtain ⟨rfl,hl⟩:=key _ _ hx
      have a:=f2 (i + k) (by omega) hl
      have b:=g1 (i + k) (by omega)
      simp only [decide_eq_true_eq]
      omega
    · cases hx
  · refine mem _ _ fun k x hx=>?_
    rw [List.getElem?_take] at hx
    split at hx
    · obtain ⟨rfl,hl⟩:=key _ _ hx
      have:=f1 k (by omega)
      simp only [decide_eq_true_eq]
      omega
    · cases hx
end
open Go.RowKit Go.Lib
theorem meeting_list {w : World} {a : Option Addr} {n cap : Nat} {l : List (Int × Int)} (h : Rw pieceV 2 w a n cap l) (hn : n≤4294967296) (hs : Srt l) (lo hi : Int) (hlh : lo≤hi) :
    Calls Tryz.prog 97 #[.slice a n cap,.int .i64 lo,.int .i64 hi] w fun e w'=>∃ (a' : Option Addr) (cap' : Nat),e = .returned (.slice a' (meetL lo hi l).length cap')∧Rw pieceV 2 w' a' (meetL lo hi l).length cap' (meetL lo hi l)∧Below w.heap.size w w':=by
  have hl:=h.len
  subst hl
  refine (meeting_any h hn lo hi (fun i j h1 h2=>hs.order hlh h1 h2)).mono ?_
  rintro e w' ⟨i,j,a',cap',h1,h2,hij,rfl,hr,hb⟩
  have ec:=hs.cut hij h1 h2
  have el:=hr.len
  rw [ec] at hr el
  rw [← el] at hr ⊢
  exact ⟨a',cap',rfl,hr,hb⟩
end Go.Proofs.YtijpfbcippijoaaGreatDoor

namespace Go.Proofs.YtijpfbcippijoaaGreatDoor
open Go.RowKit Go.Lib
set_option maxRecDepth 100000
def Sm.vals (s : Sm) : Array Value:=#[.int .i64 s.cells,.int .i64 s.pieces,.int .i64 s.high,.int .i64 s.least,.int .i64 s.most,.int .i64 s.lowest,.int .i64 s.fc,.int .i64 s.fh,.int .i64 s.lc,.int .i64 s.lh]
def runeV (x : Int) : List Value:=[.int .i32 x]
theorem layN : Lay runeV 1:=⟨fun _=>rfl,by decide,fun x u hu=>by simp [runeV] at hu; rcases hu with rfl; rfl⟩
def nodeCells (s : Sm) (rs l r : Value) (st : Int) : Array Value:=#[.int .i64 s.cells,.int .i64 s.pieces,.int .i64 s.high,.int .i64 s.least,.int .i64 s.most,.int .i64 s.lowest,.int .i64 s.fc,.int .i64 s.fh,.int .i64 s.lc,.int .i64 s.lh,rs,l,r,.int .i64 st]
def NodeAt (w : World) (g : Nat) (s : Sm) (rs l r : Value) (st : Int) : Prop:=w.heap[g]? = some (.cells (nodeCells s rs l r st) 96)
def TypN (w : World) (a : Option Addr) (n : Nat) : Prop:=0 < n→∀ g off,a = some ⟨g,off,none⟩→∃ cs fr,w.heap[g]? = some (.cells cs 21 fr)
structure RwN (w : World) (a : Option Addr) (n cap : Nat) (rs : List Int) : Prop where
  rw_ : Rw runeV 1 w a n cap rs
  typ : TypN w a n
theorem RwN.below {w w' : World} {a : Option Addr} {n cap : Nat} {rs : List Int} (h : RwN w a n cap rs) (hb : Below w.heap.size w w') : RwN w' a n cap rs :=
  ⟨h.rw_.below hb,fun h0 g off e=>by
    obtain ⟨cs,fr,hh⟩:=h.typ h0 g off e
    exact ⟨cs,fr,(hb.block g (Array.getElem?_eq_some_iff.1 hh).1).trans hh⟩⟩
theorem OwnF.rwn {w : World} {B n cap : Nat} {a : Option Addr} {rs : List Int} (h : OwnF runeV 1 21 w B (.slice a n cap) rs) : RwN w a n cap rs:=by
  refine ⟨h.rw_ layN,fun h0 g off e=>?_⟩
  rcases h.2 with ⟨e1,_⟩ | ⟨g',cap',cur,e1,_,hh,_⟩
  · simp only [Value.slice.injEq] at e1
    omega
  · simp only [Value.slice.injEq] at e1
    rw [e1.1] at e
    simp at e
    rw [← e.1]
    exact ⟨cur,_,hh⟩
def At (w : World) : Tr→Nat→Prop
  | .nil,g=>NodeAt w g Tr.nil.sm (.slice none 0 0) (.pointer none) (.pointer none) 0
  | .leaf rs h st,g=>∃ a cap,NodeAt w g (Tr.leaf rs h st).sm (.slice a rs.length cap) (.pointer none) (.pointer none) st∧RwN w a rs.length cap rs
  | .node l r st,g=>∃ gl gr,NodeAt w g (Tr.node l r st).sm (.slice none 0 0) (.pointer (some ⟨gl,0,none⟩)) (.pointer (some ⟨gr,0,none⟩)) st∧At w l gl∧At w r gr
theorem NodeAt.lt {w : World} {g : Nat} {s : Sm} {rs l r : Value} {st : Int} (h : NodeAt w g s rs l r st) : g < w.heap.size:=(Array.getElem?_eq_some_iff.1 h).1
theorem NodeAt.below {w w' : World} {g : Nat} {s : Sm} {rs l r : Value} {st : Int} (h : NodeAt w g s rs l r st) (hb : Below w.heap.size w w') : NodeAt w' g s rs l r st:=(hb.block g h.lt).trans h
theorem At.below {w w' : World} (hb : Below w.heap.size w w') : ∀ {t : Tr} {g : Nat},At w t g→At w' t g
  | .nil,_,h=>NodeAt.below h hb
  | .leaf _ _ _,_,⟨a,cap,h,hr⟩=>⟨a,cap,h.below hb,hr.below hb⟩
  | .node _ _ _,_,⟨gl,gr,h,hl,hr⟩=>⟨gl,gr,h.below hb,At.below hb hl,At.below hb hr⟩
theorem At.node {w : World} {t : Tr} {g : Nat} (h : At w t g) : ∃ (a : Option Addr) (n cap : Nat) (pl pr : Option Addr) (st : Int),NodeAt w g t.sm (.slice a n cap) (.pointer pl) (.pointer pr) st:=by
  cases t with
  | nil=>exact ⟨_,_,_,_,_,_,h⟩
  | leaf rs hid st=>obtain ⟨a,cap,h,_⟩:=h; exact ⟨_,_,_,_,_,_,h⟩
  | node l r st=>obtain ⟨gl,gr,h,_⟩:=h; exact ⟨_,_,_,_,_,_,h⟩
theorem At.lt {w : World} {t : Tr} {g : Nat} (h : At w t g) : g < w.heap.size:=by
  obtain ⟨_,_,_,_,_,_,h⟩:=h.node
  exact h.lt
theorem NodeAt.cell {w : World} {g : Nat} {s : Sm} {rs l r : Value} {st : Int} (h : NodeAt w g s rs l r st) (j : Nat) (v : Value) (hv : (nodeCells s rs l r st)[j]? = some v) : w.cell? ⟨g,j,none⟩ = some v:=by
  unfold NodeAt at h
  simp only [World.cell?,h]
  exact hv
theorem NodeAt.ten {w : World} {g : Nat} {s : Sm} {rs l r : Value} {st : Int} (h : NodeAt w g s rs l r st) : w.cell? ⟨g,0,none⟩ = some (.int .i64 s.cells)∧w.cell? ⟨g,1,none⟩ = some (.int .i64 s.pieces)∧w.cell? ⟨g,2,none⟩ = some (.int .i64 s.high)∧w.cell? ⟨g,3,none⟩ = some (.int .i64 s.least)∧w.cell? ⟨g,4,none⟩ = some (.int .i64 s.most)∧w.cell? ⟨g,5,none⟩ = some (.int .i64 s.lowest)∧w.cell? ⟨g,6,none⟩ = some (.int .i64 s.fc)∧w.cell? ⟨g,7,none⟩ = some (.int .i64 s.fh)∧w.cell? ⟨g,8,none⟩ = some (.int .i64 s.lc)∧w.cell? ⟨g,9,none⟩ = some (.int .i64 s.lh) :=
  ⟨h.cell 0 _ rfl,h.cell 1 _ rfl,h.cell 2 _ rfl,h.cell 3 _ rfl,h.cell 4 _ rfl,h.cell 5 _ rfl,h.cell 6 _ rfl,h.cell 7 _ rfl,h.cell 8 _ rfl,h.cell 9 _ rfl⟩
theorem NodeAt.four {w : World} {g : Nat} {s : Sm} {rs l r : Value} {st : Int} (h : NodeAt w g s rs l r st) : w.cell? ⟨g,10,none⟩ = some rs∧w.cell? ⟨g,11,none⟩ = some l∧w.cell? ⟨g,12,none⟩ = some r∧w.cell? ⟨g,13,none⟩ = some (.int .i64 st) :=
  ⟨h.cell 10 _ rfl,h.cell 11 _ rfl,h.cell 12 _ rfl,h.cell 13 _ rfl⟩
set_option maxHeartbeats 400000 in
theorem smIsPiece_any (s : Sm) (w : World) : Calls Tryz.prog 90 #[.agg s.vals] w fun e w'=>e = .returned (.bool (decide (s.high≤1)))∧Below w.heap.size w w':=by
  obtain ⟨c,p,hg,le,mo,lo,fc,fh,lc,lh⟩:=s
  unfold Sm.vals
  simp only
  go_enter Tryz.func90,Tryz.ntmps90
  go_wp2_with fail
  go_ret
  exact ⟨rfl,(Below.refl _ _).alloc (Nat.le_refl _) _⟩
set_option maxHeartbeats 400000 in
theorem smHid_any (s : Sm) (w : World) : Calls Tryz.prog 30 #[.agg s.vals] w fun e w'=>e = .returned (.int .i64 s.fh)∧Below w.heap.size w w':=by
  obtain ⟨c,p,hg,le,mo,lo,fc,fh,lc,lh⟩:=s
  unfold Sm.vals
  simp only
  go_enter Tryz.func30,Tryz.ntmps30
  go_wp2_with fail
  go_ret
  exact ⟨rfl,(Below.refl _ _).alloc (Nat.le_refl _) _⟩
set_option maxHeartbeats 400000 in
theorem total_any {w : World} {t : Tr} {g q : Nat} (h : At w t g) (hq : w.cell? ⟨q,0,none⟩ = some (.pointer (some ⟨g,0,none⟩))) : Calls Tryz.prog 24 #[.pointer (some ⟨q,0,none⟩)] w fun e w'=>e = .returned (.int .i64 t.sm.cells)∧w' = w:=by
  obtain ⟨an,nn,cn,pl,pr,st,hn⟩:=h.node
  have c0:=hn.cell 0 _ rfl
  clear hn
  go_enter Tryz.func24,Tryz.ntmps24
  go_wp2_with fail
  go_ret
  exact ⟨rfl,rfl⟩
set_option maxHeartbeats 1000000 in
theorem smRaised_any (s : Sm) (d : Int) (h1 : -4194304≤s.least∧s.least≤4194304) (h2 : -4194304≤s.most∧s.most≤4194304) (h3 : -4194304≤s.fh∧s.fh≤4194304) (h4 : -4194304≤s.lh∧s.lh≤4194304) (h5 : -4194304≤d∧d≤4194304) (w : World) :
    Calls Tryz.prog 125 #[.agg s.vals,.int .i64 d] w fun e w'=>e = .returned (.agg (s.raised d).vals)∧Below w.heap.size w w':=by
  obtain ⟨c,p,hg,le,mo,lo,fc,fh,lc,lh⟩:=s
  unfold Sm.vals Sm.raised
  simp only at h1 h2 h3 h4 ⊢
  go_enter Tryz.func125,Tryz.ntmps125
  go_wp2_with fail
  refine bodyPost_ret (v:=.agg #[.int .i64 c,.int .i64 p,.int .i64 hg,.int .i64 (le + d),.int .i64 (mo + d),.int .i64 lo,.int .i64 fc,.int .i64 (fh + d),.int .i64 lc,.int .i64 (lh + d)]) (by simp [results,Tryz.results125,go_sem]) rfl ⟨rfl,?_⟩
  repeat' (first | exact Below.refl _ _ | refine Below.setCell ?_ (by simp) _ | refine Below.alloc ?_ (by simp) _)
end Go.Proofs.YtijpfbcippijoaaGreatDoor

namespace Go.Proofs.YtijpfbcippijoaaGreatDoor
open Go.RowKit Go.Lib
set_option maxRecDepth 100000
def ptr (g : Nat) : Value:=.pointer (some ⟨g,0,none⟩)
theorem nodeAt_raise {w w' : World} {t : Tr} (hw : t.Wf) {d : Int} {g g' : Nat} (h : At w t g) (hb : Below w.heap.size w w')
    (hn : ∀ (a : Option Addr) (n cap : Nat) (pl pr : Option Addr) (st : Int),NodeAt w g t.sm (.slice a n cap) (.pointer pl) (.pointer pr) st→NodeAt w' g' (t.sm.raised d) (.slice a n cap) (.pointer pl) (.pointer pr) (st + d)) : At w' (t.raise d) g':=by
  have hsm:=Tr.sm_raise t hw d
  cases t with
  | nil=>exact hw.elim
  | leaf rs hid st =>
    obtain ⟨a,cap,h1,h2⟩:=h
    have:=hn _ _ _ _ _ _ h1
    rw [← hsm] at this
    exact ⟨a,cap,this,h2.below hb⟩
  | node l r st =>
    obtain ⟨gl,gr,h1,h2,h3⟩:=h
    have:=hn _ _ _ _ _ _ h1
    rw [← hsm] at this
    exact ⟨gl,gr,this,h2.below hb,h3.below hb⟩
theorem setNode {w1 : World} {B : Nat} {s : Sm} {rs l r : Value} {st : Int} (h : NodeAt w1 B s rs l r st) (s2 : Sm) (st2 : Int) :
    NodeAt (((((((((((w1.setCell ⟨B,0,none⟩ (.int .i64 s2.cells)).setCell ⟨B,1,none⟩ (.int .i64 s2.pieces)).setCell ⟨B,2,none⟩ (.int .i64 s2.high)).setCell ⟨B,3,none⟩ (.int .i64 s2.least)).setCell ⟨B,4,none⟩ (.int .i64 s2.most)).setCell ⟨B,5,none⟩ (.int .i64 s2.lowest)).setCell ⟨B,6,none⟩ (.int .i64 s2.fc)).setCell ⟨B,7,none⟩ (.int .i64 s2.fh)).setCell ⟨B,8,none⟩ (.int .i64 s2.lc)).setCell ⟨B,9,none⟩ (.int .i64 s2.lh)).setCell ⟨B,13,none⟩ (.int .i64 st2)) B s2 rs l r st2:=by
  obtain ⟨x0,x1,x2,x3,x4,x5,x6,x7,x8,x9⟩:=s2
  have h0 : NodeAt (w1.setCell ⟨B,0,none⟩ (.int .i64 x0)) B ⟨x0,s.pieces,s.high,s.least,s.most,s.lowest,s.fc,s.fh,s.lc,s.lh⟩ rs l r st:=(heap_setCell_same _ B 0 _ _ _ h).trans (by unfold nodeCells; simp)
  have h1 : NodeAt ((w1.setCell ⟨B,0,none⟩ (.int .i64 x0)).setCell ⟨B,1,none⟩ (.int .i64 x1)) B ⟨x0,x1,s.high,s.least,s.most,s.lowest,s.fc,s.fh,s.lc,s.lh⟩ rs l r st:=(heap_setCell_same _ B 1 _ _ _ h0).trans (by unfold nodeCells; simp)
  have h2 : NodeAt (((w1.setCell ⟨B,0,none⟩ (.int .i64 x0)).setCell ⟨B,1,none⟩ (.int .i64 x1)).setCell ⟨B,2,none⟩ (.int .i64 x2)) B ⟨x0,x1,x2,s.least,s.most,s.lowest,s.fc,s.fh,s.lc,s.lh⟩ rs l r st:=(heap_setCell_same _ B 2 _ _ _ h1).trans (by unfold nodeCells; simp)
  have h3 : NodeAt ((((w1.setCell ⟨B,0,none⟩ (.int .i64 x0)).setCell ⟨B,1,none⟩ (.int .i64 x1)).setCell ⟨B,2,none⟩ (.int .i64 x2)).setCell ⟨B,3,none⟩ (.int .i64 x3)) B ⟨x0,x1,x2,x3,s.most,s.lowest,s.fc,s.fh,s.lc,s.lh⟩ rs l r st:=(heap_setCell_same _ B 3 _ _ _ h2).trans (by unfold nodeCells; simp)
  have h4 : NodeAt (((((w1.setCell ⟨B,0,none⟩ (.int .i64 x0)).setCell ⟨B,1,none⟩ (.int .i64 x1)).setCell ⟨B,2,none⟩ (.int .i64 x2)).setCell ⟨B,3,none⟩ (.int .i64 x3)).setCell ⟨B,4,none⟩ (.int .i64 x4)) B ⟨x0,x1,x2,x3,x4,s.lowest,s.fc,s.fh,s.lc,s.lh⟩ rs l r st:=(heap_setCell_same _ B 4 _ _ _ h3).trans (by unfold nodeCells; simp)
  have h5 : NodeAt ((((((w1.setCell ⟨B,0,none⟩ (.int .i64 x0)).setCell ⟨B,1,none⟩ (.int .i64 x1)).setCell ⟨B,2,none⟩ (.int .i64 x2)).setCell ⟨B,3,none⟩ (.int .i64 x3)).setCell ⟨B,4,none⟩ (.int .i64 x4)).setCell ⟨B,5,none⟩ (.int .i64 x5)) B ⟨x0,x1,x2,x3,x4,x5,s.fc,s.fh,s.lc,s.lh⟩ rs l r st:=(heap_setCell_same _ B 5 _ _ _ h4).trans (by unfold nodeCells; simp)
  have h6 : NodeAt (((((((w1.setCell ⟨B,0,none⟩ (.int .i64 x0)).setCell ⟨B,1,none⟩ (.int .i64 x1)).setCell ⟨B,2,none⟩ (.int .i64 x2)).setCell ⟨B,3,none⟩ (.int .i64 x3)).setCell ⟨B,4,none⟩ (.int .i64 x4)).setCell ⟨B,5,none⟩ (.int .i64 x5)).setCell ⟨B,6,none⟩ (.int .i64 x6)) B ⟨x0,x1,x2,x3,x4,x5,x6,s.fh,s.lc,s.lh⟩ rs l r st:=(heap_setCell_same _ B 6 _ _ _ h5).trans (by unfold nodeCells; simp)
  have h7 : NodeAt ((((((((w1.setCell ⟨B,0,none⟩ (.int .i64 x0)).setCell ⟨B,1,none⟩ (.int .i64 x1)).setCell ⟨B,2,none⟩ (.int .i64 x2)).setCell ⟨B,3,none⟩ (.int .i64 x3)).setCell ⟨B,4,none⟩ (.int .i64 x4)).setCell ⟨B,5,none⟩ (.int .i64 x5)).setCell ⟨B,6,none⟩ (.int .i64 x6)).setCell ⟨B,7,none⟩ (.int .i64 x7)) B ⟨x0,x1,x2,x3,x4,x5,x6,x7,s.lc,s.lh⟩ rs l r st:=(heap_setCell_same _ B 7 _ _ _ h6).trans (by unfold nodeCells; simp)
  have h8 : NodeAt (((((((((w1.setCell ⟨B,0,none⟩ (.int .i64 x0)).setCell ⟨B,1,none⟩ (.int .i64 x1)).setCell ⟨B,2,none⟩ (.int .i64 x2)).setCell ⟨B,3,none⟩ (.int .i64 x3)).setCell ⟨B,4,none⟩ (.int .i64 x4)).setCell ⟨B,5,none⟩ (.int .i64 x5)).setCell ⟨B,6,none⟩ (.int .i64 x6)).setCell ⟨B,7,none⟩ (.int .i64 x7)).setCell ⟨B,8,none⟩ (.int .i64 x8)) B ⟨x0,x1,x2,x3,x4,x5,x6,x7,x8,s.lh⟩ rs l r st:=(heap_setCell_same _ B 8 _ _ _ h7).trans (by unfold nodeCells; simp)
  have h9 : NodeAt ((((((((((w1.setCell ⟨B,0,none⟩ (.int .i64 x0)).setCell ⟨B,1,none⟩ (.int .i64 x1)).setCell ⟨B,2,none⟩ (.int .i64 x2)).setCell ⟨B,3,none⟩ (.int .i64 x3)).setCell ⟨B,4,none⟩ (.int .i64 x4)).setCell ⟨B,5,none⟩ (.int .i64 x5)).setCell ⟨B,6,none⟩ (.int .i64 x6)).setCell ⟨B,7,none⟩ (.int .i64 x7)).setCell ⟨B,8,none⟩ (.int .i64 x8)).setCell ⟨B,9,none⟩ (.int .i64 x9)) B ⟨x0,x1,x2,x3,x4,x5,x6,x7,x8,x9⟩ rs l r st:=(heap_setCell_same _ B 9 _ _ _ h8).trans (by unfold nodeCells; simp)
  exact (heap_setCell_same _ B 13 _ _ _ h9).trans (by unfold nodeCells; simp)
theorem NodeAt.unique {w : World} {g : Nat} {s : Sm} {rs l r : Value} {st : Int} {rs' l' r' : Value} {st' : Int} (h : NodeAt w g s rs l r st) (h' : NodeAt w g s rs' l' r' st') : rs' = rs∧l' = l∧r' = r∧st' = st:=by
  unfold NodeAt at h h'
  rw [h] at h'
  simp [nodeCells] at h'
  exact ⟨h'.1.symm,h'.2.1.symm,h'.2.2.1.symm,h'.2.2.2.symm⟩
set_option maxHeartbeats 2000000 in
theorem nodeRaised_any {w : World} {t : Tr} {g : Nat} (h : At w t g) (hw : t.Wf) (hs : SmBd t.sm) (d : Int) (hd : -1048600≤d∧d≤1048600) (hst : ∀ (a : Option Addr) (n cap : Nat) (pl pr : Option Addr) (st : Int),NodeAt w g t.sm (.slice a n cap) (.pointer pl) (.pointer pr) st→-1048600≤st∧st≤1048600) :
    Calls Tryz.prog 98 #[ptr g,.int .i64 d] w fun e w'=>∃ g',e = .returned (ptr g')∧At w' (t.raise d) g'∧Below w.heap.size w w':=by
  unfold ptr
  by_cases h0 : d = 0
  · subst h0
    rw [Tr.raise_zero]
    go_enter Tryz.func98,Tryz.ntmps98
    go_wp2_with fail
    go_ret
    exact ⟨g,rfl,h,Below.refl _ _⟩
  · have hz : (d == 0) = false:=by simpa using h0
    obtain ⟨an,nn,cn,pl,pr,st,hn⟩:=h.node
    have hst':=hst _ _ _ _ _ _ hn
    have hsh:=hs
    obtain ⟨b0,b1,b2,b3,b4,b5,b6,b7,b8,b9⟩:=hsh
    have HR:=smRaised_any t.sm d (by omega) (by omega) (by omega) (by omega) (by omega)
    obtain ⟨c0,c1,c2,c3,c4,c5,c6,c7,c8,c9⟩:=hn.ten
    obtain ⟨c10,c11,c12,c13⟩:=hn.four
    have hgl:=hn.lt
    have HN : Hid (NodeAt w g t.sm (.slice an nn cn) (.pointer pl) (.pointer pr) st):=hn
    clear hn hst h0
    go_enter Tryz.func98,Tryz.ntmps98
    go_wp2_with fail
    refine (HR _).mono ?_
    rintro e w1 ⟨rfl,hb1⟩
    have hs1:=hb1.size
    have hB : w1.heap[w.heap.size]? = some (.cells (nodeCells t.sm (.slice an nn cn) (.pointer pl) (.pointer pr) st) 96):=(hb1.block _ (by simp)).trans (heap_alloc_new _ _)
    have hN1 : NodeAt w1 w.heap.size t.sm (.slice an nn cn) (.pointer pl) (.pointer pr) st:=hB
    obtain ⟨d0,d1,d2,d3,d4,d5,d6,d7,d8,d9⟩:=hN1.ten
    obtain ⟨d10,d11,d12,d13⟩:=hN1.four
    have hfz : ∀ j,w1.frozen? ⟨w.heap.size,j,none⟩ = false:=fun j=>frozen_of_row w1 w.heap.size j _ _ hB
    have f0:=hfz 0
    have f1:=hfz 1
    have f2:=hfz 2
    have f3:=hfz 3
    have f4:=hfz 4
    have f5:=hfz 5
    have f6:=hfz 6
    have f7:=hfz 7
    have f8:=hfz 8
    have f9:=hfz 9
    have f13:=hfz 13
    have HB : Hid (w1.heap[w.heap.size]? = some (.cells (nodeCells t.sm (.slice an nn cn) (.pointer pl) (.pointer pr) st) 96)):=hB
    clear hN1 hB hfz c0 c1 c2 c3 c4 c5 c6 c7 c8 c9 c10 c11 c12 c13
    unfold Sm.vals Sm.raised
    go_wp2_with fail
    go_ret
    have hB0 : Below w.heap.size w w1:=((Below.refl _ _).alloc (Nat.le_refl _) _).trans (hb1.mono (by simp))
    have hBf : Below w.heap.size w _:=(((((((((((hB0.setCell (p:=⟨w.heap.size,0,none⟩) (Nat.le_refl _) (.int .i64 t.sm.cells)).setCell (p:=⟨w.heap.size,1,none⟩) (Nat.le_refl _) (.int .i64 t.sm.pieces)).setCell (p:=⟨w.heap.size,2,none⟩) (Nat.le_refl _) (.int .i64 t.sm.high)).setCell (p:=⟨w.heap.size,3,none⟩) (Nat.le_refl _) (.int .i64 (t.sm.least + d))).setCell (p:=⟨w.heap.size,4,none⟩) (Nat.le_refl _) (.int .i64 (t.sm.most + d))).setCell (p:=⟨w.heap.size,5,none⟩) (Nat.le_refl _) (.int .i64 t.sm.lowest)).setCell (p:=⟨w.heap.size,6,none⟩) (Nat.le_refl _) (.int .i64 t.sm.fc)).setCell (p:=⟨w.heap.size,7,none⟩) (Nat.le_refl _) (.int .i64 (t.sm.fh + d))).setCell (p:=⟨w.heap.size,8,none⟩) (Nat.le_refl _) (.int .i64 t.sm.lc)).setCell (p:=⟨w.heap.size,9,none⟩) (Nat.le_refl _) (.int .i64 (t.sm.lh + d))).setCell (p:=⟨w.heap.size,13,none⟩) (Nat.le_refl _) (.int .i64 (st + d)))
    refine ⟨w.heap.size,rfl,nodeAt_raise hw h hBf fun a' n' cap' pl' pr' st' hn'=>?_,hBf⟩
    obtain ⟨e1,e2,e3,rfl⟩:=HN.out.unique hn'
    rw [e1,e2,e3]
    exact setNode (s:=t.sm) (l:=.pointer pl) (r:=.pointer pr) (st:=st') HB.out (t.sm.raised d) (st' + d)
end Go.Proofs.YtijpfbcippijoaaGreatDoor

namespace Go.Proofs.YtijpfbcippijoaaGreatDoor
open Go.RowKit Go.Lib
set_option maxRecDepth 100000
theorem raised_any {w : World} {t : Tr} {g : Nat} (h : At w t g) (hw : t.Wf) (hb : t.Bd) (hn : t.row.length≤2097152) (d : Int) (hd : -1048600≤d∧d≤1048600) :
    Calls Tryz.prog 98 #[ptr g,.int .i64 d] w fun e w'=>∃ g',e = .returned (ptr g')∧At w' (t.raise d) g'∧Below w.heap.size w w':=by
  refine nodeRaised_any h hw (Tr.smBd (.inr hw) hb hn) d hd fun a n cap pl pr st hst=>?_
  cases t with
  | nil=>exact hw.elim
  | leaf rs hid st' =>
    obtain ⟨a',cap',h1,_⟩:=h
    obtain ⟨_,_,_,rfl⟩:=h1.unique hst
    exact hb.leafStill
  | node l r st' =>
    obtain ⟨gl,gr,h1,_⟩:=h
    obtain ⟨_,_,_,rfl⟩:=h1.unique hst
    exact hb.still hw
set_option maxHeartbeats 2000000 in
theorem sides_any {w : World} {l r : Tr} {st : Int} {g : Nat} (h : At w (.node l r st) g) (hw : (Tr.node l r st).Wf) (hb : (Tr.node l r st).Bd) (hn : (Tr.node l r st).row.length≤2097152) :
    Calls Tryz.prog 92 #[ptr g] w fun e w'=>∃ gl gr,e = .returned (.tuple #[ptr gl,ptr gr])∧At w' (l.raise st) gl∧At w' (r.raise st) gr∧Below w.heap.size w w':=by
  obtain ⟨gl,gr,hN,hl,hr⟩:=h
  have hlen : l.row.length≤2097152∧r.row.length≤2097152:=by
    simp only [Tr.row,upL_length,List.length_append] at hn; omega
  have HL : Hid (∀ W,Below w.heap.size w W→Calls Tryz.prog 98 #[.pointer (some ⟨gl,0,none⟩),.int .i64 st] W fun e w'=>∃ g',e = .returned (.pointer (some ⟨g',0,none⟩))∧At w' (l.raise st) g'∧Below W.heap.size W w'):=fun W hW=>raised_any (hl.below hW) hw.1 hb.1 hlen.1 st (hb.still hw)
  have HR : Hid (∀ W,Below w.heap.size w W→Calls Tryz.prog 98 #[.pointer (some ⟨gr,0,none⟩),.int .i64 st] W fun e w'=>∃ g',e = .returned (.pointer (some ⟨g',0,none⟩))∧At w' (r.raise st) g'∧Below W.heap.size W w'):=fun W hW=>raised_any (hr.below hW) hw.2 hb.2.1 hlen.2 st (hb.still hw)
  obtain ⟨_,c11,c12,c13⟩:=hN.four
  have hgl:=hN.lt
  clear hN hl hr hlen hn hb hw
  unfold ptr
  have hcur : Below w.heap.size w w:=Below.refl _ _
  go_enter Tryz.func92,Tryz.ntmps92
  go_wp2_with fail
  go_region_held3 (fun W=>W.cell? ⟨g,11,none⟩ = some (.pointer (some ⟨gl,0,none⟩))∧W.cell? ⟨g,12,none⟩ = some (.pointer (some ⟨gr,0,none⟩))∧W.cell? ⟨g,13,none⟩ = some (.int .i64 st)) (first | exact ⟨c11,c12,c13⟩ | exact ⟨e11,e12,e13⟩)
    (first
      | (go_at_call_of 98 (Value.pointer (some ⟨gl,0,none⟩)); refine (HL.out _ ?_).mono ?_; (first | exact hcur | exact hcur.drew | exact hcur.drew.drew); rintro e w1 ⟨gl1,rfl,hl1,hb1⟩; have hcur : Below w.heap.size w w1:=(by first | exact hcur.trans (hb1.mono hcur.size) | exact hcur.drew.trans (hb1.mono hcur.size)); have e11:=(hcur.cell (p:=⟨g,11,none⟩) hgl).trans c11; have e12:=(hcur.cell (p:=⟨g,12,none⟩) hgl).trans c12; have e13:=(hcur.cell (p:=⟨g,13,none⟩) hgl).trans c13)
      | (go_at_call_of 98 (Value.pointer (some ⟨gr,0,none⟩)); refine (HR.out _ ?_).mono ?_; (first | exact hcur | exact hcur.drew | exact hcur.drew.drew); rintro e w2 ⟨gr1,rfl,hr1,hb2⟩; have hl2 : At w2 (l.raise st) gl1:=hl1.below hb2; have hcur : Below w.heap.size w w2:=(by first | exact hcur.trans (hb2.mono hcur.size) | exact hcur.drew.trans (hb2.mono hcur.size)); have e11:=(hcur.cell (p:=⟨g,11,none⟩) hgl).trans c11; have e12:=(hcur.cell (p:=⟨g,12,none⟩) hgl).trans c12; have e13:=(hcur.cell (p:=⟨g,13,none⟩) hgl).trans c13))
  all_goals
    go_wp2_with fail
    go_ret2
    exact ⟨gl1,gr1,rfl,hl2,hr1,hcur⟩
end Go.Proofs.YtijpfbcippijoaaGreatDoor

namespace Go.Proofs.YtijpfbcippijoaaGreatDoor
open Go.RowKit Go.Lib
set_option maxRecDepth 100000
theorem At.ten {w : World} {t : Tr} {g : Nat} (h : At w t g) : w.cell? ⟨g,0,none⟩ = some (.int .i64 t.sm.cells)∧w.cell? ⟨g,1,none⟩ = some (.int .i64 t.sm.pieces)∧w.cell? ⟨g,2,none⟩ = some (.int .i64 t.sm.high)∧w.cell? ⟨g,3,none⟩ = some (.int .i64 t.sm.least)∧w.cell? ⟨g,4,none⟩ = some (.int .i64 t.sm.most)∧w.cell? ⟨g,5,none⟩ = some (.int .i64 t.sm.lowest)∧w.cell? ⟨g,6,none⟩ = some (.int .i64 t.sm.fc)∧w.cell? ⟨g,7,none⟩ = some (.int .i64 t.sm.fh)∧w.cell? ⟨g,8,none⟩ = some (.int .i64 t.sm.lc)∧w.cell? ⟨g,9,none⟩ = some (.int .i64 t.sm.lh):=by
  obtain ⟨an,nn,cn,pl,pr,st,hn⟩:=h.node
  exact hn.ten
end Go.Proofs.YtijpfbcippijoaaGreatDoor

namespace Go.Proofs.YtijpfbcippijoaaGreatDoor
open Go.RowKit Go.Lib
set_option maxRecDepth 100000
end Go.Proofs.YtijpfbcippijoaaGreatDoor

namespace Go.Proofs.YtijpfbcippijoaaGreatDoor
open Go.RowKit Go.Lib
set_option maxRecDepth 100000
def RopeAt (w : World) (q : Nat) (t : Tr) : Prop:=∃ g,w.heap[q]? = some (.cells #[.pointer (some ⟨g,0,none⟩)] 73)∧At w t g
theorem RopeAt.below {w w' : World} {q : Nat} {t : Tr} (h : RopeAt w q t) (hb : Below w.heap.size w w') : RopeAt w' q t:=by
  obtain ⟨g,h1,h2⟩:=h
  exact ⟨g,(hb.block q (Array.getElem?_eq_some_iff.1 h1).1).trans h1,h2.below hb⟩
theorem RopeAt.lt {w : World} {q : Nat} {t : Tr} (h : RopeAt w q t) : q < w.heap.size:=by
  obtain ⟨g,h1,h2⟩:=h
  exact (Array.getElem?_eq_some_iff.1 h1).1
theorem RopeAt.cell {w : World} {q : Nat} {t : Tr} (h : RopeAt w q t) : ∃ g,w.cell? ⟨q,0,none⟩ = some (.pointer (some ⟨g,0,none⟩))∧At w t g:=by
  obtain ⟨g,h1,h2⟩:=h
  refine ⟨g,?_,h2⟩
  simp [World.cell?,h1]
structure Tr.Good (t : Tr) : Prop where
  ok : t.Ok
  bd : t.Bd
  nonneg : Nonneg t.row
  len : t.row.length≤1048576
theorem ropeTotal_any {w : World} {q : Nat} {t : Tr} (h : RopeAt w q t) : Calls Tryz.prog 24 #[ptr q] w fun e w'=>e = .returned (.int .i64 (t.row.length : Int))∧w' = w:=by
  obtain ⟨g,h1,h2⟩:=h.cell
  rw [← Tr.sm_cells]
  exact total_any h2 h1
end Go.Proofs.YtijpfbcippijoaaGreatDoor
