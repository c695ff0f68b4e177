import Derived.Test.YtijpfbcippijoaaGreatDoorAl
import Derived.Test.YtijpfbcippijoaaGreatDoorGr111
import Derived.Shelf.Abstract
set_option maxHeartbeats 4000000
set_option maxRecDepth 100000
namespace Go.Proofs.YtijpfbcippijoaaGreatDoor
open Go.RowKit Go.Lib Go.Shelf
def Found (P:Nat→Bool) (n i:Nat):Prop:=i≤n∧(0<i→P (i-1)=false)∧(i<n→P i=true)
theorem search_any (k:Nat) (caps:Array Value) (n:Nat) (hn:n≤4294967296) (P:Nat→Bool) (w:World) (hE:∀ (args:Array Value) (w:World),(callFunc k args).run Tryz.prog w=.ok (.enter k args) w)
  (hC:∀ h W,h<n→Below w.heap.size w W→Calls Tryz.prog k (#[.int .i64 (h:Int)]++caps) W fun e W'=>e=.returned (.bool (P h))∧Below W.heap.size W W') :
  Calls Tryz.prog 122 #[.int .i64 (n:Int),.func (.func k) #[] caps] w fun e w'=>∃ i:Nat,e=.returned (.int .i64 (i:Int))∧Found P n i∧Below w.heap.size w w':=by
 go_enter Tryz.func122,Tryz.ntmps122;go_wp2_with fail;go_loopw [5,6,7] (fun v3 v4 _ W=>∃ i j:Nat,i≤j∧j≤n∧v3=.int .i64 i∧v4=.int .i64 j∧(0<i→P (i-1)=false)∧(j<n→P j=true)∧Below w.heap.size w W) (fun v3 v4 _ _=>(RowKit.intOf v4-RowKit.intOf v3).toNat)
 case atStart=>exact ⟨0,n,by omega,by omega,rfl,rfl,by omega,by omega,bE _ _⟩
 case round =>
  obtain ⟨i,j,hij,hj,rfl,rfl,hi1,hj1,hB⟩:=hrel;by_cases hlt:i<j
  ·have b1:decide ((i:Int)<(j:Int))=true:=decide_eq_true (by omega);obtain ⟨h,hh⟩:∃ h,(i+j) / 2=h:=⟨_,rfl⟩;have hhi:i≤h∧h<j:=by omega
   have e1:IntKind.i64.wrap ((i:Int)+(j:Int))=(i:Int)+(j:Int):=IntWalk.i64_in _ (by omega);have e2:IntKind.u64.wrap ((i:Int)+(j:Int))=(i:Int)+(j:Int):=by rw [IntKind.wrap_u64];omega
   have e3:((i:Int)+(j:Int)) / 2=(h:Int):=by omega
   have e4:IntKind.i64.wrap (h:Int)=(h:Int):=IntWalk.i64_in _ (by omega);have HCh:=hC h wr (by omega) hB;clear hC;go_wp2_with fail;refine HCh.mono ?_;rintro e W1 ⟨rfl,hb1⟩;clear HCh;have hB1:Below w.heap.size w W1:=hB.trans (hb1.mono hB.size);cases hp:P h with
   | true =>
    go_wp2_with fail;exact ⟨⟨i,h,by omega,by omega,rfl,rfl,hi1,fun _=>hp,hB1⟩,by simp [RowKit.intOf];omega⟩
   | false =>
    go_wp2_with fail;exact ⟨⟨h+1,j,by omega,by omega,by simp,rfl,fun _=>by simpa using hp,hj1,hB1⟩,by simp [RowKit.intOf];omega⟩
  ·have b1:decide ((i:Int)<(j:Int))=false:=decide_eq_false (by omega);obtain rfl:i=j:=by omega
   clear hC;go_wp2_with fail;go_ret;exact ⟨i,rfl,⟨hj,hi1,hj1⟩,hB⟩
def atP (l:List (Int×Int)) (j:Nat):Int×Int:=l.getD j (0,0)
theorem meeting1_any {W:World} {a:Option Addr} {n cap:Nat} {l:List (Int×Int)} (h:Rw pieceV 2 W a n cap l) {bl bo:Nat} {lo:Int} (hl:W.heap[bl]?=some (.cells #[.slice a n cap] 42)) (ho:W.heap[bo]?=some (.cells #[.int .i64 lo] 3)) (j:Nat) (hj:j<n) :
  Calls Tryz.prog 123 #[.int .i64 (j:Int),.pointer (some ⟨bl,0,none⟩),.pointer (some ⟨bo,0,none⟩)] W fun e W'=>e=.returned (.bool (decide (lo<(atP l j).2)))∧Below W.heap.size W W':=by
 obtain ⟨g,off,x,rfl,hg,hx,hc⟩:=h.at j hj;have e:atP l j=x:=by unfold atP;rw [List.getD_eq_getElem?_getD,hx];rfl
 rw [e];have c1:=hc 1 _ rfl;have k0:W.cell? ⟨bl,0,none⟩=some (.slice (some ⟨g,off,none⟩) n cap):=by rw [cH hl];rfl
 have k1:W.cell? ⟨bo,0,none⟩=some (.int .i64 lo):=by rw [cH ho];rfl
 clear h hc hx hl ho e;go_enter Tryz.func123,Tryz.ntmps123;go_wp2_with fail;go_quiet (fail);go_wp2_with fail;go_ret;exact ⟨rfl,below_drewN (bE _ _) _⟩
theorem meeting2_any {W:World} {a:Option Addr} {n cap:Nat} {l:List (Int×Int)} (h:Rw pieceV 2 W a n cap l) {bl bo:Nat} {hi:Int} (hl:W.heap[bl]?=some (.cells #[.slice a n cap] 42)) (ho:W.heap[bo]?=some (.cells #[.int .i64 hi] 3)) (j:Nat) (hj:j<n) :
  Calls Tryz.prog 124 #[.int .i64 (j:Int),.pointer (some ⟨bl,0,none⟩),.pointer (some ⟨bo,0,none⟩)] W fun e W'=>e=.returned (.bool (decide (hi≤(atP l j).1)))∧Below W.heap.size W W':=by
 obtain ⟨g,off,x,rfl,hg,hx,hc⟩:=h.at j hj;have e:atP l j=x:=by unfold atP;rw [List.getD_eq_getElem?_getD,hx];rfl
 rw [e];have c1:=hc 0 _ rfl;simp only [Nat.add_zero] at c1;have k0:W.cell? ⟨bl,0,none⟩=some (.slice (some ⟨g,off,none⟩) n cap):=by rw [cH hl];rfl
 have k1:W.cell? ⟨bo,0,none⟩=some (.int .i64 hi):=by rw [cH ho];rfl
 clear h hc hx hl ho e;go_enter Tryz.func124,Tryz.ntmps124;go_wp2_with fail;go_quiet (fail);go_wp2_with fail;go_ret;exact ⟨rfl,below_drewN (bE _ _) _⟩
theorem kindPc:Kind Tryz.prog 42 76 2 16:=kind_of Tryz.underlying42 (z:=.agg #[.int .i64 0,.int .i64 0]) (by kernel_rfl) rfl
theorem elemPc:Tryz.prog.elem 42=76:=by kernel_rfl
theorem cut_list {w:World} {a:Option Addr} {n cap:Nat} {l:List (Int×Int)} (h:Rw pieceV 2 w a n cap l) (i j:Nat) (h1:i≤j) (h2:j≤n) :
  ∃ a' cap',(∀ W:World,(Instr.slice 42 (.slice a n cap) (some (.int .i64 (i:Int))) (some (.int .i64 (j:Int))) none).run Tryz.prog W=.ok (.slice a' (j-i) cap') W)∧Rw pieceV 2 w a' (j-i) cap' ((l.take j).drop i):=by
 obtain ⟨ti,z,hti,hz,hsz,hby,_⟩:=kindPc.info;have hroom:=h.room;have hlen:=h.len;have hrun:=fun W:World=>run_slice_lh (P:=Tryz.prog) W 42 a n cap (by rw [elemPc];exact kindPc.under) .i64 .i64 (i:Int) (j:Int) (by omega) (by omega) (by omega)
 rcases Nat.eq_zero_or_pos n with h0|h0
 ·obtain rfl:j=0:=by omega
  obtain rfl:i=0:=by omega
  refine ⟨a,cap,fun W=>?_,⟨by simp,⟨by omega,hroom.2⟩,fun h=>absurd h (by omega)⟩⟩;rw [hrun W,elemPc];cases a<;>simp [sizeOf,typeInfo,hti,hsz,sliced,Addr.add]
 ·obtain ⟨g,off,rfl,hg,_⟩:=h.cells h0;by_cases hc:i<cap
  ·refine ⟨some ⟨g,off+i*2,none⟩,cap-i,fun W=>?_,(h.take j h2).drop i h1⟩;rw [hrun W,elemPc];simp [sizeOf,typeInfo,hti,hsz,sliced,addr_add'];omega
  ·obtain rfl:i=cap:=by omega
   obtain rfl:j=i:=by omega
   refine ⟨some ⟨g,off,none⟩,j-j,fun W=>?_,⟨by simp,⟨by omega,by omega⟩,fun h0=>by omega⟩⟩;rw [hrun W,elemPc];simp [sizeOf,typeInfo,hti,hsz,sliced]
theorem meeting_any {w:World} {a:Option Addr} {n cap:Nat} {l:List (Int×Int)} (h:Rw pieceV 2 w a n cap l) (hn:n≤4294967296) (lo hi:Int) (hord:∀ i j,Found (fun k=>decide (lo<(atP l k).2)) n i→Found (fun k=>decide (hi≤(atP l k).1)) n j→i≤j) :
  Calls Tryz.prog 97 #[.slice a n cap,.int .i64 lo,.int .i64 hi] w fun e w'=>∃ (i j:Nat) (a':Option Addr) (cap':Nat),Found (fun k=>decide (lo<(atP l k).2)) n i∧Found (fun k=>decide (hi≤(atP l k).1)) n j∧i≤j∧e=.returned (.slice a' (j-i) cap')∧Rw pieceV 2 w' a' (j-i) cap' ((l.take j).drop i)∧Below w.heap.size w w':=by
 obtain ⟨wa,ewa⟩:∃ W,((w.alloc (.cells #[.slice a n cap] 42)).alloc (.cells #[.int .i64 lo] 3)).alloc (.cells #[.int .i64 hi] 3)=W:=⟨_,rfl⟩;have hba:Below w.heap.size w wa:=ewa▸((((bE _ w).alloc (lR _) _).alloc (by simp) _).alloc (by simp;omega) _);have h0:wa.heap[w.heap.size]?=some (.cells #[.slice a n cap] 42):=by
  rw [← ewa];simp only [World.alloc,Array.getElem?_push,Array.size_push];rw [if_neg (by omega),if_neg (by omega),if_pos trivial]
 have h1:wa.heap[w.heap.size+1]?=some (.cells #[.int .i64 lo] 3):=by rw [← ewa];simp only [World.alloc,Array.getElem?_push,Array.size_push];simp
 have h2:wa.heap[w.heap.size+1+1]?=some (.cells #[.int .i64 hi] 3):=by rw [← ewa];simp only [World.alloc,Array.getElem?_push,Array.size_push];simp
 have hmf:∀ (fn:Fn) (first cap:Array Value) (w:World),(Instr.makeFunc fn first cap).run Tryz.prog w=.ok (.func fn first cap) w:=fun _ _ _ _=>rfl
 have bx:∀ {W:World} {b:Nat} {T:TypeId} {v:Value},wa.heap[b]?=some (.cells #[v] T)→Below wa.heap.size wa W→W.heap[b]?=some (.cells #[v] T):=fun hb hW=>(hW.block _ (gA hb)).trans hb
 have S1:∀ W,Below wa.heap.size wa W→Calls Tryz.prog 122 #[.int .i64 (n:Int),.func (.func 123) #[] #[.pointer (some ⟨w.heap.size,0,none⟩),.pointer (some ⟨w.heap.size+1,0,none⟩)]] W fun e w'=>∃ i:Nat,e=.returned (.int .i64 (i:Int))∧Found (fun k=>decide (lo<(atP l k).2)) n i∧Below W.heap.size W w':=fun W hW =>
  search_any _ _ n hn _ W (enters_of Tryz.func123 (by kernel_rfl) rfl) (fun k X hk hX=>meeting1_any ((h.below hba).below (hW.trans (hX.mono hW.size))) (bx h0 (hW.trans (hX.mono hW.size))) (bx h1 (hW.trans (hX.mono hW.size))) k hk)
 have S2:∀ W,Below wa.heap.size wa W→Calls Tryz.prog 122 #[.int .i64 (n:Int),.func (.func 124) #[] #[.pointer (some ⟨w.heap.size,0,none⟩),.pointer (some ⟨w.heap.size+1+1,0,none⟩)]] W fun e w'=>∃ i:Nat,e=.returned (.int .i64 (i:Int))∧Found (fun k=>decide (hi≤(atP l k).1)) n i∧Below W.heap.size W w':=fun W hW =>
  search_any _ _ n hn _ W (enters_of Tryz.func124 (by kernel_rfl) rfl) (fun k X hk hX=>meeting2_any ((h.below hba).below (hW.trans (hX.mono hW.size))) (bx h0 (hW.trans (hX.mono hW.size))) (bx h2 (hW.trans (hX.mono hW.size))) k hk)
 have c0:wa.cell? ⟨w.heap.size,0,none⟩=some (.slice a n cap):=by rw [cH h0];rfl
 have hl0:=(gA h0);have T1:=S1 wa (bE _ _);have HS2:Hid (∀ W,Below wa.heap.size wa W→Calls Tryz.prog 122 #[.int .i64 (n:Int),.func (.func 124) #[] #[.pointer (some ⟨w.heap.size,0,none⟩),.pointer (some ⟨w.heap.size+1+1,0,none⟩)]] W fun e w'=>∃ i:Nat,e=.returned (.int .i64 (i:Int))∧Found (fun k=>decide (hi≤(atP l k).1)) n i∧Below W.heap.size W w'):=S2;have HX:Hid (Rw pieceV 2 w a n cap l∧Below w.heap.size w wa∧wa.heap[w.heap.size]?=some (.cells #[.slice a n cap] 42)∧(∀ i j,Found (fun k=>decide (lo<(atP l k).2)) n i→Found (fun k=>decide (hi≤(atP l k).1)) n j→i≤j)):=⟨h,hba,h0,hord⟩;clear S1 S2 bx h h1 h2 h0 hba hord;go_enter Tryz.func97,Tryz.ntmps97;go_wp2_with fail;refine T1.mono ?_;rintro e w1 ⟨i,rfl,hi1,hb1⟩;clear T1;obtain ⟨h,hba,h0,hord⟩:=HX.out;have T2:=HS2.out w1 hb1;have c1:=(hb1.cell (p:=⟨w.heap.size,0,none⟩) hl0).trans c0;clear HS2 c0;go_wp2_with fail;refine T2.mono ?_;rintro e w2 ⟨j,rfl,hj1,hb2⟩;clear T2;have hij:=hord i j hi1 hj1;have c2:=(hb2.cell (p:=⟨w.heap.size,0,none⟩) (Nat.lt_of_lt_of_le hl0 hb1.size)).trans c1;have hB2:Below w.heap.size w w2:=(hba.trans (hb1.mono hba.size)).trans (hb2.mono (Nat.le_trans hba.size hb1.size));obtain ⟨a',cap',hs,hr⟩:=cut_list h i j hij hj1.1;have HZ:Hid (Found (fun k=>decide (lo<(atP l k).2)) n i∧Found (fun k=>decide (hi≤(atP l k).1)) n j∧i≤j∧Rw pieceV 2 w2 a' (j-i) cap' ((l.take j).drop i)∧Below w.heap.size w w2):=⟨hi1,hj1,hij,hr.below hB2,hB2⟩;clear h hba h0 hord hi1 hj1 hr hB2 hb1 hb2 c1;go_wp2_with fail;go_ret;obtain ⟨z1,z2,z3,z4,z5⟩:=HZ.out;exact ⟨i,j,a',cap',z1,z2,z3,rfl,z4,z5⟩
end Go.Proofs.YtijpfbcippijoaaGreatDoor
namespace Go.Proofs.YtijpfbcippijoaaGreatDoor
structure Srt (l:List (Int×Int)):Prop where
 some_:∀ x∈l,x.1<x.2
 apart:∀ (i j:Nat) x y,i<j→l[i]?=some x→l[j]?=some y→x.2<y.1
def meetL (lo hi:Int) (l:List (Int×Int)):List (Int×Int):=l.filter fun x=>decide (lo<x.2∧x.1<hi)
theorem atP_get {l:List (Int×Int)} {k:Nat} (h:k<l.length):l[k]?=some (atP l k):=by
 unfold atP;rw [List.getD_eq_getElem?_getD,List.getElem?_eq_getElem h];rfl
section
variable {l : List (Int × Int)} (h : Srt l) {lo hi : Int} {i j : Nat}
include h
theorem Srt.mono {k m:Nat} (hkm:k<m) (hm:m<l.length):(atP l k).1<(atP l m).1∧(atP l k).2<(atP l m).2:=by
 have h1:=h.apart k m _ _ hkm (atP_get (by omega)) (atP_get hm);have h2:=h.some_ _ (List.mem_of_getElem? (atP_get (k:=k) (by omega)));have h3:=h.some_ _ (List.mem_of_getElem? (atP_get hm));omega
theorem Srt.found1 (hf:Found (fun k=>decide (lo<(atP l k).2)) l.length i):(∀ k,k<i→(atP l k).2≤lo)∧∀ k,i≤k→k<l.length→lo<(atP l k).2:=by
 obtain ⟨h1,h2,h3⟩:=hf;refine ⟨fun k hk=>?_,fun k hk hl=>?_⟩
 ·have h4:=h2 (by omega);simp only [decide_eq_false_iff_not] at h4;rcases Nat.lt_or_ge k (i-1) with e|e
  ·have:=(h.mono e (by omega)).2;omega
  ·obtain rfl:k=i-1:=by omega
   omega
 ·have h4:=h3 (by omega);simp only [decide_eq_true_eq] at h4;rcases Nat.lt_or_ge i k with e|e
  ·have:=(h.mono e hl).2;omega
  ·obtain rfl:k=i:=by omega
   exact h4
theorem Srt.found2 (hf:Found (fun k=>decide (hi≤(atP l k).1)) l.length j):(∀ k,k<j→(atP l k).1<hi)∧∀ k,j≤k→k<l.length→hi≤(atP l k).1:=by
 obtain ⟨h1,h2,h3⟩:=hf;refine ⟨fun k hk=>?_,fun k hk hl=>?_⟩
 ·have h4:=h2 (by omega);simp only [decide_eq_false_iff_not] at h4;rcases Nat.lt_or_ge k (j-1) with e|e
  ·have:=(h.mono e (by omega)).1;omega
  ·obtain rfl:k=j-1:=by omega
   omega
 ·have h4:=h3 (by omega);simp only [decide_eq_true_eq] at h4;rcases Nat.lt_or_ge j k with e|e
  ·have:=(h.mono e hl).1;omega
  ·obtain rfl:k=j:=by omega
   exact h4
theorem Srt.order (hlh:lo≤hi) (h1:Found (fun k=>decide (lo<(atP l k).2)) l.length i) (h2:Found (fun k=>decide (hi≤(atP l k).1)) l.length j):i≤j:=by
 rcases Nat.lt_or_ge j i with e|e
 ·have a:=(h.found1 h1).1 j e;have b:=(h.found2 h2).2 j (lR _) (by have:=h1.1;omega);have c:=h.some_ _ (List.mem_of_getElem? (atP_get (k:=j) (by have:=h1.1;omega)));omega
 ·exact e
theorem Srt.cut (hij:i≤j) (h1:Found (fun k=>decide (lo<(atP l k).2)) l.length i) (h2:Found (fun k=>decide (hi≤(atP l k).1)) l.length j):(l.take j).drop i=meetL lo hi l:=by
 obtain ⟨f1,f2⟩:=h.found1 h1;obtain ⟨g1,g2⟩:=h.found2 h2;have hj:=h2.1;have e:l=l.take i++((l.take j).drop i++l.drop j):=by
  have e1:l=l.take j++l.drop j:=(List.take_append_drop j l).symm;have e2:l.take j=(l.take j).take i++(l.take j).drop i:=(List.take_append_drop i _).symm;rw [List.take_take,Nat.min_eq_left hij] at e2
  conv=>lhs;rw [e1,e2]
  rw [List.append_assoc]
 have mem:∀ (m:List (Int×Int)) (P:Int×Int→Prop),(∀ k x,m[k]?=some x→P x)→∀ x∈m,P x:=fun m P hm x hx=>by
  obtain ⟨k,hk⟩:=List.getElem?_of_mem hx;exact hm k x hk
 have key:∀ k x,l[k]?=some x→x=atP l k∧k<l.length:=fun k x hx=>by
  have hl:=(List.getElem?_eq_some_iff.1 hx).1;rw [atP_get hl] at hx;exact ⟨(Option.some.inj hx).symm,hl⟩
 unfold meetL
 conv=>rhs;rw [e]
 rw [List.filter_append,List.filter_append,List.filter_eq_nil_iff.2,List.filter_eq_self.2,List.filter_eq_nil_iff.2]
 ·simp
 ·refine mem _ _ fun k x hx=>?_
  rw [List.getElem?_drop] at hx;obtain ⟨rfl,hl⟩:=key _ _ hx;have:=g2 (j+k) (by omega) hl;simp only [decide_eq_true_eq];omega
 ·refine mem _ _ fun k x hx=>?_
  rw [List.getElem?_drop,List.getElem?_take] at hx;split at hx
  ·obtain ⟨rfl,hl⟩:=key _ _ hx;have a:=f2 (i+k) (by omega) hl;have b:=g1 (i+k) (by omega);simp only [decide_eq_true_eq];omega
  ·cases hx
 ·refine mem _ _ fun k x hx=>?_
  rw [List.getElem?_take] at hx;split at hx
  ·obtain ⟨rfl,hl⟩:=key _ _ hx;have:=f1 k (by omega);simp only [decide_eq_true_eq];omega
  ·cases hx
end
open Go.RowKit Go.Lib
theorem meeting_list {w:World} {a:Option Addr} {n cap:Nat} {l:List (Int×Int)} (h:Rw pieceV 2 w a n cap l) (hn:n≤4294967296) (hs:Srt l) (lo hi:Int) (hlh:lo≤hi) :
  Calls Tryz.prog 97 #[.slice a n cap,.int .i64 lo,.int .i64 hi] w fun e w'=>∃ (a':Option Addr) (cap':Nat),e=.returned (.slice a' (meetL lo hi l).length cap')∧Rw pieceV 2 w' a' (meetL lo hi l).length cap' (meetL lo hi l)∧Below w.heap.size w w':=by
 have hl:=h.len;subst hl;refine (meeting_any h hn lo hi (fun i j h1 h2=>hs.order hlh h1 h2)).mono ?_;rintro e w' ⟨i,j,a',cap',h1,h2,hij,rfl,hr,hb⟩;have ec:=hs.cut hij h1 h2;have el:=hr.len;rw [ec] at hr el;rw [← el] at hr ⊢;exact ⟨a',cap',rfl,hr,hb⟩
structure Sm where
 cells:Int
 pieces:Int
 high:Int
 least:Int
 most:Int
 lowest:Int
 fc:Int
 fh:Int
 lc:Int
 lh:Int
def Sm.raised (s:Sm) (d:Int):Sm:=⟨s.cells,s.pieces,s.high,s.least+d,s.most+d,s.lowest,s.fc,s.fh+d,s.lc,s.lh+d⟩
def lowOf (least lowest b:Int):Int:=if least=b then lowest else 0
def Sm.both (s t:Sm):Sm:=⟨s.cells+t.cells,s.pieces+t.pieces,max s.high t.high+1,min s.least t.least,max s.most t.most,lowOf s.least s.lowest (min s.least t.least)+lowOf t.least t.lowest (min s.least t.least),s.fc,s.fh,t.lc,t.lh⟩
inductive Tr where
 | nil
 | leaf (rs:List Int) (hid st:Int)
 | node (l r:Tr) (st:Int)
def pieceSm (n h:Int):Sm:=⟨n,1,1,h,h,n,n,h,n,h⟩
def Tr.sm:Tr→Sm
 | .nil=>⟨0,0,0,0,0,0,0,0,0,0⟩
 | .leaf rs h _=>pieceSm rs.length h
 | .node l r st=>(l.sm.both r.sm).raised st
def upL (d:Int) (l:List (Int×Int)):List (Int×Int):=l.map fun c=>(c.1,c.2+d)
def Tr.row:Tr→List (Int×Int)
 | .nil=>[]
 | .leaf rs h _=>rs.map fun c=>(c,h)
 | .node l r st=>upL st (l.row++r.row)
def Tr.raise (t:Tr) (d:Int):Tr:=match t with
 | .nil=>.nil
 | .leaf rs h st=>.leaf rs (h+d) (st+d)
 | .node l r st=>.node l r (st+d)
def Tr.Wf:Tr→Prop
 | .nil=>False
 | .leaf rs _ _=>rs≠[]
 | .node l r _=>l.Wf∧r.Wf
theorem upL_zero (l:List (Int×Int)):upL 0 l=l:=by
 unfold upL;rw [List.map_congr_left (g:=id) (fun c _=>by simp)];simp
theorem upL_upL (a b:Int) (l:List (Int×Int)):upL a (upL b l)=upL (b+a) l:=by
 unfold upL;rw [List.map_map];exact List.map_congr_left fun c _=>by simp [Int.add_assoc]
theorem upL_length (a:Int) (l:List (Int×Int)):(upL a l).length=l.length:=by simp [upL]
theorem upL_append (a:Int) (l k:List (Int×Int)):upL a (l++k)=upL a l++upL a k:=by simp [upL]
theorem Tr.row_raise (t:Tr) (d:Int):(t.raise d).row=upL d t.row:=by
 cases t with
 | nil=>rfl
 | leaf rs h st=>simp [Tr.raise,Tr.row,upL]
 | node l r st=>simp only [Tr.raise,Tr.row];rw [upL_upL]
theorem Tr.sm_raise (t:Tr) (h:t.Wf) (d:Int):(t.raise d).sm=t.sm.raised d:=by
 cases t with
 | nil=>exact h.elim
 | leaf rs h st=>rfl
 | node l r st=>simp [Tr.raise,Tr.sm,Sm.raised,Int.add_assoc]
theorem Tr.wf_raise (t:Tr) (h:t.Wf) (d:Int):(t.raise d).Wf:=by cases t<;>exact h
theorem Tr.raise_zero (t:Tr):t.raise 0=t:=by cases t<;>simp [Tr.raise]
theorem Tr.sm_cells:∀ t:Tr,t.sm.cells=t.row.length
 | .nil=>rfl
 | .leaf rs h st=>by simp [Tr.sm,Tr.row,pieceSm]
 | .node l r st=>by
  have h1:=Tr.sm_cells l;have h2:=Tr.sm_cells r;simp only [Tr.sm,Tr.row,Sm.raised,Sm.both,upL_length,List.length_append];omega
theorem Tr.Wf.pos {t:Tr} (h:t.Wf):0<t.row.length:=by
 induction t with
 | nil=>exact h.elim
 | leaf rs hid st=>simp only [Tr.row,List.length_map];exact List.length_pos_iff.2 h
 | node l r st ihl ihr=>simp only [Tr.row,upL_length,List.length_append];have:=ihl h.1;omega
theorem Tr.sm_high_leaf (rs:List Int) (h st:Int):(Tr.leaf rs h st).sm.high=1:=rfl
theorem Tr.Wf.high_pos {t:Tr} (h:t.Wf):1≤t.sm.high:=by
 induction t with
 | nil=>exact h.elim
 | leaf rs hid st=>exact Int.le_refl _
 | node l r st ihl ihr=>have:=ihl h.1;simp only [Tr.sm,Sm.raised,Sm.both];omega
theorem Tr.Wf.high_node {l r:Tr} {st:Int} (h:(Tr.node l r st).Wf):2≤(Tr.node l r st).sm.high:=by
 have:=Tr.Wf.high_pos h.1;simp only [Tr.sm,Sm.raised,Sm.both];omega
def cnt (b:Int) (l:List (Int×Int)):Nat:=l.countP fun c=>c.2=b
theorem mem_upL {d:Int} {l:List (Int×Int)} {c:Int×Int}:c∈upL d l↔(c.1,c.2-d)∈l:=by
 unfold upL;rw [List.mem_map];constructor
 ·rintro ⟨x,hx,rfl⟩;have e:((x.1,x.2+d).1,(x.1,x.2+d).2-d)=x:=by cases x;simp
  rw [e];exact hx
 ·intro h;exact ⟨_,h,by cases c;simp⟩
def Nonneg (l:List (Int×Int)):Prop:=∀ c∈l,0≤c.2
def Tr.Ok (t:Tr):Prop:=t=.nil∨t.Wf
theorem Tr.row_node (l r:Tr) (st:Int):(Tr.node l r st).row=(l.raise st).row++(r.raise st).row:=by
 simp only [Tr.row_raise,Tr.row,upL_append]
theorem Tr.sm_node {l r:Tr} (hl:l.Wf) (hr:r.Wf) (st:Int):(Tr.node l r st).sm=(l.raise st).sm.both (r.raise st).sm:=by
 rw [Tr.sm_raise l hl,Tr.sm_raise r hr];simp only [Tr.sm,Sm.raised,Sm.both,Sm.mk.injEq,true_and,and_true];unfold lowOf;refine ⟨by omega,by omega,?_⟩
 congr 1<;>(split<;>split<;>first|rfl|omega)
def Lim (x:Int):Prop:=-2≤x∧x≤1048578
def LimR (l:List (Int×Int)):Prop:=∀ c∈l,Lim c.2
theorem LimR.left {l k:List (Int×Int)} (h:LimR (l++k)):LimR l:=fun c hc=>h c (List.mem_append_left _ hc)
theorem LimR.right {l k:List (Int×Int)} (h:LimR (l++k)):LimR k:=fun c hc=>h c (List.mem_append_right _ hc)
theorem LimR.append {l k:List (Int×Int)} (h:LimR l) (g:LimR k):LimR (l++k):=fun c hc=>(List.mem_append.1 hc).elim (h c) (g c)
def Tr.Bd:Tr→Prop
 | .nil=>True
 | .leaf _ h st=>Lim h∧Lim (h-st)
 | .node l r st=>l.Bd∧r.Bd∧LimR (Tr.node l r st).row
theorem Tr.Bd.row {t:Tr} (h:t.Bd):LimR t.row:=by
 cases t with
 | nil=>intro c hc;cases hc
 | leaf rs hid st =>
  intro c hc;obtain ⟨x,_,rfl⟩:=List.mem_map.1 hc;exact h.1
 | node l r st=>exact h.2.2
theorem Tr.Bd.raise {t:Tr} (hw:t.Wf) (h:t.Bd) (d:Int) (hl:LimR (t.raise d).row):(t.raise d).Bd:=by
 cases t with
 | nil=>exact hw.elim
 | leaf rs hid st =>
  refine ⟨?_,?_⟩
  ·obtain ⟨x,tl,rfl⟩:=List.exists_cons_of_ne_nil hw;exact hl (x,hid+d) (by simp [Tr.raise,Tr.row])
  ·show Lim (hid+d-(st+d));rw [show hid+d-(st+d)=hid-st by omega];exact h.2
 | node l r st=>exact ⟨h.1,h.2.1,hl⟩
theorem Tr.Bd.sides {l r:Tr} {st:Int} (hw:(Tr.node l r st).Wf) (h:(Tr.node l r st).Bd):(l.raise st).Bd∧(r.raise st).Bd:=by
 have hr:=h.2.2;rw [Tr.row_node] at hr;exact ⟨h.1.raise hw.1 st hr.left,h.2.1.raise hw.2 st hr.right⟩
theorem Tr.Bd.still {l r:Tr} {st:Int} (hw:(Tr.node l r st).Wf) (h:(Tr.node l r st).Bd):-1048600≤st∧st≤1048600:=by
 have hp:=hw.1.pos;obtain ⟨c,hc⟩:=List.exists_mem_of_length_pos hp;have h1:=h.1.row c hc;have h2:=h.2.2 (c.1,c.2+st) (by simp only [Tr.row];rw [mem_upL];simp;exact .inl hc);unfold Lim at h1 h2;simp only at h2;omega
theorem Tr.Bd.leafStill {rs:List Int} {hid st:Int} (h:(Tr.leaf rs hid st).Bd):-1048600≤st∧st≤1048600:=by
 have h1:=h.1;have h2:=h.2;unfold Lim at h1 h2;omega
structure SmIn (s:Sm) (l:List (Int×Int)):Prop where
 least:∃ c∈l,c.2=s.least
 most:∃ c∈l,c.2=s.most
 fh:∃ c∈l,c.2=s.fh
 lh:∃ c∈l,c.2=s.lh
 pieces:1≤s.pieces∧s.pieces≤l.length
 high:1≤s.high∧s.high≤s.pieces
 lowest:1≤s.lowest∧s.lowest≤l.length
 fc:1≤s.fc∧s.fc≤l.length
 lc:1≤s.lc∧s.lc≤l.length
theorem SmIn.up {s:Sm} {l:List (Int×Int)} (h:SmIn s l) (d:Int):SmIn (s.raised d) (upL d l):=by
 have key:∀ x,(∃ c∈l,c.2=x)→∃ c∈upL d l,c.2=x+d:=fun x ⟨c,hc,e⟩=>⟨(c.1,c.2+d),by rw [mem_upL];simpa using hc,by simp only;omega⟩
 refine ⟨key _ h.least,key _ h.most,key _ h.fh,key _ h.lh,?_,h.high,?_,?_,?_⟩<;>rw [upL_length]
 ·exact h.pieces
 ·exact h.lowest
 ·exact h.fc
 ·exact h.lc
theorem SmIn.both {s t:Sm} {l k:List (Int×Int)} (h:SmIn s l) (g:SmIn t k):SmIn (s.both t) (l++k):=by
 have lft:∀ x,(∃ c∈l,c.2=x)→∃ c∈l++k,c.2=x:=fun x ⟨c,hc,e⟩=>⟨c,List.mem_append_left _ hc,e⟩
 have rgt:∀ x,(∃ c∈k,c.2=x)→∃ c∈l++k,c.2=x:=fun x ⟨c,hc,e⟩=>⟨c,List.mem_append_right _ hc,e⟩
 have h1:=h.pieces;have h2:=g.pieces;have h3:=h.high;have h4:=g.high;have h5:=h.lowest;have h6:=g.lowest;have h7:=h.fc;have h8:=g.lc;have hlen:((l++k).length:Int)=l.length+k.length:=by simp
 refine ⟨?_,?_,lft _ h.fh,rgt _ g.lh,?_,?_,?_,?_,?_⟩
 ·by_cases e:s.least≤t.least
  ·have:=lft _ h.least;simp only [Sm.both];rw [show min s.least t.least=s.least by omega];exact this
  ·have:=rgt _ g.least;simp only [Sm.both];rw [show min s.least t.least=t.least by omega];exact this
 ·by_cases e:t.most≤s.most
  ·have:=lft _ h.most;simp only [Sm.both];rw [show max s.most t.most=s.most by omega];exact this
  ·have:=rgt _ g.most;simp only [Sm.both];rw [show max s.most t.most=t.most by omega];exact this
 ·simp only [Sm.both];omega
 ·simp only [Sm.both];omega
 ·simp only [Sm.both,lowOf];split<;>split<;>omega
 ·simp only [Sm.both];omega
 ·simp only [Sm.both];omega
theorem Tr.Wf.smIn {t:Tr} (h:t.Wf):SmIn t.sm t.row:=by
 induction t with
 | nil=>exact h.elim
 | leaf rs hid st =>
  have hp:0<rs.length:=List.length_pos_iff.2 h;obtain ⟨x,tl,rfl⟩:=List.exists_cons_of_ne_nil h;have hin:∃ c∈(Tr.leaf (x::tl) hid st).row,c.2=hid:=⟨(x,hid),by simp [Tr.row],rfl⟩;refine ⟨hin,hin,hin,hin,?_,?_,?_,?_,?_⟩<;>simp [Tr.sm,Tr.row,pieceSm]<;>omega
 | node l r st ihl ihr=>exact ((ihl h.1).both (ihr h.2)).up st
structure SmBd (s:Sm):Prop where
 cells:0≤s.cells∧s.cells≤2097152
 pieces:0≤s.pieces∧s.pieces≤2097152
 high:0≤s.high∧s.high≤2097152
 least:-2≤s.least∧s.least≤1048578
 most:-2≤s.most∧s.most≤1048578
 lowest:0≤s.lowest∧s.lowest≤2097152
 fc:0≤s.fc∧s.fc≤2097152
 fh:-2≤s.fh∧s.fh≤1048578
 lc:0≤s.lc∧s.lc≤2097152
 lh:-2≤s.lh∧s.lh≤1048578
theorem Tr.smBd {t:Tr} (h:t.Ok) (hb:t.Bd) (hn:t.row.length≤2097152):SmBd t.sm:=by
 rcases h with rfl|h
 ·constructor<;>decide
 ·have hs:=h.smIn;have hc:=t.sm_cells;have key:∀ x,(∃ c∈t.row,c.2=x)→-2≤x∧x≤1048578:=fun x ⟨c,hc,e⟩=>by
   have:=hb.row c hc;unfold Lim at this;omega
  have h1:=hs.pieces;have h2:=hs.high;have h3:=hs.lowest;have h4:=hs.fc;have h5:=hs.lc;exact ⟨by omega,by omega,by omega,key _ hs.least,key _ hs.most,by omega,by omega,key _ hs.fh,by omega,key _ hs.lh⟩
def upP (d:Int) (l:List (List Int×Int)):List (List Int×Int):=l.map fun p=>(p.1,p.2+d)
def Tr.lv:Tr→List (List Int×Int)
 | .nil=>[]
 | .leaf rs h _=>[(rs,h)]
 | .node l r st=>upP st (l.lv++r.lv)
def rowOf (l:List (List Int×Int)):List (Int×Int):=l.flatMap fun p=>p.1.map fun c=>(c,p.2)
theorem rowOf_append (l k:List (List Int×Int)):rowOf (l++k)=rowOf l++rowOf k:=by simp [rowOf]
theorem rowOf_up (d:Int) (l:List (List Int×Int)):rowOf (upP d l)=upL d (rowOf l):=by
 induction l with
 | nil=>rfl
 | cons p t ih =>
  have e1:rowOf (upP d (p::t))=(p.1.map fun c=>(c,p.2+d))++rowOf (upP d t):=by simp [rowOf,upP]
  have e2:rowOf (p::t)=(p.1.map fun c=>(c,p.2))++rowOf t:=by simp [rowOf]
  rw [e1,e2,ih,upL_append]
  congr 1
  simp [upL]
theorem Tr.row_lv:∀ t:Tr,t.row=rowOf t.lv
 | .nil=>rfl
 | .leaf rs h st=>by simp [Tr.row,Tr.lv,rowOf]
 | .node l r st=>by
  have h1:=Tr.row_lv l;have h2:=Tr.row_lv r;simp only [Tr.row,Tr.lv];rw [rowOf_up,rowOf_append,h1,h2]
theorem upP_zero (l:List (List Int×Int)):upP 0 l=l:=by
 unfold upP;rw [List.map_congr_left (g:=id) (fun c _=>by simp)];simp
theorem Tr.lv_raise (t:Tr) (d:Int):(t.raise d).lv=upP d t.lv:=by
 cases t with
 | nil=>rfl
 | leaf rs h st=>rfl
 | node l r st =>
  simp only [Tr.raise,Tr.lv,upP,List.map_map];exact List.map_congr_left fun c _=>by simp [Int.add_assoc]
theorem Tr.lv_node (l r:Tr) (st:Int):(Tr.node l r st).lv=(l.raise st).lv++(r.raise st).lv:=by
 rw [Tr.lv_raise,Tr.lv_raise];simp [Tr.lv,upP]
def Tr.Avl:Tr→Prop
 | .nil=>True
 | .leaf _ _ _=>True
 | .node l r _=>l.Avl∧r.Avl∧l.sm.high≤r.sm.high+1∧r.sm.high≤l.sm.high+1
theorem Tr.avl_raise (t:Tr) (d:Int) (h:t.Avl):(t.raise d).Avl:=by cases t<;>exact h
theorem Tr.high_raise (t:Tr) (d:Int):(t.raise d).sm.high=t.sm.high:=by cases t<;>rfl
def Tr.isLeaf:Tr→Prop
 | .leaf rs _ _=>rs≠[]
 | _=>False
theorem Tr.isLeaf.wf {t:Tr} (h:t.isLeaf):t.Wf:=by cases t<;>first|exact h|exact h.elim
theorem Tr.isLeaf.avl {t:Tr} (h:t.isLeaf):t.Avl:=by cases t<;>first|trivial|exact h.elim
theorem Tr.isLeaf.high {t:Tr} (h:t.isLeaf):t.sm.high=1:=by cases t<;>first|rfl|exact h.elim
def hgt (n:Nat):Nat:=if h:n≤1 then n else max (hgt (n / 2)) (hgt (n-n / 2))+1
termination_by n
decreasing_by all_goals omega
theorem hgt_big (n:Nat) (h:2≤n):hgt n=max (hgt (n / 2)) (hgt (n-n / 2))+1:=by
 conv=>lhs;unfold hgt
 rw [dif_neg (by omega)]
theorem hgt_zero:hgt 0=0:=by unfold hgt;rfl
theorem hgt_one:hgt 1=1:=by unfold hgt;rfl
theorem hgt_succ:∀ (b n:Nat),n≤b→hgt n≤hgt (n+1)∧hgt (n+1)≤hgt n+1:=by
 intro b
 induction b with
 | zero =>
      intro n h;obtain rfl:n=0:=by omega
      rw [hgt_zero,hgt_one];omega
 | succ b ih =>
  intro n h;by_cases h0:n=0
  ·subst h0;rw [hgt_zero,hgt_one];omega
  by_cases h1:n=1
  ·subst h1;rw [hgt_big 2 (by omega)];simp [hgt_one]
  rw [hgt_big n (by omega),hgt_big (n+1) (by omega)];rcases Nat.mod_two_eq_zero_or_one n with e|e
  ·have e1:(n+1) / 2=n / 2:=by omega
   have e2:n+1-n / 2=n / 2+1:=by omega
   have e3:n-n / 2=n / 2:=by omega
   rw [e1,e2,e3];have:=ih (n / 2) (by omega);omega
  ·have e1:(n+1) / 2=n / 2+1:=by omega
   have e2:n+1-(n / 2+1)=n / 2+1:=by omega
   have e3:n-n / 2=n / 2+1:=by omega
   rw [e1,e2,e3];have:=ih (n / 2) (by omega);omega
theorem hgt_halves (n:Nat) (h:2≤n):hgt (n / 2)≤hgt (n-n / 2)∧hgt (n-n / 2)≤hgt (n / 2)+1:=by
 rcases Nat.mod_two_eq_zero_or_one n with e|e
 ·rw [show n-n / 2=n / 2 by omega];omega
 ·rw [show n-n / 2=n / 2+1 by omega];exact hgt_succ _ _ (lR _)
def lvs (ts:List Tr):List (List Int×Int):=ts.flatMap Tr.lv
structure Built (ts:List Tr) (t:Tr):Prop where
 lv:t.lv=lvs ts
 ok:(ts=[]∧t=.nil)∨(ts≠[]∧t.Wf)
 bd:t.Bd
 avl:t.Avl
 high:t.sm.high=(hgt ts.length:Int)
theorem Built.row {ts:List Tr} {t:Tr} (h:Built ts t):t.row=rowOf (lvs ts):=by rw [Tr.row_lv,h.lv]
theorem Built.ok_ {ts:List Tr} {t:Tr} (h:Built ts t):t.Ok:=by
 rcases h.ok with ⟨_,h⟩|⟨_,h⟩
 ·exact .inl h
 ·exact .inr h
theorem built_nil:Built [] .nil:=⟨rfl,.inl ⟨rfl,rfl⟩,trivial,trivial,by simp [Tr.sm,hgt_zero]⟩
theorem built_one {t:Tr} (h:t.isLeaf) (hb:t.Bd):Built [t] t:=⟨by simp [lvs],.inr ⟨by simp,h.wf⟩,hb,h.avl,by simp [h.high,hgt_one]⟩
theorem Built.two {ts us:List Tr} {a b:Tr} (ha:Built ts a) (hb:Built us b) (n:Nat) (hn:2≤n) (h1:ts.length=n / 2) (h2:us.length=n-n / 2):Built (ts++us) (.node a b 0):=by
 have wa:a.Wf:=by
  rcases ha.ok with ⟨e,_⟩|⟨_,h⟩
  ·rw [e] at h1;simp at h1;omega
  ·exact h
 have wb:b.Wf:=by
  rcases hb.ok with ⟨e,_⟩|⟨_,h⟩
  ·rw [e] at h2;simp at h2;omega
  ·exact h
 have hh:=hgt_halves n hn;have e1:=ha.high;have e2:=hb.high;rw [h1] at e1;rw [h2] at e2;refine ⟨?_,.inr ⟨?_,wa,wb⟩,⟨ha.bd,hb.bd,?_⟩,⟨ha.avl,hb.avl,by omega,by omega⟩,?_⟩
 ·simp only [Tr.lv];rw [upP_zero,ha.lv,hb.lv];simp [lvs]
 ·intro e;have:=congrArg List.length e;simp at this;rw [this.1] at h1;simp at h1;omega
 ·simp only [Tr.row];rw [upL_zero];exact ha.bd.row.append hb.bd.row
 ·rw [List.length_append,h1,h2,show n / 2+(n-n / 2)=n by omega,hgt_big n hn];simp only [Tr.sm,Sm.raised,Sm.both];omega
end Go.Proofs.YtijpfbcippijoaaGreatDoor
