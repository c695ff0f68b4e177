import Derived.Test.YtijpfbcippijoaaGreatDoorAl
import Derived.Test.YtijpfbcippijoaaGreatDoorProg
import Derived.WalkKit
import Derived.WalkSpells
import Derived.WalkLawsBesides
import Derived.Lib.OthersKept
import Derived.Laws.OwnMore
import Derived.Maps.AppendAt
import Derived.Test.YtijpfbcippijoaaGreatDoorGr131
import Derived.Deep.RegionHeld3
import Derived.Test.YtijpfbcippijoaaGreatDoorGr138
import Derived.Deep.QuietTactic
import Derived.BigQuiet
import Derived.BigRegion
import Derived.Deep.RegionWith
set_option maxHeartbeats 1000000
set_option maxRecDepth 100000
namespace Go.Proofs.YtijpfbcippijoaaGreatDoor
open Go.RowKit Go.Lib
theorem addr_add' (g off j:Nat):(⟨g,off,none⟩:Addr).add j=⟨g,off+j,none⟩:=by unfold Addr.add;split<;>simp_all
structure Lay {α:Type} (f:α→List Value) (k:Nat):Prop where
 len:∀ x,(f x).length=k
 pos:0<k
 one:∀ x,∀ u∈f x,u.oneCell'=true
def flatF {α:Type} (f:α→List Value) (l:List α):List Value:=l.flatMap f
section
variable {α : Type} {f : α → List Value} {k : Nat}
theorem flatF_length (hf:Lay f k) (l:List α):(flatF f l).length=l.length*k:=by
 induction l with
 | nil=>simp [flatF]
 | cons x t ih=>simp only [flatF,List.flatMap_cons,List.length_append,List.length_cons] at ih ⊢;rw [ih,hf.len,Nat.add_mul,Nat.one_mul,Nat.add_comm]
theorem flatF_append (l m:List α):flatF f (l++m)=flatF f l++flatF f m:=by simp [flatF]
theorem flatF_one (hf:Lay f k) (l:List α):∀ u∈flatF f l,u.oneCell'=true:=by
 intro u hu;obtain ⟨x,_,hx⟩:=List.mem_flatMap.1 hu;exact hf.one x u hx
theorem flatF_get (hf:Lay f k):∀ (l:List α) (j:Nat) (x:α),l[j]?=some x→∀ i,i<k→(flatF f l)[j*k+i]?=(f x)[i]?:=by
 intro l
 induction l with
 | nil=>intro j x h;simp at h
 | cons y t ih =>
  intro j x h i hi;have hy:=hf.len y;cases j with
  | zero =>
   simp at h;subst h;simp only [flatF,List.flatMap_cons,Nat.zero_mul,Nat.zero_add];rw [List.getElem?_append_left (by omega)]
  | succ j =>
   simp at h;have e:(j+1)*k+i=(f y).length+(j*k+i):=by rw [hy,Nat.add_mul];omega
   simp only [flatF,List.flatMap_cons] at ih ⊢;rw [e,List.getElem?_append_right (by omega),Nat.add_sub_cancel_left];exact ih j x h i hi
structure Rw (f:α→List Value) (k:Nat) (w:World) (a:Option Addr) (n cap:Nat) (l:List α):Prop where
 len:l.length=n
 room:n≤cap∧cap≤maxLen
 cells:0<n→∃ g off,a=some ⟨g,off,none⟩∧g<w.heap.size∧∀ j x,l[j]?=some x→∀ i v,(f x)[i]?=some v→w.cell? ⟨g,off+j*k+i,none⟩=some v
theorem rw_nil (w:World):Rw f k w none 0 0 []:=⟨rfl,⟨lR _,Nat.zero_le _⟩,fun h=>absurd h (Nat.lt_irrefl _)⟩
theorem Rw.below {w w':World} {a:Option Addr} {n cap:Nat} {l:List α} (h:Rw f k w a n cap l) (hb:Below w.heap.size w w'):Rw f k w' a n cap l :=
 ⟨h.len,h.room,fun hn=>by
  obtain ⟨g,off,ha,hg,hc⟩:=h.cells hn
  exact ⟨g,off,ha,by have:=hb.size;omega,fun j x hj i v hv=>(hb.cell (p:=⟨g,off+j*k+i,none⟩) hg).trans (hc j x hj i v hv)⟩⟩
theorem Rw.at {w:World} {a:Option Addr} {n cap:Nat} {l:List α} (h:Rw f k w a n cap l) (j:Nat) (hj:j<n) :
  ∃ g off x,a=some ⟨g,off,none⟩∧g<w.heap.size∧l[j]?=some x∧∀ i v,(f x)[i]?=some v→w.cell? ⟨g,off+j*k+i,none⟩=some v:=by
 obtain ⟨g,off,ha,hg,hc⟩:=h.cells (by omega);have hl:=h.len;have hx:l[j]?=some l[j]:=List.getElem?_eq_getElem (by omega);exact ⟨g,off,_,ha,hg,hx,hc j _ hx⟩
theorem Rw.row (hf:Lay f k) {w:World} {a:Option Addr} {n cap:Nat} {l:List α} (h:Rw f k w a n cap l) (hn:0<n) :
  ∃ g off,a=some ⟨g,off,none⟩∧g<w.heap.size∧∀ j u,(flatF f l)[j]?=some u→w.cell? ((⟨g,off,none⟩:Addr).add j)=some u:=by
 obtain ⟨g,off,ha,hg,hc⟩:=h.cells hn;refine ⟨g,off,ha,hg,fun j u hu=>?_⟩;have hk:=hf.pos;have hlt:j<(flatF f l).length:=by
  rcases Nat.lt_or_ge j (flatF f l).length with h'|h'
  ·exact h'
  ·rw [List.getElem?_eq_none h'] at hu;cases hu
 rw [flatF_length hf] at hlt;have hq:j / k<l.length:=Nat.div_lt_of_lt_mul (by rw [Nat.mul_comm];exact hlt);have hx:l[j / k]?=some l[j / k]:=List.getElem?_eq_getElem hq;have hj:j / k*k+j % k=j:=by rw [Nat.mul_comm];exact Nat.div_add_mod j k
 have hg2:=flatF_get hf l (j / k) _ hx (j % k) (Nat.mod_lt _ hk);rw [hj,hu] at hg2;have:=hc (j / k) _ hx (j % k) u hg2.symm;rw [addr_add',← hj,← Nat.add_assoc];exact this
theorem Rw.take {w:World} {a:Option Addr} {n cap:Nat} {l:List α} (h:Rw f k w a n cap l) (m:Nat) (hm:m≤n):Rw f k w a m cap (l.take m):=by
 have hl:=h.len;refine ⟨by rw [List.length_take];omega,⟨by have:=h.room;omega,h.room.2⟩,fun h0=>?_⟩;obtain ⟨g,off,ha,hg,hc⟩:=h.cells (by omega)
 exact ⟨g,off,ha,hg,fun j x hj=>hc j x (by
  rw [List.getElem?_take] at hj
  split at hj
  ·exact hj
  ·cases hj)⟩
theorem Rw.drop {w:World} {g off:Nat} {n cap:Nat} {l:List α} (h:Rw f k w (some ⟨g,off,none⟩) n cap l) (m:Nat) (hm:m≤n):Rw f k w (some ⟨g,off+m*k,none⟩) (n-m) (cap-m) (l.drop m):=by
 have hl:=h.len;have hr:=h.room;refine ⟨by rw [List.length_drop];omega,⟨by omega,by omega⟩,fun h0=>?_⟩;obtain ⟨g',off',ha,hg,hc⟩:=h.cells (by omega);simp only [Option.some.injEq,Addr.mk.injEq,and_true] at ha;obtain ⟨rfl,rfl⟩:=ha;refine ⟨g,off+m*k,rfl,hg,fun j x hj i v hv=>?_⟩;rw [List.getElem?_drop] at hj;have:=hc (m+j) x hj i v hv;rw [Nat.add_mul,← Nat.add_assoc] at this;exact this
def OwnF (f:α→List Value) (k:Nat) (T:TypeId) (w:World) (B:Nat) (v:Value) (l:List α):Prop:=w.ownsRow B T k v l.length (flatF f l)
variable {T : TypeId}
theorem ownF_nil (w:World) (B:Nat):OwnF f k T w B (.slice none 0 0) []:=World.ownsRow_nil w B _ _
theorem OwnF.shape {w:World} {B:Nat} {v:Value} {l:List α} (h:OwnF f k T w B v l):∃ a cap,v=.slice a l.length cap:=by
 rcases h.2 with ⟨e,h0⟩|⟨g,cap,cur,e,_⟩
 ·exact ⟨none,0,by rw [e,h0]⟩
 ·exact ⟨_,_,e⟩
theorem OwnF.below {w w':World} {B:Nat} {v:Value} {l:List α} (h:OwnF f k T w B v l) (hb:Below w.heap.size w w'):OwnF f k T w' B v l:=by
 refine ⟨h.1,?_⟩;rcases h.2 with h0|⟨g,cap,cur,e,h1,hh,rest⟩
 ·exact .inl h0
 ·exact .inr ⟨g,cap,cur,e,h1,(hb.block g (gA hh)).trans hh,rest⟩
theorem OwnF.mono {w:World} {B C:Nat} {v:Value} {l:List α} (h:OwnF f k T w B v l) (hC:C≤B):OwnF f k T w C v l:=by
 refine ⟨h.1,?_⟩;rcases h.2 with h0|⟨g,cap,cur,e,h1,rest⟩
 ·exact .inl h0
 ·exact .inr ⟨g,cap,cur,e,by omega,rest⟩
theorem OwnF.rw_ (hf:Lay f k) {w:World} {B n cap:Nat} {a:Option Addr} {l:List α} (h:OwnF f k T w B (.slice a n cap) l):Rw f k w a n cap l:=by
 rcases h.2 with ⟨e,h0⟩|⟨g,cap',cur,e,_,hh,hn,hm,hsz,htk⟩
 ·simp only [Value.slice.injEq] at e;obtain ⟨rfl,rfl,rfl⟩:=e;exact ⟨h0,⟨lR _,Nat.zero_le _⟩,fun h=>absurd h (Nat.lt_irrefl _)⟩
 ·simp only [Value.slice.injEq] at e;obtain ⟨rfl,rfl,rfl⟩:=e;refine ⟨rfl,⟨hn,hm⟩,fun h0=>⟨g,0,rfl,(gA hh),fun j x hj i v hv=>?_⟩⟩;have hi:i<k:=by
   have:=hf.len x;rcases Nat.lt_or_ge i (f x).length with h'|h'
   ·omega
   ·rw [List.getElem?_eq_none h'] at hv;cases hv
  have hjl:j<l.length:=by
   rcases Nat.lt_or_ge j l.length with h'|h'
   ·exact h'
   ·rw [List.getElem?_eq_none h'] at hj;cases hj
  have hlt:j*k+i<l.length*k:=by
   have:(j+1)*k≤l.length*k:=Nat.mul_le_mul_right k hjl;rw [Nat.add_mul] at this;omega
  have e1:cur.toList[j*k+i]?=(flatF f l)[j*k+i]?:=by rw [← htk,List.getElem?_take,if_pos hlt]
  rw [flatF_get hf l j x hj i hi,hv,Array.getElem?_toList] at e1;simp only [World.cell?,hh,Nat.zero_add];exact e1
theorem OwnF.ge {w:World} {B:Nat} {v:Value} {l:List α} (h:OwnF f k T w B v l) {g:Nat} (hg:v.ownBlock=some g):B≤g:=by
 rcases h.2 with ⟨rfl,_⟩|⟨g',cap,cur,rfl,hB,_⟩
 ·simp [Value.ownBlock] at hg
 ·simp [Value.ownBlock] at hg;omega
theorem OwnF.lt {w:World} {B:Nat} {v:Value} {l:List α} (h:OwnF f k T w B v l) {g:Nat} (hg:v.ownBlock=some g):g<w.heap.size:=by
 rcases h.2 with ⟨rfl,_⟩|⟨g',cap,cur,rfl,hB,hh,_⟩
 ·simp [Value.ownBlock] at hg
 ·simp [Value.ownBlock] at hg;have:=(gA hh);omega
def Keeps (w w':World) (v:Value):Prop:=∀ k,k<w.heap.size→v.ownBlock≠some k→w'.heap[k]?=w.heap[k]?
theorem below_grown {B:Nat} {w w':World} {row:Option Nat} (hg:w.grownBy w' row) (hrow:∀ k,row=some k→B≤k) (hB:B≤w.heap.size):Below B w w' :=
 (bE B w).grown hg hB hrow
structure Kind (P:Program) (S T:TypeId) (k by_:Nat):Prop where
 under:P.underlying S=some (.slice T)
 info:∃ i z,P.info? T=some i∧i.zero=some z∧i.size=k∧i.bytes=by_∧z.cells.size=k
theorem appendF {P:Program} {S:TypeId} {by_:Nat} (hK:Kind P S T k by_) (hf:Lay f k) {w:World} {B:Nat} {v:Value} {l:List α} (h:OwnF f k T w B v l) (hB:B≤w.heap.size)
  {b:Option Addr} {m capb:Nat} {ys:List α} (hy:Rw f k w b m capb ys) (hm:0<m) (hs:(l.length+m)*by_≤140737488355328) (hs2:l.length+m≤9223372036854775807) (ty:TypeId) :
  ∃ g cap' w',(Builtin.append_ #[S,S] ty #[v,.slice b m capb]).run P w=.ok (.slice (some ⟨g,0,none⟩) (l.length+m) cap') w'∧OwnF f k T w' B (.slice (some ⟨g,0,none⟩) (l.length+m) cap') (l++ys)∧Below B w w'∧Keeps w w' v∧(v.ownBlock=some g∨g=w.heap.size):=by
 obtain ⟨i,z,hi,hz,hsz,hby,hzc⟩:=hK.info;obtain ⟨ga,off,rfl,hg,hc⟩:=hy.row hf hm
 obtain ⟨v',w',hr,ho,hgr,_,hat⟩:=run_append_own_at (P:=P) w B S ty T i z k by_ hK.under hi hz hsz hby hzc hf.pos v l.length (flatF f l) h ⟨ga,off,none⟩ m capb (flatF f ys) (by rw [flatF_length hf,hy.len]) hc (flatF_one hf ys)
  (by simp only [maxLen];omega) hs hB
 rcases ho.2 with ⟨_,h0⟩|⟨g,cap,cur,rfl,hBg,rest⟩
 ·omega
 ·refine ⟨g,cap,w',hr,?_,below_grown hgr (fun k hk=>h.ge hk) hB,fun q hq hne=>hgr.block q hq (fun e=>hne e.symm),?_⟩
  ·unfold OwnF;rw [flatF_append,List.length_append,hy.len];exact ho
  ·rcases hat with h5|h5
   ·exact .inl (by rw [← h5];rfl)
   ·right;simpa [Value.ownBlock] using h5
theorem rw_lit (w:World) (x:α) (cs:Array Value) (hcs:f x=cs.toList) (t:TypeId):Rw f k (w.alloc (.cells cs t)) (some ⟨w.heap.size,0,none⟩) 1 1 [x]:=by
 refine ⟨rfl,⟨lR _,by simp [maxLen]⟩,fun _=>⟨w.heap.size,0,rfl,by simp,fun j y hj i v hv=>?_⟩⟩
 match j,hj with
 | 0,hj =>
  simp at hj;subst hj;have hh:=heap_alloc_new w (.cells cs t);rw [hcs] at hv;simp only [World.cell?,hh,Nat.zero_mul,Nat.zero_add];simpa using hv
theorem appendF_one {P:Program} {S:TypeId} {by_:Nat} (hK:Kind P S T k by_) (hf:Lay f k) {w:World} {B:Nat} {v:Value} {l:List α} (h:OwnF f k T w B v l) (hB:B≤w.heap.size) (x:α) (cs:Array Value) (hcs:f x=cs.toList) (t:TypeId)
  (hs:(l.length+1)*by_≤140737488355328) (hs2:l.length+1≤9223372036854775807) (ty:TypeId) :
  ∃ g cap' w',(Builtin.append_ #[S,S] ty #[v,.slice (some ⟨w.heap.size,0,none⟩) 1 1]).run P (w.alloc (.cells cs t))=.ok (.slice (some ⟨g,0,none⟩) (l.length+1) cap') w'∧OwnF f k T w' B (.slice (some ⟨g,0,none⟩) (l.length+1) cap') (l++[x])∧Below B w w'∧Keeps w w' v∧w.heap.size<w'.heap.size∧(v.ownBlock=some g∨w.heap.size<g):=by
 have hw:Below w.heap.size w (w.alloc (.cells cs t)):=(bE _ _).alloc (lR _) _;obtain ⟨g,cap',w',hr,ho,hb,hk,hat⟩:=appendF hK hf (h.below hw) (by simp;omega) (rw_lit w x cs hcs t) (by omega) hs hs2 ty;refine ⟨g,cap',w',hr,ho,((bE B w).alloc hB _).trans hb,fun q hq hne=>?_,?_,?_⟩
 ·rw [hk q (by simp;omega) hne];exact Below.heap_alloc w _ q hq
 ·have:=hb.size;simp at this;omega
 ·rcases hat with e|e
  ·exact .inl e
  ·right;simp at e;omega
end
theorem wpList_append_hr {P:Program} {w:World} {ops:Array Oper} {rest:List Oper} {o:Oper} {a:Act} {Q:Exit→Act→World→Prop} (hgd:o.guard=none) (s x:Operand) (t:TypeId)
  (ho:o.op=.call { callee:=.builtin .append,args:=#[s,x],argTypes:=#[t,t] }) (v u:Value) (hs:a.eval s=v) (hx:a.eval x=u) {v':Value} {w':World}
  (hr:(Builtin.append_ #[t,t] o.type #[v,u]).run P w=.ok v' w') (h:wpList P ops Q rest (a.put o.dst v') w'):wpList P ops Q (o::rest) a w :=
 wpList_plain hgd fun K hK=>by
  unfold Oper.wp execOp;simp only [ho,resolve,invoke,builtin,Sem.run_bind,Sem.run_pure,Result.andThen_ok,List.map_toArray,List.map_cons,List.map_nil,hs,hx,hr];exact hK _ _ h
theorem max_run (ats:Array TypeId) (ty:TypeId) (x y:Int) (w:World):(Builtin.max_ ats ty #[.int .i64 x,.int .i64 y]).run Tryz.prog w=.ok (.int .i64 (max x y)) w:=by
 simp only [run_max_int2]
 congr 2
 split<;>omega
theorem min_run (ats:Array TypeId) (ty:TypeId) (x y:Int) (w:World):(Builtin.min_ ats ty #[.int .i64 x,.int .i64 y]).run Tryz.prog w=.ok (.int .i64 (min x y)) w:=by
 simp only [run_min_int2]
 congr 2
 split<;>omega
theorem kind_of {S T:TypeId} {z:Value} {k by_:Nat} (hu:Tryz.prog.underlying S=some (.slice T)) (h:(Tryz.prog.info? T).map (fun i=>(i.zero,i.size,i.bytes))=some (some z,k,by_)) (hz:z.cells.size=k):Kind Tryz.prog S T k by_:=by
 obtain ⟨i,hi,h1,h2,h3⟩:=info_parts h;exact ⟨hu,i,z,hi,h1,h2,h3,hz⟩
theorem below_drewN {B:Nat} {a w:World} (h:Below B a w) (m:Nat):Below B a (w.drewN m):=h.trans ⟨rfl,rfl,rfl,lR _,fun _ _=>rfl⟩
end Go.Proofs.YtijpfbcippijoaaGreatDoor
namespace Go.Proofs.YtijpfbcippijoaaGreatDoor
open Go.RowKit Go.Lib Sp
def zeroOp:OpV:=⟨0,0,0,0,⟨#[]⟩,[],0,0,false⟩
theorem alloc_last (w:World) (o:Obj) (k:Nat) (hk:k=w.heap.size):(w.alloc o).heap[k]?=some o:=by
 subst hk;show (w.heap.push o)[w.heap.size]?=_;simp
def rngV (x:Int×Int):List Value:=[.int .i64 x.1,.int .i64 x.2]
theorem layRo:Lay rngV 2:=⟨fun _=>rfl,by decide,fun x u hu=>by simp [rngV] at hu;rcases hu with rfl|rfl<;>rfl⟩
theorem kindRo:Kind Tryz.prog 42 76 2 16:=kind_of Tryz.underlying42 (z:=.agg #[.int .i64 0,.int .i64 0]) (by kernel_rfl) rfl
theorem rng_of_rw {w:World} {a:Option Addr} {n cap:Nat} {l:List (Int×Int)} (h:Rw rngV 2 w a n cap l):Rng w a n cap l :=
 ⟨h.len,h.room,fun j hj=>by
  obtain ⟨g,off,x,ha,hg,hx,hc⟩:=h.at j hj
  have e:l.getD j (0,0)=x:=by rw [List.getD_eq_getElem?_getD,hx];rfl
  rw [e]
  refine ⟨g,off,ha,hg,?_,hc 1 _ rfl⟩
  have:=hc 0 _ rfl
  simpa using this⟩
theorem set9g {W:World} {b:Nat} {T:TypeId} {u0 u1 u2 u3 u4 u5 u6 u7 u8 v0 v1 v2 v3 v4 v5 v6 v7 v8:Value} (h:W.heap[b]?=some (.cells #[u0,u1,u2,u3,u4,u5,u6,u7,u8] T)) :
  (((((((((W.setCell ⟨b,0,none⟩ v0).setCell ⟨b,1,none⟩ v1).setCell ⟨b,2,none⟩ v2).setCell ⟨b,3,none⟩ v3).setCell ⟨b,4,none⟩ v4).setCell ⟨b,5,none⟩ v5).setCell ⟨b,6,none⟩ v6).setCell ⟨b,7,none⟩ v7).setCell ⟨b,8,none⟩ v8).heap[b]?=some (.cells #[v0,v1,v2,v3,v4,v5,v6,v7,v8] T):=by
 have h0:=(heap_setCell_same _ b 0 _ _ v0 h).trans (by simp;rfl);have h1:=(heap_setCell_same _ b 1 _ _ v1 h0).trans (by simp;rfl);have h2:=(heap_setCell_same _ b 2 _ _ v2 h1).trans (by simp;rfl);have h3:=(heap_setCell_same _ b 3 _ _ v3 h2).trans (by simp;rfl);have h4:=(heap_setCell_same _ b 4 _ _ v4 h3).trans (by simp;rfl);have h5:=(heap_setCell_same _ b 5 _ _ v5 h4).trans (by simp;rfl);have h6:=(heap_setCell_same _ b 6 _ _ v6 h5).trans (by simp;rfl);have h7:=(heap_setCell_same _ b 7 _ _ v7 h6).trans (by simp;rfl);have h8:=(heap_setCell_same _ b 8 _ _ v8 h7).trans (by simp;rfl);exact h8
section
variable {α : Type} {f : α → List Value} {k : Nat} {S T : TypeId} {by_ : Nat}
theorem appendF_allO (hK:Kind Tryz.prog S T k by_) (hf:Lay f k) {w:World} {B:Nat} {v:Value} {l:List α} (h:OwnF f k T w B v l) (hB:B≤w.heap.size)
  {b:Option Addr} {m capb:Nat} {ys:List α} (hy:Rw f k w b m capb ys) (hs:(l.length+m)*by_≤140737488355328) (hs2:l.length+m≤1099511627776) (ty:TypeId) :
  ∃ a' cap' w',(Builtin.append_ #[S,S] ty #[v,.slice b m capb]).run Tryz.prog w=.ok (.slice a' (l.length+m) cap') w'∧OwnF f k T w' B (.slice a' (l.length+m) cap') (l++ys)∧Below B w w'∧Keeps w w' v:=by
 by_cases hm:0<m
 ·obtain ⟨g,cap',w',hr,ho,hb,hk,_⟩:=appendF hK hf h hB hy hm hs (by omega) ty;exact ⟨_,cap',w',hr,ho,hb,hk⟩
 ·obtain rfl:m=0:=by omega
  obtain rfl:ys=[]:=List.eq_nil_of_length_eq_zero hy.len;obtain ⟨i,z,hi,hz,hsz,hby,_⟩:=hK.info;obtain ⟨a',cap',rfl⟩:=h.shape;refine ⟨a',cap',w,?_,by rw [List.append_nil];exact h,bE _ _,fun _ _ _=>rfl⟩;rcases h.2 with ⟨e,h0⟩|⟨g,cap,cur,e,_,_,hnc,_⟩
  ·obtain rfl:=List.eq_nil_of_length_eq_zero h0;simp only [List.length_nil] at e ⊢;cases e;cases b<;>simp [Builtin.append_,run_underlying hK.under,sizeOf,typeInfo,hi,Builtin.lenOf,Builtin.firstCells,loadCells,loadCellsFrom]
  ·cases e;cases b<;>simp [Builtin.append_,run_underlying hK.under,sizeOf,typeInfo,hi,Builtin.lenOf,Builtin.firstCells,hnc,storeCells,loadCells,loadCellsFrom]
end
theorem rw_of_rng {w:World} {a:Option Addr} {n cap:Nat} {l:List (Int×Int)} (h:Rng w a n cap l):Rw rngV 2 w a n cap l:=by
 refine ⟨h.len,h.room,fun hn=>?_⟩;obtain ⟨g,off,rfl,hg,_,_⟩:=h.cells 0 hn;refine ⟨g,off,rfl,hg,fun j x hj i v hv=>?_⟩;have hl:=h.len;have hjl:j<l.length:=(List.getElem?_eq_some_iff.1 hj).1;obtain ⟨g2,off2,e,_,h0,h1⟩:=h.cells j (by omega);simp only [Option.some.injEq,Addr.mk.injEq,and_true] at e;obtain ⟨rfl,rfl⟩:=e;have ex:l.getD j (0,0)=x:=by rw [List.getD_eq_getElem?_getD,hj];rfl
 rw [ex] at h0 h1;have hi:i=0∨i=1:=by
  have:=(List.getElem?_eq_some_iff.1 hv).1;simp [rngV] at this;omega
 rcases hi with rfl|rfl
 ·simp only [rngV,List.getElem?_cons_zero,Option.some.injEq] at hv;subst hv;exact h0
 ·simp only [rngV,List.getElem?_cons_succ,List.getElem?_cons_zero,Option.some.injEq] at hv;subst hv;exact h1
theorem copiedR_any {w:World} {a:Option Addr} {n cap:Nat} {l:List (Int×Int)} (h:Rng w a n cap l) (hn:n≤1000000000) :
  Calls Tryz.prog 77 #[.slice a n cap] w fun e w'=>∃ v,e=.returned v∧OwnF rngV 2 76 w' w.heap.size v l∧Below w.heap.size w w':=by
 obtain ⟨a',cap',w',hr,ho,hb,_⟩:=appendF_allO kindRo layRo (ownF_nil (f:=rngV) (k:=2) (T:=76) w w.heap.size) (lR _) (rw_of_rng h) (by simp;omega) (by simp;omega) 42;simp only [List.length_nil,List.nil_append,Nat.zero_add] at hr ho;clear h;go_enter Tryz.func77,Tryz.ntmps77;go_wp2_with (at_builtin;refine wpList_append_hr rfl _ _ 42 rfl _ _ rfl rfl hr ?_);go_ret;exact ⟨_,rfl,ho,hb⟩
theorem own_set {w:World} {B:Nat} {v:Value} {l:List (Int×Int)} (h:OwnF rngV 2 76 w B v l) (b i:Nat) (u:Value) (hb:b<B):OwnF rngV 2 76 (w.setCell ⟨b,i,none⟩ u) B v l:=by
 refine ⟨h.1,?_⟩;rcases h.2 with h0|⟨g,cap,cur,e,h1,hh,rest⟩
 ·exact .inl h0
 ·exact .inr ⟨g,cap,cur,e,h1,(Below.heap_setCell _ _ _ _ (by simp only;omega)).trans hh,rest⟩
theorem own_lit {w:World} {B g:Nat} {x y:Int} (h:w.heap[g]?=some (.cells #[.int .i64 x,.int .i64 y] 76)) (hB:B≤g):OwnF rngV 2 76 w B (.slice (some ⟨g,0,none⟩) 1 1) [(x,y)] :=
 ⟨rfl,.inr ⟨g,1,_,rfl,hB,h,lR _,by decide,rfl,rfl⟩⟩
structure Right (o:OpV):Prop where
 kind:1≤o.k∧o.k≤4
 id:(o.c=0∧o.n=0)∨isIdP o.c o.n=true
 extra:extra o=false
 ins:o.k=1→0≤o.p∧o.p≤1048576∧insP o o.p=0
 rng:o.k=2∨o.k=3→o.l≠[]∧Sp.Lst o.l
 tgt:o.k=4→isIdP o.tc o.tn=true∧¬ (o.tc=o.c∧o.tn=o.n)
theorem insP_code (o:OpV) (t:Int) (h:insP o t=0):0≤o.p∧o.p≤t∧(check o.s).2.2=0∧(check o.s).1≠0∧(check o.s).1≤256∧t+(check o.s).1≤1048576:=by
 unfold insP at h;split at h
 ·exact absurd h (by assumption)
 split at h
 ·cases h
 split at h
 ·cases h
 split at h
 ·cases h
 split at h
 ·cases h
 omega
theorem opCheck_zero {o:OpV} {t:Int} (h:opCheck o t=0):0≤t∧t≤1048576∧(1≤o.k∧o.k≤4)∧((o.c=0∧o.n=0)∨isIdP o.c o.n=true)∧Go.Proofs.YtijpfbcippijoaaGreatDoor.extra o=false∧(o.k=1→insP o t=0)∧(o.k=2∨o.k=3→rngP o t=0)∧(o.k=4→tgtP o=0):=by
 unfold opCheck at h;split at h
 ·cases h
 split at h
 ·cases h
 split at h
 ·cases h
 rename_i h1 h2 h3
 have hI:(o.c=0∧o.n=0)∨isIdP o.c o.n=true:=by
  by_cases hz:o.c=0∧o.n=0
  ·exact .inl hz
  ·right;cases hb:isIdP o.c o.n with
   | true=>rfl
   | false=>exact absurd ⟨hz,hb⟩ h3
 split at h
 ·cases h
 rename_i h4
 refine ⟨by omega,by omega,by omega,hI,by simpa using h4,fun e=>?_,fun e=>?_,fun e=>?_⟩
 ·rw [if_pos e] at h;exact h
 ·rw [if_neg (by omega),if_neg (by omega)] at h;exact h
 ·rw [if_neg (by omega),if_pos e] at h;exact h
theorem right_of {o:OpV} (h:ownP o=0):Right o:=by
 unfold ownP at h;have key:∀ t,opCheck o t=0→(o.k=1→0≤o.p∧o.p≤1048576∧insP o o.p=0)→Right o:=fun t ht hi=>by
  obtain ⟨_,_,h2,h3,h4,h5,h6,h7⟩:=opCheck_zero ht;refine ⟨h2,h3,h4,hi,fun e=>?_,fun e=>?_⟩
  ·have:=h6 e;unfold rngP at this;split at this
   ·cases this
   rename_i hn
   split at this
   ·rename_i hc;exact absurd this hc
   rename_i hc
   exact ⟨hn,Sp.checkL_ok (by simpa using hc)⟩
  ·have:=h7 e;unfold tgtP at this;split at this
   ·cases this
   rename_i hn
   refine ⟨?_,fun hh=>hn (.inr hh)⟩;cases hb:isIdP o.tc o.tn with
   | true=>rfl
   | false=>exact absurd (.inl hb) hn
 split at h
 ·rename_i hc
  refine key _ h fun e=>⟨hc.2.1,hc.2.2,?_⟩
  exact (opCheck_zero h).2.2.2.2.2.1 e
 ·rename_i hc
  refine key _ h fun e=>?_
  have h1:=(opCheck_zero h).2.2.2.2.2.1 e;have h2:=insP_code _ _ h1;exact absurd ⟨e,h2.1,h2.2.1⟩ hc
end Go.Proofs.YtijpfbcippijoaaGreatDoor
namespace Go.Proofs.YtijpfbcippijoaaGreatDoor
open Go.RowKit Go.Lib
theorem encB_le (r:Int) (h:okR r):(encB r).length≤4:=by
 obtain ⟨h0,h1,h2⟩:=valid_le h.1;obtain ⟨c,rfl⟩:∃ c:Nat,r=c:=⟨r.toNat,by omega⟩;by_cases c1:c<0x80
 ·rw [encB1 c c1];simp
 ·by_cases c2:c<0x800
  ·rw [encB2 c c2 (by omega)];simp
  ·by_cases c3:c<0x10000
   ·rw [encB3 c c3 (by omega) h.1];simp
   ·rw [encB4 c (by omega) h.1];simp
theorem encs_le {rs:List Int} (h:∀ r∈rs,okR r):(encs rs).length≤rs.length*4:=by
 induction rs with
 | nil=>simp [encs]
 | cons r t ih =>
  have h1:=encB_le r (h r (by simp));have h2:=ih (fun x hx=>h x (by simp [hx]));rw [encs_cons,List.length_append,List.length_cons];omega
theorem IsText.small {s:ByteArray} {rs:List Int} (h:IsText s rs):s.size≤rs.length*4:=by
 rw [size_data,h.bytes];exact encs_le h.ok
theorem IsText.big {s:ByteArray} {rs:List Int} (h:IsText s rs):rs.length≤s.size:=by
 rw [size_data,h.bytes];exact encs_len2 rs
def pieceV (x:Int×Int):List Value:=[.int .i64 x.1,.int .i64 x.2]
def cellV (x:Int×Int):List Value:=[.int .i32 x.1,.int .i64 x.2]
structure GRun where
 s:ByteArray
 rs:List Int
 h:Int
def runV (x:GRun):List Value:=[.string x.s,.int .i64 x.h]
theorem layC:Lay cellV 2:=⟨fun _=>rfl,by decide,fun x u hu=>by simp [cellV] at hu;rcases hu with rfl|rfl<;>rfl⟩
theorem layR:Lay runV 2:=⟨fun _=>rfl,by decide,fun x u hu=>by simp [runV] at hu;rcases hu with rfl|rfl<;>rfl⟩
theorem kindR:Kind Tryz.prog 35 65 2 24:=kind_of Tryz.underlying35 (z:=.agg #[.string ⟨#[]⟩,.int .i64 0]) (by kernel_rfl) rfl
theorem kindC:Kind Tryz.prog 29 63 2 16:=kind_of Tryz.underlying29 (z:=.agg #[.int .i32 0,.int .i64 0]) (by kernel_rfl) rfl
def cellsOf (L:List GRun):List (Int×Int):=L.flatMap fun x=>x.rs.map fun c=>(c,x.h)
end Go.Proofs.YtijpfbcippijoaaGreatDoor
