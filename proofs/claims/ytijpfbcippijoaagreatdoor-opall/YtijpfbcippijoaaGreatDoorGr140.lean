import Derived.Test.YtijpfbcippijoaaGreatDoorAl
import Derived.Test.YtijpfbcippijoaaGreatDoorGr146
import Derived.Test.YtijpfbcippijoaaGreatDoorGr130
import Derived.Test.YtijpfbcippijoaaGreatDoorGr106
import Derived.Test.YtijpfbcippijoaaGreatDoorRows
import Derived.SizedLaws
import Derived.Test.YtijpfbcippijoaaGreatDoorGr125
import Derived.Test.YtijpfbcippijoaaGreatDoorGr142
import Derived.Test.YtijpfbcippijoaaGreatDoorGr111
import Derived.Test.YtijpfbcippijoaaGreatDoorGr131
import Derived.Test.YtijpfbcippijoaaGreatDoorGr126
set_option maxHeartbeats 4000000
set_option maxRecDepth 100000
namespace Go.Proofs.YtijpfbcippijoaaGreatDoor
open Go.ChangeShapes Go.WideShapes Go.ChangeAt Go.RowKit Go.WideMaps Go.WideElems Go.Lib
theorem cellsI64:Tryz.prog.cellsOf 3=1:=by kernel_rfl
theorem cellsKind:Tryz.prog.cellsOf 39=1:=by kernel_rfl
theorem cellsBool:Tryz.prog.cellsOf 4=1:=by kernel_rfl
theorem cellsStrg:Tryz.prog.cellsOf 9=1:=by kernel_rfl
theorem cellsRgs:Tryz.prog.cellsOf 42=1:=by kernel_rfl
theorem cellsRg:Tryz.prog.cellsOf 76=2:=by kernel_rfl
theorem cellsID:Tryz.prog.cellsOf 38=2:=by kernel_rfl
theorem cellsHead:Tryz.prog.cellsOf 41=3:=by kernel_rfl
theorem cellsOp9:Tryz.prog.cellsOf 44=9:=by kernel_rfl
theorem cellsStep:Tryz.prog.cellsOf 46=21:=by kernel_rfl
theorem cellsSteps:Tryz.prog.cellsOf 23=1:=by kernel_rfl
theorem cellsPlay:Tryz.prog.cellsOf 25=2:=by kernel_rfl
theorem cellsCell:Tryz.prog.cellsOf 61=2:=by kernel_rfl
theorem cellsCells:Tryz.prog.cellsOf 22=1:=by kernel_rfl
theorem bytesRg:Tryz.prog.bytesOf 76=16:=by kernel_rfl
theorem reach_is:reachBytes=140737488351232:=rfl
theorem array2 {α:Type} {cs:Array α} (h:cs.size=2):∃ c0 c1,cs=#[c0,c1]:=by
 obtain ⟨l⟩:=cs
 match l,h with
 | [c0,c1],_=>exact ⟨c0,c1,rfl⟩
theorem list_ofE {α:Type} {P:Nat→α→Prop}:∀ m:Nat,(∀ j,j<m→∃ x,P j x)→∃ l:List α,l.length=m∧∀ (j:Nat) x,l[j]?=some x→P j x
 | 0,_=>⟨[],rfl,fun j x h=>by simp at h⟩
 | m+1,h=>by
  obtain ⟨l,hl,hp⟩:=list_ofE m (fun j hj=>h j (by omega));obtain ⟨x,hx⟩:=h m (by omega);refine ⟨l++[x],by simp [hl],fun j y hy=>?_⟩;by_cases hj:j<l.length
  ·rw [List.getElem?_append_left hj] at hy;exact hp j y hy
  ·rw [List.getElem?_append_right (by omega)] at hy;obtain ⟨hk,rfl⟩:=List.getElem?_eq_some_iff.1 hy;simp at hk;have:j=m:=by omega
   subst this;simpa using hx
theorem rw_of_cells {α:Type} {f:α→List Value} {k:Nat} (hf:Lay f k) {W:World} {a:Addr} {len cap:Nat} {P:α→Prop} (hl:len≤cap) (hm:cap≤maxLen)
  (hel:∀ j,j<len→∃ p:α,P p∧∃ cs,W.cells? 0 (a.add (j*k)) k=some cs∧cs=f p):∃ l:List α,Rw f k W (some a) len cap l∧∀ x∈l,P x:=by
 by_cases h0:len=0
 ·subst h0;exact ⟨[],⟨rfl,⟨hl,hm⟩,fun h=>absurd h (Nat.lt_irrefl _)⟩,fun x hx=>by cases hx⟩
 ·have hk:=hf.pos;obtain ⟨g,off,spot⟩:=a;have hcell:∀ j,j<len→∃ p:α,P p∧∀ i v,(f p)[i]?=some v→W.cell? (((⟨g,off,spot⟩:Addr).add (j*k)).add i)=some v:=fun j hj=>by
   obtain ⟨p,hP,cs,hcs,rfl⟩:=hel j hj;obtain ⟨_,_,hc⟩:=World.cells?_some hcs;refine ⟨p,hP,fun i v hv=>?_⟩;obtain ⟨hi,_⟩:=List.getElem?_eq_some_iff.1 hv;exact (hc i (by rw [hf.len] at hi;exact hi)).trans hv
  have hspot:spot=none:=by
   obtain ⟨p,_,h1⟩:=hcell 0 (by omega);have hlp:0<(f p).length:=by rw [hf.len];exact hk
   have:=h1 0 _ (List.getElem?_eq_getElem hlp);simpa [Addr.add] using World.cell?_spot this
  subst hspot;obtain ⟨l,hll,hp⟩:=list_ofE len hcell;refine ⟨l,⟨hll,⟨hl,hm⟩,fun _=>⟨g,off,rfl,?_,fun j x hj i v hv=>?_⟩⟩,fun x hx=>?_⟩
  ·obtain ⟨p,_,h1⟩:=hcell 0 (by omega);have hlp:0<(f p).length:=by rw [hf.len];exact hk
   exact World.block_lt_of_cell? _ _ (by
    have:=h1 0 _ (List.getElem?_eq_getElem hlp)
    rw [addr_add',addr_add'] at this
    exact this)
  ·have:=(hp j x hj).2 i v hv;rw [addr_add',addr_add'] at this;exact this
  ·obtain ⟨j,hj⟩:=List.getElem?_of_mem hx;exact (hp j x hj).1
theorem weightsAll_mem {H:Type} {P:Program} {e:TypeId} {q:Nat→Bool}:∀ {ds:List (DataW H)} {d:DataW H},d∈ds→(DataW.weightsAll P e ds).all q=true→(d.weights P e).all q=true
 | [],_,h,_=>by cases h
 | x::r,d,h,ha=>by
  simp only [DataW.weightsAll,List.all_append,Bool.and_eq_true] at ha;rcases List.mem_cons.1 h with rfl|h
  ·exact ha.1
  ·exact weightsAll_mem h ha.2
theorem open_cell2 {H:Type} {enc:TypeId×Value→H} {W:World} {fuel:Nat} {cs:List Value} {x:DataW H×List MemPlace}
  (h:DataW.trod enc Tryz.prog W 0 (fun _=>true) true fuel 61 cs=some x):∃ p:Int×Int,cs=cellV p:=by
 obtain ⟨xs,m,_,hx,hl,hlen,hel⟩:=DataW.trod_struct Tryz.underlying61 h;rw [cellsCell] at hl
 match cs,hl,xs,hlen,hel with
 | [c0,c1],_,[y0,y1],_,hel =>
  have q0:DataW.trod enc Tryz.prog W 0 (fun _=>true) true m 21 [c0]=some y0:=by simpa [cells32] using hel 0 _ rfl
  have q1:DataW.trod enc Tryz.prog W 0 (fun _=>true) true m 3 [c1]=some y1:=by simpa [cellsI64] using hel 1 _ rfl
  obtain ⟨x0,e0,_,_⟩:=DataW.trod_int Tryz.underlying21 q0;obtain ⟨x1,e1,_,_⟩:=DataW.trod_int Tryz.underlying3 q1;simp only [List.cons.injEq,and_true] at e0 e1;subst e0 e1;exact ⟨(x0,x1),rfl⟩
theorem open_cells1 {H:Type} {enc:TypeId×Value→H} {W:World} {fuel:Nat} {c:Value} {y:DataW H×List MemPlace}
  (h:DataW.trod enc Tryz.prog W 0 (fun _=>true) true fuel 22 [c]=some y):∃ a n cap L,c=.slice a n cap∧Rw cellV 2 W a n cap L:=by
 rcases DataW.trod_slice Tryz.underlying22 h with ⟨hc,_⟩|⟨a,len,cap,elems,rest,m,_,hc,hx,_,hl,hm,hlen,hel,_,_⟩
 ·simp only [List.cons.injEq,and_true] at hc;exact ⟨none,0,0,[],hc,rw_nil W⟩
 ·simp only [List.cons.injEq,and_true] at hc
  obtain ⟨L,hr,_⟩:=rw_of_cells layC hl hm (a:=a) (W:=W) (P:=fun _=>True) (fun j hj=>by
   have he:=hel j hj
   rw [List.getElem?_eq_getElem (by omega:j<elems.length),cellsCell] at he
   obtain ⟨cs,hcs,htr⟩:=Option.bind_eq_some_iff.1 he
   obtain ⟨p,hcsp⟩:=open_cell2 htr
   exact ⟨p,trivial,cs,hcs,hcsp⟩)
  exact ⟨some a,len,cap,L,hc,hr⟩
theorem open_rg {H:Type} {enc:TypeId×Value→H} {W:World} {fuel:Nat} {cs:List Value} {x:DataW H×List MemPlace}
  (h:DataW.trod enc Tryz.prog W 0 (fun _=>true) true fuel 76 cs=some x):∃ p:Int×Int,cs=rngV p:=by
 obtain ⟨xs,m,_,hx,hl,hlen,hel⟩:=DataW.trod_struct Tryz.underlying76 h;rw [cellsRg] at hl
 match cs,hl,xs,hlen,hel with
 | [c0,c1],_,[y0,y1],_,hel =>
  have q0:DataW.trod enc Tryz.prog W 0 (fun _=>true) true m 3 [c0]=some y0:=by simpa [cellsI64] using hel 0 _ rfl
  have q1:DataW.trod enc Tryz.prog W 0 (fun _=>true) true m 3 [c1]=some y1:=by simpa [cellsI64] using hel 1 _ rfl
  obtain ⟨x0,e0,_,_⟩:=DataW.trod_int Tryz.underlying3 q0;obtain ⟨x1,e1,_,_⟩:=DataW.trod_int Tryz.underlying3 q1;simp only [List.cons.injEq,and_true] at e0 e1;subst e0 e1;exact ⟨(x0,x1),rfl⟩
theorem bulk_one {H:Type} (d:DataW H):1≤Rows.uptoBulk d:=by
 cases d with
 | lit l=>cases l<;>simp [Rows.uptoBulk]
 | nil=>simp [Rows.uptoBulk]
 | ptr d=>simp [Rows.uptoBulk]
 | slice elems spare=>simp [Rows.uptoBulk]
 | agg parts=>simp [Rows.uptoBulk]
 | iface t d=>simp [Rows.uptoBulk]
 | map entries=>simp [Rows.uptoBulk]
 | held h=>simp [Rows.uptoBulk]
theorem bulk_length {H:Type} (l:List (DataW H)):l.length≤Rows.uptoBulkAll l:=by
 induction l with
 | nil=>simp [Rows.uptoBulkAll]
 | cons x r ih=>have:=bulk_one x;simp only [Rows.uptoBulkAll,List.length_cons];omega
theorem open_rgs {H:Type} {enc:TypeId×Value→H} {W:World} {fuel:Nat} {c:Value} {y:DataW H×List MemPlace}
  (h:DataW.trod enc Tryz.prog W 0 (fun _=>true) true fuel 42 [c]=some y) (hz:(y.1.weights Tryz.prog 42).all (·≤reachBytes)=true):∃ a n cap l,c=.slice a n cap∧Rw rngV 2 W a n cap l∧n*16≤140737488351232∧n≤Rows.uptoBulk y.1:=by
 rcases DataW.trod_slice Tryz.underlying42 h with ⟨hc,_⟩|⟨a,len,cap,elems,rest,m,_,hc,hx,_,hl,hm,hlen,hel,_,_⟩
 ·simp only [List.cons.injEq,and_true] at hc;exact ⟨none,0,0,[],hc,rw_nil W,by omega,Nat.zero_le _⟩
 ·simp only [List.cons.injEq,and_true] at hc;have hz':(DataW.weightsEach Tryz.prog [42] [y.1]).all (·≤reachBytes)=true:=by simpa [DataW.weightsEach] using hz
  rw [hx] at hz';have h1:=sized_slice hz' (j:=0) rfl rfl Tryz.underlying42;rw [bytesRg,reach_is] at h1;simp only [List.length_map] at h1
  obtain ⟨L,hr,_⟩:=rw_of_cells layRo hl hm (a:=a) (W:=W) (P:=fun _=>True) (fun j hj=>by
   have he:=hel j hj
   rw [List.getElem?_eq_getElem (by omega:j<elems.length),cellsRg] at he
   obtain ⟨cs,hcs,htr⟩:=Option.bind_eq_some_iff.1 he
   obtain ⟨p,hcsp⟩:=open_rg htr
   exact ⟨p,trivial,cs,hcs,hcsp⟩)
  have h9:=bulk_length (elems.map (·.1));rw [List.length_map] at h9;exact ⟨some a,len,cap,L,hc,hr,by omega,by rw [hx];simp only [Rows.uptoBulk];omega⟩
theorem open_id2 {H:Type} {enc:TypeId×Value→H} {W:World} {fuel:Nat} {cs:List Value} {x:DataW H×List MemPlace}
  (h:DataW.trod enc Tryz.prog W 0 (fun _=>true) true fuel 38 cs=some x):∃ a b,cs=[.int .i64 a,.int .i64 b]:=by
 obtain ⟨xs,m,_,hx,hl,hlen,hel⟩:=DataW.trod_array Tryz.underlying38 h;rw [cellsID] at hl;rw [cellsI64] at hel
 match cs,hl,xs,hlen,hx,hel with
 | [c0,c1],_,[y0,y1],_,hx,hel =>
  have q0:DataW.trod enc Tryz.prog W 0 (fun _=>true) true m 3 [c0]=some y0:=by simpa using hel 0 (by decide)
  have q1:DataW.trod enc Tryz.prog W 0 (fun _=>true) true m 3 [c1]=some y1:=by simpa using hel 1 (by decide)
  obtain ⟨a,e0,_,_⟩:=DataW.trod_int Tryz.underlying3 q0;obtain ⟨b,e1,_,_⟩:=DataW.trod_int Tryz.underlying3 q1;simp only [List.cons.injEq,and_true] at e0 e1;subst e0 e1;exact ⟨a,b,rfl⟩
theorem open_head {H:Type} {enc:TypeId×Value→H} {W:World} {fuel:Nat} {cs:List Value} {x:DataW H×List MemPlace}
  (h:DataW.trod enc Tryz.prog W 0 (fun _=>true) true fuel 41 cs=some x):∃ a b k,cs=[.int .i64 a,.int .i64 b,.int .i64 k]:=by
 obtain ⟨xs,m,_,hx,hl,hlen,hel⟩:=DataW.trod_struct Tryz.underlying41 h;rw [cellsHead] at hl
 match cs,hl,xs,hlen,hx,hel with
 | [c0,c1,c2],_,[y0,y1],_,hx,hel =>
  have q0:DataW.trod enc Tryz.prog W 0 (fun _=>true) true m 38 [c0,c1]=some y0:=by simpa [cellsID] using hel 0 _ rfl
  have q1:DataW.trod enc Tryz.prog W 0 (fun _=>true) true m 39 [c2]=some y1:=by simpa [cellsKind] using hel 1 _ rfl
  obtain ⟨a,b,e0⟩:=open_id2 q0;obtain ⟨k,e1,_,_⟩:=DataW.trod_int Tryz.underlying39 q1;simp only [List.cons.injEq,and_true] at e0 e1;obtain ⟨rfl,rfl⟩:=e0;subst e1;exact ⟨a,b,k,rfl⟩
def opC (o:OpV) (a:Option Addr) (m cap:Nat):List Value:=[.int .i64 o.c,.int .i64 o.n,.int .i64 o.k,.int .i64 o.p,.string o.s,.slice a m cap,.int .i64 o.tc,.int .i64 o.tn,.bool o.on]
theorem open_op {H:Type} {enc:TypeId×Value→H} {W:World} {fuel:Nat} {cs:List Value} {x:DataW H×List MemPlace}
  (h:DataW.trod enc Tryz.prog W 0 (fun _=>true) true fuel 44 cs=some x) (hz:(x.1.weights Tryz.prog 44).all (·≤reachBytes)=true) (hb:Rows.uptoBulk x.1≤1048576) :
  ∃ (o:OpV) (a:Option Addr) (m cap:Nat),cs=opC o a m cap∧Sp.Rng W a m cap o.l∧m*16≤140737488351232∧o.s.size≤2097152∧m≤1048576:=by
 obtain ⟨xs,f,_,hx,hl,hlen,hel⟩:=DataW.trod_struct Tryz.underlying44 h;rw [cellsOp9] at hl
 match cs,hl,xs,hlen,hx,hel with
 | [c0,c1,c2,c3,c4,c5,c6,c7,c8],_,[y0,y1,y2,y3,y4,y5],_,hx,hel =>
  have q0:DataW.trod enc Tryz.prog W 0 (fun _=>true) true f 41 [c0,c1,c2]=some y0:=by simpa [cellsHead] using hel 0 _ rfl
  have q1:DataW.trod enc Tryz.prog W 0 (fun _=>true) true f 3 [c3]=some y1:=by simpa [cellsI64] using hel 1 _ rfl
  have q2:DataW.trod enc Tryz.prog W 0 (fun _=>true) true f 9 [c4]=some y2:=by simpa [cellsStrg] using hel 2 _ rfl
  have q3:DataW.trod enc Tryz.prog W 0 (fun _=>true) true f 42 [c5]=some y3:=by simpa [cellsRgs] using hel 3 _ rfl
  have q4:DataW.trod enc Tryz.prog W 0 (fun _=>true) true f 38 [c6,c7]=some y4:=by simpa [cellsID] using hel 4 _ rfl
  have q5:DataW.trod enc Tryz.prog W 0 (fun _=>true) true f 4 [c8]=some y5:=by simpa [cellsBool] using hel 5 _ rfl
  have hd:x.1=.agg [y0.1,y1.1,y2.1,y3.1,y4.1,y5.1]:=by
   have:=congrArg Prod.fst hx;simpa using this
  rw [hd] at hz hb;simp only [Rows.uptoBulk,Rows.uptoBulkAll] at hb;have hz3:(y3.1.weights Tryz.prog 42).all (·≤reachBytes)=true:=by
   simp only [DataW.weights,Tryz.underlying44,List.map_cons,List.map_nil,DataW.weightsEach,List.all_append,Bool.and_eq_true] at hz;exact hz.2.2.2.1
  obtain ⟨a0,b0,k0,e0⟩:=open_head q0;obtain ⟨p,e1,_,_⟩:=DataW.trod_int Tryz.underlying3 q1;obtain ⟨s,e2,hy2,hs⟩:=DataW.trod_string Tryz.underlying9 q2;obtain ⟨ra,rm,rc,l,e3,hr,hm,hm8⟩:=open_rgs q3 hz3;have hm9:rm≤1048576:=by omega
  obtain ⟨ta,tb,e4⟩:=open_id2 q4;obtain ⟨on,e5,_⟩:=DataW.trod_bool Tryz.underlying4 q5;simp only [List.cons.injEq,and_true] at e0 e1 e2 e4 e5;obtain ⟨rfl,rfl,rfl⟩:=e0;obtain ⟨rfl,rfl⟩:=e4;subst e1 e2 e3 e5;have hs2:s.size≤2097152:=by
   rw [hy2] at hb;simp only [Rows.uptoBulk,Array.length_toList] at hb;have e:s.size=s.data.size:=rfl;omega
  exact ⟨⟨a0,b0,k0,p,s,l,ta,tb,on⟩,ra,rm,rc,rfl,rng_of_rw hr,hm,hs2,hm9⟩
theorem open_step {H:Type} {enc:TypeId×Value→H} {W:World} {fuel:Nat} {cs:List Value} {x:DataW H×List MemPlace}
  (h:DataW.trod enc Tryz.prog W 0 (fun _=>true) true fuel 46 cs=some x) (hz:(x.1.weights Tryz.prog 46).all (·≤reachBytes)=true) (hb:Rows.uptoBulk x.1≤1048576):∃ p:StepV,StepOk3 W p∧cs=stepF p:=by
 obtain ⟨xs,f,_,hx,hl,hlen,hel⟩:=DataW.trod_struct Tryz.underlying46 h;rw [cellsStep] at hl
 match cs,hl,xs,hlen,hx,hel with
 | [c0,c1,c2,c3,c4,c5,c6,c7,c8,c9,c10,c11,c12,c13,c14,c15,c16,c17,c18,c19,c20],_,[y0,y1,y2,y3,y4],_,hx,hel =>
  have q0:DataW.trod enc Tryz.prog W 0 (fun _=>true) true f 3 [c0]=some y0:=by simpa [cellsI64] using hel 0 _ rfl
  have q1:DataW.trod enc Tryz.prog W 0 (fun _=>true) true f 44 [c1,c2,c3,c4,c5,c6,c7,c8,c9]=some y1:=by simpa [cellsOp9] using hel 1 _ rfl
  have q2:DataW.trod enc Tryz.prog W 0 (fun _=>true) true f 44 [c10,c11,c12,c13,c14,c15,c16,c17,c18]=some y2:=by simpa [cellsOp9] using hel 2 _ rfl
  have q3:DataW.trod enc Tryz.prog W 0 (fun _=>true) true f 3 [c19]=some y3:=by simpa [cellsI64] using hel 3 _ rfl
  have q4:DataW.trod enc Tryz.prog W 0 (fun _=>true) true f 9 [c20]=some y4:=by simpa [cellsStrg] using hel 4 _ rfl
  have hd:x.1=.agg [y0.1,y1.1,y2.1,y3.1,y4.1]:=by
   have:=congrArg Prod.fst hx;simpa using this
  rw [hd] at hz hb;simp only [Rows.uptoBulk,Rows.uptoBulkAll] at hb;simp only [DataW.weights,Tryz.underlying46,List.map_cons,List.map_nil,DataW.weightsEach,List.all_append,Bool.and_eq_true] at hz;obtain ⟨k,e0,_,_⟩:=DataW.trod_int Tryz.underlying3 q0;obtain ⟨o1,a1,m1,k1,e1,r1,z1,s1,b1⟩:=open_op q1 hz.2.1 (by omega);obtain ⟨o2,a2,m2,k2,e2,r2,_,s2,b2⟩:=open_op q2 hz.2.2.1 (by omega);obtain ⟨t,e3,_,_⟩:=DataW.trod_int Tryz.underlying3 q3;obtain ⟨ln,e4,hy4,_⟩:=DataW.trod_string Tryz.underlying9 q4;have hs4:ln.size≤1048576:=by
   rw [hy4] at hb;simp only [Rows.uptoBulk,Array.length_toList] at hb;have e:ln.size=ln.data.size:=rfl;omega
  refine ⟨⟨k,o1,a1,m1,k1,o2,a2,m2,k2,t,ln⟩,⟨⟨⟨r1,z1,s1⟩,b1,r2,b2,s2⟩,hs4⟩,?_⟩;have e:[c0,c1,c2,c3,c4,c5,c6,c7,c8,c9,c10,c11,c12,c13,c14,c15,c16,c17,c18,c19,c20]=[c0]++[c1,c2,c3,c4,c5,c6,c7,c8,c9]++[c10,c11,c12,c13,c14,c15,c16,c17,c18]++[c19]++[c20]:=rfl;rw [e,e0,e1,e2,e3,e4];rfl
theorem bulk_mem {H:Type}:∀ {ds:List (DataW H)} {d:DataW H},d∈ds→Rows.uptoBulk d≤Rows.uptoBulkAll ds
 | [],_,h=>by cases h
 | x::r,d,h=>by
  simp only [Rows.uptoBulkAll];rcases List.mem_cons.1 h with rfl|h
  ·omega
  ·have:=bulk_mem h;omega
theorem open_playU3 {H:Type} {enc:TypeId×Value→H} {W:World} {base:Nat} {v:Value} {d:DataW H} {p:List MemPlace}
  (hv:Value.okWide Tryz.prog W .any base 25 v) (h:DataW.Trod enc Tryz.prog W 0 (fun _=>true) true 25 v d p) (hz:(d.weights Tryz.prog 25).all (·≤reachBytes)=true) (hb:Rows.uptoBulk d≤1048576) :
  ∃ (aC aS:Option Addr) (nC cC nS cS:Nat) (zs:List (Int×Int)) (L:List StepV),v=.agg #[.slice aC nC cC,.slice aS nS cS]∧Rw cellV 2 W aC nC cC zs∧Rw stepF 21 W aS nS cS L∧∀ x∈L,StepOk3 W x:=by
 obtain ⟨cs,rfl,hsz⟩:=okWide_struct Tryz.underlying25 hv;obtain ⟨c0,c1,rfl⟩:=array2 (hsz.trans cellsPlay);obtain ⟨fuel,hf⟩:=h;obtain ⟨xs,m,_,hx,_,hlen,hel⟩:=DataW.trod_struct Tryz.underlying25 hf
 match xs,hlen,hx,hel with
 | [y0,y1],_,hx,hel =>
  have q0:DataW.trod enc Tryz.prog W 0 (fun _=>true) true m 22 [c0]=some y0:=by simpa [Value.cells,cellsCells] using hel 0 _ rfl
  have q1:DataW.trod enc Tryz.prog W 0 (fun _=>true) true m 23 [c1]=some y1:=by simpa [Value.cells,cellsSteps] using hel 1 _ rfl
  have hd:d=.agg [y0.1,y1.1]:=by
   have:=congrArg Prod.fst hx;simpa using this
  rw [hd] at hz hb;simp only [Rows.uptoBulk,Rows.uptoBulkAll] at hb;simp only [DataW.weights,Tryz.underlying25,List.map_cons,List.map_nil,DataW.weightsEach,List.all_append,Bool.and_eq_true] at hz;have hz1:=hz.2.1;obtain ⟨a0,n0,k0,zs,e0,h0⟩:=open_cells1 q0;rcases DataW.trod_slice Tryz.underlying23 q1 with ⟨hc,_⟩|⟨a,len,cap,elems,rest,f,_,hc,hx1,_,hl,hm,hln,hel1,_,_⟩
  ·simp only [List.cons.injEq,and_true] at hc;subst e0 hc;exact ⟨_,_,_,_,_,_,zs,[],rfl,h0,rw_nil W,fun x hx=>by cases hx⟩
  ·simp only [List.cons.injEq,and_true] at hc;rw [hx1] at hz1 hb;simp only [Rows.uptoBulk] at hb;simp only [DataW.weights,Tryz.underlying23,List.all_cons,Bool.and_eq_true,List.all_append] at hz1
   obtain ⟨L,hr,hP⟩:=rw_of_cells layS hl hm (a:=a) (W:=W) (P:=StepOk3 W) (fun j hj=>by
    have he:=hel1 j hj
    rw [List.getElem?_eq_getElem (by omega:j<elems.length),cellsStep] at he
    obtain ⟨cs,hcs,htr⟩:=Option.bind_eq_some_iff.1 he
    have hmem:=(List.mem_map.2 ⟨_,List.getElem_mem (by omega:j<elems.length),rfl⟩:(elems[j]).1∈elems.map (·.1))
    have hbm:=bulk_mem hmem
    obtain ⟨p,hp,hcsp⟩:=open_step htr (weightsAll_mem hmem hz1.2.1) (by omega)
    exact ⟨p,hp,cs,hcs,hcsp⟩)
   subst e0 hc;exact ⟨_,_,_,_,_,_,zs,L,rfl,h0,hr,hP⟩
end Go.Proofs.YtijpfbcippijoaaGreatDoor
namespace Go.Proofs.YtijpfbcippijoaaGreatDoor
open Go.RowKit Go.Lib
theorem asks_1 {c n k p tc tn c2 n2 k2 p2 tc2 tn2 tot:Int} {s s2 ln:ByteArray} {on on2:Bool} {l:List (Int×Int)} {w:World} {a a1 b2:Option Addr} {m cap cap1 m2 cap2:Nat} (h1:Sp.Rng w a1 m cap1 l) (h2:Sp.Rng w a m cap l) (hs:s.size≤2097152) (hw:Bar w) :
  Calls Tryz.prog 15 #[.agg #[.int .i64 1,.int .i64 c,.int .i64 n,.int .i64 k,.int .i64 p,.string s,.slice a m cap,.int .i64 tc,.int .i64 tn,.bool on,.int .i64 c2,.int .i64 n2,.int .i64 k2,.int .i64 p2,.string s2,.slice b2 m2 cap2,.int .i64 tc2,.int .i64 tn2,.bool on2,.int .i64 tot,.string ln],.agg #[.int .i64 c,.int .i64 n,.int .i64 k,.int .i64 p,.string s,.slice a1 m cap1,.int .i64 tc,.int .i64 tn,.bool on]] w fun e w'=>e=.returned (.bool true)∧Below w.heap.size w w':=by
 go_enter Tryz.func15,Tryz.ntmps15;go_wp2_with fail;generalize hW0:(w.alloc (Obj.cells #[.int .i64 1,.int .i64 c,.int .i64 n,.int .i64 k,.int .i64 p,.string s,.slice a m cap,.int .i64 tc,.int .i64 tn,.bool on,.int .i64 c2,.int .i64 n2,.int .i64 k2,.int .i64 p2,.string s2,.slice b2 m2 cap2,.int .i64 tc2,.int .i64 tn2,.bool on2,.int .i64 tot,.string ln] 46)).alloc (Obj.cells #[.int .i64 c,.int .i64 n,.int .i64 k,.int .i64 p,.string s,.slice a1 m cap1,.int .i64 tc,.int .i64 tn,.bool on] 44)=W0;have hX:W0.heap[w.heap.size]?=some (Obj.cells #[.int .i64 1,.int .i64 c,.int .i64 n,.int .i64 k,.int .i64 p,.string s,.slice a m cap,.int .i64 tc,.int .i64 tn,.bool on,.int .i64 c2,.int .i64 n2,.int .i64 k2,.int .i64 p2,.string s2,.slice b2 m2 cap2,.int .i64 tc2,.int .i64 tn2,.bool on2,.int .i64 tot,.string ln] 46):=by rw [← hW0];exact (Below.heap_alloc _ _ _ (by simp)).trans (alloc_last _ _ _ rfl)
 have hZ:W0.heap[w.heap.size+1]?=some (Obj.cells #[.int .i64 c,.int .i64 n,.int .i64 k,.int .i64 p,.string s,.slice a1 m cap1,.int .i64 tc,.int .i64 tn,.bool on] 44):=by rw [← hW0];exact alloc_last _ _ _ (by simp)
 have hB0:Below w.heap.size w W0:=by rw [← hW0];exact ((bE w.heap.size w).alloc (lR _) _).alloc (by simp) _
 have hlt:w.heap.size+1<W0.heap.size:=(gA hZ);clear hW0;have g1:=h1.below hB0;have g2:=h2.below hB0;have gw:=hw.below hB0;clear h1 h2 hw;obtain ⟨x0,x1,x2,x3,x4,x5,x6,x7,x8,x9,x10,x11,x12,x13,x14,x15,x16,x17,x18,x19,x20⟩:=box21 hX;obtain ⟨y0,y1,y2,y3,y4,y5,y6,y7,y8⟩:=box9 hZ;have T1:=opCheck_any (o:=⟨c,n,k,p,s,l,tc,tn,on⟩) (total:=tot) g1 (Nat.le_trans hs (by decide)) gw;simp only [opVal] at T1;go_wp2_with fail;refine T1.mono ?_;rintro e w1 ⟨rfl,hb1⟩;have hX1:=(hb1.block _ (by omega)).trans hX;have hB1:=hB0.trans (hb1.mono hB0.size);clear T1 x0 x1 x2 x3 x4 x5 x6 x7 x8 x9 x10 x11 x12 x13 x14 x15 x16 x17 x18 x19 x20 y0 y1 y2 y3 y4 y5 y6 y7 y8;obtain ⟨x0,x1,x2,x3,x4,x5,x6,x7,x8,x9,x10,x11,x12,x13,x14,x15,x16,x17,x18,x19,x20⟩:=box21 hX1;have T2:=gCheck_any (o:=⟨c,n,k,p,s,l,tc,tn,on⟩) (total:=tot) (g2.below hb1) hs;simp only [opVal] at T2;clear hX hX1 hZ;go_wp2_with fail;refine T2.mono ?_;rintro e w2 ⟨rfl,hb2⟩;have hB2:=hB1.trans (hb2.mono hB1.size);clear T2 x0 x1 x2 x3 x4 x5 x6 x7 x8 x9 x10 x11 x12 x13 x14 x15 x16 x17 x18 x19 x20;generalize opCheck ⟨c,n,k,p,s,l,tc,tn,on⟩ tot=r;have er:(r==r)=true:=beq_self_eq_true _;go_wp2_with fail;go_ret;exact ⟨rfl,hB2⟩
theorem asks_2 {c n k p tc tn c2 n2 k2 p2 tc2 tn2 tot:Int} {s s2 ln:ByteArray} {on on2:Bool} {l:List (Int×Int)} {w:World} {a a1 b2:Option Addr} {m cap cap1 m2 cap2:Nat} (h1:Sp.Rng w a1 m cap1 l) (h2:Sp.Rng w a m cap l) (hs:s.size≤2097152) (hw:Bar w) :
  Calls Tryz.prog 15 #[.agg #[.int .i64 2,.int .i64 c,.int .i64 n,.int .i64 k,.int .i64 p,.string s,.slice a m cap,.int .i64 tc,.int .i64 tn,.bool on,.int .i64 c2,.int .i64 n2,.int .i64 k2,.int .i64 p2,.string s2,.slice b2 m2 cap2,.int .i64 tc2,.int .i64 tn2,.bool on2,.int .i64 tot,.string ln],.agg #[.int .i64 c,.int .i64 n,.int .i64 k,.int .i64 p,.string s,.slice a1 m cap1,.int .i64 tc,.int .i64 tn,.bool on]] w fun e w'=>e=.returned (.bool true)∧Below w.heap.size w w':=by
 go_enter Tryz.func15,Tryz.ntmps15;go_wp2_with fail;generalize hW0:(w.alloc (Obj.cells #[.int .i64 2,.int .i64 c,.int .i64 n,.int .i64 k,.int .i64 p,.string s,.slice a m cap,.int .i64 tc,.int .i64 tn,.bool on,.int .i64 c2,.int .i64 n2,.int .i64 k2,.int .i64 p2,.string s2,.slice b2 m2 cap2,.int .i64 tc2,.int .i64 tn2,.bool on2,.int .i64 tot,.string ln] 46)).alloc (Obj.cells #[.int .i64 c,.int .i64 n,.int .i64 k,.int .i64 p,.string s,.slice a1 m cap1,.int .i64 tc,.int .i64 tn,.bool on] 44)=W0;have hX:W0.heap[w.heap.size]?=some (Obj.cells #[.int .i64 2,.int .i64 c,.int .i64 n,.int .i64 k,.int .i64 p,.string s,.slice a m cap,.int .i64 tc,.int .i64 tn,.bool on,.int .i64 c2,.int .i64 n2,.int .i64 k2,.int .i64 p2,.string s2,.slice b2 m2 cap2,.int .i64 tc2,.int .i64 tn2,.bool on2,.int .i64 tot,.string ln] 46):=by rw [← hW0];exact (Below.heap_alloc _ _ _ (by simp)).trans (alloc_last _ _ _ rfl)
 have hZ:W0.heap[w.heap.size+1]?=some (Obj.cells #[.int .i64 c,.int .i64 n,.int .i64 k,.int .i64 p,.string s,.slice a1 m cap1,.int .i64 tc,.int .i64 tn,.bool on] 44):=by rw [← hW0];exact alloc_last _ _ _ (by simp)
 have hB0:Below w.heap.size w W0:=by rw [← hW0];exact ((bE w.heap.size w).alloc (lR _) _).alloc (by simp) _
 have hlt:w.heap.size+1<W0.heap.size:=(gA hZ);clear hW0;have g1:=h1.below hB0;have g2:=h2.below hB0;have gw:=hw.below hB0;clear h1 h2 hw;obtain ⟨x0,x1,x2,x3,x4,x5,x6,x7,x8,x9,x10,x11,x12,x13,x14,x15,x16,x17,x18,x19,x20⟩:=box21 hX;obtain ⟨y0,y1,y2,y3,y4,y5,y6,y7,y8⟩:=box9 hZ;have T1:=width_any (o:=⟨c,n,k,p,s,l,tc,tn,on⟩) (v:=.slice a1 m cap1) (Nat.le_trans hs (by decide)) gw;simp only [opVal] at T1;go_wp2_with fail;refine T1.mono ?_;rintro e w1 ⟨rfl,hb1⟩;have hX1:=(hb1.block _ (by omega)).trans hX;have hB1:=hB0.trans (hb1.mono hB0.size);clear T1 x0 x1 x2 x3 x4 x5 x6 x7 x8 x9 x10 x11 x12 x13 x14 x15 x16 x17 x18 x19 x20 y0 y1 y2 y3 y4 y5 y6 y7 y8;obtain ⟨x0,x1,x2,x3,x4,x5,x6,x7,x8,x9,x10,x11,x12,x13,x14,x15,x16,x17,x18,x19,x20⟩:=box21 hX1;have T2:=gWidth_any (o:=⟨c,n,k,p,s,l,tc,tn,on⟩) (v:=.slice a m cap) hs w1;simp only [opVal] at T2;clear hX hX1 hZ;go_wp2_with fail;refine T2.mono ?_;rintro e w2 ⟨rfl,hb2⟩;have hB2:=hB1.trans (hb2.mono hB1.size);clear T2 x0 x1 x2 x3 x4 x5 x6 x7 x8 x9 x10 x11 x12 x13 x14 x15 x16 x17 x18 x19 x20;generalize widthP ⟨c,n,k,p,s,l,tc,tn,on⟩=r;have er:(r==r)=true:=beq_self_eq_true _;go_wp2_with fail;go_ret;exact ⟨rfl,hB2⟩
end Go.Proofs.YtijpfbcippijoaaGreatDoor
namespace Go.Proofs.YtijpfbcippijoaaGreatDoor
open Go.RowKit Go.Lib Sp
theorem opCheck_id {o:OpV} {total:Int} (hT:0≤total∧total≤1048576) (hK:1≤o.k∧o.k≤4) (h:¬ (o.c=0∧o.n=0)) (h2:isIdP o.c o.n=false):opCheck o total=41:=by
 unfold opCheck;rw [if_neg (by omega),if_neg (by omega),if_pos ⟨h,h2⟩]
theorem opCheck_pass {o:OpV} {total:Int} (hT:0≤total∧total≤1048576) (hK:1≤o.k∧o.k≤4) (hI:(o.c=0∧o.n=0)∨isIdP o.c o.n=true) :
  opCheck o total=if extra o=true then 42 else if o.k=1 then insP o total else if o.k=4 then tgtP o else rngP o total:=by
 unfold opCheck;rw [if_neg (by omega),if_neg (by omega),if_neg (by
  rintro ⟨h,h2⟩
  rcases hI with h'|h'
  ·exact h h'
  ·rw [h'] at h2;cases h2)]
theorem check_ab:check ⟨#[97,98]⟩=(2,0,0):=by kernel_rfl
theorem opCheck_ins {c n p total:Int} {s:ByteArray} (hT:0≤total∧total≤1048576) (hI:(c=0∧n=0)∨isIdP c n=true) :
  opCheck ⟨c,n,1,p,s,[],0,0,false⟩ total=insP ⟨c,n,1,p,s,[],0,0,false⟩ total:=by
 rw [opCheck_pass hT (by simp) hI,if_neg (by simp [extra,ext0,extT]),if_pos rfl]
theorem print_ins {c n p:Int} {s:ByteArray} (hI:(c=0∧n=0)∨isIdP c n=true) (hp0:0≤p) (hp1:p≤1048576) (hs:s.size≤1048576) (hq:(quoted s).length≤1099511627776) (hok:ownP ⟨c,n,1,p,s,[],0,0,false⟩=0) (w:World) (hw:Bar w) (hp:Pow w) (hd:Deb w) :
  Calls Tryz.prog 20 #[opVal ⟨c,n,1,p,s,[],0,0,false⟩ (.slice none 0 0)] w fun e w'=>e=.returned (.tuple #[.string (bs (idB c n++[32]++insB p s)),.int .i64 0])∧Below w.heap.size w w':=by
 have HO:Hid (∀ (w':World),Below w.heap.size w w'→Calls Tryz.prog 52 #[opVal ⟨c,n,1,p,s,[],0,0,false⟩ (.slice none 0 0)] w' fun e w''=>e=.returned (.int .i64 0)∧Below w'.heap.size w' w''):=fun w' hb=>by
  have h:=ownError_any (o:=⟨c,n,1,p,s,[],0,0,false⟩) (rng_nil w') (show s.size≤9223372036854775807 by omega) (hw.below hb);rw [hok] at h;exact h
 have hcn:0≤c∧c≤1048576∧0≤n∧n≤1048576:=by
  rcases hI with ⟨h1,h2⟩|h
  ·omega
  ·have:=of_decide_eq_true h;omega
 have HP:Hid (∀ (w':World),Below w.heap.size w w'→Calls Tryz.prog 53 #[.agg #[.int .i64 c,.int .i64 n]] w' fun e w''=>e=.returned (.string (bs (idB c n)))∧Below w'.heap.size w' w''):=fun w' hb=>printID_any hcn.1 hcn.2.1 hcn.2.2.1 hcn.2.2.2 w' (hp.below hb)
 have HW:Hid (∀ (w':World),Below w.heap.size w w'→Calls Tryz.prog 54 #[opVal ⟨c,n,1,p,s,[],0,0,false⟩ (.slice none 0 0)] w' fun e w''=>e=.returned (.string (bs (insB p s)))∧Below w'.heap.size w' w''):=fun w' hb=>printWord_1 (c:=c) (n:=n) (p:=p) (s:=s) (l:=[]) (tc:=0) (tn:=0) (on:=false) (v:=.slice none 0 0) hp0 hp1 (by omega) hq w' (hp.below hb) (hd.below hb)
 have q1:(bs (idB c n)).size≤100:=by
  rw [bs_size];unfold idB;have h1:=Lib.itoa_length_le c (by omega) (by omega);have h2:=Lib.itoa_length_le n (by omega) (by omega);split
  ·simp
  ·simp only [List.length_append,List.length_cons,List.length_nil];omega
 have q2:(bs (insB p s)).size≤1099511627876:=by
  rw [bs_size];unfold insB;have h1:=Lib.itoa_length_le p (by omega) (by omega);simp only [List.length_append,List.length_cons,List.length_nil];omega
 have HR:Hid (bs (idB c n)++⟨#[32]⟩++bs (insB p s)=bs (idB c n++[32]++insB p s)):=by
  show _=_;rw [← bs_append,← bs_append];rfl
 clear hI hp0 hp1 hs hq hok hw hp hd hcn;generalize bs (idB c n)=x at *;generalize bs (insB p s)=y at *;have g1:¬ 9223372036854775807<x.size+1:=by omega
 have g2:¬ 9223372036854775807<x.size+1+y.size:=by omega
 simp only [opVal] at *;have hw2:=(bE w.heap.size w).alloc (lR _) (Obj.cells #[.int .i64 c,.int .i64 n,.int .i64 1,.int .i64 p,.string s,.slice none 0 0,.int .i64 0,.int .i64 0,.bool false] 44);go_enter Tryz.func20,Tryz.ntmps20;go_wp2_with fail;refine (HO.out _ hw2).mono ?_;rintro e w0 ⟨rfl,hb0⟩;have hB0:=hw2.trans (hb0.mono hw2.size);have k0:w0.cell? ⟨w.heap.size,0,none⟩=some (.int .i64 c):=(hb0.cell (p:=⟨w.heap.size,0,none⟩) (by simp)).trans (cM ..);have k1:w0.cell? ⟨w.heap.size,1,none⟩=some (.int .i64 n):=(hb0.cell (p:=⟨w.heap.size,1,none⟩) (by simp)).trans (cM ..);have k2:w0.cell? ⟨w.heap.size,2,none⟩=some (.int .i64 1):=(hb0.cell (p:=⟨w.heap.size,2,none⟩) (by simp)).trans (cM ..);have k3:w0.cell? ⟨w.heap.size,3,none⟩=some (.int .i64 p):=(hb0.cell (p:=⟨w.heap.size,3,none⟩) (by simp)).trans (cM ..);have k4:w0.cell? ⟨w.heap.size,4,none⟩=some (.string s):=(hb0.cell (p:=⟨w.heap.size,4,none⟩) (by simp)).trans (cM ..);have k5:w0.cell? ⟨w.heap.size,5,none⟩=some (.slice none 0 0):=(hb0.cell (p:=⟨w.heap.size,5,none⟩) (by simp)).trans (cM ..);have k6:w0.cell? ⟨w.heap.size,6,none⟩=some (.int .i64 0):=(hb0.cell (p:=⟨w.heap.size,6,none⟩) (by simp)).trans (cM ..);have k7:w0.cell? ⟨w.heap.size,7,none⟩=some (.int .i64 0):=(hb0.cell (p:=⟨w.heap.size,7,none⟩) (by simp)).trans (cM ..);have k8:w0.cell? ⟨w.heap.size,8,none⟩=some (.bool false):=(hb0.cell (p:=⟨w.heap.size,8,none⟩) (by simp)).trans (cM ..);have hk:w.heap.size<w0.heap.size:=by have:=hb0.size;simp at this;omega
 have hcur:Below w0.heap.size w0 w0:=bE _ _;clear hw2 hb0 HO;go_wp2_with fail
 go_region_held3 (fun W=>W.cell? ⟨w.heap.size,0,none⟩=some (.int .i64 c)∧W.cell? ⟨w.heap.size,1,none⟩=some (.int .i64 n)∧W.cell? ⟨w.heap.size,2,none⟩=some (.int .i64 1)∧W.cell? ⟨w.heap.size,3,none⟩=some (.int .i64 p)∧W.cell? ⟨w.heap.size,4,none⟩=some (.string s)∧W.cell? ⟨w.heap.size,5,none⟩=some (.slice none 0 0)∧W.cell? ⟨w.heap.size,6,none⟩=some (.int .i64 0)∧W.cell? ⟨w.heap.size,7,none⟩=some (.int .i64 0)∧W.cell? ⟨w.heap.size,8,none⟩=some (.bool false)) (first|exact ⟨k0,k1,k2,k3,k4,k5,k6,k7,k8⟩|exact ⟨e0,e1,e2,e3,e4,e5,e6,e7,e8⟩)
   (first
    | (go_at_call 53;refine (HP.out _ ?_).mono ?_;(first|exact hB0.trans (hcur.mono hB0.size)|exact hB0.trans (hcur.drew.mono hB0.size));rintro e w1 ⟨rfl,hb1⟩;have hcur:Below w0.heap.size w0 w1:=(by first|exact hcur.trans (hb1.mono hcur.size)|exact hcur.drew.trans (hb1.mono hcur.size));have e0:=(hcur.cell (p:=⟨w.heap.size,0,none⟩) hk).trans k0;have e1:=(hcur.cell (p:=⟨w.heap.size,1,none⟩) hk).trans k1;have e2:=(hcur.cell (p:=⟨w.heap.size,2,none⟩) hk).trans k2;have e3:=(hcur.cell (p:=⟨w.heap.size,3,none⟩) hk).trans k3;have e4:=(hcur.cell (p:=⟨w.heap.size,4,none⟩) hk).trans k4;have e5:=(hcur.cell (p:=⟨w.heap.size,5,none⟩) hk).trans k5;have e6:=(hcur.cell (p:=⟨w.heap.size,6,none⟩) hk).trans k6;have e7:=(hcur.cell (p:=⟨w.heap.size,7,none⟩) hk).trans k7;have e8:=(hcur.cell (p:=⟨w.heap.size,8,none⟩) hk).trans k8)
    | (go_at_call 54;refine (HW.out _ ?_).mono ?_;(first|exact hB0.trans (hcur.mono hB0.size)|exact hB0.trans (hcur.drew.mono hB0.size));rintro e w1 ⟨rfl,hb1⟩;have hcur:Below w0.heap.size w0 w1:=(by first|exact hcur.trans (hb1.mono hcur.size)|exact hcur.drew.trans (hb1.mono hcur.size));have e0:=(hcur.cell (p:=⟨w.heap.size,0,none⟩) hk).trans k0;have e1:=(hcur.cell (p:=⟨w.heap.size,1,none⟩) hk).trans k1;have e2:=(hcur.cell (p:=⟨w.heap.size,2,none⟩) hk).trans k2;have e3:=(hcur.cell (p:=⟨w.heap.size,3,none⟩) hk).trans k3;have e4:=(hcur.cell (p:=⟨w.heap.size,4,none⟩) hk).trans k4;have e5:=(hcur.cell (p:=⟨w.heap.size,5,none⟩) hk).trans k5;have e6:=(hcur.cell (p:=⟨w.heap.size,6,none⟩) hk).trans k6;have e7:=(hcur.cell (p:=⟨w.heap.size,7,none⟩) hk).trans k7;have e8:=(hcur.cell (p:=⟨w.heap.size,8,none⟩) hk).trans k8))
 all_goals
  go_wp2_with fail;go_ret2;exact ⟨congrArg (fun b=>Ending.returned (.tuple #[.string b,.int .i64 0])) HR.out,hB0.trans (hcur.mono hB0.size)⟩
theorem quoted_ab:quoted ⟨#[97,98]⟩=[34,97,98,34]:=by kernel_rfl
theorem itoa_0:Lib.itoa 0=[48]:=by simp [Lib.itoa,Lib.decDigits]
theorem itoa_1:Lib.itoa 1=[49]:=by simp [Lib.itoa,Lib.decDigits]
theorem line_ab:idB 1 1++[32]++insB 0 ⟨#[97,98]⟩=[49,46,49,32,105,110,115,32,48,32,34,97,98,34]:=by
 unfold idB insB;rw [if_neg (by decide),itoa_0,itoa_1,quoted_ab];rfl
theorem own_ab (total:Int) (h:total=0):opCheck ⟨1,1,1,0,⟨#[97,98]⟩,[],0,0,false⟩ total=0:=by
 subst h;rw [opCheck_ins (by decide) (.inr rfl)];simp only [insP,check_ab];rw [if_neg (by decide),if_neg (by decide),if_neg (by decide),if_neg (by decide),if_neg (by decide)]
theorem own_ab2:ownP ⟨1,1,1,0,⟨#[97,98]⟩,[],0,0,false⟩=0:=by
 unfold ownP;rw [if_pos (by decide)];exact own_ab 0 rfl
theorem opFixed_any (w:World) (hw:Bar w) (hp:Pow w) (hd:Deb w):Calls Tryz.prog 6 #[] w fun e w'=>e=.returned (.bool true)∧Below w.heap.size w w':=by
 have HC:Hid (∀ w':World,Below w.heap.size w w'→Calls Tryz.prog 18 #[opVal ⟨1,1,1,0,⟨#[97,98]⟩,[],0,0,false⟩ (.slice none 0 0),.int .i64 0] w' fun e w''=>e=.returned (.int .i64 0)∧Below w'.heap.size w' w''):=fun w' hb=>by
  have h:=opCheck_any (o:=⟨1,1,1,0,⟨#[97,98]⟩,[],0,0,false⟩) (total:=0) (rng_nil w') (Nat.le_of_ble_eq_true rfl) (hw.below hb);rw [own_ab 0 rfl] at h;exact h
 have HD:Hid (∀ w':World,Below w.heap.size w w'→Calls Tryz.prog 19 #[opVal ⟨1,1,1,0,⟨#[97,98]⟩,[],0,0,false⟩ (.slice none 0 0)] w' fun e w''=>e=.returned (.int .i64 2)∧Below w'.heap.size w' w''):=fun w' hb=>by
  have h:=width_any (o:=⟨1,1,1,0,⟨#[97,98]⟩,[],0,0,false⟩) (v:=.slice none 0 0) (w:=w') (Nat.le_of_ble_eq_true rfl) (hw.below hb);have e:widthP ⟨1,1,1,0,⟨#[97,98]⟩,[],0,0,false⟩=2:=by unfold widthP;rw [if_pos rfl];simp only [check_ab]
  rw [e] at h;exact h
 have HP:Hid (∀ w':World,Below w.heap.size w w'→Calls Tryz.prog 20 #[opVal ⟨1,1,1,0,⟨#[97,98]⟩,[],0,0,false⟩ (.slice none 0 0)] w' fun e w''=>e=.returned (.tuple #[.string ⟨#[49,46,49,32,105,110,115,32,48,32,34,97,98,34]⟩,.int .i64 0])∧Below w'.heap.size w' w''):=fun w' hb=>by
  have h:=print_ins (c:=1) (n:=1) (p:=0) (s:=⟨#[97,98]⟩) (.inr rfl) (by decide) (by decide) (Nat.le_of_ble_eq_true rfl) (by rw [quoted_ab];exact Nat.le_of_ble_eq_true rfl) own_ab2 w' (hw.below hb) (hp.below hb) (hd.below hb);rw [line_ab] at h;exact h
 clear hw hp hd;simp only [opVal] at *;have hw2:=(bE w.heap.size w).alloc (lR _) (Obj.cells #[.int .i64 1,.int .i64 1,.int .i64 1,.int .i64 0,.string ⟨#[97,98]⟩,.slice none 0 0,.int .i64 0,.int .i64 0,.bool false] 44);go_enter Tryz.func6,Tryz.ntmps6;go_wp2_with fail;refine (HC.out _ hw2).mono ?_;rintro e w1 ⟨rfl,hb1⟩;have hB1:=hw2.trans (hb1.mono hw2.size);have d0:w1.cell? ⟨w.heap.size,0,none⟩=some (.int .i64 1):=(hb1.cell (p:=⟨w.heap.size,0,none⟩) (by simp)).trans (cM ..);have d1:w1.cell? ⟨w.heap.size,1,none⟩=some (.int .i64 1):=(hb1.cell (p:=⟨w.heap.size,1,none⟩) (by simp)).trans (cM ..);have d2:w1.cell? ⟨w.heap.size,2,none⟩=some (.int .i64 1):=(hb1.cell (p:=⟨w.heap.size,2,none⟩) (by simp)).trans (cM ..);have d3:w1.cell? ⟨w.heap.size,3,none⟩=some (.int .i64 0):=(hb1.cell (p:=⟨w.heap.size,3,none⟩) (by simp)).trans (cM ..);have d4:w1.cell? ⟨w.heap.size,4,none⟩=some (.string ⟨#[97,98]⟩):=(hb1.cell (p:=⟨w.heap.size,4,none⟩) (by simp)).trans (cM ..);have d5:w1.cell? ⟨w.heap.size,5,none⟩=some (.slice none 0 0):=(hb1.cell (p:=⟨w.heap.size,5,none⟩) (by simp)).trans (cM ..);have d6:w1.cell? ⟨w.heap.size,6,none⟩=some (.int .i64 0):=(hb1.cell (p:=⟨w.heap.size,6,none⟩) (by simp)).trans (cM ..);have d7:w1.cell? ⟨w.heap.size,7,none⟩=some (.int .i64 0):=(hb1.cell (p:=⟨w.heap.size,7,none⟩) (by simp)).trans (cM ..);have d8:w1.cell? ⟨w.heap.size,8,none⟩=some (.bool false):=(hb1.cell (p:=⟨w.heap.size,8,none⟩) (by simp)).trans (cM ..);go_wp2_with fail;refine (HD.out _ hB1).mono ?_;rintro e w2 ⟨rfl,hb2⟩;have hB2:=hB1.trans (hb2.mono hB1.size);have hc2:=hb1.trans (hb2.mono hb1.size);have f0:w2.cell? ⟨w.heap.size,0,none⟩=some (.int .i64 1):=(hc2.cell (p:=⟨w.heap.size,0,none⟩) (by simp)).trans (cM ..);have f1:w2.cell? ⟨w.heap.size,1,none⟩=some (.int .i64 1):=(hc2.cell (p:=⟨w.heap.size,1,none⟩) (by simp)).trans (cM ..);have f2:w2.cell? ⟨w.heap.size,2,none⟩=some (.int .i64 1):=(hc2.cell (p:=⟨w.heap.size,2,none⟩) (by simp)).trans (cM ..);have f3:w2.cell? ⟨w.heap.size,3,none⟩=some (.int .i64 0):=(hc2.cell (p:=⟨w.heap.size,3,none⟩) (by simp)).trans (cM ..);have f4:w2.cell? ⟨w.heap.size,4,none⟩=some (.string ⟨#[97,98]⟩):=(hc2.cell (p:=⟨w.heap.size,4,none⟩) (by simp)).trans (cM ..);have f5:w2.cell? ⟨w.heap.size,5,none⟩=some (.slice none 0 0):=(hc2.cell (p:=⟨w.heap.size,5,none⟩) (by simp)).trans (cM ..);have f6:w2.cell? ⟨w.heap.size,6,none⟩=some (.int .i64 0):=(hc2.cell (p:=⟨w.heap.size,6,none⟩) (by simp)).trans (cM ..);have f7:w2.cell? ⟨w.heap.size,7,none⟩=some (.int .i64 0):=(hc2.cell (p:=⟨w.heap.size,7,none⟩) (by simp)).trans (cM ..);have f8:w2.cell? ⟨w.heap.size,8,none⟩=some (.bool false):=(hc2.cell (p:=⟨w.heap.size,8,none⟩) (by simp)).trans (cM ..);clear d0 d1 d2 d3 d4 d5 d6 d7 d8;go_wp2_with fail;refine (HP.out _ hB2).mono ?_;rintro e w3 ⟨rfl,hb3⟩;have hB3:=hB2.trans (hb3.mono hB2.size);go_wp2_with fail;go_ret;exact ⟨rfl,hB3⟩
end Go.Proofs.YtijpfbcippijoaaGreatDoor
