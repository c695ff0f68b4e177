import Derived.Test.YtijpfbcippijoaaGreatDoorAl
import Derived.Test.YtijpfbcippijoaaGreatDoorGr137
import Derived.Test.YtijpfbcippijoaaGreatDoorGr145
import Derived.Test.YtijpfbcippijoaaGreatDoorGr120
import Derived.Test.YtijpfbcippijoaaGreatDoorGr144
import Derived.Test.YtijpfbcippijoaaGreatDoorGr141
import Derived.Sort.QuietIn
import Derived.Lib.QuietBelowIn
set_option maxHeartbeats 1000000
set_option maxRecDepth 100000
namespace Go.Proofs.YtijpfbcippijoaaGreatDoor
abbrev RunSt:=List (List Int×Int)×List Int×Int
def cst (s:RunSt) (c:Int×Int):RunSt:=if s.2.1≠[]∧c.2≠s.2.2 then (s.1++[(s.2.1,s.2.2)],[c.1],c.2) else (s.1,s.2.1++[c.1],c.2)
def cstR (R:List (Int×Int)):RunSt:=R.foldl cst ([],[],0)
def runsOfRow (R:List (Int×Int)):List (List Int×Int):=if (cstR R).2.1=[] then (cstR R).1 else (cstR R).1++[((cstR R).2.1,(cstR R).2.2)]
def stp (s:RunSt) (y:Int×List Int×Int):RunSt:=if 0<y.1∧y.2.2≠s.2.2 then (s.1++[(s.2.1,s.2.2)],y.2.1,y.2.2) else (s.1,s.2.1++y.2.1,y.2.2)
theorem cst_same (h:Int):∀ (rs:List Int) (D:List (List Int×Int)) (cur:List Int),cur≠[]→(rs.map fun c=>(c,h)).foldl cst (D,cur,h)=(D,cur++rs,h)
 | [],D,cur,_=>by simp
 | r::rs,D,cur,hc=>by
  have e:cst (D,cur,h) (r,h)=(D,cur++[r],h):=by unfold cst;rw [if_neg (by simp)]
  rw [List.map_cons,List.foldl_cons,e,cst_same h rs D (cur++[r]) (by simp)];simp
theorem cst_piece (s:RunSt) (rs:List Int) (h:Int) (hr:rs≠[]):(rs.map fun c=>(c,h)).foldl cst s=if s.2.1≠[]∧h≠s.2.2 then (s.1++[(s.2.1,s.2.2)],rs,h) else (s.1,s.2.1++rs,h):=by
 cases rs with
 | nil=>exact absurd rfl hr
 | cons r rs =>
  rw [List.map_cons,List.foldl_cons];by_cases c:s.2.1≠[]∧h≠s.2.2
  ·have e:cst s (r,h)=(s.1++[(s.2.1,s.2.2)],[r],h):=by unfold cst;rw [if_pos c]
   rw [e,if_pos c,cst_same h rs _ [r] (by simp)];simp
  ·have e:cst s (r,h)=(s.1,s.2.1++[r],h):=by unfold cst;rw [if_neg c]
   rw [e,if_neg c,cst_same h rs _ (s.2.1++[r]) (by simp)];simp
def pls:List (List Int×Int)→Int→List (Int×List Int×Int)
 | [],_=>[]
 | p::t,f=>(f,p.1,p.2)::pls t (f+p.1.length)
theorem gv_whole:∀ (l:List (List Int×Int)) (f hi:Int),(∀ p∈l,p.1≠[])→0≤f→f+(rowOf l).length≤hi→gv l f 0 hi=pls l f
 | [],_,_,_,_,_=>rfl
 | p::t,f,hi,hp,h0,h1=>by
  have e:((rowOf (p::t)).length:Int)=p.1.length+(rowOf t).length:=by rw [rowOf_cons,List.length_append,List.length_map];omega
  have hne:=List.length_pos_iff.2 (hp p (by simp));rw [e] at h1;simp only [gv,pls];rw [gv_whole t (f+p.1.length) hi (fun q hq=>hp q (by simp [hq])) (by omega) (by omega)];have m1:max 0 f=f:=by omega
  have m2:min hi (f+(p.1.length:Int))=f+(p.1.length:Int):=by omega
  unfold one;rw [m1,m2,if_pos (by omega)];have e2:(f+(p.1.length:Int)-f).toNat=p.1.length:=by omega
  have e3:(f-f).toNat=0:=by omega
  rw [e2,e3,List.take_length,List.drop_zero];rfl
theorem stp_cells:∀ (l:List (List Int×Int)) (f:Int) (s:RunSt),(∀ p∈l,p.1≠[])→0≤f→(0<f↔s.2.1≠[])→(pls l f).foldl stp s=(rowOf l).foldl cst s
 | [],_,_,_,_,_=>by simp [pls,rowOf]
 | p::t,f,s,hp,h0,hf=>by
  have hne:=hp p (by simp);have hpos:=List.length_pos_iff.2 hne;have e:stp s (f,p.1,p.2)=(p.1.map fun c=>(c,p.2)).foldl cst s:=by
   rw [cst_piece s p.1 p.2 hne];unfold stp;simp only [hf]
  rw [pls,List.foldl_cons,rowOf_cons,List.foldl_append,e];refine stp_cells t _ _ (fun q hq=>hp q (by simp [hq])) (by omega) ?_;rw [cst_piece s p.1 p.2 hne];refine ⟨fun _=>?_,fun _=>by omega⟩;split
  ·exact hne
  ·simp only;intro e2;exact hne (List.append_eq_nil_iff.1 e2).2
def Alt:List (List Int×Int)→Prop
 | []=>True
 | [_]=>True
 | p::q::t=>p.2≠q.2∧Alt (q::t)
theorem alt_snoc:∀ (l:List (List Int×Int)) (q:List Int×Int),Alt (l++[q])↔Alt l∧∀ p,l.getLast?=some p→p.2≠q.2
 | [],q=>by simp [Alt]
 | [p],q=>by simp [Alt]
 | p::r::t,q=>by
  have ih:=alt_snoc (r::t) q;show (p.2≠r.2∧Alt ((r::t)++[q]))↔_;rw [ih];simp only [Alt,List.getLast?_cons_cons];constructor
  ·rintro ⟨a,b,c⟩;exact ⟨⟨a,b⟩,c⟩
  ·rintro ⟨⟨a,b⟩,c⟩;exact ⟨a,b,c⟩
theorem alt_of:∀ {l:List (List Int×Int)},(∀ (j:Nat) x y,l[j]?=some x→l[j+1]?=some y→x.2≠y.2)→Alt l
 | [],_=>trivial
 | [_],_=>trivial
 | p::q::t,h=>⟨h 0 p q rfl rfl,alt_of fun j x y hx hy=>h (j+1) x y (by simpa using hx) (by simpa using hy)⟩
def fin (s:RunSt):List (List Int×Int):=if s.2.1=[] then s.1 else s.1++[(s.2.1,s.2.2)]
theorem runs_fin (R:List (Int×Int)):runsOfRow R=fin (cstR R):=rfl
structure FinOk (s:RunSt):Prop where
 none_:s.2.1=[]→s.1=[]
 some_:∀ p∈fin s,p.1≠[]
 alt:Alt (fin s)
theorem fin_cst {s:RunSt} (h:FinOk s) (c:Int×Int):FinOk (cst s c)∧rowOf (fin (cst s c))=rowOf (fin s)++[c]:=by
 obtain ⟨D,cur,k⟩:=s;have r1:∀ (l:List Int) (k:Int),rowOf [(l,k)]=l.map fun c=>(c,k):=fun l k=>by simp [rowOf]
 by_cases h0:cur=[]
 ·subst h0;have hD:=h.none_ rfl;simp only at hD;subst hD;have e:cst ([],[],k) c=([],[c.1],c.2):=by unfold cst;rw [if_neg (by simp)];rfl
  rw [e];refine ⟨⟨fun e=>by simp at e,fun p hp=>?_,?_⟩,?_⟩
  ·simp [fin] at hp;subst hp;simp
  ·simp [fin,Alt]
  ·simp [fin,rowOf]
 ·have hf:fin (D,cur,k)=D++[(cur,k)]:=by unfold fin;rw [if_neg h0]
  have hs:=h.some_;have ha:=h.alt;rw [hf] at hs ha ⊢;by_cases h1:c.2=k
  ·have e:cst (D,cur,k) c=(D,cur++[c.1],c.2):=by unfold cst;rw [if_neg (by simp [h1])]
   have hf2:fin (D,cur++[c.1],c.2)=D++[(cur++[c.1],c.2)]:=by unfold fin;rw [if_neg (by simp)]
   rw [e];refine ⟨⟨fun e=>by simp at e,fun p hp=>?_,?_⟩,?_⟩
   ·rw [hf2] at hp;rcases List.mem_append.1 hp with hp|hp
    ·exact hs p (List.mem_append_left _ hp)
    ·simp at hp;subst hp;simp
   ·rw [hf2,alt_snoc];rw [alt_snoc] at ha;exact ⟨ha.1,fun p hp=>by rw [h1];exact ha.2 p hp⟩
   ·rw [hf2,rowOf_append,rowOf_append,r1,r1,List.map_append,h1];simp [← h1]
  ·have e:cst (D,cur,k) c=(D++[(cur,k)],[c.1],c.2):=by unfold cst;rw [if_pos ⟨h0,h1⟩]
   have hf2:fin (D++[(cur,k)],[c.1],c.2)=D++[(cur,k)]++[([c.1],c.2)]:=by unfold fin;rw [if_neg (by simp)]
   rw [e];refine ⟨⟨fun e=>by simp at e,fun p hp=>?_,?_⟩,?_⟩
   ·rw [hf2] at hp;rcases List.mem_append.1 hp with hp|hp
    ·exact hs p hp
    ·simp at hp;subst hp;simp
   ·rw [hf2,alt_snoc];refine ⟨ha,fun p hp=>?_⟩;rw [List.getLast?_append] at hp;simp at hp;subst hp;exact fun e=>h1 e.symm
   ·rw [hf2,rowOf_append,r1];simp
theorem fin_all:∀ (R:List (Int×Int)) {s:RunSt},FinOk s→FinOk (R.foldl cst s)∧rowOf (fin (R.foldl cst s))=rowOf (fin s)++R
 | [],s,h=>⟨h,by simp⟩
 | c::R,s,h=>by
  obtain ⟨h1,h2⟩:=fin_cst h c;obtain ⟨h3,h4⟩:=fin_all R h1;exact ⟨h3,by rw [List.foldl_cons,h4,h2];simp⟩
theorem fin_nil:FinOk ([],[],0):=⟨fun _=>rfl,fun p hp=>by simp [fin] at hp,trivial⟩
theorem runs_row (R:List (Int×Int)):rowOf (runsOfRow R)=R:=by
 rw [runs_fin];exact (fin_all R fin_nil).2
theorem runs_some (R:List (Int×Int)):∀ p∈runsOfRow R,p.1≠[]:=by
 rw [runs_fin];exact (fin_all R fin_nil).1.some_
theorem stp_fin:∀ (l:List (List Int×Int)) (f:Int) (s:RunSt),(∀ p∈l,p.1≠[])→0<f→s.2.1≠[]→Alt ((s.2.1,s.2.2)::l)→fin ((pls l f).foldl stp s)=fin s++l
 | [],_,_,_,_,_,_=>by simp [pls]
 | p::t,f,s,hp,h0,hs,ha=>by
  have hne:=hp p (by simp);have e:stp s (f,p.1,p.2)=(s.1++[(s.2.1,s.2.2)],p.1,p.2):=by unfold stp;rw [if_pos ⟨h0,fun e=>ha.1 e.symm⟩]
  rw [pls,List.foldl_cons,e,stp_fin t _ _ (fun q hq=>hp q (by simp [hq])) (by omega) hne ha.2];unfold fin;rw [if_neg hne,if_neg hs];simp
theorem runs_of {l:List (List Int×Int)} (hp:∀ p∈l,p.1≠[]) (ha:Alt l):runsOfRow (rowOf l)=l:=by
 cases l with
 | nil=>simp [runsOfRow,cstR,rowOf]
 | cons p t =>
  have hne:=hp p (by simp);have hpos:=List.length_pos_iff.2 hne;have e0:cstR (rowOf (p::t))=(pls (p::t) 0).foldl stp ([],[],0):=(stp_cells (p::t) 0 ([],[],0) hp (Int.le_refl _) (by simp)).symm;have e1:stp ([],[],0) (0,p.1,p.2)=([],p.1,p.2):=by unfold stp;rw [if_neg (by simp)];rfl
  rw [pls,List.foldl_cons,e1] at e0;rw [runs_fin,e0,stp_fin t _ _ (fun q hq=>hp q (by simp [hq])) (by omega) hne ha];unfold fin;rw [if_neg hne];rfl
end Go.Proofs.YtijpfbcippijoaaGreatDoor
namespace Go.Proofs.YtijpfbcippijoaaGreatDoor
open Go.RowKit Go.Lib
theorem isBuilderF_parts {B b:Nat} {bs:List Value} {w:World} (h:Lib.IsBuilderF 87 5 B b bs w):B≤b∧∃ p a cap,w.heap[b]?=some (.cells #[p,.slice a bs.length cap] 87 (0,0))∧w.ownsRowF B 5 1 (.slice a bs.length cap) bs.length bs:=by
 have key:∀ p,Lib.BuilderAtF 87 5 B b p bs w→B≤b∧∃ p a cap,w.heap[b]?=some (.cells #[p,.slice a bs.length cap] 87 (0,0))∧w.ownsRowF B 5 1 (.slice a bs.length cap) bs.length bs:=fun p ⟨hB,v,hb,ho,_⟩=>by
  rcases ho.2 with ⟨e,h0⟩|⟨g,cap,cur,fz,e,_⟩
  ·subst e;refine ⟨hB,p,none,0,?_,?_⟩
   ·rw [h0];exact hb
   ·rw [h0] at ho ⊢;exact ho
  ·subst e;exact ⟨hB,p,_,cap,hb,ho⟩
 rcases h with h|h
 ·exact key _ h
 ·exact key _ h
theorem builderLen_any {B b:Nat} {bs:List Value} {w:World} (h:Lib.IsBuilderF 87 5 B b bs w) :
  Calls Tryz.prog 34 #[.pointer (some ⟨b,0,none⟩)] w fun e w'=>e=.returned (.int .i64 (bs.length:Int))∧w'=w:=by
 obtain ⟨_,p,a,cap,hb,_⟩:=isBuilderF_parts h;have c1:w.cell? ⟨b,1,none⟩=some (.slice a bs.length cap):=by rw [cH hb];rfl
 clear h hb;go_enter Tryz.func34,Tryz.ntmps34;go_wp2_with fail;go_ret;exact ⟨rfl,rfl⟩
theorem two_getF {w:World} {b:Nat} {u v x y:Value} {T:TypeId} {fz:Nat×Nat} (h:w.heap[b]?=some (.cells #[x,y] T fz)):((w.setCell ⟨b,0,none⟩ u).setCell ⟨b,1,none⟩ v).heap[b]?=some (.cells #[u,v] T fz):=by
 simp only [World.setCell,Array.getElem?_modify,h,if_true,Option.map_some];rfl
theorem builderReset_any {B b:Nat} {bs:List Value} {w:World} (h:Lib.IsBuilderF 87 5 B b bs w) :
  Calls Tryz.prog 32 #[.pointer (some ⟨b,0,none⟩)] w fun e w'=>(∃ v,e=.returned v)∧Lib.IsBuilderF 87 5 B b [] w'∧Below B w w'∧Lib.OthersKept 5 (some b) w w':=by
 obtain ⟨hB,p,a,cap,hb,_⟩:=isBuilderF_parts h;have c0:w.cell? ⟨b,0,none⟩=some p:=by rw [cH hb];rfl
 have c1:w.cell? ⟨b,1,none⟩=some (.slice a bs.length cap):=by rw [cH hb];rfl
 have f0:w.frozen? ⟨b,0,none⟩=false:=Lib.frozen_of_heap hb 0;have f1:w.frozen? ⟨b,1,none⟩=false:=Lib.frozen_of_heap hb 1;have hg:=two_getF (u:=.pointer none) (v:=.slice none 0 0) hb;have hb2:Below B w ((w.setCell ⟨b,0,none⟩ (.pointer none)).setCell ⟨b,1,none⟩ (.slice none 0 0)):=((bE B w).setCell (p:=⟨b,0,none⟩) hB _).setCell (p:=⟨b,1,none⟩) hB _;have ho2:Lib.OthersKept 5 (some b) w ((w.setCell ⟨b,0,none⟩ (.pointer none)).setCell ⟨b,1,none⟩ (.slice none 0 0)):=((Lib.OthersKept.refl _ _ w).setCell ⟨b,0,none⟩ rfl _).setCell ⟨b,1,none⟩ rfl _;clear h hb;go_enter Tryz.func32,Tryz.ntmps32;go_wp2_with fail;go_end0;exact ⟨⟨_,rfl⟩,.inl ⟨hB,_,hg,World.ownsRowF_nil _ _ _ _,by simp [Value.ownBlock]⟩,hb2,ho2⟩
def plainOp (o:Oper):Bool:=match o.op with
 | .defer _=>false
 | _=>true
theorem plainOp_ne {o:Oper} (h:plainOp o=true):∀ c,o.op≠.defer c:=fun c e=>by
 unfold plainOp at h;rw [e] at h;cases h
end Go.Proofs.YtijpfbcippijoaaGreatDoor
namespace Go.Proofs.YtijpfbcippijoaaGreatDoor
open Go.RowKit Go.Lib Go.Shelf Go.Sort
theorem set_box {W:World} {b:Nat} {T:TypeId} {u:Value} (h:W.heap[b]?=some (.cells #[u] T)) (x:Value):(W.setCell ⟨b,0,none⟩ x).heap[b]?=some (.cells #[x] T)∧W.grownBy (W.setCell ⟨b,0,none⟩ x) (some b):=by
 refine ⟨?_,rfl,rfl,rfl,by simp [World.setCell],fun k hk hne=>Below.heap_setCell _ _ _ _ (fun e=>hne (by rw [e]))⟩;unfold World.setCell;simp [Array.getElem?_modify,h]
theorem builder_other {B b:Nat} {bs:List Value} {A C:World} {row:Option Nat} (h:Lib.IsBuilderF 87 5 B b bs A) (hg:A.grownBy C row) (hr:∀ r,row=some r→r≠b∧∀ cs fz,A.heap[r]?≠some (.cells cs 5 fz)):Lib.IsBuilderF 87 5 B b bs C:=by
 have key:∀ p,Lib.BuilderAtF 87 5 B b p bs A→Lib.BuilderAtF 87 5 B b p bs C:=fun p ⟨hB,v,hb,hown,hne⟩=>by
  refine ⟨hB,v,(hg.block b (gA hb) (fun e=>(hr b e.symm).1 rfl)).trans hb,hown.kept hg ?_,hne⟩;by_cases e:v.ownBlock=row
  ·left;cases row with
   | none=>exact e
   | some r =>
    obtain ⟨c,fz,hh⟩:=Lib.ownsRowF_kind hown r e;exact absurd hh ((hr r rfl).2 c fz)
  ·exact .inr e
 exact h.elim (fun x=>.inl (key _ x)) (fun x=>.inr (key _ x))
section
variable {α : Type} {f : α → List Value} {k : Nat} {T : TypeId}
theorem ownF_type {w:World} {B:Nat} {v:Value} {l:List α} (h:OwnF f k T w B v l) {g:Nat} (hg:v.ownBlock=some g):∃ cs fz,w.heap[g]?=some (.cells cs T fz):=by
 rcases h.2 with ⟨rfl,_⟩|⟨g',cap,cur,rfl,hB,hh,_⟩
 ·simp [Value.ownBlock] at hg
 ·simp [Value.ownBlock] at hg;subst hg;exact ⟨_,_,hh⟩
theorem ownF_keep {w w':World} {B:Nat} {v:Value} {l:List α} (h:OwnF f k T w B v l) (hk:∀ g,v.ownBlock=some g→w'.heap[g]?=w.heap[g]?):OwnF f k T w' B v l:=by
 refine ⟨h.1,?_⟩;rcases h.2 with h0|⟨g,cap,cur,e,h1,hh,rest⟩
 ·exact .inl h0
 ·exact .inr ⟨g,cap,cur,e,h1,(hk g (by rw [e];rfl)).trans hh,rest⟩
theorem ownF_grown {w w':World} {B:Nat} {v:Value} {l:List α} {row:Option Nat} (h:OwnF f k T w B v l) (hg:w.grownBy w' row) (hne:v.ownBlock=none∨v.ownBlock≠row):OwnF f k T w' B v l :=
 ownF_keep h (fun g e=>hg.block g (h.lt e) (fun e2=>by
  rcases hne with h0|h0
  ·rw [h0] at e;cases e
  ·exact h0 (e.trans e2)))
theorem ownF_others {w w':World} {B b:Nat} {v:Value} {l:List α} (h:OwnF f k T w B v l) (ho:Lib.OthersKept 5 (some b) w w') (hb:b<B) (hT:T≠5):OwnF f k T w' B v l :=
 ownF_keep h (fun g e=>by
  obtain ⟨cs,fz,hh⟩:=ownF_type h e
  have:=h.ge e
  rw [hh]
  exact ho g _ hh (fun e2=>by cases e2;omega) (fun c fz2 e2=>by cases e2;exact hT rfl))
end
theorem wpIn_append_hr {F:Fence} {n:Nat} {P:Program} {w:World} {o:Oper} {a:Act} {K:Act→World→Prop} {Q:Exit→Act→World→Prop} (s x:Operand) (t:TypeId) (d:Option Nat) (hd:o.dst=d)
  (ho:o.op=.call { callee:=.builtin .append,args:=#[s,x],argTypes:=#[t,t] }) (v u:Value) (hs:a.eval s=v) (hx:a.eval x=u) {v':Value} {w':World}
  (hr:(Builtin.append_ #[t,t] o.type #[v,u]).run P w=.ok v' w') (h:K (a.put d v') w'):Oper.wpIn F n P o a w K Q:=by
 subst hd;unfold Oper.wpIn;refine ⟨?_,?_⟩
 ·simp [Oper.about,ho,resolve,Target.leads,Sem.run_pure]
 ·rw [Oper.semAt_plain F _ _ (by rw [ho];intro c hc';cases hc')];simp [execOp,ho,resolve,invoke,builtin,hs,hx,hr,Result.andThen];exact h
section
variable {F : Fence} {n : Nat} {P : Program} {ops : Array Oper} {C : World → Prop}
theorem quietOp_round {o:Oper} {a:Act} {K:Act→Prop} {K':Act→World→Prop} {Q':Exit→Act→World→Prop} {w:World} (hp:plainOp o=true) (hw:C w) (h:∀ a w',C w'→K a→K' a w')
  (ha:o.askedIn F P a C) (hh:o.quietIn F n P a C K):o.wpIn F n P a w K' Q':=by
 obtain ⟨v,h1,h2⟩:=hh;refine ⟨ha w hw,?_⟩;have h3:=h1 w hw;rw [Oper.semAt_eq _ _ _ (plainOp_ne hp)];unfold Oper.quietAtIn at h3;revert h3;generalize (execOp a.eval o).run P w=r;intro h3;cases r with
 | halt x w'=>exact h3.elim
 | ok x w' =>
  cases x with
  | value u=>obtain ⟨rfl,rfl⟩:=h3;exact h _ _ hw h2
  | skip=>obtain ⟨rfl,rfl⟩:=h3;exact h _ _ hw h2
  | enter f args =>
   obtain ⟨rfl,hd,hc⟩:=h3;refine ⟨hd,hc.mono ?_⟩;rintro e w'' ⟨rfl,hw''⟩;exact h _ _ hw'' h2
  | _=>exact h3.elim
theorem quietAny_round {Q:Act→Prop} {Q':Exit→Act→World→Prop} (hp:∀ (i:Nat) o,ops[i]?=some o→plainOp o=true) (hQ:∀ a w,C w→Q a→Q' .normal a w):∀ (fuel:Nat) (listed:Array Bool) (a:Act) (w:World),C w →
  wpAnyQIn F n P .any ops C Q fuel listed a→wpAnyIn F n P .any ops Q' fuel listed a w
 | 0,_,_,_,hw,h=>⟨h.1,hQ _ _ hw h.2⟩
 | fuel+1,listed,a,w,hw,h=>by
  refine ⟨fun h0=>hQ _ _ hw (h.1 h0),fun i hi=>?_⟩;have hh:=h.2 i hi;have next:∀ a' w',C w'→wpAnyQIn F n P .any ops C Q fuel (listed.setIfInBounds i true) a'→wpAnyIn F n P .any ops Q' fuel (listed.setIfInBounds i true) a' w':=fun a' w' hw'=>quietAny_round hp hQ fuel _ a' w' hw'
  unfold qOpIn at hh;unfold wpOpIn;split
  ·rename_i ho;rw [ho] at hh;exact next _ _ hw hh
  ·rename_i o ho
   rw [ho] at hh;obtain ⟨ha,hh⟩:=hh;split
   ·rename_i hwt;rw [if_pos hwt] at hh;exact quietOp_round (hp i o ho) hw next ha hh
   ·rename_i hwt;rw [if_neg hwt] at hh;exact ⟨ha w hw,next _ _ hw hh⟩
theorem region_below_round {id:Nat} {Q:Exit→Act→World→Prop} {a:Act} {w:World} {l:List Oper} (hp:l.all plainOp=true) (hm:P.follows .mixedOrders=true) (hB:Region.lexB .any l.toArray=true)
  (h:wpQuietIn F n P l.toArray (fun w'=>∃ p:Regrown,w'=grow (redrawn w p.d) p.os) (fun a'=>∀ w',(∃ p:Regrown,w'=grow (redrawn w p.d) p.os)→Q .normal a' w') l a):(Code.region id l.toArray true).wpIn F n P Q a w:=by
 simp only [Region.lexB,Bool.and_eq_true] at hB;refine wpIn_region_any hm (quietAny_round (C:=fun w'=>∃ p:Regrown,w'=grow (redrawn w p.d) p.os) (Q:=fun a'=>∀ w',(∃ p:Regrown,w'=grow (redrawn w p.d) p.os)→Q .normal a' w') (fun i o ho=>?_) (fun _ w' hw' h=>h w' hw') _ _ _ _ ⟨⟨w.drawn+1,#[]⟩,by rw [grow_empty];rfl⟩ ?_)
 ·refine List.all_eq_true.1 hp o ?_;rw [List.getElem?_toArray] at ho;exact List.mem_of_getElem? ho
 ·have:=wpAnyQIn_lex (F:=F) (n:=n) (C:=fun w'=>∃ p:Regrown,w'=grow (redrawn w p.d) p.os) (md:=.any) hB.1 l.toArray.toList 0 (Array.replicate l.toArray.size false) a (by simp) (by simpa using hB.2) (by simpa using h);simpa using this
end
def stR (ys:List (Int×List Int×Int)):RunSt:=ys.foldl stp ([],[],0)
theorem stR_snoc (ys:List (Int×List Int×Int)) (y:Int×List Int×Int):stR (ys++[y])=stp (stR ys) y:=by simp [stR,List.foldl_append]
def lenG (ys:List (Int×List Int×Int)):Nat:=(ys.map fun y=>y.2.1.length).sum
theorem lenG_append (a b:List (Int×List Int×Int)):lenG (a++b)=lenG a+lenG b:=by simp [lenG]
theorem stp_len:∀ (ys:List (Int×List Int×Int)) (s:RunSt),(ys.foldl stp s).1.length≤s.1.length+ys.length∧(ys.foldl stp s).2.1.length≤s.2.1.length+lenG ys
 | [],s=>by simp [lenG]
 | y::ys,s=>by
  have ih:=stp_len ys (stp s y);have e:lenG (y::ys)=y.2.1.length+lenG ys:=by simp [lenG]
  rw [List.foldl_cons,e,List.length_cons];unfold stp at ih ⊢;split
  ·rename_i hc
   rw [if_pos hc] at ih;simp only [List.length_append,List.length_cons,List.length_nil] at ih;omega
  ·rename_i hc
   rw [if_neg hc] at ih;simp only [List.length_append] at ih;omega
theorem pls_len:∀ (l:List (List Int×Int)) (f:Int),(∀ p∈l,p.1≠[])→(pls l f).length≤(rowOf l).length∧lenG (pls l f)=(rowOf l).length
 | [],_,_=>by simp [pls,lenG,rowOf]
 | p::t,f,h=>by
  have ih:=pls_len t (f+p.1.length) (fun q hq=>h q (by simp [hq]));have hp:=List.length_pos_iff.2 (h p (by simp));have e:(rowOf (p::t)).length=p.1.length+(rowOf t).length:=by rw [rowOf_cons,List.length_append,List.length_map]
  have e2:lenG ((f,p.1,p.2)::pls t (f+p.1.length))=p.1.length+lenG (pls t (f+p.1.length)):=by simp [lenG]
  rw [pls,e,e2,List.length_cons];omega
theorem stR_bound {l:List (List Int×Int)} (h:∀ p∈l,p.1≠[]) {ys:List (Int×List Int×Int)} (hp:ys <+: pls l 0):(stR ys).1.length≤(rowOf l).length∧(stR ys).2.1.length≤(rowOf l).length:=by
 obtain ⟨m,hm⟩:=hp;have h1:=stp_len ys ([],[],0);have h2:=pls_len l 0 h;rw [← hm,lenG_append,List.length_append] at h2;unfold stR;simp only [List.length_nil,Nat.zero_add] at h1;omega
end Go.Proofs.YtijpfbcippijoaaGreatDoor
