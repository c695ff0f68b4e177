import Derived.Test.YtijpfbcippijoaaGreatDoorAl
import Derived.Test.YtijpfbcippijoaaGreatDoorGr134
import Derived.Test.YtijpfbcippijoaaGreatDoorGr111
set_option maxHeartbeats 2000000
set_option maxRecDepth 100000
namespace Go.Proofs.YtijpfbcippijoaaGreatDoor
def Fit (p q:List Int×Int):Prop:=p.2=q.2∧p.1.length+q.1.length≤32
instance (p q:List Int×Int):Decidable (Fit p q):=inferInstanceAs (Decidable (_∧_))
def NoFit:List (List Int×Int)→Prop
 | []=>True
 | [_]=>True
 | p::q::t=>¬ Fit p q∧NoFit (q::t)
structure Pcs (l:List (List Int×Int)):Prop where
 some_:∀ p∈l,p.1≠[]
 few:∀ p∈l,p.1.length≤32
 apart:NoFit l
theorem pcs_nil:Pcs []:=⟨fun p hp=>(by cases hp),fun p hp=>(by cases hp),trivial⟩
def Meet (l k:List (List Int×Int)):Prop:=∀ p q,l.getLast?=some p→k.head?=some q→¬ Fit p q
theorem noFit_append:∀ {l k:List (List Int×Int)},NoFit (l++k)↔NoFit l∧NoFit k∧Meet l k
 | [],k=>by simp [NoFit,Meet]
 | [p],k=>by
  cases k with
  | nil=>simp [NoFit,Meet]
  | cons q t =>
   simp only [List.cons_append,List.nil_append,NoFit,true_and,Meet];constructor
   ·rintro ⟨h1,h2⟩;refine ⟨h2,fun a b ha hb=>?_⟩;simp at ha hb;subst ha;subst hb;exact h1
   ·rintro ⟨h2,h3⟩;exact ⟨h3 p q rfl rfl,h2⟩
 | p::q::t,k=>by
  have ih:=noFit_append (l:=q::t) (k:=k);have e:Meet (p::q::t) k↔Meet (q::t) k:=by unfold Meet;simp [List.getLast?_cons_cons]
  simp only [List.cons_append,NoFit] at ih ⊢;rw [ih,e];constructor
  ·rintro ⟨a,b,c,d⟩;exact ⟨⟨a,b⟩,c,d⟩
  ·rintro ⟨⟨a,b⟩,c,d⟩;exact ⟨a,b,c,d⟩
theorem Pcs.append {l k:List (List Int×Int)} (hl:Pcs l) (hk:Pcs k) (hm:Meet l k):Pcs (l++k) :=
 ⟨fun p hp=>(List.mem_append.1 hp).elim (hl.some_ p) (hk.some_ p),fun p hp=>(List.mem_append.1 hp).elim (hl.few p) (hk.few p),noFit_append.2 ⟨hl.apart,hk.apart,hm⟩⟩
theorem Pcs.left {l k:List (List Int×Int)} (h:Pcs (l++k)):Pcs l:=⟨fun p hp=>h.some_ p (List.mem_append_left _ hp),fun p hp=>h.few p (List.mem_append_left _ hp),(noFit_append.1 h.apart).1⟩
theorem Pcs.right {l k:List (List Int×Int)} (h:Pcs (l++k)):Pcs k:=⟨fun p hp=>h.some_ p (List.mem_append_right _ hp),fun p hp=>h.few p (List.mem_append_right _ hp),(noFit_append.1 h.apart).2.1⟩
theorem Pcs.meet {l k:List (List Int×Int)} (h:Pcs (l++k)):Meet l k:=(noFit_append.1 h.apart).2.2
theorem fit_up (d:Int) (p q:List Int×Int):Fit (p.1,p.2+d) (q.1,q.2+d)↔Fit p q:=by unfold Fit;simp only;constructor<;>(rintro ⟨a,b⟩;exact ⟨by omega,b⟩)
theorem noFit_up (d:Int):∀ l:List (List Int×Int),NoFit (upP d l)↔NoFit l
 | []=>Iff.rfl
 | [_]=>Iff.rfl
 | p::q::t=>by
  have ih:=noFit_up d (q::t);simp only [upP,List.map_cons,NoFit] at ih ⊢;rw [ih,fit_up]
theorem Pcs.up {l:List (List Int×Int)} (h:Pcs l) (d:Int):Pcs (upP d l):=by
 refine ⟨fun p hp=>?_,fun p hp=>?_,(noFit_up d l).2 h.apart⟩
 ·obtain ⟨x,hx,rfl⟩:=List.mem_map.1 hp;exact h.some_ x hx
 ·obtain ⟨x,hx,rfl⟩:=List.mem_map.1 hp;exact h.few x hx
def glue (l k:List (List Int×Int)):List (List Int×Int) :=
 match l.getLast?,k with
 | some p,q::t=>if Fit p q then l.dropLast++(p.1++q.1,p.2)::t else l++q::t
 | _,_=>l++k
theorem glue_nil_left (k:List (List Int×Int)):glue [] k=k:=by simp [glue]
theorem glue_nil_right (l:List (List Int×Int)):glue l []=l:=by unfold glue;split<;>simp_all
theorem glue_meet {l k:List (List Int×Int)} (h:Meet l k):glue l k=l++k:=by
 unfold glue;split
 ·rename_i p q t hp
  rw [if_neg (h p q hp rfl)]
 ·rfl
theorem glue_fit (l:List (List Int×Int)) (p q:List Int×Int) (t:List (List Int×Int)) (h:Fit p q):glue (l++[p]) (q::t)=l++(p.1++q.1,p.2)::t:=by
 unfold glue;simp [h]
theorem rowOf_cons (p:List Int×Int) (t:List (List Int×Int)):rowOf (p::t)=(p.1.map fun c=>(c,p.2))++rowOf t:=by simp [rowOf]
theorem rowOf_glue (l k:List (List Int×Int)):rowOf (glue l k)=rowOf l++rowOf k:=by
 rcases List.eq_nil_or_concat l with rfl|⟨l0,p,rfl⟩
 ·rw [glue_nil_left];rfl
 ·rw [List.concat_eq_append];cases k with
  | nil=>rw [glue_nil_right];simp [rowOf]
  | cons q t =>
   by_cases h:Fit p q
   ·rw [glue_fit l0 p q t h,rowOf_append,rowOf_append,rowOf_cons,rowOf_cons,rowOf_cons];simp only [List.map_append,List.append_assoc];rw [h.1];simp [rowOf]
   ·rw [glue_meet,rowOf_append];intro a b ha hb;simp at ha hb;subst ha;subst hb;exact h
theorem Pcs.glue {l k:List (List Int×Int)} (hl:Pcs l) (hk:Pcs k):Pcs (glue l k):=by
 rcases List.eq_nil_or_concat l with rfl|⟨l0,p,rfl⟩
 ·rw [glue_nil_left];exact hk
 ·rw [List.concat_eq_append] at hl ⊢;cases k with
  | nil=>rw [glue_nil_right];exact hl
  | cons q t =>
   by_cases h:Fit p q
   ·rw [glue_fit l0 p q t h];have h1:Pcs (l0++[(p.1++q.1,p.2)]):=by
     refine Pcs.append hl.left ⟨fun x hx=>?_,fun x hx=>?_,trivial⟩ fun a b ha hb=>?_
     ·simp at hx;subst hx;have:=hl.some_ p (by simp);simp [this]
     ·simp at hx;subst hx;have:=h.2;simp only [List.length_append];omega
     ·simp at hb;subst hb;have:=hl.meet a p ha rfl;intro hf;refine this ⟨hf.1,?_⟩;have h2:=hf.2;simp only [List.length_append] at h2;omega
    have h2:Pcs ([q]++t):=hk;have h3:Pcs (l0++[(p.1++q.1,p.2)]++t):=by
     refine Pcs.append h1 h2.right fun a b ha hb=>?_
     simp at ha;subst ha;have:=h2.meet q b rfl hb;intro hf;refine this ⟨by have:=hf.1;have:=h.1;simp only at *;omega,?_⟩;have h4:=hf.2;simp only [List.length_append] at h4;omega
    simpa using h3
   ·rw [glue_meet]
    ·refine Pcs.append hl hk ?_;intro a b ha hb;simp at ha hb;subst ha;subst hb;exact h
    ·intro a b ha hb;simp at ha hb;subst ha;subst hb;exact h
theorem Tr.Wf.ends {t:Tr} (h:t.Wf):(∃ p k,t.lv=p::k∧t.sm.fc=p.1.length∧t.sm.fh=p.2)∧(∃ p k,t.lv=k++[p]∧t.sm.lc=p.1.length∧t.sm.lh=p.2):=by
 induction t with
 | nil=>exact h.elim
 | leaf rs hid st=>exact ⟨⟨(rs,hid),[],rfl,rfl,rfl⟩,⟨(rs,hid),[],rfl,rfl,rfl⟩⟩
 | node l r st ihl ihr =>
  obtain ⟨⟨p,k,e1,e2,e3⟩,_⟩:=ihl h.1;obtain ⟨_,⟨q,m,f1,f2,f3⟩⟩:=ihr h.2;refine ⟨⟨(p.1,p.2+st),upP st (k++r.lv),?_,?_,?_⟩,⟨(q.1,q.2+st),upP st (l.lv++m),?_,?_,?_⟩⟩
  ·simp [Tr.lv,e1,upP]
  ·simp only [Tr.sm,Sm.raised,Sm.both];exact e2
  ·simp only [Tr.sm,Sm.raised,Sm.both];omega
  ·simp [Tr.lv,f1,upP]
  ·simp only [Tr.sm,Sm.raised,Sm.both];exact f2
  ·simp only [Tr.sm,Sm.raised,Sm.both];omega
end Go.Proofs.YtijpfbcippijoaaGreatDoor
namespace Go.Proofs.YtijpfbcippijoaaGreatDoor
open Go.RowKit Go.Lib
section
variable {α : Type} {f : α → List Value} {k : Nat} {T : TypeId}
theorem OwnF.keep {w w':World} {B:Nat} {v:Value} {l:List α} (h:OwnF f k T w B v l) (hk:∀ g,v.ownBlock=some g→w'.heap[g]?=w.heap[g]?):OwnF f k T w' B v l:=by
 refine ⟨h.1,?_⟩;rcases h.2 with h0|⟨g,cap,cur,e,h1,hh,rest⟩
 ·exact .inl h0
 ·exact .inr ⟨g,cap,cur,e,h1,(hk g (by rw [e];rfl)).trans hh,rest⟩
theorem OwnF.notIter {w:World} {B K p:Nat} {s:ByteArray} {v:Value} {l:List α} (h:OwnF f k T w B v l) (hi:w.heap[K]?=some (.stringIter s p)):v.ownBlock≠some K:=by
 intro e;rcases h.2 with ⟨rfl,_⟩|⟨g,cap,cur,rfl,h1,hh,rest⟩
 ·simp [Value.ownBlock] at e
 ·simp only [Value.ownBlock,Option.some.injEq] at e;subst e;rw [hi] at hh;cases hh
end
theorem cellsOf_take_succ (L:List GRun) (i:Nat) (x:GRun) (hx:L[i]?=some x):cellsOf (L.take (i+1))=cellsOf (L.take i)++x.rs.map fun c=>(c,x.h):=by
 obtain ⟨hi,rfl⟩:=List.getElem?_eq_some_iff.1 hx;rw [List.take_succ_eq_append_getElem hi];unfold cellsOf;rw [List.flatMap_append];simp
theorem cellsOf_le (L:List GRun) (i:Nat) (x:GRun) (hx:L[i]?=some x):(cellsOf (L.take i)).length+x.rs.length≤(cellsOf L).length:=by
 have h1:=cellsOf_take_succ L i x hx;have h2:cellsOf L=cellsOf (L.take (i+1))++cellsOf (L.drop (i+1)):=by
  unfold cellsOf;rw [← List.flatMap_append,List.take_append_drop]
 rw [h2,h1];simp
def Sm.vals (s:Sm):Array Value:=#[.int .i64 s.cells,.int .i64 s.pieces,.int .i64 s.high,.int .i64 s.least,.int .i64 s.most,.int .i64 s.lowest,.int .i64 s.fc,.int .i64 s.fh,.int .i64 s.lc,.int .i64 s.lh]
def runeV (x:Int):List Value:=[.int .i32 x]
theorem layN:Lay runeV 1:=⟨fun _=>rfl,by decide,fun x u hu=>by simp [runeV] at hu;rcases hu with rfl;rfl⟩
def nodeCells (s:Sm) (rs l r:Value) (st:Int):Array Value:=#[.int .i64 s.cells,.int .i64 s.pieces,.int .i64 s.high,.int .i64 s.least,.int .i64 s.most,.int .i64 s.lowest,.int .i64 s.fc,.int .i64 s.fh,.int .i64 s.lc,.int .i64 s.lh,rs,l,r,.int .i64 st]
def NodeAt (w:World) (g:Nat) (s:Sm) (rs l r:Value) (st:Int):Prop:=w.heap[g]?=some (.cells (nodeCells s rs l r st) 96)
def TypN (w:World) (a:Option Addr) (n:Nat):Prop:=0<n→∀ g off,a=some ⟨g,off,none⟩→∃ cs fr,w.heap[g]?=some (.cells cs 21 fr)
structure RwN (w:World) (a:Option Addr) (n cap:Nat) (rs:List Int):Prop where
 rw_:Rw runeV 1 w a n cap rs
 typ:TypN w a n
theorem RwN.below {w w':World} {a:Option Addr} {n cap:Nat} {rs:List Int} (h:RwN w a n cap rs) (hb:Below w.heap.size w w'):RwN w' a n cap rs :=
 ⟨h.rw_.below hb,fun h0 g off e=>by
  obtain ⟨cs,fr,hh⟩:=h.typ h0 g off e
  exact ⟨cs,fr,(hb.block g (gA hh)).trans hh⟩⟩
theorem OwnF.rwn {w:World} {B n cap:Nat} {a:Option Addr} {rs:List Int} (h:OwnF runeV 1 21 w B (.slice a n cap) rs):RwN w a n cap rs:=by
 refine ⟨h.rw_ layN,fun h0 g off e=>?_⟩;rcases h.2 with ⟨e1,_⟩|⟨g',cap',cur,e1,_,hh,_⟩
 ·simp only [Value.slice.injEq] at e1;omega
 ·simp only [Value.slice.injEq] at e1;rw [e1.1] at e;simp at e;rw [← e.1];exact ⟨cur,_,hh⟩
def At (w:World):Tr→Nat→Prop
 | .nil,g=>NodeAt w g Tr.nil.sm (.slice none 0 0) (.pointer none) (.pointer none) 0
 | .leaf rs h st,g=>∃ a cap,NodeAt w g (Tr.leaf rs h st).sm (.slice a rs.length cap) (.pointer none) (.pointer none) st∧RwN w a rs.length cap rs
 | .node l r st,g=>∃ gl gr,NodeAt w g (Tr.node l r st).sm (.slice none 0 0) (.pointer (some ⟨gl,0,none⟩)) (.pointer (some ⟨gr,0,none⟩)) st∧At w l gl∧At w r gr
theorem NodeAt.lt {w:World} {g:Nat} {s:Sm} {rs l r:Value} {st:Int} (h:NodeAt w g s rs l r st):g<w.heap.size:=(gA h)
theorem NodeAt.below {w w':World} {g:Nat} {s:Sm} {rs l r:Value} {st:Int} (h:NodeAt w g s rs l r st) (hb:Below w.heap.size w w'):NodeAt w' g s rs l r st:=(hb.block g h.lt).trans h
theorem At.below {w w':World} (hb:Below w.heap.size w w'):∀ {t:Tr} {g:Nat},At w t g→At w' t g
 | .nil,_,h=>NodeAt.below h hb
 | .leaf _ _ _,_,⟨a,cap,h,hr⟩=>⟨a,cap,h.below hb,hr.below hb⟩
 | .node _ _ _,_,⟨gl,gr,h,hl,hr⟩=>⟨gl,gr,h.below hb,At.below hb hl,At.below hb hr⟩
theorem At.node {w:World} {t:Tr} {g:Nat} (h:At w t g):∃ (a:Option Addr) (n cap:Nat) (pl pr:Option Addr) (st:Int),NodeAt w g t.sm (.slice a n cap) (.pointer pl) (.pointer pr) st:=by
 cases t with
 | nil=>exact ⟨_,_,_,_,_,_,h⟩
 | leaf rs hid st=>obtain ⟨a,cap,h,_⟩:=h;exact ⟨_,_,_,_,_,_,h⟩
 | node l r st=>obtain ⟨gl,gr,h,_⟩:=h;exact ⟨_,_,_,_,_,_,h⟩
theorem At.lt {w:World} {t:Tr} {g:Nat} (h:At w t g):g<w.heap.size:=by
 obtain ⟨_,_,_,_,_,_,h⟩:=h.node;exact h.lt
theorem NodeAt.cell {w:World} {g:Nat} {s:Sm} {rs l r:Value} {st:Int} (h:NodeAt w g s rs l r st) (j:Nat) (v:Value) (hv:(nodeCells s rs l r st)[j]?=some v):w.cell? ⟨g,j,none⟩=some v:=by
 unfold NodeAt at h;simp only [World.cell?,h];exact hv
theorem NodeAt.ten {w:World} {g:Nat} {s:Sm} {rs l r:Value} {st:Int} (h:NodeAt w g s rs l r st):w.cell? ⟨g,0,none⟩=some (.int .i64 s.cells)∧w.cell? ⟨g,1,none⟩=some (.int .i64 s.pieces)∧w.cell? ⟨g,2,none⟩=some (.int .i64 s.high)∧w.cell? ⟨g,3,none⟩=some (.int .i64 s.least)∧w.cell? ⟨g,4,none⟩=some (.int .i64 s.most)∧w.cell? ⟨g,5,none⟩=some (.int .i64 s.lowest)∧w.cell? ⟨g,6,none⟩=some (.int .i64 s.fc)∧w.cell? ⟨g,7,none⟩=some (.int .i64 s.fh)∧w.cell? ⟨g,8,none⟩=some (.int .i64 s.lc)∧w.cell? ⟨g,9,none⟩=some (.int .i64 s.lh) :=
 ⟨h.cell 0 _ rfl,h.cell 1 _ rfl,h.cell 2 _ rfl,h.cell 3 _ rfl,h.cell 4 _ rfl,h.cell 5 _ rfl,h.cell 6 _ rfl,h.cell 7 _ rfl,h.cell 8 _ rfl,h.cell 9 _ rfl⟩
theorem NodeAt.four {w:World} {g:Nat} {s:Sm} {rs l r:Value} {st:Int} (h:NodeAt w g s rs l r st):w.cell? ⟨g,10,none⟩=some rs∧w.cell? ⟨g,11,none⟩=some l∧w.cell? ⟨g,12,none⟩=some r∧w.cell? ⟨g,13,none⟩=some (.int .i64 st) :=
 ⟨h.cell 10 _ rfl,h.cell 11 _ rfl,h.cell 12 _ rfl,h.cell 13 _ rfl⟩
theorem smIsPiece_any (s:Sm) (w:World):Calls Tryz.prog 90 #[.agg s.vals] w fun e w'=>e=.returned (.bool (decide (s.high≤1)))∧Below w.heap.size w w':=by
 obtain ⟨c,p,hg,le,mo,lo,fc,fh,lc,lh⟩:=s;unfold Sm.vals;simp only;go_enter Tryz.func90,Tryz.ntmps90;go_wp2_with fail;go_ret;exact ⟨rfl,(bE _ _).alloc (lR _) _⟩
theorem smHid_any (s:Sm) (w:World):Calls Tryz.prog 30 #[.agg s.vals] w fun e w'=>e=.returned (.int .i64 s.fh)∧Below w.heap.size w w':=by
 obtain ⟨c,p,hg,le,mo,lo,fc,fh,lc,lh⟩:=s;unfold Sm.vals;simp only;go_enter Tryz.func30,Tryz.ntmps30;go_wp2_with fail;go_ret;exact ⟨rfl,(bE _ _).alloc (lR _) _⟩
theorem total_any {w:World} {t:Tr} {g q:Nat} (h:At w t g) (hq:w.cell? ⟨q,0,none⟩=some (.pointer (some ⟨g,0,none⟩))):Calls Tryz.prog 24 #[.pointer (some ⟨q,0,none⟩)] w fun e w'=>e=.returned (.int .i64 t.sm.cells)∧w'=w:=by
 obtain ⟨an,nn,cn,pl,pr,st,hn⟩:=h.node;have c0:=hn.cell 0 _ rfl;clear hn;go_enter Tryz.func24,Tryz.ntmps24;go_wp2_with fail;go_ret;exact ⟨rfl,rfl⟩
theorem smRaised_any (s:Sm) (d:Int) (h1:-4194304≤s.least∧s.least≤4194304) (h2:-4194304≤s.most∧s.most≤4194304) (h3:-4194304≤s.fh∧s.fh≤4194304) (h4:-4194304≤s.lh∧s.lh≤4194304) (h5:-4194304≤d∧d≤4194304) (w:World) :
  Calls Tryz.prog 125 #[.agg s.vals,.int .i64 d] w fun e w'=>e=.returned (.agg (s.raised d).vals)∧Below w.heap.size w w':=by
 obtain ⟨c,p,hg,le,mo,lo,fc,fh,lc,lh⟩:=s;unfold Sm.vals Sm.raised;simp only at h1 h2 h3 h4 ⊢;go_enter Tryz.func125,Tryz.ntmps125;go_wp2_with fail;refine bodyPost_ret (v:=.agg #[.int .i64 c,.int .i64 p,.int .i64 hg,.int .i64 (le+d),.int .i64 (mo+d),.int .i64 lo,.int .i64 fc,.int .i64 (fh+d),.int .i64 lc,.int .i64 (lh+d)]) (by simp [results,Tryz.results125,go_sem]) rfl ⟨rfl,?_⟩
 repeat' (first|exact bE _ _|refine Below.setCell ?_ (by simp) _|refine Below.alloc ?_ (by simp) _)
def ptr (g:Nat):Value:=.pointer (some ⟨g,0,none⟩)
theorem nodeAt_raise {w w':World} {t:Tr} (hw:t.Wf) {d:Int} {g g':Nat} (h:At w t g) (hb:Below w.heap.size w w')
  (hn:∀ (a:Option Addr) (n cap:Nat) (pl pr:Option Addr) (st:Int),NodeAt w g t.sm (.slice a n cap) (.pointer pl) (.pointer pr) st→NodeAt w' g' (t.sm.raised d) (.slice a n cap) (.pointer pl) (.pointer pr) (st+d)):At w' (t.raise d) g':=by
 have hsm:=Tr.sm_raise t hw d;cases t with
 | nil=>exact hw.elim
 | leaf rs hid st =>
  obtain ⟨a,cap,h1,h2⟩:=h;have:=hn _ _ _ _ _ _ h1;rw [← hsm] at this;exact ⟨a,cap,this,h2.below hb⟩
 | node l r st =>
  obtain ⟨gl,gr,h1,h2,h3⟩:=h;have:=hn _ _ _ _ _ _ h1;rw [← hsm] at this;exact ⟨gl,gr,this,h2.below hb,h3.below hb⟩
theorem setNode {w1:World} {B:Nat} {s:Sm} {rs l r:Value} {st:Int} (h:NodeAt w1 B s rs l r st) (s2:Sm) (st2:Int) :
  NodeAt (((((((((((w1.setCell ⟨B,0,none⟩ (.int .i64 s2.cells)).setCell ⟨B,1,none⟩ (.int .i64 s2.pieces)).setCell ⟨B,2,none⟩ (.int .i64 s2.high)).setCell ⟨B,3,none⟩ (.int .i64 s2.least)).setCell ⟨B,4,none⟩ (.int .i64 s2.most)).setCell ⟨B,5,none⟩ (.int .i64 s2.lowest)).setCell ⟨B,6,none⟩ (.int .i64 s2.fc)).setCell ⟨B,7,none⟩ (.int .i64 s2.fh)).setCell ⟨B,8,none⟩ (.int .i64 s2.lc)).setCell ⟨B,9,none⟩ (.int .i64 s2.lh)).setCell ⟨B,13,none⟩ (.int .i64 st2)) B s2 rs l r st2:=by
 obtain ⟨x0,x1,x2,x3,x4,x5,x6,x7,x8,x9⟩:=s2;have h0:NodeAt (w1.setCell ⟨B,0,none⟩ (.int .i64 x0)) B ⟨x0,s.pieces,s.high,s.least,s.most,s.lowest,s.fc,s.fh,s.lc,s.lh⟩ rs l r st:=(heap_setCell_same _ B 0 _ _ _ h).trans (by unfold nodeCells;simp);have h1:NodeAt ((w1.setCell ⟨B,0,none⟩ (.int .i64 x0)).setCell ⟨B,1,none⟩ (.int .i64 x1)) B ⟨x0,x1,s.high,s.least,s.most,s.lowest,s.fc,s.fh,s.lc,s.lh⟩ rs l r st:=(heap_setCell_same _ B 1 _ _ _ h0).trans (by unfold nodeCells;simp);have h2:NodeAt (((w1.setCell ⟨B,0,none⟩ (.int .i64 x0)).setCell ⟨B,1,none⟩ (.int .i64 x1)).setCell ⟨B,2,none⟩ (.int .i64 x2)) B ⟨x0,x1,x2,s.least,s.most,s.lowest,s.fc,s.fh,s.lc,s.lh⟩ rs l r st:=(heap_setCell_same _ B 2 _ _ _ h1).trans (by unfold nodeCells;simp);have h3:NodeAt ((((w1.setCell ⟨B,0,none⟩ (.int .i64 x0)).setCell ⟨B,1,none⟩ (.int .i64 x1)).setCell ⟨B,2,none⟩ (.int .i64 x2)).setCell ⟨B,3,none⟩ (.int .i64 x3)) B ⟨x0,x1,x2,x3,s.most,s.lowest,s.fc,s.fh,s.lc,s.lh⟩ rs l r st:=(heap_setCell_same _ B 3 _ _ _ h2).trans (by unfold nodeCells;simp);have h4:NodeAt (((((w1.setCell ⟨B,0,none⟩ (.int .i64 x0)).setCell ⟨B,1,none⟩ (.int .i64 x1)).setCell ⟨B,2,none⟩ (.int .i64 x2)).setCell ⟨B,3,none⟩ (.int .i64 x3)).setCell ⟨B,4,none⟩ (.int .i64 x4)) B ⟨x0,x1,x2,x3,x4,s.lowest,s.fc,s.fh,s.lc,s.lh⟩ rs l r st:=(heap_setCell_same _ B 4 _ _ _ h3).trans (by unfold nodeCells;simp);have h5:NodeAt ((((((w1.setCell ⟨B,0,none⟩ (.int .i64 x0)).setCell ⟨B,1,none⟩ (.int .i64 x1)).setCell ⟨B,2,none⟩ (.int .i64 x2)).setCell ⟨B,3,none⟩ (.int .i64 x3)).setCell ⟨B,4,none⟩ (.int .i64 x4)).setCell ⟨B,5,none⟩ (.int .i64 x5)) B ⟨x0,x1,x2,x3,x4,x5,s.fc,s.fh,s.lc,s.lh⟩ rs l r st:=(heap_setCell_same _ B 5 _ _ _ h4).trans (by unfold nodeCells;simp);have h6:NodeAt (((((((w1.setCell ⟨B,0,none⟩ (.int .i64 x0)).setCell ⟨B,1,none⟩ (.int .i64 x1)).setCell ⟨B,2,none⟩ (.int .i64 x2)).setCell ⟨B,3,none⟩ (.int .i64 x3)).setCell ⟨B,4,none⟩ (.int .i64 x4)).setCell ⟨B,5,none⟩ (.int .i64 x5)).setCell ⟨B,6,none⟩ (.int .i64 x6)) B ⟨x0,x1,x2,x3,x4,x5,x6,s.fh,s.lc,s.lh⟩ rs l r st:=(heap_setCell_same _ B 6 _ _ _ h5).trans (by unfold nodeCells;simp);have h7:NodeAt ((((((((w1.setCell ⟨B,0,none⟩ (.int .i64 x0)).setCell ⟨B,1,none⟩ (.int .i64 x1)).setCell ⟨B,2,none⟩ (.int .i64 x2)).setCell ⟨B,3,none⟩ (.int .i64 x3)).setCell ⟨B,4,none⟩ (.int .i64 x4)).setCell ⟨B,5,none⟩ (.int .i64 x5)).setCell ⟨B,6,none⟩ (.int .i64 x6)).setCell ⟨B,7,none⟩ (.int .i64 x7)) B ⟨x0,x1,x2,x3,x4,x5,x6,x7,s.lc,s.lh⟩ rs l r st:=(heap_setCell_same _ B 7 _ _ _ h6).trans (by unfold nodeCells;simp);have h8:NodeAt (((((((((w1.setCell ⟨B,0,none⟩ (.int .i64 x0)).setCell ⟨B,1,none⟩ (.int .i64 x1)).setCell ⟨B,2,none⟩ (.int .i64 x2)).setCell ⟨B,3,none⟩ (.int .i64 x3)).setCell ⟨B,4,none⟩ (.int .i64 x4)).setCell ⟨B,5,none⟩ (.int .i64 x5)).setCell ⟨B,6,none⟩ (.int .i64 x6)).setCell ⟨B,7,none⟩ (.int .i64 x7)).setCell ⟨B,8,none⟩ (.int .i64 x8)) B ⟨x0,x1,x2,x3,x4,x5,x6,x7,x8,s.lh⟩ rs l r st:=(heap_setCell_same _ B 8 _ _ _ h7).trans (by unfold nodeCells;simp);have h9:NodeAt ((((((((((w1.setCell ⟨B,0,none⟩ (.int .i64 x0)).setCell ⟨B,1,none⟩ (.int .i64 x1)).setCell ⟨B,2,none⟩ (.int .i64 x2)).setCell ⟨B,3,none⟩ (.int .i64 x3)).setCell ⟨B,4,none⟩ (.int .i64 x4)).setCell ⟨B,5,none⟩ (.int .i64 x5)).setCell ⟨B,6,none⟩ (.int .i64 x6)).setCell ⟨B,7,none⟩ (.int .i64 x7)).setCell ⟨B,8,none⟩ (.int .i64 x8)).setCell ⟨B,9,none⟩ (.int .i64 x9)) B ⟨x0,x1,x2,x3,x4,x5,x6,x7,x8,x9⟩ rs l r st:=(heap_setCell_same _ B 9 _ _ _ h8).trans (by unfold nodeCells;simp);exact (heap_setCell_same _ B 13 _ _ _ h9).trans (by unfold nodeCells;simp)
theorem NodeAt.unique {w:World} {g:Nat} {s:Sm} {rs l r:Value} {st:Int} {rs' l' r':Value} {st':Int} (h:NodeAt w g s rs l r st) (h':NodeAt w g s rs' l' r' st'):rs'=rs∧l'=l∧r'=r∧st'=st:=by
 unfold NodeAt at h h';rw [h] at h';simp [nodeCells] at h';exact ⟨h'.1.symm,h'.2.1.symm,h'.2.2.1.symm,h'.2.2.2.symm⟩
theorem nodeRaised_any {w:World} {t:Tr} {g:Nat} (h:At w t g) (hw:t.Wf) (hs:SmBd t.sm) (d:Int) (hd:-1048600≤d∧d≤1048600) (hst:∀ (a:Option Addr) (n cap:Nat) (pl pr:Option Addr) (st:Int),NodeAt w g t.sm (.slice a n cap) (.pointer pl) (.pointer pr) st→-1048600≤st∧st≤1048600) :
  Calls Tryz.prog 98 #[ptr g,.int .i64 d] w fun e w'=>∃ g',e=.returned (ptr g')∧At w' (t.raise d) g'∧Below w.heap.size w w':=by
 unfold ptr;by_cases h0:d=0
 ·subst h0;rw [Tr.raise_zero];go_enter Tryz.func98,Tryz.ntmps98;go_wp2_with fail;go_ret;exact ⟨g,rfl,h,bE _ _⟩
 ·have hz:(d==0)=false:=by simpa using h0
  obtain ⟨an,nn,cn,pl,pr,st,hn⟩:=h.node;have hst':=hst _ _ _ _ _ _ hn;have hsh:=hs;obtain ⟨b0,b1,b2,b3,b4,b5,b6,b7,b8,b9⟩:=hsh;have HR:=smRaised_any t.sm d (by omega) (by omega) (by omega) (by omega) (by omega);obtain ⟨c0,c1,c2,c3,c4,c5,c6,c7,c8,c9⟩:=hn.ten;obtain ⟨c10,c11,c12,c13⟩:=hn.four;have hgl:=hn.lt;have HN:Hid (NodeAt w g t.sm (.slice an nn cn) (.pointer pl) (.pointer pr) st):=hn;clear hn hst h0;go_enter Tryz.func98,Tryz.ntmps98;go_wp2_with fail;refine (HR _).mono ?_;rintro e w1 ⟨rfl,hb1⟩;have hs1:=hb1.size;have hB:w1.heap[w.heap.size]?=some (.cells (nodeCells t.sm (.slice an nn cn) (.pointer pl) (.pointer pr) st) 96):=(hb1.block _ (by simp)).trans (heap_alloc_new _ _);have hN1:NodeAt w1 w.heap.size t.sm (.slice an nn cn) (.pointer pl) (.pointer pr) st:=hB;obtain ⟨d0,d1,d2,d3,d4,d5,d6,d7,d8,d9⟩:=hN1.ten;obtain ⟨d10,d11,d12,d13⟩:=hN1.four;have hfz:∀ j,w1.frozen? ⟨w.heap.size,j,none⟩=false:=fun j=>frozen_of_row w1 w.heap.size j _ _ hB
  have f0:=hfz 0;have f1:=hfz 1;have f2:=hfz 2;have f3:=hfz 3;have f4:=hfz 4;have f5:=hfz 5;have f6:=hfz 6;have f7:=hfz 7;have f8:=hfz 8;have f9:=hfz 9;have f13:=hfz 13;have HB:Hid (w1.heap[w.heap.size]?=some (.cells (nodeCells t.sm (.slice an nn cn) (.pointer pl) (.pointer pr) st) 96)):=hB;clear hN1 hB hfz c0 c1 c2 c3 c4 c5 c6 c7 c8 c9 c10 c11 c12 c13;unfold Sm.vals Sm.raised;go_wp2_with fail;go_ret;have hB0:Below w.heap.size w w1:=((bE _ _).alloc (lR _) _).trans (hb1.mono (by simp));have hBf:Below w.heap.size w _:=(((((((((((hB0.setCell (p:=⟨w.heap.size,0,none⟩) (lR _) (.int .i64 t.sm.cells)).setCell (p:=⟨w.heap.size,1,none⟩) (lR _) (.int .i64 t.sm.pieces)).setCell (p:=⟨w.heap.size,2,none⟩) (lR _) (.int .i64 t.sm.high)).setCell (p:=⟨w.heap.size,3,none⟩) (lR _) (.int .i64 (t.sm.least+d))).setCell (p:=⟨w.heap.size,4,none⟩) (lR _) (.int .i64 (t.sm.most+d))).setCell (p:=⟨w.heap.size,5,none⟩) (lR _) (.int .i64 t.sm.lowest)).setCell (p:=⟨w.heap.size,6,none⟩) (lR _) (.int .i64 t.sm.fc)).setCell (p:=⟨w.heap.size,7,none⟩) (lR _) (.int .i64 (t.sm.fh+d))).setCell (p:=⟨w.heap.size,8,none⟩) (lR _) (.int .i64 t.sm.lc)).setCell (p:=⟨w.heap.size,9,none⟩) (lR _) (.int .i64 (t.sm.lh+d))).setCell (p:=⟨w.heap.size,13,none⟩) (lR _) (.int .i64 (st+d)));refine ⟨w.heap.size,rfl,nodeAt_raise hw h hBf fun a' n' cap' pl' pr' st' hn'=>?_,hBf⟩;obtain ⟨e1,e2,e3,rfl⟩:=HN.out.unique hn';rw [e1,e2,e3];exact setNode (s:=t.sm) (l:=.pointer pl) (r:=.pointer pr) (st:=st') HB.out (t.sm.raised d) (st'+d)
theorem raised_any {w:World} {t:Tr} {g:Nat} (h:At w t g) (hw:t.Wf) (hb:t.Bd) (hn:t.row.length≤2097152) (d:Int) (hd:-1048600≤d∧d≤1048600) :
  Calls Tryz.prog 98 #[ptr g,.int .i64 d] w fun e w'=>∃ g',e=.returned (ptr g')∧At w' (t.raise d) g'∧Below w.heap.size w w':=by
 refine nodeRaised_any h hw (Tr.smBd (.inr hw) hb hn) d hd fun a n cap pl pr st hst=>?_
 cases t with
 | nil=>exact hw.elim
 | leaf rs hid st' =>
  obtain ⟨a',cap',h1,_⟩:=h;obtain ⟨_,_,_,rfl⟩:=h1.unique hst;exact hb.leafStill
 | node l r st' =>
  obtain ⟨gl,gr,h1,_⟩:=h;obtain ⟨_,_,_,rfl⟩:=h1.unique hst;exact hb.still hw
theorem sides_any {w:World} {l r:Tr} {st:Int} {g:Nat} (h:At w (.node l r st) g) (hw:(Tr.node l r st).Wf) (hb:(Tr.node l r st).Bd) (hn:(Tr.node l r st).row.length≤2097152) :
  Calls Tryz.prog 92 #[ptr g] w fun e w'=>∃ gl gr,e=.returned (.tuple #[ptr gl,ptr gr])∧At w' (l.raise st) gl∧At w' (r.raise st) gr∧Below w.heap.size w w':=by
 obtain ⟨gl,gr,hN,hl,hr⟩:=h;have hlen:l.row.length≤2097152∧r.row.length≤2097152:=by
  simp only [Tr.row,upL_length,List.length_append] at hn;omega
 have HL:Hid (∀ W,Below w.heap.size w W→Calls Tryz.prog 98 #[.pointer (some ⟨gl,0,none⟩),.int .i64 st] W fun e w'=>∃ g',e=.returned (.pointer (some ⟨g',0,none⟩))∧At w' (l.raise st) g'∧Below W.heap.size W w'):=fun W hW=>raised_any (hl.below hW) hw.1 hb.1 hlen.1 st (hb.still hw)
 have HR:Hid (∀ W,Below w.heap.size w W→Calls Tryz.prog 98 #[.pointer (some ⟨gr,0,none⟩),.int .i64 st] W fun e w'=>∃ g',e=.returned (.pointer (some ⟨g',0,none⟩))∧At w' (r.raise st) g'∧Below W.heap.size W w'):=fun W hW=>raised_any (hr.below hW) hw.2 hb.2.1 hlen.2 st (hb.still hw)
 obtain ⟨_,c11,c12,c13⟩:=hN.four;have hgl:=hN.lt;clear hN hl hr hlen hn hb hw;unfold ptr;have hcur:Below w.heap.size w w:=bE _ _;go_enter Tryz.func92,Tryz.ntmps92;go_wp2_with fail
 go_region_held3 (fun W=>W.cell? ⟨g,11,none⟩=some (.pointer (some ⟨gl,0,none⟩))∧W.cell? ⟨g,12,none⟩=some (.pointer (some ⟨gr,0,none⟩))∧W.cell? ⟨g,13,none⟩=some (.int .i64 st)) (first|exact ⟨c11,c12,c13⟩|exact ⟨e11,e12,e13⟩)
  (first
   | (go_at_call_of 98 (Value.pointer (some ⟨gl,0,none⟩));refine (HL.out _ ?_).mono ?_;(first|exact hcur|exact hcur.drew|exact hcur.drew.drew);rintro e w1 ⟨gl1,rfl,hl1,hb1⟩;have hcur:Below w.heap.size w w1:=(by first|exact hcur.trans (hb1.mono hcur.size)|exact hcur.drew.trans (hb1.mono hcur.size));have e11:=(hcur.cell (p:=⟨g,11,none⟩) hgl).trans c11;have e12:=(hcur.cell (p:=⟨g,12,none⟩) hgl).trans c12;have e13:=(hcur.cell (p:=⟨g,13,none⟩) hgl).trans c13)
   | (go_at_call_of 98 (Value.pointer (some ⟨gr,0,none⟩));refine (HR.out _ ?_).mono ?_;(first|exact hcur|exact hcur.drew|exact hcur.drew.drew);rintro e w2 ⟨gr1,rfl,hr1,hb2⟩;have hl2:At w2 (l.raise st) gl1:=hl1.below hb2;have hcur:Below w.heap.size w w2:=(by first|exact hcur.trans (hb2.mono hcur.size)|exact hcur.drew.trans (hb2.mono hcur.size));have e11:=(hcur.cell (p:=⟨g,11,none⟩) hgl).trans c11;have e12:=(hcur.cell (p:=⟨g,12,none⟩) hgl).trans c12;have e13:=(hcur.cell (p:=⟨g,13,none⟩) hgl).trans c13))
 all_goals
  go_wp2_with fail;go_ret2;exact ⟨gl1,gr1,rfl,hl2,hr1,hcur⟩
theorem At.ten {w:World} {t:Tr} {g:Nat} (h:At w t g):w.cell? ⟨g,0,none⟩=some (.int .i64 t.sm.cells)∧w.cell? ⟨g,1,none⟩=some (.int .i64 t.sm.pieces)∧w.cell? ⟨g,2,none⟩=some (.int .i64 t.sm.high)∧w.cell? ⟨g,3,none⟩=some (.int .i64 t.sm.least)∧w.cell? ⟨g,4,none⟩=some (.int .i64 t.sm.most)∧w.cell? ⟨g,5,none⟩=some (.int .i64 t.sm.lowest)∧w.cell? ⟨g,6,none⟩=some (.int .i64 t.sm.fc)∧w.cell? ⟨g,7,none⟩=some (.int .i64 t.sm.fh)∧w.cell? ⟨g,8,none⟩=some (.int .i64 t.sm.lc)∧w.cell? ⟨g,9,none⟩=some (.int .i64 t.sm.lh):=by
 obtain ⟨an,nn,cn,pl,pr,st,hn⟩:=h.node;exact hn.ten
def RopeAt (w:World) (q:Nat) (t:Tr):Prop:=∃ g,w.heap[q]?=some (.cells #[.pointer (some ⟨g,0,none⟩)] 73)∧At w t g
theorem RopeAt.below {w w':World} {q:Nat} {t:Tr} (h:RopeAt w q t) (hb:Below w.heap.size w w'):RopeAt w' q t:=by
 obtain ⟨g,h1,h2⟩:=h;exact ⟨g,(hb.block q (gA h1)).trans h1,h2.below hb⟩
theorem RopeAt.lt {w:World} {q:Nat} {t:Tr} (h:RopeAt w q t):q<w.heap.size:=by
 obtain ⟨g,h1,h2⟩:=h;exact (gA h1)
theorem RopeAt.cell {w:World} {q:Nat} {t:Tr} (h:RopeAt w q t):∃ g,w.cell? ⟨q,0,none⟩=some (.pointer (some ⟨g,0,none⟩))∧At w t g:=by
 obtain ⟨g,h1,h2⟩:=h;refine ⟨g,?_,h2⟩;simp [World.cell?,h1]
structure Tr.Good (t:Tr):Prop where
 ok:t.Ok
 bd:t.Bd
 nonneg:Nonneg t.row
 len:t.row.length≤1048576
theorem ropeTotal_any {w:World} {q:Nat} {t:Tr} (h:RopeAt w q t):Calls Tryz.prog 24 #[ptr q] w fun e w'=>e=.returned (.int .i64 (t.row.length:Int))∧w'=w:=by
 obtain ⟨g,h1,h2⟩:=h.cell;rw [← Tr.sm_cells];exact total_any h2 h1
end Go.Proofs.YtijpfbcippijoaaGreatDoor
