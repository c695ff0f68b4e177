import Derived.Test.YtijpfbcippijoaaGreatDoorAl
import Derived.Test.YtijpfbcippijoaaGreatDoorGr104
import Derived.Test.YtijpfbcippijoaaGreatDoorGr120
set_option maxHeartbeats 4000000
set_option maxRecDepth 100000
namespace Go.Proofs.YtijpfbcippijoaaGreatDoor
open Go.RowKit Go.Lib
def AtD (w:World) (D:Nat→Prop):Tr→Nat→Prop
 | .nil,g=>D g∧NodeAt w g Tr.nil.sm (.slice none 0 0) (.pointer none) (.pointer none) 0
 | .leaf rs h st,g=>D g∧∃ a cap,NodeAt w g (Tr.leaf rs h st).sm (.slice a rs.length cap) (.pointer none) (.pointer none) st∧RwN w a rs.length cap rs∧(0<rs.length→∀ gr off,a=some ⟨gr,off,none⟩→D gr)
 | .node l r st,g=>D g∧∃ gl gr,NodeAt w g (Tr.node l r st).sm (.slice none 0 0) (.pointer (some ⟨gl,0,none⟩)) (.pointer (some ⟨gr,0,none⟩)) st∧AtD w D l gl∧AtD w D r gr
theorem AtD.at {w:World} {D:Nat→Prop}:∀ {t:Tr} {g:Nat},AtD w D t g→At w t g
 | .nil,_,h=>h.2
 | .leaf _ _ _,_,⟨_,a,cap,h1,h2,_⟩=>⟨a,cap,h1,h2⟩
 | .node _ _ _,_,⟨_,gl,gr,h1,h2,h3⟩=>⟨gl,gr,h1,AtD.at h2,AtD.at h3⟩
theorem Rw.keep {α:Type} {f:α→List Value} {k:Nat} {w w':World} {a:Option Addr} {n cap:Nat} {l:List α} (h:Rw f k w a n cap l) (hk:0<n→∀ g off,a=some ⟨g,off,none⟩→w'.heap[g]?=w.heap[g]?) (hs:w.heap.size≤w'.heap.size):Rw f k w' a n cap l :=
 ⟨h.len,h.room,fun hn=>by
  obtain ⟨g,off,ha,hg,hc⟩:=h.cells hn
  exact ⟨g,off,ha,by omega,fun j x hj i v hv=>(World.cell?_of_block (w:=w) (w':=w') (a:=⟨g,off+j*k+i,none⟩) (hk hn g off ha)).trans (hc j x hj i v hv)⟩⟩
theorem RwN.keep {w w':World} {a:Option Addr} {n cap:Nat} {rs:List Int} (h:RwN w a n cap rs) (hk:0<n→∀ g off,a=some ⟨g,off,none⟩→w'.heap[g]?=w.heap[g]?) (hs:w.heap.size≤w'.heap.size):RwN w' a n cap rs :=
 ⟨h.rw_.keep hk hs,fun h0 g off e=>by
  obtain ⟨cs,fr,hh⟩:=h.typ h0 g off e
  exact ⟨cs,fr,(hk h0 g off e).trans hh⟩⟩
theorem AtD.keep {w w':World} {D:Nat→Prop} (hk:∀ b,D b→w'.heap[b]?=w.heap[b]?) (hs:w.heap.size≤w'.heap.size):∀ {t:Tr} {g:Nat},AtD w D t g→AtD w' D t g
 | .nil,_,⟨hd,h⟩=>⟨hd,(hk _ hd).trans h⟩
 | .leaf _ _ _,_,⟨hd,a,cap,h1,h2,h3⟩=>⟨hd,a,cap,(hk _ hd).trans h1,h2.keep (fun h0 g off e=>hk _ (h3 h0 g off e)) hs,h3⟩
 | .node _ _ _,_,⟨hd,gl,gr,h1,h2,h3⟩=>⟨hd,gl,gr,(hk _ hd).trans h1,AtD.keep hk hs h2,AtD.keep hk hs h3⟩
theorem AtD.mono {w:World} {D E:Nat→Prop} (hm:∀ b,D b→E b):∀ {t:Tr} {g:Nat},AtD w D t g→AtD w E t g
 | .nil,_,⟨hd,h⟩=>⟨hm _ hd,h⟩
 | .leaf _ _ _,_,⟨hd,a,cap,h1,h2,h3⟩=>⟨hm _ hd,a,cap,h1,h2,fun h0 g off e=>hm _ (h3 h0 g off e)⟩
 | .node _ _ _,_,⟨hd,gl,gr,h1,h2,h3⟩=>⟨hm _ hd,gl,gr,h1,AtD.mono hm h2,AtD.mono hm h3⟩
def AtsD (w:World) (D:Nat→Prop) (ts:List Tr) (gs:List Nat):Prop:=ts.length=gs.length∧∀ (j:Nat) (t:Tr) (g:Nat),ts[j]?=some t→gs[j]?=some g→AtD w D t g
theorem AtsD.ats {w:World} {D:Nat→Prop} {ts:List Tr} {gs:List Nat} (h:AtsD w D ts gs):Ats w ts gs:=⟨h.1,fun j t g h1 h2=>(h.2 j t g h1 h2).at⟩
theorem atsD_nil (w:World) (D:Nat→Prop):AtsD w D [] []:=⟨rfl,fun j t g h=>by simp at h⟩
theorem AtsD.keep {w w':World} {D:Nat→Prop} {ts:List Tr} {gs:List Nat} (h:AtsD w D ts gs) (hk:∀ b,D b→w'.heap[b]?=w.heap[b]?) (hs:w.heap.size≤w'.heap.size):AtsD w' D ts gs:=⟨h.1,fun j t g h1 h2=>(h.2 j t g h1 h2).keep hk hs⟩
theorem AtsD.mono {w:World} {D E:Nat→Prop} {ts:List Tr} {gs:List Nat} (h:AtsD w D ts gs) (hm:∀ b,D b→E b):AtsD w E ts gs:=⟨h.1,fun j t g h1 h2=>(h.2 j t g h1 h2).mono hm⟩
theorem AtsD.append {w:World} {D:Nat→Prop} {ts us:List Tr} {gs hs:List Nat} (h:AtsD w D ts gs) (k:AtsD w D us hs):AtsD w D (ts++us) (gs++hs):=by
 have hl:=h.1;refine ⟨by simp [h.1,k.1],fun j t g h1 h2=>?_⟩;by_cases hj:j<ts.length
 ·rw [List.getElem?_append_left hj] at h1;rw [List.getElem?_append_left (by omega)] at h2;exact h.2 j t g h1 h2
 ·rw [List.getElem?_append_right (by omega)] at h1;rw [List.getElem?_append_right (by omega),← hl] at h2;exact k.2 _ t g h1 h2
theorem AtsD.one {w:World} {D:Nat→Prop} {t:Tr} {g:Nat} (h:AtD w D t g):AtsD w D [t] [g]:=⟨rfl,fun j t' g' h1 h2=>by
 match j,h1,h2 with
 | 0,h1,h2=>simp at h1 h2;subst h1;subst h2;exact h⟩
theorem piece_d {w:World} {a:Option Addr} {n cap:Nat} {rs:List Int} (h:RwN w a n cap rs) (hid:Int) (hn:n≤2097152) (D:Nat→Prop) (hD:∀ b,w.heap.size≤b→D b) (hDa:0<n→∀ gr off,a=some ⟨gr,off,none⟩→D gr) :
  Calls Tryz.prog 55 #[.slice a n cap,.int .i64 hid] w fun e w'=>∃ g,e=.returned (ptr g)∧AtD w' D (mkPiece rs hid) g∧Below w.heap.size w w':=by
 have hlen:=h.rw_.len;unfold ptr;by_cases h0:n=0
 ·subst h0;obtain rfl:rs=[]:=List.eq_nil_of_length_eq_zero hlen;rw [mkPiece_nil];go_enter Tryz.func55,Tryz.ntmps55;go_wp2_with fail;go_ret;exact ⟨w.heap.size,rfl,⟨hD _ (lR _),heap_alloc_new _ _⟩,(bE _ _).alloc (lR _) _⟩
 ·have hz:((n:Int)==0)=false:=by rw [beq_eq_false_iff_ne];omega
  have hne:rs≠[]:=by intro e;rw [e] at hlen;simp at hlen;omega
  rw [mkPiece_leaf hid hne];have HRW:Hid (RwN w a n cap rs):=h;have HL:Hid (rs.length=n):=hlen;clear h0 h hlen;go_enter Tryz.func55,Tryz.ntmps55;go_wp2_with fail;go_ret;have hB:Below w.heap.size w ((w.alloc (.cells #[.int .i64 (n:Int),.int .i64 hid] 92)).alloc (.cells (nodeCells (pieceSm n hid) (.slice a n cap) (.pointer none) (.pointer none) 0) 96)):=((bE _ _).alloc (lR _) _).alloc (by simp) _;refine ⟨w.heap.size+1,rfl,⟨hD _ (by omega),a,cap,?_,?_,?_⟩,hB⟩
  ·rw [HL.out];simp only [Tr.sm];rw [HL.out];have:=heap_alloc_new (w.alloc (.cells #[.int .i64 (n:Int),.int .i64 hid] 92)) (.cells (nodeCells (pieceSm n hid) (.slice a n cap) (.pointer none) (.pointer none) 0) 96);simp only [World.size_alloc] at this;exact this
  ·rw [HL.out];exact HRW.out.below hB
  ·rw [HL.out];exact hDa
section
variable {α β : Type} {f : α → List Value} {k : Nat} {T : TypeId} {f2 : β → List Value} {k2 : Nat} {T2 : TypeId}
theorem own_apart {w:World} {B B2:Nat} {v v2:Value} {l:List α} {l2:List β} (h:OwnF f k T w B v l) (h2:OwnF f2 k2 T2 w B2 v2 l2) (hT:T≠T2):∀ g,v.ownBlock=some g→v2.ownBlock≠some g:=by
 intro g e e2;rcases h.2 with ⟨rfl,_⟩|⟨g',cap,cur,rfl,h1,hh,rest⟩
 ·simp [Value.ownBlock] at e
 ·rcases h2.2 with ⟨rfl,_⟩|⟨g2,cap2,cur2,rfl,h12,hh2,rest2⟩
  ·simp [Value.ownBlock] at e2
  ·simp only [Value.ownBlock,Option.some.injEq] at e e2;subst e;subst e2;rw [hh] at hh2;simp at hh2;exact hT hh2.2
end
structure Chunks (rs:List Int) (h:Int) (ts:List Tr):Prop where
 cut:∃ F cur,(∀ x∈F,x.length=32)∧cur≠[]∧cur.length≤32∧F.flatten++cur=rs∧ts=(F++[cur]).map fun x=>Tr.leaf x h 0
theorem Chunks.each {rs:List Int} {h:Int} {ts:List Tr} (hc:Chunks rs h ts) (hl:0≤h∧h≤1048576):∀ t∈ts,t.isLeaf∧t.Bd:=by
 obtain ⟨F,cur,hF,hne,_,_,rfl⟩:=hc.cut;intro t ht;obtain ⟨x,hx,rfl⟩:=List.mem_map.1 ht;have hb:Lim h:=by unfold Lim;omega
 refine ⟨?_,hb,by rw [Int.sub_zero];exact hb⟩;show x≠[];rcases List.mem_append.1 hx with hx|hx
 ·intro e;have:=hF x hx;rw [e] at this;simp at this
 ·simp at hx;subst hx;exact hne
theorem lvs_leaves (F:List (List Int)) (h:Int):lvs (F.map fun x=>Tr.leaf x h 0)=F.map fun x=>(x,h):=by
 induction F with
 | nil=>rfl
 | cons x t ih=>simp only [lvs,List.map_cons,List.flatMap_cons,Tr.lv] at ih ⊢;rw [ih];rfl
theorem rowOf_flat (F:List (List Int)) (h:Int):rowOf (F.map fun x=>(x,h))=F.flatten.map fun c=>(c,h):=by
 induction F with
 | nil=>rfl
 | cons x t ih=>simp only [rowOf,List.map_cons,List.flatMap_cons,List.flatten_cons,List.map_append] at ih ⊢;rw [ih]
theorem Chunks.row {rs:List Int} {h:Int} {ts:List Tr} (hc:Chunks rs h ts):rowOf (lvs ts)=rs.map fun c=>(c,h):=by
 obtain ⟨F,cur,hF,hne,_,hfl,rfl⟩:=hc.cut;rw [lvs_leaves,rowOf_flat,List.flatten_append];simp only [List.flatten_cons,List.flatten_nil,List.append_nil];rw [hfl]
theorem flatten_ge:∀ (F:List (List Int)),(∀ x∈F,x.length=32)→F.length≤F.flatten.length
 | [],_=>by simp
 | x::t,hF=>by
  have h1:=hF x (by simp);have h2:=flatten_ge t (fun y hy=>hF y (by simp [hy]));simp only [List.flatten_cons,List.length_append,List.length_cons];omega
theorem Chunks.len {rs:List Int} {h:Int} {ts:List Tr} (hc:Chunks rs h ts):ts.length≤rs.length∧0<ts.length:=by
 obtain ⟨F,cur,hF,hne,_,hfl,rfl⟩:=hc.cut;have:=flatten_ge F hF;have hp:0<cur.length:=List.length_pos_iff.2 hne;rw [← hfl];simp only [List.length_map,List.length_append,List.length_cons,List.length_nil];omega
structure CutR (s:ByteArray) (rs:List Int) (hid:Int) (w:World) (vp vr:Value) (w':World) (j C:Nat) (F:List (List Int)) (cur:List Int) (gs:List Nat):Prop where
 jle:j≤rs.length
 iter:w'.heap[w.heap.size]?=some (.stringIter s (posOf rs j))
 ownP:OwnF ptrV 1 70 w' w.heap.size vp gs
 ownR:OwnF runeV 1 21 w' C vr cur
 trees:AtsD w' (fun b=>w.heap.size<b∧b<C∧vp.ownBlock≠some b) (F.map fun x=>Tr.leaf x hid 0) gs
 pC:∀ g,vp.ownBlock=some g→g<C
 C1:w.heap.size<C
 C2:C≤w'.heap.size
 full:∀ x∈F,x.length=32
 few:cur.length≤32
 start:cur=[]→j=0
 all:F.flatten++cur=rs.take j
 below:Below w.heap.size w w'
theorem CutR.step {s:ByteArray} {rs:List Int} {hid:Int} {w:World} {vp vr:Value} {w':World} {j C:Nat} {F:List (List Int)} {cur:List Int} {gs:List Nat} (h:CutR s rs hid w vp vr w' j C F cur gs) (p:Nat) :
  OwnF ptrV 1 70 (w'.iterAt w.heap.size s p) w.heap.size vp gs∧OwnF runeV 1 21 (w'.iterAt w.heap.size s p) C vr cur∧AtsD (w'.iterAt w.heap.size s p) (fun b=>w.heap.size<b∧b<C∧vp.ownBlock≠some b) (F.map fun x=>Tr.leaf x hid 0) gs∧Below w.heap.size w (w'.iterAt w.heap.size s p)∧(w'.iterAt w.heap.size s p).heap[w.heap.size]?=some (.stringIter s p)∧C≤(w'.iterAt w.heap.size s p).heap.size:=by
 have n1:=h.ownP.notIter h.iter;have n2:=h.ownR.notIter h.iter;refine ⟨h.ownP.keep (fun q hq=>iterAt_other _ _ _ _ _ (fun e=>n1 (by rw [hq,e]))),h.ownR.keep (fun q hq=>iterAt_other _ _ _ _ _ (fun e=>n2 (by rw [hq,e]))),h.trees.keep (fun b hb=>iterAt_other _ _ _ _ _ (by omega)) (by rw [iterAt_size];exact lR _),below_iterAt h.below (lR _) _ _,iterAt_heap _ _ _ _ _ h.iter,by rw [iterAt_size];exact h.C2⟩
theorem chunks_end {rs:List Int} {hid:Int} {F:List (List Int)} {cur:List Int} (full:∀ x∈F,x.length=32) (few:cur.length≤32) (hne:cur≠[]) (all:F.flatten++cur=rs):Chunks rs hid ((F++[cur]).map fun x=>Tr.leaf x hid 0):=⟨F,cur,full,hne,few,all,rfl⟩
theorem flatten_len {F:List (List Int)} {cur rs:List Int} {j:Nat} (full:∀ x∈F,x.length=32) (all:F.flatten++cur=rs.take j):F.length≤rs.length:=by
 have h1:=flatten_ge F full;have h2:=congrArg List.length all;rw [List.length_append,List.length_take] at h2;omega
theorem AtD.and_lt {w:World} {D:Nat→Prop}:∀ {t:Tr} {g:Nat},AtD w D t g→AtD w (fun b=>D b∧b<w.heap.size) t g
 | .nil,_,⟨hd,h⟩=>⟨⟨hd,NodeAt.lt h⟩,h⟩
 | .leaf _ _ _,_,⟨hd,a,cap,h1,h2,h3⟩=>⟨⟨hd,h1.lt⟩,a,cap,h1,h2,fun h0 gr off e=>⟨h3 h0 gr off e,by
   obtain ⟨g',off',e',hg,_⟩:=h2.rw_.cells h0
   rw [e] at e'
   cases e'
   exact hg⟩⟩
 | .node _ _ _,_,⟨hd,gl,gr,h1,h2,h3⟩=>⟨⟨hd,h1.lt⟩,gl,gr,h1,AtD.and_lt h2,AtD.and_lt h3⟩
theorem flush {B C:Nat} {W2 w3 w4:World} {vp vr:Value} {gs:List Nat} {cur:List Int} {us:List Tr} {t:Tr} {g g4:Nat}
  (hP:OwnF ptrV 1 70 W2 B vp gs) (hV:OwnF runeV 1 21 W2 C vr cur) (hBC:B<C) (hC2:C≤W2.heap.size) (hT:AtsD W2 (fun b=>B<b∧b<C∧vp.ownBlock≠some b) us gs)
  (hA:AtD w3 (fun b=>W2.heap.size≤b∨vr.ownBlock=some b) t g) (hb3:Below W2.heap.size W2 w3) (hk4:Keeps w3 w4 vp) (hs:w3.heap.size≤w4.heap.size) (hat:vp.ownBlock=some g4∨w3.heap.size<g4) :
  AtsD w4 (fun b=>B<b∧b<w4.heap.size∧some g4≠some b) (us++[t]) (gs++[g]):=by
 have hs3:=hb3.size;refine AtsD.append ?_ (AtsD.one ?_)
 ·have h3:=hT.keep (w':=w3) (fun b hb=>hb3.block b (by omega)) hs3;have h4:=h3.keep (w':=w4) (fun b hb=>hk4 b (by omega) hb.2.2) hs;refine h4.mono fun b hb=>⟨hb.1,by omega,fun e=>?_⟩
  rcases hat with h|h
  ·exact hb.2.2 (by rw [h,e])
  ·simp at e;omega
 ·have h3:=hA.and_lt;have key:∀ b,((W2.heap.size≤b∨vr.ownBlock=some b)∧b<w3.heap.size)→B<b∧vp.ownBlock≠some b:=fun b hb=>by
   rcases hb.1 with h|h
   ·exact ⟨by omega,fun e=>by have:=hP.lt e;omega⟩
   ·exact ⟨by have:=hV.ge h;omega,fun e=>own_apart hP hV (by decide) b e h⟩
  have h4:=h3.keep (w':=w4) (fun b hb=>hk4 b hb.2 (key b hb).2) hs;refine h4.mono fun b hb=>⟨(key b hb).1,by omega,fun e=>?_⟩
  rcases hat with h|h
  ·exact (key b hb).2 (by rw [h,e])
  ·simp at e;omega
theorem cut_any {s:ByteArray} {rs:List Int} (ht:IsText s rs) (hne:rs≠[]) (hid:Int) (hlen:rs.length≤1048576) (w:World) :
  Calls Tryz.prog 22 #[.string s,.int .i64 hid] w fun e w'=>∃ v gs ts,e=.returned v∧OwnF ptrV 1 70 w' w.heap.size v gs∧AtsD w' (fun b=>w.heap.size<b∧v.ownBlock≠some b) ts gs∧Chunks rs hid ts∧Below w.heap.size w w':=by
 have hsm:=ht.small;go_enter Tryz.func22,Tryz.ntmps22;go_wp2_with fail;go_loopw [5,6] (fun vp vr w'=>∃ j C F cur gs,CutR s rs hid w vp vr w' j C F cur gs) (fun _ _ w'=>s.size-w'.iterPos w.heap.size)
 case atStart =>
  refine ⟨0,w.heap.size+1,[],[],[],Nat.zero_le _,?_,ownF_nil _ _,ownF_nil _ _,atsD_nil _ _,fun g hg=>(by simp [Value.ownBlock] at hg),by omega,?_,fun x hx=>(by cases hx),by simp,fun _=>rfl,by simp,(bE _ _).alloc (lR _) _⟩
  ·rw [posOf_zero];exact World.iter_heap _ _ _
  ·exact Nat.le_of_eq (World.size_alloc _ _).symm
 case round =>
  obtain ⟨j,C,F,cur,gs,hR⟩:=hrel;have hit:=hR.iter;have hj:=hR.jle;by_cases hjl:j<rs.length
  ·have hnx:∀ ty,(Instr.next (.pointer (some ⟨w.heap.size,0,none⟩)) true ty).run Tryz.prog wr=_:=fun ty=>run_next_text ht wr w.heap.size j ty hit hjl
   obtain ⟨hP,hV,hT,hb2,hit2,hC2⟩:=hR.step (posOf rs (j+1));have HP:Hid (wr.iterPos w.heap.size=posOf rs j):=by simp [Hid,World.iterPos,hit]
   generalize hW:wr.iterAt w.heap.size s (posOf rs (j+1))=W2 at *;clear hW hit;have hpC:=hR.pC;have hC1:=hR.C1;have hfull:=hR.full;have hfew:=hR.few;have hall:=hR.all;have htk:rs.take (j+1)=rs.take j++[rs[j]]:=List.take_succ_eq_append_getElem hjl;generalize hrj:rs[j]=r at *;have HTK:Hid (rs.take (j+1)=rs.take j++[r]):=htk;have HALL:Hid (F.flatten++cur=rs.take j):=hall;have HF:Hid (∀ x∈F,x.length=32):=hfull;clear htk hall hfull hrj hR;obtain ⟨ar,cr,rfl⟩:=hV.shape;by_cases h32:cur.length=32
   ·have hz:((cur.length:Int)==32)=true:=by rw [beq_iff_eq];omega
    have hcne:cur≠[]:=by intro e;rw [e] at h32;simp at h32
    have HPC:=piece_d hV.rwn hid (by omega) (fun b=>W2.heap.size≤b∨(Value.slice ar cur.length cr).ownBlock=some b) (fun b hb=>.inl hb) (fun h0 gr off e=>.inr (by rw [e];rfl));rw [mkPiece_leaf hid hcne] at HPC;have HH:Hid (cur.length=32):=h32;clear h32 hcne;go_wp2_with fail;refine HPC.mono ?_;rintro e w3 ⟨g3,rfl,hA3,hb3⟩;unfold ptr;have hgl:gs.length≤1048576:=by
     have h1:=hT.1;have h2:=flatten_len HF.out HALL.out;rw [List.length_map] at h1;omega
    obtain ⟨g4,cap4,w4,hr4,ho4,hb4,hkp4,hgt4,hat4⟩:=appendF_one kindG layG (hP.below hb3) (by have:=hb3.size;omega) g3 #[.pointer (some ⟨g3,0,none⟩)] rfl 70 (by omega) (by omega) 68;have hF4:=flush hP hV hC1 hC2 hT hA3 hb3 hkp4 (by omega) hat4;obtain ⟨g5,cap5,w5,hr5,ho5,hb5,hkp5,hgt5,hat5⟩:=appendF_one kindN layN (ownF_nil w4 w4.heap.size) (lR _) r #[.int .i32 r] rfl 21 (by simp) (by simp) 74;have hit5:w5.heap[w.heap.size]?=some (.stringIter s (posOf rs (j+1))):=by
     have hs3:=hb3.size;rw [hb5.block _ (by omega),hkp4 _ (by omega) (fun e=>hP.notIter hit2 e),hb3.block _ (by omega)];exact hit2
    have hB5:Below w.heap.size w w5:=((hb2.trans (hb3.mono (by omega))).trans hb4).trans (hb5.mono (by have:=hb3.size;omega));have hnew:CutR s rs hid w (.slice (some ⟨g4,0,none⟩) (gs.length+1) cap4) (.slice (some ⟨g5,0,none⟩) (([]:List Int).length+1) cap5) w5 (j+1) w4.heap.size (F++[cur]) ([]++[r]) (gs++[g3]):=by
     refine ⟨by omega,hit5,ho4.below hb5,ho5,?_,fun g hg=>?_,by have:=hb3.size;omega,hb5.size,fun x hx=>?_,by simp,fun e=>(by simp at e),?_,hB5⟩
     ·rw [List.map_append];exact hF4.keep (fun b hb=>hb5.block b (by omega)) hb5.size
     ·have:=ho4.lt hg;exact this
     ·rcases List.mem_append.1 hx with hx|hx
      ·exact HF.out x hx
      ·simp at hx;subst hx;exact HH.out
     ·rw [List.flatten_append,HTK.out,← HALL.out];simp
    have HN:Hid (CutR s rs hid w (.slice (some ⟨g4,0,none⟩) (gs.length+1) cap4) (.slice (some ⟨g5,0,none⟩) (([]:List Int).length+1) cap5) w5 (j+1) w4.heap.size (F++[cur]) ([]++[r]) (gs++[g3])):=hnew;clear hnew hF4 ho4 ho5 hkp4 hkp5 hP hV hT hA3 hB5;go_wp2_with (first|(at_builtin;refine wpList_append_hr rfl _ _ 68 rfl _ _ rfl rfl hr4 ?_)|(at_builtin;refine wpList_append_hr rfl _ _ 74 rfl _ _ rfl rfl hr5 ?_));refine ⟨⟨_,_,_,_,_,HN.out⟩,?_⟩;rw [HP.out,iterPos_of' hit5,ht.size];have h1:=posOf_lt rs (i:=j) (j:=j+1) (by omega) (by omega);have h2:=posOf_mono rs (i:=j+1) (j:=rs.length) (by omega);omega
   ·have hz:((cur.length:Int)==32)=false:=by rw [beq_eq_false_iff_ne];omega
    obtain ⟨g5,cap5,w5,hr,ho5,hb5,hkp5,hgt5,hat5⟩:=appendF_one kindN layN hV hC2 r #[.int .i32 r] rfl 21 (by omega) (by omega) 74;have hit5:w5.heap[w.heap.size]?=some (.stringIter s (posOf rs (j+1))):=(hb5.block _ hC1).trans hit2;have hnew:CutR s rs hid w u5 (.slice (some ⟨g5,0,none⟩) (cur.length+1) cap5) w5 (j+1) C F (cur++[r]) gs:=by
     refine ⟨by omega,hit5,hP.keep (fun q hq=>hb5.block q (hpC q hq)),ho5,hT.keep (fun b hb=>hb5.block b (by omega)) hb5.size,hpC,hC1,by have:=hb5.size;omega,HF.out,by simp;omega,fun e=>(by simp at e),?_,hb2.trans (hb5.mono (by omega))⟩;rw [← List.append_assoc,HALL.out,HTK.out]
    have HN:Hid (CutR s rs hid w u5 (.slice (some ⟨g5,0,none⟩) (cur.length+1) cap5) w5 (j+1) C F (cur++[r]) gs):=hnew;clear hnew hP hV hT hpC ho5 hkp5;go_wp2_with (at_builtin;refine wpList_append_hr rfl _ _ 74 rfl _ _ rfl rfl hr ?_);refine ⟨⟨_,_,_,_,_,HN.out⟩,?_⟩;rw [HP.out,iterPos_of' hit5,ht.size];have h1:=posOf_lt rs (i:=j) (j:=j+1) (by omega) (by omega);have h2:=posOf_mono rs (i:=j+1) (j:=rs.length) (by omega);omega
  ·obtain rfl:j=rs.length:=by omega
   have hnx:∀ ty,(Instr.next (.pointer (some ⟨w.heap.size,0,none⟩)) true ty).run Tryz.prog wr=_:=fun ty=>run_next_done ht wr w.heap.size ty hit
   have hP:=hR.ownP;have hV:=hR.ownR;have hT:=hR.trees;have hC1:=hR.C1;have hC2:=hR.C2;have hb2:=hR.below;have hcne:cur≠[]:=fun e=>hne (List.eq_nil_of_length_eq_zero (hR.start e))
   have hfew:=hR.few;have hall:=hR.all;rw [List.take_length] at hall;have HCH:Hid (Chunks rs hid ((F++[cur]).map fun x=>Tr.leaf x hid 0)):=chunks_end hR.full hR.few hcne hall;obtain ⟨ar,cr,rfl⟩:=hV.shape;have HPC:=piece_d hV.rwn hid (by omega) (fun b=>wr.heap.size≤b∨(Value.slice ar cur.length cr).ownBlock=some b) (fun b hb=>.inl hb) (fun h0 gr off e=>.inr (by rw [e];rfl));rw [mkPiece_leaf hid hcne] at HPC;have hgl:gs.length≤1048576:=by
    have h1:=hT.1;have h2:=flatten_len hR.full hR.all;rw [List.length_map] at h1;omega
   clear hR hcne hall hit;go_wp2_with fail;refine HPC.mono ?_;rintro e w3 ⟨g3,rfl,hA3,hb3⟩;unfold ptr;obtain ⟨g4,cap4,w4,hr4,ho4,hb4,hkp4,hgt4,hat4⟩:=appendF_one kindG layG (hP.below hb3) (by have:=hb3.size;omega) g3 #[.pointer (some ⟨g3,0,none⟩)] rfl 70 (by omega) (by omega) 68;have hF4:=flush hP hV hC1 hC2 hT hA3 hb3 hkp4 (by omega) hat4;have hB4:Below w.heap.size w w4:=(hb2.trans (hb3.mono (by omega))).trans hb4;clear hP hV hT hA3 hkp4;go_wp2_with (at_builtin;refine wpList_append_hr rfl _ _ 68 rfl _ _ rfl rfl hr4 ?_);go_ret;refine ⟨_,_,_,rfl,ho4,?_,HCH.out,hB4⟩;rw [List.map_append];exact hF4.mono fun b hb=>⟨hb.1,hb.2.2⟩
theorem checkCells_any {s:ByteArray} {rs:List Int} (ht:IsText s rs) (hlen:rs.length≤1048576) (hid:Int) (h0:0≤hid) (h1:hid≤1048576) (w:World) (hB:Bar w) :
  Calls Tryz.prog 21 #[.string s,.int .i64 hid] w fun e w'=>e=.returned (.tuple #[.int .i64 (rs.length:Int),.int .i64 0])∧Below w.heap.size w w':=by
 have hsm:=ht.small;have HC:=check_bar (by omega) ht.check w hB;go_enter Tryz.func21,Tryz.ntmps21;go_wp2_with fail;refine HC.mono ?_;rintro e w1 ⟨rfl,hb1⟩;go_wp2_with fail;go_ret2;exact ⟨rfl,hb1⟩
structure FromOk (L:List GRun):Prop where
 text:∀ x∈L,IsText x.s x.rs
 some_:∀ x∈L,x.rs≠[]
 lo:∀ x∈L,0≤x.h
 hi:∀ x∈L,x.h≤1048576
 apart:∀ (j:Nat) x y,L[j]?=some x→L[j+1]?=some y→x.h≠y.h
 few:(cellsOf L).length≤1048576
theorem sizeNe (s:ByteArray) (h:0<s.size):(s.toList==[])=false:=by
 rw [beq_eq_false_iff_ne];intro e;have h2:s.toList=s.data.toList:=ByteArray.toList_eq _;rw [h2] at e;have h3:=size_data s;rw [e,List.length_nil] at h3;omega
theorem isText_ne {s:ByteArray} {rs:List Int} (h:IsText s rs) (hne:rs≠[]):(s.toList==[])=false:=by
 refine sizeNe s ?_;have h1:=h.big;have h2:=List.length_pos_iff.2 hne;omega
inductive Parts:List GRun→List Tr→Prop
 | nil:Parts [] []
 | snoc {L:List GRun} {ts us:List Tr} {x:GRun} (h:Parts L ts) (hc:Chunks x.rs x.h us):Parts (L++[x]) (ts++us)
theorem cellsOf_append (L M:List GRun):cellsOf (L++M)=cellsOf L++cellsOf M:=by simp [cellsOf]
theorem Parts.row {L:List GRun} {ts:List Tr} (h:Parts L ts):rowOf (lvs ts)=cellsOf L:=by
 induction h with
 | nil=>rfl
 | snoc h hc ih =>
  rw [rowOf_lvs_append,ih,hc.row,cellsOf_append];simp [cellsOf]
theorem Parts.each {L:List GRun} {ts:List Tr} (h:Parts L ts) (lo:∀ x∈L,0≤x.h) (hi:∀ x∈L,x.h≤1048576):∀ t∈ts,t.isLeaf∧t.Bd:=by
 induction h with
 | nil=>intro t ht;cases ht
 | snoc h hc ih =>
  intro t ht;rcases List.mem_append.1 ht with ht|ht
  ·exact ih (fun x hx=>lo x (List.mem_append_left _ hx)) (fun x hx=>hi x (List.mem_append_left _ hx)) t ht
  ·exact hc.each ⟨lo _ (by simp),hi _ (by simp)⟩ t ht
theorem Parts.len {L:List GRun} {ts:List Tr} (h:Parts L ts):ts.length≤(cellsOf L).length:=by
 induction h with
 | nil=>simp
 | snoc h hc ih =>
  have:=hc.len.1;rw [List.length_append,cellsOf_append,List.length_append];simp only [cellsOf,List.flatMap_cons,List.flatMap_nil,List.append_nil,List.length_map] at ih ⊢;omega
theorem take_snoc_get {α:Type} (L:List α) (i:Nat) (x:α) (hx:L[i]?=some x):L.take (i+1)=L.take i++[x]:=by
 obtain ⟨hi,rfl⟩:=List.getElem?_eq_some_iff.1 hx;exact List.take_succ_eq_append_getElem hi
theorem flushMany {B:Nat} {W1 w3 w4:World} {vp v:Value} {gs hs:List Nat} {ts us:List Tr} {g4:Nat} (hP:OwnF ptrV 1 70 W1 B vp gs) (hB:B≤W1.heap.size)
  (hT:AtsD W1 (fun b=>B≤b∧b<W1.heap.size∧vp.ownBlock≠some b) ts gs) (hU:AtsD w3 (fun b=>W1.heap.size<b∧v.ownBlock≠some b) us hs) (hb3:Below W1.heap.size W1 w3)
  (hk4:Keeps w3 w4 vp) (hs4:w3.heap.size≤w4.heap.size) (hat:vp.ownBlock=some g4∨g4=w3.heap.size) :
  AtsD w4 (fun b=>B≤b∧b<w4.heap.size∧some g4≠some b) (ts++us) (gs++hs):=by
 have hs3:=hb3.size;refine AtsD.append ?_ ?_
 ·have h3:=hT.keep (w':=w3) (fun b hb=>hb3.block b (by omega)) hs3;have h4:=h3.keep (w':=w4) (fun b hb=>hk4 b (by omega) hb.2.2) hs4;refine h4.mono fun b hb=>⟨hb.1,by omega,fun e=>?_⟩
  rcases hat with h|h
  ·exact hb.2.2 (by rw [h,e])
  ·simp at e;omega
 ·refine ⟨hU.1,fun j t g h1 h2=>?_⟩;have h3:=(hU.2 j t g h1 h2).and_lt;have key:∀ b,W1.heap.size<b→vp.ownBlock≠some b:=fun b hb e=>by have:=hP.lt e;omega
  have h4:=h3.keep (w':=w4) (fun b hb=>hk4 b hb.2 (key b hb.1.1)) hs4;refine h4.mono fun b hb=>⟨by omega,by omega,fun e=>?_⟩
  rcases hat with h|h
  ·exact key b hb.1.1 (by rw [h,e])
  ·simp at e;omega
theorem from_any {w:World} {a:Option Addr} {n cap:Nat} {L:List GRun} (h:Rw runV 2 w a n cap L) (hL:FromOk L) (hBar:Bar w) :
  Calls Tryz.prog 8 #[.slice a n cap] w fun e w'=>∃ q t ts,e=.returned (.tuple #[ptr q,.int .i64 0])∧RopeAt w' q t∧Built ts t∧Parts L ts∧Below w.heap.size w w'∧w.heap.size≤q:=by
 have hlen:=h.len;have hroom:=h.room;have hn:n≤9223372036854775807:=by simp only [maxLen] at hroom;omega
 have HL:Hid (FromOk L):=hL;have hfew:=hL.few;have hcp:Hid (∀ j,j<n→∃ g off x,a=some ⟨g,off,none⟩∧g<w.heap.size∧L[j]?=some x∧∀ W,Below w.heap.size w W→W.cell? ⟨g,off+j*2,none⟩=some (.string x.s)∧W.cell? ⟨g,off+j*2+1,none⟩=some (.int .i64 x.h)):=fun j hj=>by
  obtain ⟨g,off,x,ha,hg,hx,hc⟩:=h.at j hj;exact ⟨g,off,x,ha,hg,hx,fun W hW=>⟨(hW.cell (p:=⟨g,off+j*2+0,none⟩) hg).trans (hc 0 _ rfl),(hW.cell (p:=⟨g,off+j*2+1,none⟩) hg).trans (hc 1 _ rfl)⟩⟩
 clear hL;unfold ptr;go_enter Tryz.func8,Tryz.ntmps8;go_wp2_with fail;go_loopw [4,14] (fun vt vi w'=>∃ i:Nat,i≤n∧vi=.int .i64 (i:Int)∧vt=.int .i64 ((cellsOf (L.take i)).length:Int)∧Below w.heap.size w w') (fun _ i _=>n-(RowKit.intOf i).toNat)
 case atStart=>exact ⟨0,Nat.zero_le _,rfl,rfl,bE _ _⟩
 case round =>
  obtain ⟨i,hi,rfl,rfl,hb⟩:=hrel;by_cases hin:i<n
  ·obtain ⟨g,off,x,rfl,hg,hx,hc⟩:=hcp.out i hin;obtain ⟨c0,c1⟩:=hc wr hb;have hmem:=List.mem_of_getElem? hx;have htx:=HL.out.text x hmem;have hxne:=HL.out.some_ x hmem;have hlo:=HL.out.lo x hmem;have hhi:=HL.out.hi x hmem;have hse:=isText_ne htx hxne;have hle:=cellsOf_le L i x hx;have HS:Hid ((cellsOf (L.take (i+1))).length=(cellsOf (L.take i)).length+x.rs.length):=by
    show _=_;rw [cellsOf_take_succ L i x hx,List.length_append,List.length_map]
   have HK:Hid (∀ W,Below w.heap.size w W→Calls Tryz.prog 21 #[.string x.s,.int .i64 x.h] W fun e w'=>e=.returned (.tuple #[.int .i64 (x.rs.length:Int),.int .i64 0])∧Below W.heap.size W w'):=fun W hW=>checkCells_any htx (by omega) x.h hlo hhi W (hBar.below hW)
   generalize htot:(cellsOf (L.take i)).length=tot at *;clear htot;have hsz:=hb.size;by_cases hi0:i=0
   ·subst hi0;simp only [Nat.zero_mul,Nat.add_zero] at c0 c1;clear hc hx hmem htx hxne;go_wp2_with fail;go_quiet (fail);go_wp2_with fail;refine (HK.out _ (below_drewN (hb.alloc hsz _) _)).mono ?_;rintro e w1 ⟨rfl,hb1⟩;have hB1:Below w.heap.size w w1:=(below_drewN (hb.alloc hsz _) _).trans (hb1.mono (by simp;omega));go_wp2_with fail;go_roundw
    case rel=>exact ⟨1,by omega,rfl,by rw [HS.out];go_num,hB1⟩
    case measure=>simp [RowKit.intOf];omega
   ·obtain ⟨i,rfl⟩:∃ i',i=i'+1:=⟨i-1,by omega⟩;obtain ⟨g',off',y,hga,_,hy,hcy⟩:=hcp.out i (by omega);cases hga;have d1:=(hcy wr hb).2;have hne:(x.h==y.h)=false:=by rw [beq_eq_false_iff_ne];exact fun e=>HL.out.apart i y x hy hx e.symm
    clear hc hx hmem htx hxne hcy hi0 hy;generalize y.h=yh at *;have d2:=cell_al d1 (.cells #[.string x.s,.int .i64 x.h] 65);have hgw:g<wr.heap.size:=by omega
    clear d1;go_wp2_with fail;go_quiet (fail);go_wp2_with fail;refine (HK.out _ (below_drewN (hb.alloc hsz _) _)).mono ?_;rintro e w1 ⟨rfl,hb1⟩;have hB1:Below w.heap.size w w1:=(below_drewN (hb.alloc hsz _) _).trans (hb1.mono (by simp;omega));go_wp2_with fail;go_roundw
    case rel=>exact ⟨i+1+1,by omega,by go_num,by rw [HS.out];go_num,hB1⟩
    case measure=>simp [RowKit.intOf];omega
  ·obtain rfl:i=n:=by omega
   rw [show L.take i=L from List.take_of_length_le (by omega)];generalize htot:(cellsOf L).length=tot at *;clear htot;have hb0:=hb;clear hb;go_wp2_with fail;go_loopw [9,56] (fun vp vi w'=>∃ j gs ts,j≤i∧vi=.int .i64 ((j:Nat):Int)∧OwnF ptrV 1 70 w' w.heap.size vp gs∧AtsD w' (fun b=>w.heap.size≤b∧b<w'.heap.size∧vp.ownBlock≠some b) ts gs∧Parts (L.take j) ts∧Below w.heap.size w w') (fun _ j _=>i-(RowKit.intOf j).toNat)
   case atStart=>exact ⟨0,[],[],Nat.zero_le _,rfl,ownF_nil _ _,atsD_nil _ _,Parts.nil,hb0⟩
   case round =>
    obtain ⟨j,gs,ts,hj,rfl,hP,hT,hPa,hb⟩:=hrel;have hsz:=hb.size;by_cases hjn:j<i
    ·obtain ⟨g,off,x,rfl,hg,hx,hc⟩:=hcp.out j hjn;obtain ⟨c0,c1⟩:=hc wr hb;have hmem:=List.mem_of_getElem? hx;have htx:=HL.out.text x hmem;have hxne:=HL.out.some_ x hmem;have hle:=cellsOf_le L j x hx;have hfew2:=HL.out.few;have hPl:=hPa.len;have hgl:gs.length≤(cellsOf (L.take j)).length:=by have:=hT.1;omega
     have HS:Hid (∀ us,Chunks x.rs x.h us→Parts (L.take (j+1)) (ts++us)):=fun us hu=>by
      rw [take_snoc_get L j x hx];exact Parts.snoc hPa hu
     have HCut:Hid (∀ W,Calls Tryz.prog 22 #[.string x.s,.int .i64 x.h] W fun e w'=>∃ v gs ts,e=.returned v∧OwnF ptrV 1 70 w' W.heap.size v gs∧AtsD w' (fun b=>W.heap.size<b∧v.ownBlock≠some b) ts gs∧Chunks x.rs x.h ts∧Below W.heap.size W w'):=fun W=>cut_any htx hxne x.h (by omega) W
     have hxl:x.rs.length≤1048576:=by omega
     have hgl2:gs.length≤1048576:=by omega
     clear hc hmem htx hxne hx hle hPl hgl hPa hfew2;go_wp2_with fail;refine (HCut.out _).mono ?_;rintro e w3 ⟨v,hs,us,rfl,hO3,hU3,hCh,hb3⟩;have hul:=hCh.len;have hhl:=hU3.1;obtain ⟨av,cv,rfl⟩:=hO3.shape;have hA1:Below wr.heap.size wr (wr.alloc (.cells #[.string x.s,.int .i64 x.h] 65)):=(bE _ _).alloc (lR _) _;have hP1:=hP.below hA1;have hT1:AtsD (wr.alloc (.cells #[.string x.s,.int .i64 x.h] 65)) (fun b=>w.heap.size≤b∧b<(wr.alloc (.cells #[.string x.s,.int .i64 x.h] 65)).heap.size∧u9.ownBlock≠some b) ts gs:=(hT.keep (fun b hb=>hA1.block b hb.2.1) hA1.size).mono fun b hb=>⟨hb.1,by have:=hA1.size;omega,hb.2.2⟩
     obtain ⟨g4,cap4,w4,hr4,ho4,hb4,hkp4,hat4⟩:=appendF kindG layG (hP1.below hb3) (by have:=hb3.size;simp at this;omega) (hO3.rw_ layG) (by omega) (by omega) (by omega) 68;have hT4:=flushMany hP1 (by simp;omega) hT1 hU3 hb3 hkp4 hb4.size hat4;have hB4:Below w.heap.size w w4:=((hb.alloc hsz _).trans (hb3.mono (by simp;omega))).trans hb4;have HT4:Hid (AtsD w4 (fun b=>w.heap.size≤b∧b<w4.heap.size∧some g4≠some b) (ts++us) (gs++hs)):=hT4;clear hT4 hT1 hP1 hT hP hU3 hO3 hkp4;go_wp2_with (at_builtin;refine wpList_append_hr rfl _ _ 68 rfl _ _ rfl rfl hr4 ?_);go_roundw
     case rel=>exact ⟨j+1,_,_,by omega,by go_num,ho4,HT4.out,HS.out _ hCh,hB4⟩
     case measure=>simp [RowKit.intOf];omega
    ·obtain rfl:j=i:=by omega
     rw [show L.take j=L from List.take_of_length_le (by omega)] at hPa;have hPl:=hPa.len;obtain ⟨av,cv,rfl⟩:=hP.shape;have hgl:gs.length≤1048576:=by have:=hT.1;have:=HL.out.few;omega
     have HG:=grown_len gs.length gs.length (lR _) (hP.rw_ layG) hT.ats (hPa.each HL.out.lo HL.out.hi) hgl (by rw [hPa.row];exact HL.out.few);clear hP hT;go_wp2_with fail;refine HG.mono ?_;rintro e w3 ⟨g3,t,rfl,hA3,hBt,hb3⟩;unfold ptr;have hB3:Below w.heap.size w w3:=hb.trans (hb3.mono hsz);have hAl:Below w3.heap.size w3 (w3.alloc (.cells #[.pointer (some ⟨g3,0,none⟩)] 73)):=(bE _ _).alloc (lR _) _;go_wp2_with fail;go_ret2;exact ⟨w3.heap.size,t,ts,rfl,⟨g3,heap_alloc_new _ _,hA3.below hAl⟩,hBt,hPa,hB3.alloc hB3.size _,hB3.size⟩
structure Tr.Fine (t:Tr):Prop where
 wf:t.Wf
 bd:t.Bd
 avl:t.Avl
theorem Tr.row_len (t:Tr):t.row.length=(rowOf t.lv).length:=by rw [Tr.row_lv]
structure J2 (a b t:Tr):Prop where
 lv:t.lv=a.lv++b.lv
 fine:t.Fine
 lo:max a.sm.high b.sm.high≤t.sm.high
 hi:t.sm.high≤max a.sm.high b.sm.high+1
 ex:a.sm.high≤b.sm.high+1→b.sm.high≤a.sm.high+1→t.sm.high=max a.sm.high b.sm.high+1
theorem Tr.lv_pair (a b:Tr):(Tr.node a b 0).lv=a.lv++b.lv:=by simp only [Tr.lv];rw [upP_zero]
theorem Tr.high_pair (a b:Tr):(Tr.node a b 0).sm.high=max a.sm.high b.sm.high+1:=rfl
theorem Tr.row_pair (a b:Tr):(Tr.node a b 0).row=a.row++b.row:=by simp only [Tr.row];rw [upL_zero]
theorem Tr.bd_pair {a b:Tr} (ha:a.Bd) (hb:b.Bd):(Tr.node a b 0).Bd:=⟨ha,hb,by rw [Tr.row_pair];exact ha.row.append hb.row⟩
theorem Tr.Fine.pair {a b:Tr} (ha:a.Fine) (hb:b.Fine) (h1:a.sm.high≤b.sm.high+1) (h2:b.sm.high≤a.sm.high+1):(Tr.node a b 0).Fine:=⟨⟨ha.wf,hb.wf⟩,Tr.bd_pair ha.bd hb.bd,⟨ha.avl,hb.avl,h1,h2⟩⟩
theorem j2_pair {a b:Tr} (ha:a.Fine) (hb:b.Fine) (h1:a.sm.high≤b.sm.high+1) (h2:b.sm.high≤a.sm.high+1):J2 a b (.node a b 0) :=
 ⟨Tr.lv_pair a b,ha.pair hb h1 h2,by rw [Tr.high_pair];omega,by rw [Tr.high_pair];omega,fun _ _=>Tr.high_pair a b⟩
structure SidesOf (n l r:Tr):Prop where
 lv:n.lv=l.lv++r.lv
 fl:l.Fine
 fr:r.Fine
 high:n.sm.high=max l.sm.high r.sm.high+1
 h1:l.sm.high≤r.sm.high+1
 h2:r.sm.high≤l.sm.high+1
theorem Tr.Fine.sides {l r:Tr} {st:Int} (h:(Tr.node l r st).Fine):SidesOf (.node l r st) (l.raise st) (r.raise st):=by
 have hb:=h.bd.sides h.wf;refine ⟨Tr.lv_node l r st,⟨Tr.wf_raise l h.wf.1 st,hb.1,Tr.avl_raise l st h.avl.1⟩,⟨Tr.wf_raise r h.wf.2 st,hb.2,Tr.avl_raise r st h.avl.2.1⟩,?_,?_,?_⟩<;>rw [Tr.high_raise,Tr.high_raise]
 ·rfl
 ·exact h.avl.2.2.1
 ·exact h.avl.2.2.2
theorem SidesOf.len {n l r:Tr} (h:SidesOf n l r):n.row.length=l.row.length+r.row.length:=by rw [Tr.row_len,Tr.row_len,Tr.row_len,h.lv,rowOf_append,List.length_append]
theorem Tr.Fine.node_of {t:Tr} (h:t.Fine) (h2:2≤t.sm.high):∃ l r st,t=.node l r st:=by
 cases t with
 | nil=>exact h.wf.elim
 | leaf rs hid st=>exact absurd h2 (by simp [Tr.sm,pieceSm])
 | node l r st=>exact ⟨l,r,st,rfl⟩
theorem Tr.Fine.pos {t:Tr} (h:t.Fine):1≤t.sm.high:=h.wf.high_pos
theorem Tr.Fine.smBd {t:Tr} (h:t.Fine) (hn:t.row.length≤2097152):SmBd t.sm:=Tr.smBd (.inr h.wf) h.bd hn
theorem rot1 {l o i r:Tr} (hs:SidesOf l o i) (hr:r.Fine) (hd:l.sm.high=r.sm.high+2) (ho:i.sm.high≤o.sm.high):J2 l r (.node o (.node i r 0) 0):=by
 have h0:=hs.high;have h1:=hs.h1;have h2:=hs.h2;have p1:=hs.fr.pair hr (by omega) (by omega);refine ⟨?_,hs.fl.pair p1 ?_ ?_,?_,?_,fun e=>by omega⟩
 ·rw [Tr.lv_pair,Tr.lv_pair,hs.lv];simp
 all_goals simp only [Tr.high_pair]
 all_goals omega
theorem rot2 {l o i a b r:Tr} (hs:SidesOf l o i) (hi:SidesOf i a b) (hr:r.Fine) (hd:l.sm.high=r.sm.high+2) (ho:o.sm.high<i.sm.high):J2 l r (.node (.node o a 0) (.node b r 0) 0):=by
 have h0:=hs.high;have h1:=hs.h1;have h2:=hs.h2;have g0:=hi.high;have g1:=hi.h1;have g2:=hi.h2;have p1:=hs.fl.pair hi.fl (by omega) (by omega);have p2:=hi.fr.pair hr (by omega) (by omega);refine ⟨?_,p1.pair p2 ?_ ?_,?_,?_,fun e=>by omega⟩
 ·rw [Tr.lv_pair,Tr.lv_pair,Tr.lv_pair,hs.lv,hi.lv];simp
 all_goals simp only [Tr.high_pair]
 all_goals omega
theorem rot3 {l r i o:Tr} (hs:SidesOf r i o) (hl:l.Fine) (hd:r.sm.high=l.sm.high+2) (ho:i.sm.high≤o.sm.high):J2 l r (.node (.node l i 0) o 0):=by
 have h0:=hs.high;have h1:=hs.h1;have h2:=hs.h2;have p1:=hl.pair hs.fl (by omega) (by omega);refine ⟨?_,p1.pair hs.fr ?_ ?_,?_,?_,fun _ e=>by omega⟩
 ·rw [Tr.lv_pair,Tr.lv_pair,hs.lv];simp
 all_goals simp only [Tr.high_pair]
 all_goals omega
theorem rot4 {l r i o a b:Tr} (hs:SidesOf r i o) (hi:SidesOf i a b) (hl:l.Fine) (hd:r.sm.high=l.sm.high+2) (ho:o.sm.high<i.sm.high):J2 l r (.node (.node l a 0) (.node b o 0) 0):=by
 have h0:=hs.high;have h1:=hs.h1;have h2:=hs.h2;have g0:=hi.high;have g1:=hi.h1;have g2:=hi.h2;have p1:=hl.pair hi.fl (by omega) (by omega);have p2:=hi.fr.pair hs.fr (by omega) (by omega);refine ⟨?_,p1.pair p2 ?_ ?_,?_,?_,fun _ e=>by omega⟩
 ·rw [Tr.lv_pair,Tr.lv_pair,Tr.lv_pair,hs.lv,hi.lv];simp
 all_goals simp only [Tr.high_pair]
 all_goals omega
theorem sides_p {w:World} {n:Tr} {g:Nat} (h:At w n g) (hf:n.Fine) (h2:2≤n.sm.high) (hn:n.row.length≤2097152) :
  Calls Tryz.prog 92 #[.pointer (some ⟨g,0,none⟩)] w fun e w'=>∃ gl gr l r,e=.returned (.tuple #[.pointer (some ⟨gl,0,none⟩),.pointer (some ⟨gr,0,none⟩)])∧At w' l gl∧At w' r gr∧SidesOf n l r∧Below w.heap.size w w':=by
 obtain ⟨l,r,st,rfl⟩:=hf.node_of h2;refine (sides_any h hf.wf hf.bd hn).mono ?_;rintro e w' ⟨gl,gr,rfl,hl,hr,hb⟩;exact ⟨gl,gr,_,_,rfl,hl,hr,hf.sides,hb⟩
theorem paired_p {w:World} {a b:Tr} {ga gb:Nat} (ha:At w a ga) (hb:At w b gb) (fa:a.Fine) (fb:b.Fine) (hn:a.row.length+b.row.length≤2097152) :
  Calls Tryz.prog 56 #[.pointer (some ⟨ga,0,none⟩),.pointer (some ⟨gb,0,none⟩)] w fun e w'=>∃ g,e=.returned (.pointer (some ⟨g,0,none⟩))∧At w' (.node a b 0) g∧Below w.heap.size w w' :=
 paired_any ha hb (.inr fa.wf) (.inr fb.wf) fa.bd fb.bd hn
theorem At.high {w:World} {t:Tr} {g:Nat} (h:At w t g):w.cell? ⟨g,2,none⟩=some (.int .i64 t.sm.high):=by
 obtain ⟨_,_,h2,_⟩:=h.ten;exact h2
theorem At.cells {w:World} {t:Tr} {g:Nat} (h:At w t g):w.cell? ⟨g,0,none⟩=some (.int .i64 t.sm.cells):=h.ten.1
theorem balanced_any {w:World} {l r:Tr} {gl gr:Nat} (hl:At w l gl) (hr:At w r gr) (fl:l.Fine) (fr:r.Fine) (h1:l.sm.high≤r.sm.high+2) (h2:r.sm.high≤l.sm.high+2) (hn:l.row.length+r.row.length≤2097152) :
  Calls Tryz.prog 120 #[.pointer (some ⟨gl,0,none⟩),.pointer (some ⟨gr,0,none⟩)] w fun e w'=>∃ g t,e=.returned (.pointer (some ⟨g,0,none⟩))∧At w' t g∧J2 l r t∧Below w.heap.size w w':=by
 have cl:=hl.high;have cr:=hr.high;have bl:=(fl.smBd (by omega)).high;have br:=(fr.smBd (by omega)).high;have pl:=fl.pos;have pr:=fr.pos;have ltl:=hl.lt;have ltr:=hr.lt;have hb0:Below w.heap.size w w:=bE _ _;by_cases hA:r.sm.high+1<l.sm.high
 ·have hd:l.sm.high=r.sm.high+2:=by omega
  have HD:Hid (l.sm.high=r.sm.high+2):=hd;have h2l:2≤l.sm.high:=by omega
  clear hd h1 h2;go_enter Tryz.func120,Tryz.ntmps120;go_wp2_with fail;go_quiet (fail);have hb1:=below_drewN hb0 nq;generalize w.drewN nq=w1 at *;go_wp2_with fail;refine (sides_p (hl.below hb1) fl h2l (by omega)).mono ?_;rintro e w2 ⟨go,gi,o,i,rfl,ho,hi,hs,hb2⟩;have hB2:=hb1.trans (hb2.mono hb1.size);have hr2:=hr.below hB2;have hlen:=hs.len;have HLEN:Hid (l.row.length=o.row.length+i.row.length):=hlen;have hlen2:o.row.length+i.row.length+r.row.length≤2097152:=by omega
  clear hlen hb1 hb2 cl cr;have co:=ho.high;have ci:=hi.high;have lto:=ho.lt;have lti:=hi.lt;have po:=hs.fl.pos;have pi:=hs.fr.pos;by_cases hO:i.sm.high≤o.sm.high
  ·have hj:=rot1 hs fr HD.out hO;go_wp2_with fail;go_quiet (fail);have hb3:=below_drewN (bE w2.heap.size w2) nq;generalize w2.drewN nq=w3 at *;have hB3:=hB2.trans (hb3.mono hB2.size);go_wp2_with fail;refine (paired_p (hi.below hb3) (hr2.below hb3) hs.fr fr (by omega)).mono ?_;rintro e w4 ⟨g4,rfl,hA4,hb4⟩;have hB4:=hB3.trans (hb4.mono hB3.size);have h34:=hb3.trans (hb4.mono hb3.size);go_wp2_with fail;refine (paired_p (ho.below h34) hA4 hs.fl (hs.fr.pair fr (by have:=hs.high;have:=HD.out;have:=hs.h1;have:=hs.h2;omega) (by have:=hs.high;have:=HD.out;have:=hs.h1;have:=hs.h2;omega)) (by rw [Tr.row_pair,List.length_append];omega)).mono ?_;rintro e w5 ⟨g5,rfl,hA5,hb5⟩;go_wp2_with fail;go_ret;exact ⟨g5,_,rfl,hA5,hj,hB4.trans (hb5.mono hB4.size)⟩
  ·have hO2:o.sm.high<i.sm.high:=by omega
   go_wp2_with fail;go_quiet (fail);have hb3:=below_drewN (bE w2.heap.size w2) nq;generalize w2.drewN nq=w3 at *;have hB3:=hB2.trans (hb3.mono hB2.size);go_wp2_with fail;refine (sides_p (hi.below hb3) hs.fr (by omega) (by omega)).mono ?_;rintro e w4 ⟨ga,gb,a,b,rfl,ha4,hb4',hsi,hb4⟩;have hlen4:=hsi.len;have hj:=rot2 hs hsi fr HD.out hO2;have q0:=hs.high;have q1:=HD.out;have q2:=hs.h1;have q3:=hs.h2;have q4:=hsi.high;have q5:=hsi.h1;have q6:=hsi.h2;have HP1:=hs.fl.pair hsi.fl (by omega) (by omega);have HP2:=hsi.fr.pair fr (by omega) (by omega);have hl4:o.row.length+a.row.length+(b.row.length+r.row.length)≤2097152:=by omega
   have hB4:=hB3.trans (hb4.mono hB3.size);have h34:=hb3.trans (hb4.mono hb3.size);have ho4:=ho.below h34;have hr4:=hr2.below h34;clear q0 q1 q2 q3 q4 q5 q6 hlen4 h34 hb3 hb4 ho hi hr2 co ci;go_wp2_with fail;refine (paired_p ho4 ha4 hs.fl hsi.fl (by omega)).mono ?_;rintro e w5 ⟨g5,rfl,hA5,hb5⟩;have hB5:=hB4.trans (hb5.mono hB4.size);go_wp2_with fail;refine (paired_p (hb4'.below hb5) (hr4.below hb5) hsi.fr fr (by omega)).mono ?_;rintro e w6 ⟨g6,rfl,hA6,hb6⟩;have hB6:=hB5.trans (hb6.mono hB5.size);go_wp2_with fail;refine (paired_p (hA5.below hb6) hA6 HP1 HP2 (by rw [Tr.row_pair,Tr.row_pair,List.length_append,List.length_append];omega)).mono ?_;rintro e w7 ⟨g7,rfl,hA7,hb7⟩;go_wp2_with fail;go_ret;exact ⟨g7,_,rfl,hA7,hj,hB6.trans (hb7.mono hB6.size)⟩
 ·by_cases hC:l.sm.high+1<r.sm.high
  ·have hd:r.sm.high=l.sm.high+2:=by omega
   have HD:Hid (r.sm.high=l.sm.high+2):=hd;have h2r:2≤r.sm.high:=by omega
   clear hd h1 h2;go_enter Tryz.func120,Tryz.ntmps120;go_wp2_with fail;go_quiet (fail);have hb1:=below_drewN hb0 nq;generalize w.drewN nq=w1 at *;have cl1:=(hb1.cell (p:=⟨gl,2,none⟩) ltl).trans cl;have cr1:=(hb1.cell (p:=⟨gr,2,none⟩) ltr).trans cr;go_wp2_with fail;go_quiet (fail);have hb1':=hb1.trans ((below_drewN (bE w1.heap.size w1) nq).mono hb1.size);generalize w1.drewN nq=w1' at *;go_wp2_with fail;refine (sides_p (hr.below hb1') fr h2r (by omega)).mono ?_;rintro e w2 ⟨gi,go,i,o,rfl,hi,ho,hs,hb2⟩;have hB2:=hb1'.trans (hb2.mono hb1'.size);have hl2:=hl.below hB2;have hlen:=hs.len;have hlen2:o.row.length+i.row.length+l.row.length≤2097152:=by omega
   clear hlen hb1 hb1' hb2 cl cr cl1 cr1;have co:=ho.high;have ci:=hi.high;have lto:=ho.lt;have lti:=hi.lt;have po:=hs.fr.pos;have pi:=hs.fl.pos;by_cases hO:i.sm.high≤o.sm.high
   ·have hj:=rot3 hs fl HD.out hO;go_wp2_with fail;go_quiet (fail);have hb3:=below_drewN (bE w2.heap.size w2) nq;generalize w2.drewN nq=w3 at *;have hB3:=hB2.trans (hb3.mono hB2.size);go_wp2_with fail;refine (paired_p (hl2.below hb3) (hi.below hb3) fl hs.fl (by omega)).mono ?_;rintro e w4 ⟨g4,rfl,hA4,hb4⟩;have hB4:=hB3.trans (hb4.mono hB3.size);have h34:=hb3.trans (hb4.mono hb3.size);go_wp2_with fail;refine (paired_p hA4 (ho.below h34) (fl.pair hs.fl (by have:=hs.high;have:=HD.out;have:=hs.h1;have:=hs.h2;omega) (by have:=hs.high;have:=HD.out;have:=hs.h1;have:=hs.h2;omega)) hs.fr (by rw [Tr.row_pair,List.length_append];omega)).mono ?_;rintro e w5 ⟨g5,rfl,hA5,hb5⟩;go_wp2_with fail;go_ret;exact ⟨g5,_,rfl,hA5,hj,hB4.trans (hb5.mono hB4.size)⟩
   ·have hO2:o.sm.high<i.sm.high:=by omega
    go_wp2_with fail;go_quiet (fail);have hb3:=below_drewN (bE w2.heap.size w2) nq;generalize w2.drewN nq=w3 at *;have hB3:=hB2.trans (hb3.mono hB2.size);go_wp2_with fail;refine (sides_p (hi.below hb3) hs.fl (by omega) (by omega)).mono ?_;rintro e w4 ⟨ga,gb,a,b,rfl,ha4,hb4',hsi,hb4⟩;have hlen4:=hsi.len;have hj:=rot4 hs hsi fl HD.out hO2;have q0:=hs.high;have q1:=HD.out;have q2:=hs.h1;have q3:=hs.h2;have q4:=hsi.high;have q5:=hsi.h1;have q6:=hsi.h2;have HP1:=fl.pair hsi.fl (by omega) (by omega);have HP2:=hsi.fr.pair hs.fr (by omega) (by omega);have hl4:l.row.length+a.row.length+(b.row.length+o.row.length)≤2097152:=by omega
    have hB4:=hB3.trans (hb4.mono hB3.size);have h34:=hb3.trans (hb4.mono hb3.size);have ho4:=ho.below h34;have hr4:=hl2.below h34;clear q0 q1 q2 q3 q4 q5 q6 hlen4 h34 hb3 hb4 ho hi hl2 co ci;go_wp2_with fail;refine (paired_p hr4 ha4 fl hsi.fl (by omega)).mono ?_;rintro e w5 ⟨g5,rfl,hA5,hb5⟩;have hB5:=hB4.trans (hb5.mono hB4.size);go_wp2_with fail;refine (paired_p (hb4'.below hb5) (ho4.below hb5) hsi.fr hs.fr (by omega)).mono ?_;rintro e w6 ⟨g6,rfl,hA6,hb6⟩;have hB6:=hB5.trans (hb6.mono hB5.size);go_wp2_with fail;refine (paired_p (hA5.below hb6) hA6 HP1 HP2 (by rw [Tr.row_pair,Tr.row_pair,List.length_append,List.length_append];omega)).mono ?_;rintro e w7 ⟨g7,rfl,hA7,hb7⟩;go_wp2_with fail;go_ret;exact ⟨g7,_,rfl,hA7,hj,hB6.trans (hb7.mono hB6.size)⟩
  ·have hj:=j2_pair fl fr (by omega) (by omega);clear h1 h2;go_enter Tryz.func120,Tryz.ntmps120;go_wp2_with fail;go_quiet (fail);have hb1:=below_drewN hb0 nq;generalize w.drewN nq=w1 at *;have cl1:=(hb1.cell (p:=⟨gl,2,none⟩) ltl).trans cl;have cr1:=(hb1.cell (p:=⟨gr,2,none⟩) ltr).trans cr;go_wp2_with fail;go_quiet (fail);have hb1':=hb1.trans ((below_drewN (bE w1.heap.size w1) nq).mono hb1.size);generalize w1.drewN nq=w1' at *;go_wp2_with fail;refine (paired_p (hl.below hb1') (hr.below hb1') fl fr hn).mono ?_;rintro e w2 ⟨g2,rfl,hA2,hb2⟩;go_wp2_with fail;go_ret;exact ⟨g2,_,rfl,hA2,hj,hb1'.trans (hb2.mono hb1'.size)⟩
end Go.Proofs.YtijpfbcippijoaaGreatDoor
