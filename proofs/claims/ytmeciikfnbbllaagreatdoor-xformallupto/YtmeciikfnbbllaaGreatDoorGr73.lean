import Derived.Test.YtmeciikfnbbllaaGreatDoorAl
import Derived.Test.YtmeciikfnbbllaaGreatDoorGr62
import Derived.Test.YtmeciikfnbbllaaGreatDoorGr61
import Derived.Deep.RegionHeld3
import Derived.Deep.AppendLies
set_option maxHeartbeats 4000000
set_option maxRecDepth 100000
namespace Go.Proofs.YtmeciikfnbbllaaGreatDoor.Sp
def Piece (cuts:List Int) (k:Nat) (q:Int):Prop:=k+1<cuts.length∧cuts.getD k 0≤q∧q<cuts.getD (k+1) 0
theorem asc_get {cuts:List Int} (h:cuts.Pairwise (·≤·)) {i j:Nat} (hij:i≤j) (hj:j<cuts.length):cuts.getD i 0≤cuts.getD j 0:=by
 rcases Nat.lt_or_ge i j with hlt|hge
 ·have:=List.pairwise_iff_getElem.1 h i j (by omega) hj hlt;simpa [List.getD_eq_getElem?_getD,hj,show i<cuts.length by omega] using this
 ·have:i=j:=by omega
  subst this;exact Int.le_refl _
theorem mem_get {cuts:List Int} {x:Int} (h:x∈cuts):∃ i,i<cuts.length∧cuts.getD i 0=x:=by
 obtain ⟨i,hi,rfl⟩:=List.getElem_of_mem h;exact ⟨i,hi,by simp [List.getD_eq_getElem?_getD,hi]⟩
theorem get_mem {cuts:List Int} {i:Nat} (h:i<cuts.length):cuts.getD i 0∈cuts:=by
 rw [List.getD_eq_getElem?_getD,List.getElem?_eq_getElem h];exact List.getElem_mem _
theorem last_cut {cuts:List Int} (hs:cuts.Pairwise (·≤·)) {q:Int} (h1:∃ x∈cuts,x≤q) (h2:∃ x∈cuts,q<x):∃ k,Piece cuts k q:=by
 obtain ⟨x,hx,hxq⟩:=h1;obtain ⟨y,hy,hqy⟩:=h2;obtain ⟨i,hi,rfl⟩:=mem_get hx;obtain ⟨j,hj,rfl⟩:=mem_get hy;have key:∀ d i,i+d=j→cuts.getD i 0≤q→∃ k,Piece cuts k q:=by
  intro d
  induction d with
  | zero=>intro i e h;rw [Nat.add_zero] at e;subst e;omega
  | succ d ih =>
   intro i e h;by_cases hn:cuts.getD (i+1) 0≤q
   ·exact ih (i+1) (by omega) hn
   ·exact ⟨i,by omega,h,by omega⟩
 have hij:i≤j:=by
  rcases Nat.lt_or_ge j i with h|h
  ·have:=asc_get hs (Nat.le_of_lt h) hi;omega
  ·exact h
 exact key (j-i) i (by omega) hxq
theorem pieces_all {cuts:List Int} {S:Int→Prop} {I:Nat→Prop} (hs:cuts.Pairwise (·≤·)) (hI:∀ k,k+1<cuts.length→(I k↔S (cuts.getD k 0)))
  (H1:∀ c q,c≤q→(∀ x∈cuts,¬ (c<x∧x≤q))→(S c↔S q)) (H2:∀ q,S q→(∃ x∈cuts,x≤q)∧∃ x∈cuts,q<x) (q:Int):(∃ k,I k∧Piece cuts k q)↔S q:=by
 have key:∀ k,Piece cuts k q→∀ x∈cuts,¬ (cuts.getD k 0<x∧x≤q):=fun k hk x hx hh=>by
  obtain ⟨i,hi,rfl⟩:=mem_get hx;rcases Nat.lt_or_ge k i with h|h
  ·have:=asc_get hs (show k+1≤i by omega) hi;have:=hk.2.2;omega
  ·have:=asc_get hs h (by have:=hk.1;omega);omega
 constructor
 ·rintro ⟨k,hk,hp⟩;exact (H1 _ q hp.2.1 (key k hp)).1 ((hI k hp.1).1 hk)
 ·intro hq;obtain ⟨k,hp⟩:=last_cut hs (H2 q hq).1 (H2 q hq).2;exact ⟨k,(hI k hp.1).2 ((H1 _ q hp.2.1 (key k hp)).2 hq),hp⟩
theorem lies_same {l:List (Int×Int)} {cuts:List Int} (hm:∀ r∈l,r.1∈cuts∧r.2∈cuts) {c q:Int} (hcq:c≤q) (h:∀ x∈cuts,¬ (c<x∧x≤q)):Lies l c↔Lies l q:=by
 constructor
 ·rintro ⟨r,hr,h1,h2⟩;refine ⟨r,hr,by omega,?_⟩;have:=h r.2 (hm r hr).2;omega
 ·rintro ⟨r,hr,h1,h2⟩;refine ⟨r,hr,?_,by omega⟩;have:=h r.1 (hm r hr).1;omega
def atMost (l:List Int) (x:Int):Nat:=(l.filter (fun y=>decide (y≤x))).length
theorem atMost_perm {k l:List Int} (h:k.Perm l) (x:Int):atMost k x=atMost l x:=(h.filter _).length_eq
theorem open_iff {l:List (Int×Int)} (hl:∀ r∈l,r.1≤r.2) (c:Int):atMost (l.map (·.2)) c≤atMost (l.map (·.1)) c∧(atMost (l.map (·.2)) c<atMost (l.map (·.1)) c↔Lies l c):=by
 induction l with
 | nil=>simp [atMost,lies_nil]
 | cons r t ih =>
  obtain ⟨i1,i2⟩:=ih (fun x hx=>hl x (List.mem_cons_of_mem _ hx));have hr:=hl r List.mem_cons_self;have e:∀ (f:Int×Int→Int),atMost ((r::t).map f) c=(if f r≤c then 1 else 0)+atMost (t.map f) c:=fun f=>by
   simp only [atMost,List.map_cons,List.filter_cons];split<;>split<;>simp_all<;>omega
  rw [e,e,lies_cons,← i2];by_cases h1:r.1≤c<;>by_cases h2:r.2≤c
  ·rw [if_pos h1,if_pos h2];constructor;omega;constructor;(intro h;exact .inr (by omega));(rintro (h|h);omega;omega)
  ·rw [if_pos h1,if_neg h2];constructor;omega;constructor;(intro _;exact .inl ⟨h1,by omega⟩);(intro _;omega)
  ·omega
  ·rw [if_neg h1,if_neg h2];constructor;omega;constructor;(intro h;exact .inr (by omega));(rintro (h|h);omega;omega)
theorem atMost_asc {l:List Int} {x:Int} {k:Nat} (hk:k≤l.length) (h1:∀ i,i<k→l.getD i 0≤x) (h2:∀ i,k≤i→i<l.length→x<l.getD i 0):atMost l x=k:=by
 have e:l=l.take k++l.drop k:=(List.take_append_drop k l).symm;unfold atMost;rw [e,List.filter_append,List.length_append,List.filter_eq_self.2 (fun y hy=>?_),List.filter_eq_nil_iff.2 (fun y hy=>?_)]
 ·simp;omega
 ·obtain ⟨i,hi,rfl⟩:=List.getElem_of_mem hy;have hi':i<l.length-k:=by simpa using hi
  have:=h2 (k+i) (by omega) (by omega);simp only [List.getD_eq_getElem?_getD,List.getElem?_eq_getElem (show k+i<l.length by omega),Option.getD_some] at this;simp only [List.getElem_drop,decide_eq_true_eq];omega
 ·obtain ⟨i,hi,rfl⟩:=List.getElem_of_mem hy;have hi':i<k:=by simp at hi;omega
  have:=h1 i hi';simp only [List.getD_eq_getElem?_getD,List.getElem?_eq_getElem (show i<l.length by omega),Option.getD_some] at this;simp only [List.getElem_take,decide_eq_true_eq];exact this
end Go.Proofs.YtmeciikfnbbllaaGreatDoor.Sp
namespace Go.Proofs.YtmeciikfnbbllaaGreatDoor.Sp
open Go.RowKit Go.Lib
theorem refUpTo_any {w:World} {a:Option Addr} {n cap:Nat} {ys:List Int} (h:RngI w a n cap ys) (hs:Asc ys) (x:Int) :
  Calls Tryz.prog 107 #[.slice a n cap,.int .i64 x] w fun e w'=>e=.returned (.int .i64 (atMost ys x))∧w'=w:=by
 have hln:=h.len;have hnb:n≤9223372036854775807:=by have:=h.room;simp only [maxLen] at this;omega
 obtain ⟨r,hr⟩:∃ r,atMost ys x=r:=⟨_,rfl⟩;have HR:Hid (atMost ys x=r):=hr;rw [hr];clear hr;go_enter Tryz.func107,Tryz.ntmps107;go_wp2_with fail;go_loop [5,6] (fun lo hi=>∃ l k:Nat,l≤k∧k≤n∧lo=.int .i64 l∧hi=.int .i64 k∧Hid ((∀ i,i<l→ys.getD i 0≤x)∧∀ i,k≤i→i<n→x<ys.getD i 0)) (fun lo hi=>(RowKit.intOf hi).toNat-(RowKit.intOf lo).toNat)
 case atStart=>exact ⟨0,n,Nat.zero_le _,lR _,rfl,rfl,fun i hi=>by omega,fun i h1 h2=>by omega⟩
 case round =>
  obtain ⟨l,k,hlk,hkn,rfl,rfl,HE⟩:=hrel;by_cases hlt:l<k
  ·obtain ⟨g,off,rfl,hg,hc⟩:=h.cells (l+(k-l) / 2) (by omega);by_cases hx:ys.getD (l+(k-l) / 2) 0≤x
   ·have HE2:Hid ((∀ i,i<l+(k-l) / 2+1→ys.getD i 0≤x)∧∀ i,k≤i→i<n→x<ys.getD i 0) :=
     ⟨fun i hi=>Int.le_trans (asc_get hs (by omega) (by omega)) hx,HE.out.2⟩
    generalize ys.getD (l+(k-l) / 2) 0=y at *;clear HE;go_wp2_with fail;go_round
    case rel=>exact ⟨l+(k-l) / 2+1,k,by omega,hkn,by go_num,rfl,HE2⟩
    case measure=>simp only [RowKit.intOf];omega
   ·have HE2:Hid ((∀ i,i<l→ys.getD i 0≤x)∧∀ i,l+(k-l) / 2≤i→i<n→x<ys.getD i 0) :=
     ⟨HE.out.1,fun i h1 h2=>Int.lt_of_lt_of_le (by omega) (asc_get hs h1 (by omega))⟩
    generalize ys.getD (l+(k-l) / 2) 0=y at *;clear HE;go_wp2_with fail;go_round
    case rel=>exact ⟨l,l+(k-l) / 2,by omega,by omega,rfl,by go_num,HE2⟩
    case measure=>simp only [RowKit.intOf];omega
  ·have hr:l=r:=by
    rw [← HR.out];exact (atMost_asc (by omega) HE.out.1 (fun i h1 h2=>HE.out.2 i (by omega) (by omega))).symm
   subst hr;clear HE HR;go_wp2_with fail;go_ret;exact ⟨rfl,rfl⟩
end Go.Proofs.YtmeciikfnbbllaaGreatDoor.Sp
namespace Go.Proofs.YtmeciikfnbbllaaGreatDoor.Sp
open Go.RowKit Go.Lib
theorem pget {l:List (Int×Int)} {i:Nat} (h:i<l.length):l.getD i (0,0)=l[i]:=by
 rw [List.getD_eq_getElem?_getD,List.getElem?_eq_getElem h];rfl
end Go.Proofs.YtmeciikfnbbllaaGreatDoor.Sp
namespace Go.Proofs.YtmeciikfnbbllaaGreatDoor.Sp
open Go.RowKit Go.Lib
structure RngB (w:World) (a:Option Addr) (n cap:Nat) (bs:List Bool):Prop where
 len:bs.length=n
 room:n≤cap∧cap≤maxLen
 cells:∀ j,j<n→∃ g off,a=some ⟨g,off,none⟩∧g<w.heap.size∧w.cell? ⟨g,off+j,none⟩=some (.bool (bs.getD j false))
def joinedL (cuts:List Int) (bs:List Bool):Nat→List (Int×Int)
 | 0=>[]
 | k+1=>if bs.getD k false=true then addedL (joinedL cuts bs k) (cuts.getD k 0) (cuts.getD (k+1) 0) else joinedL cuts bs k
theorem joinedL_length (cuts:List Int) (bs:List Bool) (k:Nat):(joinedL cuts bs k).length≤k:=by
 induction k with
 | zero=>simp [joinedL]
 | succ k ih =>
  rw [joinedL];split
  ·have:=addedL_length (joinedL cuts bs k) (cuts.getD k 0) (cuts.getD (k+1) 0);omega
  ·omega
theorem joinedL_last {cuts:List Int} (hs:Asc cuts) (bs:List Bool) (k:Nat) (hk:k<cuts.length) (r:Int×Int) (h:(joinedL cuts bs k).getLast?=some r):r.2≤cuts.getD k 0:=by
 induction k generalizing r with
 | zero=>simp [joinedL] at h
 | succ k ih =>
  have hle:cuts.getD k 0≤cuts.getD (k+1) 0:=asc_get hs (by omega) hk;rw [joinedL] at h;generalize cuts.getD (k+1) 0=y at *;generalize cuts.getD k 0=x at *;split at h
  ·unfold addedL at h;split at h
   ·have:=ih (by omega) r h;omega
   ·split at h
    ·simp at h;subst h;exact Int.le_refl _
    ·rename_i r0 h0
     have:=ih (by omega) r0 h0;split at h
     ·simp at h;subst h;simp only;omega
     ·simp at h;subst h;exact Int.le_refl _
  ·have:=ih (by omega) r h;omega
theorem step_append_e2 {P:Program} {ops:Array Oper} {o:Oper} {a:Act} {w:World} {K:Act→World→Prop} {Q:Exit→Act→World→Prop} {E:Prop} {R:Value→World→Prop} (hgd:o.guard=none) (s x:Operand) (t:TypeId)
  (ho:o.op=.call { callee:=.builtin .append,args:=#[s,x],argTypes:=#[t,t] }) (v u:Value) (hs:a.eval s=v) (hx:a.eval x=u)
  (hex:∃ v' w',(Builtin.append_ #[t,t] o.type #[v,u]).run P w=.ok v' w'∧R v' w') (h:∀ v' w',R v' w'→K (a.put o.dst v') w') :
  if Region.wanted o (yielded ops a.tmps)=true then Oper.wp P o a w K Q else E:=by
 obtain ⟨v',w',hr,hR⟩:=hex;have hw:Region.wanted o (yielded ops a.tmps)=true:=by simp [Region.wanted,hgd]
 rw [if_pos hw];unfold Oper.wp execOp;simp only [ho,resolve,invoke,builtin,Sem.run_bind,Sem.run_pure,Result.andThen_ok,List.map_toArray,List.map_cons,List.map_nil,hs,hx,hr];exact h v' w' hR
theorem joined_any {w:World} {a:Option Addr} {n cap:Nat} {cuts:List Int} (h:RngI w a n cap cuts) (hs:Asc cuts) {b:Option Addr} {capb:Nat} {bs:List Bool} (hk:RngB w b n capb bs) (hn:n≤1048576) :
  Calls Tryz.prog 108 #[.slice a n cap,.slice b n capb] w fun e w'=>∃ o no co,e=.returned (.slice o no co)∧Own w' w.heap.size (.slice o no co) (joinedL cuts bs (n-1))∧Below w.heap.size w w':=by
 have hln:=h.len;have hlb:=hk.len;go_enter Tryz.func108,Tryz.ntmps108;go_wp2_with fail;go_loopw [5,6] (fun vo vi w'=>∃ (j:Nat) (o:Option Addr) (no co:Nat),(j=0∨j+1≤n)∧no≤j∧vi=.int .i64 j∧vo=.slice o no co∧Own w' w.heap.size (.slice o no co) (joinedL cuts bs j)∧Below w.heap.size w w') (fun _ i _=>n-(RowKit.intOf i).toNat)
 case atStart=>exact ⟨0,none,0,0,.inl rfl,lR _,rfl,rfl,own_nil _ _,bE _ _⟩
 case round =>
  obtain ⟨j,o,no,co,hj0,hno,rfl,rfl,ho,hb⟩:=hrel;have hsz:=hb.size;by_cases hj:j+1<n
  ·obtain ⟨g,off,rfl,hg,hc⟩:=h.cells j (by omega);obtain ⟨g',off',e',_,hd⟩:=h.cells (j+1) (by omega);cases e';obtain ⟨g2,off2,rfl,hg2,hc2⟩:=hk.cells j (by omega);have c0:=(hb.cell (p:=⟨g,off+j,none⟩) hg).trans hc;have c1:=(hb.cell (p:=⟨g,off+(j+1),none⟩) hg).trans hd;have c2:=(hb.cell (p:=⟨g2,off2+j,none⟩) hg2).trans hc2;have hle:cuts.getD j 0≤cuts.getD (j+1) 0:=asc_get hs (by omega) (by omega);have hlast:=joinedL_last hs bs j (by omega);have hJ:Hid (joinedL cuts bs (j+1)=if bs.getD j false=true then addedL (joinedL cuts bs j) (cuts.getD j 0) (cuts.getD (j+1) 0) else joinedL cuts bs j):=rfl;generalize joinedL cuts bs j=L at *;generalize cuts.getD (j+1) 0=y at *;generalize cuts.getD j 0=x at *;generalize bs.getD j false=t at *;have hlen:=ho.rng.len;have HC:Hid (w.cell? ⟨g,off+j,none⟩=some (.int .i64 x)∧w.cell? ⟨g,off+(j+1),none⟩=some (.int .i64 y)):=⟨hc,hd⟩;clear hc hd hc2 hk h hs;cases t with
   | false =>
    have HJ:Hid (joinedL cuts bs (j+1)=L):=hJ.out.trans (if_neg (by decide));clear hJ hlast;go_wp2_with fail;go_quiet (fail);go_wp2_with fail;go_roundw
    case rel=>exact ⟨j+1,o,no,co,.inr (by omega),by omega,by go_num,rfl,HJ.out▸ho.below (below_drewN (bE _ _) _),below_drewN hb _⟩
    case measure=>simp [RowKit.intOf];omega
   | true =>
    have HJ:Hid (joinedL cuts bs (j+1)=addedL L x y):=hJ.out.trans (if_pos rfl);clear hJ;by_cases hxy:x=y
    ·subst hxy;have HJ2:Hid (joinedL cuts bs (j+1)=L):=HJ.out.trans (by unfold addedL;rw [if_pos (Int.le_refl _)]);clear HJ hlast;go_wp2_with fail;go_quiet (fail);go_wp2_with fail;go_roundw
     case rel=>exact ⟨j+1,o,no,co,.inr (by omega),by omega,by go_num,rfl,HJ2.out▸ho.below (below_drewN (bE _ _) _),below_drewN hb _⟩
     case measure=>simp [RowKit.intOf];omega
    ·have h1:¬ y≤x:=by omega
     have dxy:(x==y)=false:=by simp [hxy]
     have HAP:∀ W,Below wr.heap.size wr W→∃ v' w',(Builtin.append_ #[31,31] 31 #[.slice o no co,.slice (some ⟨W.heap.size,0,none⟩) 1 1]).run Tryz.prog (W.alloc (.cells #[.int .i64 x,.int .i64 y] 94))=.ok v' w'∧(∃ a'' co'',v'=.slice a'' (no+1) co''∧Own w' w.heap.size (.slice a'' (no+1) co'') (L++[(x,y)])∧Below w.heap.size w w'):=fun W hW=>by
      have hB:=hb.trans (hW.mono hsz);obtain ⟨a'',co'',w',hr,ho',hb',_,_⟩:=append_one (w:=W) (B:=w.heap.size) (ho.below hW) hB.size x y (by omega) 31;exact ⟨_,w',hr,a'',co'',rfl,ho',hB.trans hb'⟩
     rcases List.eq_nil_or_concat L with rfl|⟨l0,⟨p,q⟩,hl⟩
     ·have HJ2:Hid (joinedL cuts bs (j+1)=[]++[(x,y)]):=HJ.out.trans (by unfold addedL;rw [if_neg h1];rfl);simp only [List.length_nil] at hlen;subst hlen;clear HJ hlast h1 hxy;have HAP2:Hid _:=HAP;clear HAP;go_wp2_with fail;go_quiet (fail);go_wp2_with fail;go_quiet (fail);go_wp2_with fail
      rename_i nq0
      generalize hW0:(wr.drewN nq0).drewN nq=W0;have B0:Below wr.heap.size wr W0:=by rw [← hW0];exact below_drewN (below_drewN (bE _ _) _) _
      have hgr:g<wr.heap.size:=by omega
      have d0:=(B0.cell (p:=⟨g,off+j,none⟩) hgr).trans c0;have d1:=(B0.cell (p:=⟨g,off+(j+1),none⟩) hgr).trans c1;have HG:Hid (∀ W,Below w.heap.size w W→W.cell? ⟨g,off+j,none⟩=some (.int .i64 x)∧W.cell? ⟨g,off+(j+1),none⟩=some (.int .i64 y)):=fun W hW=>⟨(hW.cell (p:=⟨g,off+j,none⟩) hg).trans HC.out.1,(hW.cell (p:=⟨g,off+(j+1),none⟩) hg).trans HC.out.2⟩
      have i0:(0:Int)≤(j:Int):=by omega
      have i1:(j:Int)<(n:Int):=by omega
      have i2:j<n:=by omega
      have i3:(0:Int)≤(j:Int)+1:=by omega
      have i4:IntKind.i64.wrap ((j:Int)+1)=(j:Int)+1:=IntWalk.i64_in _ (by omega);clear c0 c1 c2 hW0 HC
      go_region_held3 (fun W=>W.cell? ⟨g,off+j,none⟩=some (.int .i64 x)∧W.cell? ⟨g,off+(j+1),none⟩=some (.int .i64 y)) (first|exact ⟨d0,d1⟩|exact hkk|go_keep)
       ((refine step_append_e2 (by rfl) _ _ 31 (by rfl) (.slice o 0 co) (.slice (some ⟨W0.heap.size,0,none⟩) 1 1) (by rfl) (by rfl) (HAP2.out W0.drew ⟨B0.os,B0.tape,B0.output,B0.size,B0.block⟩) ?_;rintro v' w' ⟨a'',co'',rfl,ho'',hb''⟩;have hkk:=HG.out _ hb''))
      go_wp2_with fail;go_roundw
      case rel=>exact ⟨j+1,a'',_,co'',.inr (by omega),by omega,by go_num,rfl,HJ2.out▸ho'',hb''⟩
      case measure=>simp [RowKit.intOf];omega
     ·rw [List.concat_eq_append] at hl;subst hl;simp only [List.length_append,List.length_cons,List.length_nil] at hlen;obtain ⟨g3,rfl,hBg,hg3,hfz⟩:=own_ptr ho (by omega);have hf1:=hfz (l0.length*2+1);obtain ⟨g',off',hga,_,hc0,hc1⟩:=ho.rng.cells l0.length (by omega);cases hga;rw [getD_snoc,Nat.zero_add] at hc0 hc1;simp only at hc0 hc1;subst hlen;have hqx:q≤x:=hlast (p,q) (by simp);by_cases h2:q=x
      ·subst h2
       have HJ2:Hid (joinedL cuts bs (j+1)=l0++[(p,y)]):=HJ.out.trans (by
        unfold addedL;rw [if_neg h1];simp;omega)
       have HO2:Hid (∀ m,Own ((wr.drewN m).setCell ⟨g3,l0.length*2+1,none⟩ (.int .i64 y)) w.heap.size (.slice (some ⟨g3,0,none⟩) (l0.length+1) co) (l0++[(p,y)])):=fun m=>own_set2 (ho.below (below_drewN (bE _ _) m)) y
       clear HJ hlast h1 hxy HAP hfz;go_wp2_with fail;go_quiet (fail);go_wp2_with fail;go_quiet (fail);go_wp2_with fail;go_roundw
       case rel=>exact ⟨j+1,_,_,_,.inr (by omega),by omega,by go_num,rfl,HJ2.out▸HO2.out _,(below_drewN hb _).setCell (p:=⟨g3,l0.length*2+1,none⟩) hBg _⟩
       case measure=>simp [RowKit.intOf];omega
      ·have dqx:(q==x)=false:=by simp [h2]
       have HJ2:Hid (joinedL cuts bs (j+1)=l0++[(p,q)]++[(x,y)]):=HJ.out.trans (by
        unfold addedL;rw [if_neg h1];simp;omega)
       clear HJ hlast h1 hxy h2 hfz;have HAP2:Hid _:=HAP;clear HAP;go_wp2_with fail;go_quiet (fail);go_wp2_with fail;go_quiet (fail);go_wp2_with fail
       rename_i nq0
       generalize hW0:(wr.drewN nq0).drewN nq=W0;have B0:Below wr.heap.size wr W0:=by rw [← hW0];exact below_drewN (below_drewN (bE _ _) _) _
       have hgr:g<wr.heap.size:=by omega
       have d0:=(B0.cell (p:=⟨g,off+j,none⟩) hgr).trans c0;have d1:=(B0.cell (p:=⟨g,off+(j+1),none⟩) hgr).trans c1;have HG:Hid (∀ W,Below w.heap.size w W→W.cell? ⟨g,off+j,none⟩=some (.int .i64 x)∧W.cell? ⟨g,off+(j+1),none⟩=some (.int .i64 y)):=fun W hW=>⟨(hW.cell (p:=⟨g,off+j,none⟩) hg).trans HC.out.1,(hW.cell (p:=⟨g,off+(j+1),none⟩) hg).trans HC.out.2⟩
       have i0:(0:Int)≤(j:Int):=by omega
       have i1:(j:Int)<(n:Int):=by omega
       have i2:j<n:=by omega
       have i3:(0:Int)≤(j:Int)+1:=by omega
       have i4:IntKind.i64.wrap ((j:Int)+1)=(j:Int)+1:=IntWalk.i64_in _ (by omega);clear c0 c1 c2 hW0 HC
       go_region_held3 (fun W=>W.cell? ⟨g,off+j,none⟩=some (.int .i64 x)∧W.cell? ⟨g,off+(j+1),none⟩=some (.int .i64 y)) (first|exact ⟨d0,d1⟩|exact hkk|go_keep)
        ((refine step_append_e2 (by rfl) _ _ 31 (by rfl) (.slice (some ⟨g3,0,none⟩) (l0.length+1) co) (.slice (some ⟨W0.heap.size,0,none⟩) 1 1) (by rfl) (by rfl) (HAP2.out W0.drew ⟨B0.os,B0.tape,B0.output,B0.size,B0.block⟩) ?_;rintro v' w' ⟨a'',co'',rfl,ho'',hb''⟩;have hkk:=HG.out _ hb''))
       go_wp2_with fail;go_roundw
       case rel=>exact ⟨j+1,a'',_,co'',.inr (by omega),by omega,by go_num,rfl,HJ2.out▸ho'',hb''⟩
       case measure=>simp [RowKit.intOf];omega
  ·have e:n-1=j:=by omega
   go_wp2_with fail;go_ret;exact ⟨_,_,_,rfl,by rw [e];exact ho,hb⟩
end Go.Proofs.YtmeciikfnbbllaaGreatDoor.Sp
namespace Go.Proofs.YtmeciikfnbbllaaGreatDoor.Sp
open Go.RowKit Go.Lib
theorem joinedL_good {cuts:List Int} (hs:Asc cuts) (bs:List Bool) {b T:Int} (hb:∀ x∈cuts,b<x) (hT:∀ x∈cuts,x≤T) (k:Nat) (hk:k=0∨k<cuts.length) :
  Norm b (joinedL cuts bs k)∧(∀ r∈joinedL cuts bs k,r.1≤cuts.getD k 0)∧(∀ r∈joinedL cuts bs k,r.2≤T) ∧
   ∀ q,Lies (joinedL cuts bs k) q↔∃ i,i<k∧bs.getD i false=true∧cuts.getD i 0≤q∧q<cuts.getD (i+1) 0:=by
 induction k with
 | zero =>
  refine ⟨trivial,(fun r hr=>by cases hr),(fun r hr=>by cases hr),fun q=>⟨fun h=>absurd h (lies_nil q),?_⟩⟩;rintro ⟨i,hi,_⟩;omega
 | succ k ih =>
  have hk':k+1<cuts.length:=by omega
  obtain ⟨h1,h2,h3,h4⟩:=ih (.inr (by omega));have hle:cuts.getD k 0≤cuts.getD (k+1) 0:=asc_get hs (by omega) hk';have hbk:b<cuts.getD k 0:=hb _ (get_mem (by omega));have hTk:cuts.getD (k+1) 0≤T:=hT _ (get_mem hk');have hlt:∀ r∈joinedL cuts bs k,r.1<r.2:=fun r hr=>(norm_lt h1 r hr).2
  rw [joinedL];by_cases ht:bs.getD k false=true
  ·rw [if_pos ht];refine ⟨addedL_norm h1 h2 hbk,fun r hr=>Int.le_trans (addedL_los h2 r hr) hle,addedL_top h3 (fun _=>hTk),fun q=>?_⟩;rw [addedL_lies h2 hlt,h4];constructor
   ·rintro (⟨i,hi,e⟩|e)
    ·exact ⟨i,by omega,e⟩
    ·exact ⟨k,by omega,ht,e⟩
   ·rintro ⟨i,hi,e1,e2⟩;by_cases c:i=k
    ·subst c;exact .inr e2
    ·exact .inl ⟨i,by omega,e1,e2⟩
  ·rw [if_neg ht];refine ⟨h1,fun r hr=>Int.le_trans (h2 r hr) hle,h3,fun q=>?_⟩;rw [h4];constructor
   ·rintro ⟨i,hi,e⟩;exact ⟨i,by omega,e⟩
   ·rintro ⟨i,hi,e1,e2⟩;by_cases c:i=k
    ·subst c;exact absurd e1 ht
    ·exact ⟨i,by omega,e1,e2⟩
theorem joinedL_is {cuts:List Int} (hs:Asc cuts) {bs:List Bool} {S:Int→Prop} {b T:Int} (hb:∀ x∈cuts,b<x) (hT:∀ x∈cuts,x≤T)
  (hI:∀ k,k+1<cuts.length→(bs.getD k false=true↔S (cuts.getD k 0)))
  (H1:∀ c q,c≤q→(∀ x∈cuts,¬ (c<x∧x≤q))→(S c↔S q)) (H2:∀ q,S q→(∃ x∈cuts,x≤q)∧∃ x∈cuts,q<x) :
  Norm b (joinedL cuts bs (cuts.length-1))∧(∀ r∈joinedL cuts bs (cuts.length-1),r.2≤T)∧∀ q,Lies (joinedL cuts bs (cuts.length-1)) q↔S q:=by
 obtain ⟨h1,_,h3,h4⟩:=joinedL_good hs bs hb hT (cuts.length-1) (by omega);refine ⟨h1,h3,fun q=>(h4 q).trans (Iff.trans ?_ (pieces_all (S:=S) (I:=fun k=>bs.getD k false=true) hs hI H1 H2 q))⟩;constructor
 ·rintro ⟨i,hi,e1,e2,e3⟩;exact ⟨i,e1,by omega,e2,e3⟩
 ·rintro ⟨i,e1,e2,e3,e4⟩;exact ⟨i,by omega,e1,e3,e4⟩
theorem lies_cuts {l:List (Int×Int)} {cuts:List Int} (hc:∀ r∈l,r.1∈cuts∧r.2∈cuts) {q:Int} (h:Lies l q):(∃ x∈cuts,x≤q)∧∃ x∈cuts,q<x:=by
 obtain ⟨r,hr,h1,h2⟩:=h;exact ⟨⟨_,(hc r hr).1,h1⟩,⟨_,(hc r hr).2,h2⟩⟩
end Go.Proofs.YtmeciikfnbbllaaGreatDoor.Sp
namespace Go.Proofs.YtmeciikfnbbllaaGreatDoor.Sp
open Go.RowKit Go.Lib
def flatB (bs:List Bool):List Value:=bs.map Value.bool
def OwnB (w:World) (B:Nat) (v:Value) (bs:List Bool):Prop:=w.ownsRow B 4 1 v bs.length (flatB bs)
theorem OwnB.rng {w:World} {B n cap:Nat} {a:Option Addr} {l:List Bool} (h:OwnB w B (.slice a n cap) l):RngB w a n cap l:=by
 rcases h.2 with ⟨e,h0⟩|⟨g,cap',cur,e,_,hh,hn,hm,hsz,htk⟩
 ·simp only [Value.slice.injEq] at e;obtain ⟨rfl,rfl,rfl⟩:=e;exact ⟨h0,⟨lR _,Nat.zero_le _⟩,fun j hj=>by omega⟩
 ·simp only [Value.slice.injEq] at e;obtain ⟨rfl,rfl,rfl⟩:=e;refine ⟨rfl,⟨hn,hm⟩,fun j hj=>⟨g,0,rfl,(gA hh),?_⟩⟩;rw [Nat.zero_add];have e1:cur.toList[j]?=(flatB l)[j]?:=by rw [← htk,List.getElem?_take,if_pos (by omega)]
  simp only [World.cell?,hh];simp only [Array.getElem?_toList] at e1;rw [e1];simp [flatB,List.getElem?_eq_getElem hj,List.getD_eq_getElem?_getD]
theorem ownB_set {w:World} {B g n cap:Nat} {l:List Bool} (h:OwnB w B (.slice (some ⟨g,0,none⟩) n cap) l) (j:Nat) (z:Bool) :
  OwnB (w.setCell ⟨g,j,none⟩ (.bool z)) B (.slice (some ⟨g,0,none⟩) n cap) (l.set j z):=by
 have hlen:=h.rng.len;have h':w.ownsRow B 4 1 (.slice (some ⟨g,0,none⟩) n cap) n (flatB l):=by
  unfold OwnB at h;rw [hlen] at h;exact h
 have:=(World.ownsRow.stored h' j (.bool z)).1;unfold OwnB;rw [List.length_set,hlen];have e:flatB (l.set j z)=(flatB l).set j (.bool z):=by simp [flatB,List.map_set]
 rw [e];exact this
theorem boolInfo:(Tryz.prog.info? 4).map (fun i=>(i.zero,i.size,i.bytes))=some (some (.bool false),1,1):=by kernel_rfl
theorem makeB (w:World) (n:Nat) (hn:n≤4194304):∃ w',(Instr.makeSlice 129 (.int .i64 (n:Int)) (.int .i64 (n:Int))).run Tryz.prog w=.ok (.slice (some ⟨w.heap.size,0,none⟩) n n) w'∧OwnB w' w.heap.size (.slice (some ⟨w.heap.size,0,none⟩) n n) (List.replicate n false)∧Below w.heap.size w w':=by
 obtain ⟨i,hi,hz,hsz,hby⟩:=info_parts boolInfo;have hr:=run_make (P:=Tryz.prog) w 129 4 i _ Tryz.underlying129 hi hz .i64 .i64 (n:Int) (n:Int) (by omega) (by omega) (by rw [hby];omega) (by omega);simp only [hsz,Int.toNat_natCast,Nat.mul_one] at hr;refine ⟨_,hr,?_,(bE _ _).alloc (lR _) _⟩;refine ⟨by simp [flatB],.inr ⟨w.heap.size,n,_,by rw [List.length_replicate],lR _,heap_alloc_new w _,by simp,by simp only [maxLen];omega,by simp [madeCells],?_⟩⟩;apply List.ext_getElem?;intro k;by_cases hk:k<n
 ·simp [flatB,madeCells,hk,Value.cells,Nat.mod_one]
 ·simp [flatB,madeCells,hk]
end Go.Proofs.YtmeciikfnbbllaaGreatDoor.Sp
namespace Go.Proofs.YtmeciikfnbbllaaGreatDoor.Sp
open Go.RowKit Go.Lib
theorem take_snoc_map (l:List (Int×Int)) (f:Int×Int→Int) (j:Nat) (hj:j<l.length):(l.take (j+1)).map f=(l.take j).map f++[f (l.getD j (0,0))]:=by
 have e:l.take (j+1)=l.take j++[l.getD j (0,0)]:=by
  rw [pget hj];simp
 rw [e,List.map_append];rfl
theorem OwnI.keep {w w':World} {B:Nat} {v u:Value} {l:List Int} (h:OwnI w B v l) (hk:Keeps w w' u) (hne:∀ g,v.ownBlock=some g→u.ownBlock≠some g):OwnI w' B v l:=by
 refine ⟨h.1,?_⟩;rcases h.2 with h0|⟨g,cap,cur,e,h1,hh,rest⟩
 ·exact .inl h0
 ·exact .inr ⟨g,cap,cur,e,h1,(hk g (gA hh) (hne g (by rw [e];rfl))).trans hh,rest⟩
theorem appendI_lie {w:World} {B:Nat} {v:Value} {n:Nat} {xs:List Int} (h:OwnI w B v xs) (hn:xs.length=n) (hB:B≤w.heap.size) (x:Int) (hs:(n+1)*8≤140737488355328) (ty:TypeId) :
  ∃ g cap' w',(Builtin.append_ #[124,124] ty #[v,.slice (some ⟨w.heap.size,0,none⟩) 1 1]).run Tryz.prog (w.alloc (.cells #[.int .i64 x] 3))=.ok (.slice (some ⟨g,0,none⟩) (n+1) cap') w' ∧
   OwnI w' B (.slice (some ⟨g,0,none⟩) (n+1) cap') (xs++[x])∧Below B w w'∧Keeps w w' v∧(v.ownBlock=some g∨w.heap.size<g)∧g<w'.heap.size:=by
 obtain ⟨i,hi,hz,hsz,hby⟩:=info_parts intInfo;have hown:(w.alloc (.cells #[.int .i64 x] 3)).ownsRow B 3 1 v n (flatI xs):=by
  unfold OwnI at h;rw [hn] at h;exact World.ownsRow.alloc h _
 have hcell:∀ j u,[Value.int .i64 x][j]?=some u→(w.alloc (.cells #[.int .i64 x] 3)).cell? ((⟨w.heap.size,0,none⟩:Addr).add j)=some u:=by
  intro j u hu
  match j,hu with
  | 0,hu =>
   obtain ⟨g',off',e,_,hc⟩:=(rngI_lit1 w x 3).cells 0 (by omega);cases e;cases hu;exact hc
 obtain ⟨g,cap',w',hr,ho,hgr,hlie,hlt⟩:=run_append_lies (P:=Tryz.prog) (w.alloc (.cells #[.int .i64 x] 3)) 124 ty B 3 i _ 1 8 Tryz.underlying124 hi hz hsz hby rfl (by decide) v n (flatI xs) hown ⟨w.heap.size,0,none⟩ 1 1 [.int .i64 x] rfl hcell (fun u hu=>by simp at hu;subst hu;rfl)
  (by decide) (by simp only [maxLen];omega) hs (by simp;omega) (w.heap.size+1) (by simp)
 refine ⟨g,cap',w',hr,?_,?_,fun k hk hne=>?_,?_,hlt⟩
 ·unfold OwnI;rw [List.length_append,hn];simpa [flatI] using ho
 ·exact ((bE B w).alloc hB _).trans (below_grown hgr (fun k hk=>(World.ownsRow.lt hown k hk).1) (by simp;omega))
 ·rw [hgr.block k (by simp;omega) (fun e=>hne e.symm)];exact Below.heap_alloc w _ k hk
 ·rcases hlie with e|e
  ·exact .inl e
  ·exact .inr (by omega)
end Go.Proofs.YtmeciikfnbbllaaGreatDoor.Sp
namespace Go.Proofs.YtmeciikfnbbllaaGreatDoor.Sp
open Go.RowKit Go.Lib
def PlOf (l L:List (Int×Int)):Prop:=Norm (-1) L∧(∀ r∈L,r.2≤2097152)∧(∀ q,Lies L q↔Lies l q)∧L.length≤2*l.length
theorem pl_of {l:List (Int×Int)} {y1 y2 y6:List Int} {bs:List Bool} {n:Nat} (hl:∀ r∈l,0≤r.1∧r.1≤r.2∧r.2≤2097152) (p1:y1.Perm (l.map (·.1))) (p2:y2.Perm (l.map (·.2))) (p6:y6.Perm (y1++y2)) (ha:Asc y6) (hlen:y6.length=n)
  (hlb:∀ i,i<n→bs.getD i false=decide (atMost y2 (y6.getD i 0)<atMost y1 (y6.getD i 0))):PlOf l (joinedL y6 bs (n-1)):=by
 subst hlen;have hm:∀ x,x∈y6↔(∃ r∈l,r.1=x)∨∃ r∈l,r.2=x:=fun x=>by
  rw [p6.mem_iff,List.mem_append,p1.mem_iff,p2.mem_iff,List.mem_map,List.mem_map]
 have hin:∀ r∈l,r.1∈y6∧r.2∈y6:=fun r hr=>⟨(hm _).2 (.inl ⟨r,hr,rfl⟩),(hm _).2 (.inr ⟨r,hr,rfl⟩)⟩
 have hb:∀ x∈y6,(-1:Int)<x:=fun x hx=>by
  rcases (hm x).1 hx with ⟨r,hr,rfl⟩|⟨r,hr,rfl⟩<;>have:=hl r hr<;>omega
 have hT:∀ x∈y6,x≤(2097152:Int):=fun x hx=>by
  rcases (hm x).1 hx with ⟨r,hr,rfl⟩|⟨r,hr,rfl⟩<;>have:=hl r hr<;>omega
 obtain ⟨h1,h2,h3⟩:=joinedL_is ha (bs:=bs) (S:=fun q=>Lies l q) hb hT (fun k hk=>by
   rw [hlb k (by omega),decide_eq_true_iff,atMost_perm p1,atMost_perm p2]
   exact (open_iff (fun r hr=>(hl r hr).2.1) _).2)
  (fun c q hcq h=>lies_same hin hcq h) (fun q hq=>lies_cuts hin hq)
 refine ⟨h1,h2,h3,?_⟩;have h4:=joinedL_length y6 bs (y6.length-1);have h5:=p6.length_eq;have h6:=p1.length_eq;have h7:=p2.length_eq;simp only [List.length_append,List.length_map] at h5 h6 h7;omega
theorem ownB_frozen {w:World} {B g n cap:Nat} {l:List Bool} (h:OwnB w B (.slice (some ⟨g,0,none⟩) n cap) l) (j:Nat):w.frozen? ⟨g,j,none⟩=false:=by
 rcases h.2 with ⟨e,_⟩|⟨g',cap',cur,e,_,hh,_⟩
 ·simp at e
 ·simp only [Value.slice.injEq,Option.some.injEq,Addr.mk.injEq,and_true] at e;obtain ⟨rfl,_⟩:=e;simp [World.frozen?,hh]
theorem getD_set_lt {bs:List Bool} {k i:Nat} {z:Bool} (hk:k<bs.length):(bs.set k z).getD i false=if i=k then z else bs.getD i false:=by
 rw [List.getD_eq_getElem?_getD,List.getElem?_set];by_cases e:k=i
 ·subst e;simp [hk]
 ·rw [if_neg e,if_neg (fun h=>e h.symm),List.getD_eq_getElem?_getD]
end Go.Proofs.YtmeciikfnbbllaaGreatDoor.Sp
namespace Go.Proofs.YtmeciikfnbbllaaGreatDoor.Sp
open Go.RowKit Go.Lib
def Apart (u v:Value):Prop:=∀ g,u.ownBlock=some g→v.ownBlock≠some g
theorem places_any {w:World} {a:Option Addr} {n cap:Nat} {l:List (Int×Int)} (h:Rng w a n cap l) (hn:n≤262144) (HL:Hid (∀ r∈l,0≤r.1∧r.1≤r.2∧r.2≤2097152)) :
  Calls Tryz.prog 96 #[.slice a n cap] w fun e w'=>∃ o no co L,e=.returned (.slice o no co)∧Own w' w.heap.size (.slice o no co) L∧Below w.heap.size w w'∧Hid (PlOf l L):=by
 have hln:=h.len;go_enter Tryz.func96,Tryz.ntmps96;go_wp2_with fail;go_loopw [3,4,5] (fun v1 v2 vi w'=>∃ (j:Nat),j≤n∧vi=.int .i64 j∧OwnI w' w.heap.size v1 ((l.take j).map (·.1))∧OwnI w' w.heap.size v2 ((l.take j).map (·.2))∧Apart v1 v2∧Below w.heap.size w w') (fun _ _ i _=>n-(RowKit.intOf i).toNat)
 case atStart=>exact ⟨0,Nat.zero_le _,rfl,ownI_nil _ _,ownI_nil _ _,fun g hg=>by (try simp [Value.ownBlock] at hg),bE _ _⟩
 case round =>
  obtain ⟨j,hjn,rfl,h1,h2,hap,hb⟩:=hrel;have hsz:=hb.size;by_cases hj:j<n
  ·obtain ⟨g,off,rfl,hg,hc,hd⟩:=h.cells j hj;have c0:=(hb.cell (p:=⟨g,off+j*2,none⟩) hg).trans hc;obtain ⟨g1,k1,w1,r1,o1,b1,kp1,l1,t1⟩:=appendI_lie h1 (n:=j) (by simp;omega) hsz (l.getD j (0,0)).1 (by omega) 124;have h2':=h2.keep kp1 (fun g hg e=>hap g e hg);have hb1:=hb.trans b1;have c1:=(hb1.cell (p:=⟨g,off+j*2+1,none⟩) hg).trans hd;obtain ⟨g2,k2,w2,r2,o2,b2,kp2,l2,t2⟩:=appendI_lie h2' (n:=j) (by simp;omega) hb1.size (l.getD j (0,0)).2 (by omega) 124;have hb2:=hb1.trans b2;have hn1:∀ e,u4.ownBlock=some e→e≠g1:=fun e he eq=>by
    subst eq;rcases l1 with q|q
    ·exact hap _ q he
    ·have:=(World.ownsRow.lt h2 _ he).2;omega
   have o1':=o1.keep kp2 (fun e he e2=>hn1 e e2 (by simpa [Value.ownBlock] using he.symm));have hap2:Apart (.slice (some ⟨g1,0,none⟩) (j+1) k1) (.slice (some ⟨g2,0,none⟩) (j+1) k2):=fun e he e2=>by
    have e1:g1=e:=by simpa [Value.ownBlock] using he
    have e3:g2=e:=by simpa [Value.ownBlock] using e2
    rcases l2 with q|q
    ·exact hn1 _ q (by omega)
    ·omega
   rw [← take_snoc_map l (·.1) j (by omega)] at o1';rw [← take_snoc_map l (·.2) j (by omega)] at o2;clear l1 l2 hn1;generalize hx:(l.getD j (0,0)).1=x at *;generalize hy:(l.getD j (0,0)).2=y at *;clear hc hd;go_wp2_with (at_builtin;first|refine wpList_append_hr rfl _ _ 124 rfl _ _ rfl rfl r1 ?_|refine wpList_append_hr rfl _ _ 124 rfl _ _ rfl rfl r2 ?_);go_roundw
   case rel=>exact ⟨j+1,by omega,by go_num,o1',o2,hap2,hb2⟩
   case measure=>simp [RowKit.intOf];omega
  ·have e:j=n:=by omega
   subst e;have e1:l.take j=l:=by rw [← hln];exact List.take_length
   rw [e1] at h1 h2;clear e1;obtain ⟨a1,c1,rfl⟩:=h1.shape;obtain ⟨a2,c2,rfl⟩:=h2.shape;simp only [List.length_map,hln] at h1 h2 ⊢;have S1:=sorted_any _ h1.rng (by omega);clear hap h1;go_wp2_with fail;refine S1.mono ?_;rintro e w2 ⟨b1,d1,y1,rfl,o1,hb2,P1⟩;clear S1;have h2':=h2.below hb2;have hB2:=hb.trans (hb2.mono hsz);have S2:=sorted_any _ h2'.rng (by omega);clear h2 h2' hb2;go_wp2_with fail;refine S2.mono ?_;rintro e w3 ⟨b2,d2,y2,rfl,o2,hb3,P2⟩;clear S2;have o1':=o1.below hb3;have hB3:=hB2.trans (hb3.mono hB2.size);have hsz3:=hB3.size;clear o1 hb3 hB2;obtain ⟨b4,d4,w4,r4,o4,hb4⟩:=appendI (ownI_nil w3 w3.heap.size) (lR _) o1'.rng (by omega) 124;obtain ⟨b5,d5,w5,r5,o5,hb5⟩:=appendI o4 hb4.size (o2.below hb4).rng (by omega) 124;have hb35:=hb4.trans hb5;simp only [Nat.zero_add] at r4 r5 o5;have S3:=sorted_any _ o5.rng (by omega);go_wp2_with (at_builtin;first|refine wpList_append_hr rfl _ _ 124 rfl _ _ rfl rfl r4 ?_|refine wpList_append_hr rfl _ _ 124 rfl _ _ rfl rfl r5 ?_);refine S3.mono ?_;rintro e w6 ⟨b6,d6,y6,rfl,o6,hb6,P3⟩;have hb36:=hb35.trans (hb6.mono hb35.size);have hB6:=hB3.trans (hb36.mono hB3.size);have q1:=(o1'.below hb36).rng;have q2:=(o2.below hb36).rng;have q6:=o6.rng;have HP:Hid (y1.Perm (l.map (·.1))∧y2.Perm (l.map (·.2))∧y6.Perm (y1++y2)):=⟨P1.out.1,P2.out.1,P3.out.1⟩;have HA1:Hid (Asc y1):=P1.out.2;have HA2:Hid (Asc y2):=P2.out.2;have HA6:Hid (Asc y6):=P3.out.2;clear S3 r4 r5 o4 o5 hb4 hb5 hb35 hb6 hb36 o1' o2 o6 P1 P2 P3 hB3 hsz3;obtain ⟨w7,hmk,hob,hb7⟩:=makeB w6 (j+j) (by omega);have hB7:=hB6.trans (hb7.mono hB6.size);have q1':=q1.below hb7;have q2':=q2.below hb7;have q6':=q6.below hb7;have hmk':=hmk;simp only [Int.natCast_add] at hmk';have q1u:=q1.under;have q2u:=q2.under;have q6u:=q6.under;clear q1 q2 q6 hb7;go_wp2_with fail;go_loopw [8] (fun vi w'=>∃ (k:Nat) (bs:List Bool),k≤j+j∧vi=.int .i64 k∧OwnB w' w6.heap.size (.slice (some ⟨w6.heap.size,0,none⟩) (j+j) (j+j)) bs∧Below w6.heap.size w7 w'∧Hid (bs.length=j+j∧∀ i,i<k→bs.getD i false=decide (atMost y2 (y6.getD i 0)<atMost y1 (y6.getD i 0)))) (fun i _=>(j+j)-(RowKit.intOf i).toNat)
   case atStart=>exact ⟨0,_,Nat.zero_le _,rfl,hob,bE _ _,⟨by simp,fun i hi=>by omega⟩⟩
   case round =>
    obtain ⟨k,bs,hkn,rfl,hbs,hbl,HBS⟩:=hrel;have hsl:=hbl.size;by_cases hk:k<j+j
    ·obtain ⟨g6,off6,rfl,hg6,hc6⟩:=q6'.cells k hk;have hl6:=q6u (by omega) g6 off6 rfl;have c6:=(hbl.cell (p:=⟨g6,off6+k,none⟩) hl6).trans hc6;have hlb:=hbs.rng.len;obtain ⟨g7,off7,e7,hg7,hc7⟩:=hbs.rng.cells k hk;cases e7;simp only [Nat.zero_add] at hc7;have hfz:=ownB_frozen hbs k;have HN:=HBS.out;generalize hx:y6.getD k 0=x at *;have U1:=refUpTo_any (q1'.belowB q1u hbl) HA1.out x;have U2:=refUpTo_any (q2'.belowB q2u hbl) HA2.out x;obtain ⟨m1,hm1⟩:∃ m1,atMost y1 x=m1:=⟨_,rfl⟩;obtain ⟨m2,hm2⟩:∃ m2,atMost y2 x=m2:=⟨_,rfl⟩;rw [hm1] at U1;rw [hm2] at U2;have HS:Hid ((bs.set k (decide (m2<m1))).length=j+j∧∀ i,i<k+1→(bs.set k (decide (m2<m1))).getD i false=decide (atMost y2 (y6.getD i 0)<atMost y1 (y6.getD i 0))):=by
      refine ⟨by rw [List.length_set];exact HN.1,fun i hi=>?_⟩;rw [getD_set_lt (by omega)];by_cases e:i=k
      ·subst e;rw [if_pos rfl,hx,hm1,hm2]
      ·rw [if_neg e];exact HN.2 i (by omega)
     have OS:=ownB_set hbs k (decide (m2<m1));have BS:=hbl.setCell (p:=⟨w6.heap.size,k,none⟩) (lR _) (.bool (decide (m2<m1)));clear hc6 HBS HN hbs q1' q2' q6' q1u q2u q6u hob hmk hmk' HP HA1 HA2 HA6 HL h hm1 hm2 hx hbl hB6 hB7 hb hsz;go_wp2_with fail;refine U1.mono ?_;rintro e w' ⟨rfl,rfl⟩;clear U1;go_wp2_with fail;refine U2.mono ?_;rintro e w' ⟨rfl,rfl⟩;clear U2;go_wp2_with fail;go_roundw
     case rel=>exact ⟨k+1,_,by omega,by go_num,OS,BS,HS⟩
     case measure=>simp [RowKit.intOf];omega
    ·have e:k=j+j:=by omega
     subst e;have J1:=joined_any (q6'.belowB q6u hbl) HA6.out hbs.rng (by omega);go_wp2_with fail;refine J1.mono ?_;rintro e w8 ⟨o8,n8,c8,rfl,ho8,hb8⟩;clear J1;go_wp2_with fail;go_ret;refine ⟨o8,n8,c8,_,rfl,ho8.mono ?_,?_,?_⟩
     ·have:=hB7.size;omega
     ·have h6:=hB6.size;have h7:=hB7.size;exact hB7.trans ((hbl.mono h6).trans (hb8.mono (by omega)))
     ·exact pl_of HL.out HP.out.1 HP.out.2.1 HP.out.2.2 HA6.out q6'.len HBS.out.2
end Go.Proofs.YtmeciikfnbbllaaGreatDoor.Sp
namespace Go.Proofs.YtmeciikfnbbllaaGreatDoor.Sp
open Go.RowKit Go.Lib
theorem lies_flat {l:List (Int×Int)} {f:Int×Int→List (Int×Int)} {q:Int}:Lies (l.flatMap f) q↔∃ r∈l,Lies (f r) q:=by
 constructor
 ·rintro ⟨x,hx,h⟩;obtain ⟨r,hr,hx⟩:=List.mem_flatMap.1 hx;exact ⟨r,hr,x,hx,h⟩
 ·rintro ⟨r,hr,x,hx,h⟩;exact ⟨x,List.mem_flatMap.2 ⟨r,hr,hx⟩,h⟩
def thr (at_ n:Int) (r:Int×Int):List (Int×Int):=(if r.1<at_ then [(r.1,min r.2 at_)] else [])++(if at_<r.2 then [(max r.1 at_+n,r.2+n)] else [])
theorem thr_length (at_ n:Int) (r:Int×Int):(thr at_ n r).length≤2:=by unfold thr;split<;>split<;>simp
theorem flat_len {f:Int×Int→List (Int×Int)} (h:∀ r,(f r).length≤2) (l:List (Int×Int)):(l.flatMap f).length≤2*l.length:=by
 induction l with
 | nil=>simp
 | cons r t ih=>have:=h r;simp only [List.flatMap_cons,List.length_append,List.length_cons];omega
theorem thr_lies {at_ n q:Int} {r:Int×Int}:Lies (thr at_ n r) q↔(r.1≤q∧q<r.2∧q<at_)∨(r.1≤q-n∧q-n<r.2∧at_≤q-n):=by
 unfold thr;rw [lies_append];constructor
 ·rintro (h|h)
  ·split at h
   ·obtain ⟨x,hx,h1,h2⟩:=h;simp only [List.mem_singleton] at hx;subst hx;simp only at h1 h2;omega
   ·exact absurd h (lies_nil _)
  ·split at h
   ·obtain ⟨x,hx,h1,h2⟩:=h;simp only [List.mem_singleton] at hx;subst hx;simp only at h1 h2;omega
   ·exact absurd h (lies_nil _)
 ·rintro (h|h)
  ·left;rw [if_pos (by omega)];exact ⟨_,List.mem_singleton.2 rfl,by simp only;omega,by simp only;omega⟩
  ·right;rw [if_pos (by omega)];exact ⟨_,List.mem_singleton.2 rfl,by simp only;omega,by simp only;omega⟩
theorem thrL_lies {l:List (Int×Int)} {at_ n q:Int}:Lies (l.flatMap (thr at_ n)) q↔(Lies l q∧q<at_)∨(Lies l (q-n)∧at_≤q-n):=by
 rw [lies_flat];constructor
 ·rintro ⟨r,hr,h⟩;rcases thr_lies.1 h with h|h
  ·exact .inl ⟨⟨r,hr,h.1,h.2.1⟩,h.2.2⟩
  ·exact .inr ⟨⟨r,hr,h.1,h.2.1⟩,h.2.2⟩
 ·rintro (⟨⟨r,hr,h1,h2⟩,h3⟩|⟨⟨r,hr,h1,h2⟩,h3⟩)
  ·exact ⟨r,hr,thr_lies.2 (.inl ⟨h1,h2,h3⟩)⟩
  ·exact ⟨r,hr,thr_lies.2 (.inr ⟨h1,h2,h3⟩)⟩
end Go.Proofs.YtmeciikfnbbllaaGreatDoor.Sp
