import Derived.Test.YtijpfbcippijoaaGreatDoorAl
import Derived.Test.YtijpfbcippijoaaGreatDoorGr137
import Derived.Test.YtijpfbcippijoaaGreatDoorGr143
import Derived.Test.YtijpfbcippijoaaGreatDoorOrA
import Derived.Laws.IdiomStrings
import Derived.Laws.Cover4
import Derived.Deep.RegionHeld3
import Derived.Test.YtijpfbcippijoaaGreatDoorGr145
set_option maxHeartbeats 4000000
set_option maxRecDepth 100000
namespace Go.Proofs.YtijpfbcippijoaaGreatDoor
open Go.RowKit Go.Lib
def rune1 (x:Int):List Value:=[.int .i32 x]
theorem layU:Lay rune1 1:=⟨fun _=>rfl,by decide,fun x u hu=>by simp [rune1] at hu;subst hu;rfl⟩
theorem kindU:Kind Tryz.prog 74 21 1 4:=kind_of Tryz.underlying74 (z:=.int .i32 0) (by kernel_rfl) rfl
theorem runesS_from (ns:List Int):∀ s:ByteArray,(ns.foldl (fun r n=>r++Utf8.encode n) s).data.toList=s.data.toList++encs ns:=by
 induction ns with
 | nil=>intro s;simp [encs]
 | cons n ns ih =>
  intro s;rw [List.foldl_cons,ih,encs_cons,ByteArray.data_append,Array.toList_append,List.append_assoc];rfl
theorem runesS (ns:List Int):runesBytes ns=strOf ns:=by
 apply tx_eq;have:=runesS_from ns ByteArray.empty;rw [runesBytes,this];rfl
theorem conv_rw {W:World} {a:Option Addr} {n cap:Nat} {rs:List Int} (hr:Rw rune1 1 W a n cap rs):(convert 74 9 (.slice a n cap)).run Tryz.prog W=.ok (.string (strOf rs)) W:=by
 have hl:=hr.len;by_cases hn:0<n
 ·obtain ⟨g,off,rfl,hg,hc⟩:=hr.cells hn
  have:=run_convert_runes (P:=Tryz.prog) W 74 9 21 ⟨g,off,none⟩ n cap rs (by omega) Tryz.underlying74 Tryz.underlying21 Tryz.underlying9 (fun j hj=>by
   have hx:rs[j]?=some rs[j]:=List.getElem?_eq_getElem (by omega)
   have:=hc j _ hx 0 _ rfl
   rw [addr_add']
   simpa [List.getD_eq_getElem?_getD,hx] using this)
  rw [this,← hl,List.take_length,runesS]
 ·obtain rfl:n=0:=by omega
  obtain rfl:rs=[]:=List.length_eq_zero_iff.1 hl;cases a with
  | none=>rw [run_convert_runes_nil (P:=Tryz.prog) W 74 9 21 0 cap Tryz.underlying74 Tryz.underlying21 Tryz.underlying9];rfl
  | some p =>
   have:=run_convert_runes (P:=Tryz.prog) W 74 9 21 p 0 cap [] (lR _) Tryz.underlying74 Tryz.underlying21 Tryz.underlying9 (fun j hj=>by simp at hj);rw [this,List.take_nil,runesS]
theorem strOf_text {rs:List Int} (h:∀ r∈rs,okR r):IsText (strOf rs) rs:=⟨by simp [strOf],h⟩
theorem OwnF.apart {α β:Type} {f:α→List Value} {g:β→List Value} {k m:Nat} {T U:TypeId} {w:World} {B C:Nat} {v u:Value} {l:List α} {r:List β} (h:OwnF f k T w B v l) (h2:OwnF g m U w C u r) (hne:T≠U):∀ b,v.ownBlock=some b→u.ownBlock≠some b:=by
 intro b hb hu;rcases h.2 with ⟨rfl,_⟩|⟨g1,c1,cur1,rfl,_,hh,_⟩
 ·simp [Value.ownBlock] at hb
 ·rcases h2.2 with ⟨rfl,_⟩|⟨g2,c2,cur2,rfl,_,hh2,_⟩
  ·simp [Value.ownBlock] at hu
  ·simp only [Value.ownBlock,Option.some.injEq] at hb hu;subst hb;subst hu;rw [hh] at hh2;injection hh2 with e
   injection e with _ e2
   exact hne e2
theorem OwnF.stays {α β:Type} {f:α→List Value} {g:β→List Value} {k m:Nat} {T U:TypeId} {w w':World} {B C:Nat} {v u:Value} {l:List α} {r:List β} (h:OwnF f k T w B v l) (h2:OwnF g m U w C u r) (hne:T≠U) (hk:Keeps w w' u):OwnF f k T w' B v l :=
 h.keep fun b hb=>hk b (h.lt hb) (h.apart h2 hne b hb)
structure RI (R:List (Int×Int)) (i:Nat) (L:List GRun) (cur:List Int):Prop where
 text:∀ x∈L,IsText x.s x.rs
 some_:∀ x∈L,x.rs≠[]
 lo:∀ x∈L,0≤x.h
 hi:∀ x∈L,x.h≤1048576
 apart:∀ (j:Nat) x y,L[j]?=some x→L[j+1]?=some y→x.h≠y.h
 runes:∀ r∈cur,okR r
 next:∀ x,R[i]?=some x→cellsOf L++(cur.map fun c=>(c,x.2))=R.take i∧∀ y,L.getLast?=some y→y.h≠x.2
 last:i=R.length→cellsOf L=R
 few:L.length≤i
 short:cur.length≤i
theorem ri_nil (R:List (Int×Int)):RI R 0 [] []:=⟨fun x hx=>(by cases hx),fun x hx=>(by cases hx),fun x hx=>(by cases hx),fun x hx=>(by cases hx),fun j x y hx=>(by simp at hx),fun r hr=>(by cases hr),fun x _=>⟨rfl,fun y hy=>(by cases hy)⟩,fun h=>(List.length_eq_zero_iff.1 h.symm).symm▸rfl,lR _,lR _⟩
section
variable {R : List (Int × Int)} {i : Nat} {L : List GRun} {cur : List Int} {x : Int × Int}
theorem RI.cells (h:RI R i L cur) (hx:R[i]?=some x):cellsOf L++((cur++[x.1]).map fun c=>(c,x.2))=R.take (i+1):=by
 obtain ⟨hi,rfl⟩:=List.getElem?_eq_some_iff.1 hx;rw [List.take_succ_eq_append_getElem hi,List.map_append,← List.append_assoc,(h.next _ hx).1];rfl
theorem RI.flush (h:RI R i L cur) (hx:R[i]?=some x) (ho:okR x.1) (h0:0≤x.2) (h1:x.2≤1048576) (hn:∀ y,R[i+1]?=some y→y.2≠x.2):RI R (i+1) (L++[⟨strOf (cur++[x.1]),cur++[x.1],x.2⟩]) []:=by
 have hru:∀ r∈cur++[x.1],okR r:=fun r hr=>by
  rcases List.mem_append.1 hr with hr|hr
  ·exact h.runes r hr
  ·simp at hr;subst hr;exact ho
 have hcell:cellsOf (L++[⟨strOf (cur++[x.1]),cur++[x.1],x.2⟩])=R.take (i+1):=by
  rw [cellsOf_append,← h.cells hx];simp [cellsOf]
 have hmem:∀ {P:GRun→Prop},(∀ z∈L,P z)→P ⟨strOf (cur++[x.1]),cur++[x.1],x.2⟩→∀ z∈L++[⟨strOf (cur++[x.1]),cur++[x.1],x.2⟩],P z:=fun {P} a b z hz=>by
  rcases List.mem_append.1 hz with hz|hz
  ·exact a z hz
  ·simp at hz;subst hz;exact b
 refine ⟨hmem h.text (strOf_text hru),hmem h.some_ (by simp),hmem h.lo h0,hmem h.hi h1,fun j y z hy hz=>?_,fun r hr=>(by cases hr),fun z hz=>⟨?_,fun y hy=>?_⟩,fun e=>?_,?_,Nat.zero_le _⟩
 ·rcases Nat.lt_trichotomy (j+1) L.length with hj|hj|hj
  ·rw [List.getElem?_append_left (by omega)] at hy hz;exact h.apart j y z hy hz
  ·rw [List.getElem?_append_left (by omega)] at hy;rw [List.getElem?_append_right (by omega),show j+1-L.length=0 by omega] at hz;simp at hz;subst hz;refine (h.next _ hx).2 y ?_;rw [List.getLast?_eq_getElem?,← hy]
   congr 1;omega
  ·rw [List.getElem?_eq_none (by simp;omega)] at hz;cases hz
 ·rw [List.map_nil,List.append_nil,hcell]
 ·rw [List.getLast?_append] at hy;simp at hy;subst hy;exact fun e=>hn z hz e.symm
 ·rw [hcell,List.take_of_length_le (by omega)]
 ·have:=h.few;simp;omega
theorem RI.go (h:RI R i L cur) (hx:R[i]?=some x) (ho:okR x.1) {y:Int×Int} (hy:R[i+1]?=some y) (he:y.2=x.2):RI R (i+1) L (cur++[x.1]):=by
 refine ⟨h.text,h.some_,h.lo,h.hi,h.apart,fun r hr=>?_,fun z hz=>?_,fun e=>?_,by have:=h.few;omega,by have:=h.short;simp;omega⟩
 ·rcases List.mem_append.1 hr with hr|hr
  ·exact h.runes r hr
  ·simp at hr;subst hr;exact ho
 ·rw [hy] at hz;injection hz with hz
  subst hz;rw [he];exact ⟨h.cells hx,(h.next _ hx).2⟩
 ·rw [List.getElem?_eq_none (by omega)] at hy;cases hy
theorem RI.done (h:RI R i L cur) (hi:i=R.length) (hl:R.length≤1048576):FromOk L∧cellsOf L=R:=by
 have e:=h.last hi;exact ⟨⟨h.text,h.some_,h.lo,h.hi,h.apart,by rw [e];exact hl⟩,e⟩
end
theorem wp_append_hr {P:Program} {w:World} {o:Oper} {a:Act} {K:Act→World→Prop} {Q:Exit→Act→World→Prop} (s x:Operand) (t:TypeId) (d:Option Nat) (hd:o.dst=d)
  (ho:o.op=.call { callee:=.builtin .append,args:=#[s,x],argTypes:=#[t,t] }) (v u:Value) (hs:a.eval s=v) (hx:a.eval x=u) {v':Value} {w':World}
  (hr:(Builtin.append_ #[t,t] o.type #[v,u]).run P w=.ok v' w') (h:K (a.put d v') w'):Oper.wp P o a w K Q:=by
 subst hd;unfold Oper.wp execOp;simp only [ho,resolve,invoke,builtin,Sem.run_bind,Sem.run_pure,Result.andThen_ok,List.map_toArray,List.map_cons,List.map_nil,hs,hx,hr];exact h
theorem runsW_any {w:World} {a:Option Addr} {n cap:Nat} {R:List (Int×Int)} (h:Rw cellV 2 w a n cap R) (hn:n≤1048576) (ho:∀ c∈R,okR c.1) (hc:∀ c∈R,0≤c.2∧c.2≤1048576) :
  Calls Tryz.prog 9 #[.slice a n cap] w fun e w'=>∃ v L,e=.returned v∧OwnF runV 2 65 w' w.heap.size v L∧FromOk L∧cellsOf L=R∧Below w.heap.size w w':=by
 have hlen:=h.len;have hroom:=h.room;have HO:Hid (∀ c∈R,okR c.1):=ho;have HC:Hid (∀ c∈R,0≤c.2∧c.2≤1048576):=hc;have HL:Hid (R.length=n):=hlen;clear ho hc hlen;go_enter Tryz.func9,Tryz.ntmps9;go_wp2_with fail;go_loopw [3,4,5] (fun v u vi W=>∃ (i:Nat) (L:List GRun) (cur:List Int),vi=.int .i64 (i:Int)∧i≤n∧RI R i L cur∧OwnF runV 2 65 W w.heap.size v L∧OwnF rune1 1 21 W w.heap.size u cur∧Below w.heap.size w W) (fun _ _ i _=>n-(RowKit.intOf i).toNat)
 case atStart=>exact ⟨0,[],[],rfl,Nat.zero_le _,ri_nil R,ownF_nil _ _,ownF_nil _ _,bE _ _⟩
 case round =>
  obtain ⟨i,L,cur,rfl,hin,hI,ho,hu,hB⟩:=hrel;have hfew:=hI.few;have hsho:=hI.short;have HII:Hid (RI R i L cur):=hI;clear hI;by_cases hi:i<n
  ·obtain ⟨g,off,x,rfl,hg,hx,hcl⟩:=h.at i hi;obtain ⟨r,hd⟩:=x;have hor:okR r:=HO.out _ (List.mem_of_getElem? hx);have h0:=HC.out _ (List.mem_of_getElem? hx);simp only at h0;have c0:wr.cell? ⟨g,off+i*2,none⟩=some (.int .i32 r):=(hB.cell (p:=⟨g,off+i*2+0,none⟩) hg).trans (hcl 0 _ rfl);obtain ⟨av,cv,rfl⟩:=ho.shape;obtain ⟨au,cu,rfl⟩:=hu.shape;obtain ⟨g5,cap5,w6,hr5,hu6,hb6,hkp6,hgt6⟩:=appendF_one kindU layU hu hB.size r #[.int .i32 r] rfl 21 (by omega) (by omega) 74;have ho6:=ho.stays hu (by decide) hkp6;have hB6:Below w.heap.size w w6:=hB.trans hb6;have c6:=(hB6.cell (p:=⟨g,off+i*2+1,none⟩) hg).trans (hcl 1 _ rfl);have hg6:g<w6.heap.size:=by have:=hB6.size;omega
   clear hkp6 hgt6 ho hu;have u1:IntKind.i64.wrap ((i:Int)+1)=(i:Int)+1:=IntWalk.i64_in _ (by omega);by_cases hlast:i+1=n
   ·have t1:((i:Int)+1==(n:Int))=true:=by simp;omega
    go_wp2_with (at_builtin;refine wpList_append_hr rfl _ _ 74 rfl _ _ rfl rfl hr5 ?_);go_quiet (fail);go_wp2_with fail;have hb8:Below w6.heap.size w6 (w6.drewN (nq+1)):=below_drewN (bE _ _) _;obtain ⟨w8,hw8⟩:∃ w8,w8=w6.drewN (nq+1):=⟨_,rfl⟩;have hs8:w8.heap.size=w6.heap.size:=by rw [hw8];rfl
    rw [← hw8] at hb8;have ho8:=ho6.below hb8;have hu8:=hu6.below hb8;obtain ⟨g7,cap7,w7,hr7,ho7,hb7,hkp7,hgt7⟩:=appendF_one kindR layR ho8 (by have:=hB6.size;omega) ⟨strOf (cur++[r]),cur++[r],hd⟩ #[.string (strOf (cur++[r])),.int .i64 hd] rfl 65 (by omega) (by omega) 35;have hRu7:Rw rune1 1 w7 (some ⟨g5,0,none⟩) (cur.length+1) cap5 (cur++[r]):=(hu8.keep fun b hb=>hkp7 b (hu8.lt hb) (hu8.apart ho8 (by decide) b hb)).rw_ layU;have hRu8:=hu8.rw_ layU;have hB7:Below w.heap.size w w7:=(hB6.trans (hb8.mono hB6.size)).trans hb7;have c7:=(hB7.cell (p:=⟨g,off+i*2+1,none⟩) hg).trans (hcl 1 _ rfl);have c8_:w8.cell? ⟨g,off+i*2+1,none⟩=some (.int .i64 hd):=(hb8.cell (p:=⟨g,off+i*2+1,none⟩) hg6).trans c6;have c9_:=(World.cell?_alloc_lt w8 (Obj.cells #[.string (strOf (cur++[r])),.int .i64 hd] 65) ⟨g,off+i*2+1,none⟩ (by simp only;omega)).trans c8_;have hRu9:=hRu8.below ((bE w8.heap.size w8).alloc (lR _) (Obj.cells #[.string (strOf (cur++[r])),.int .i64 hd] 65));have HI:Hid (RI R (i+1) (L++[⟨strOf (cur++[r]),cur++[r],hd⟩]) []):=HII.out.flush hx hor h0.1 h0.2 (fun y hy=>by rw [List.getElem?_eq_none (by rw [HL.out];omega)] at hy;cases hy);have HO7:Hid (OwnF runV 2 65 w7 w.heap.size (.slice (some ⟨g7,0,none⟩) (L.length+1) cap7) (L++[⟨strOf (cur++[r]),cur++[r],hd⟩])):=ho7;have hw8':w6.drewN (nq+1)=w8:=hw8.symm;have hw8'':(w6.drewN nq).drew=w8:=hw8.symm;clear ho7 hgt7 hkp7 hx hcl hw8 hs8 ho8 hu8;refine wp_region_held_drew (S:=(fun W=>W.cell? ⟨g,off+i*2+1,none⟩=some (.int .i64 hd)∧Rw rune1 1 W (some ⟨g5,0,none⟩) (cur.length+1) cap5 (cur++[r]))) (by kernel_rfl) ?hS1 (fun hHeld=>?rest1)
    case hS1=>(first|exact ⟨c8_,hRu8⟩|(rw [hw8''];exact ⟨c8_,hRu8⟩))
    rw [hw8''] at hHeld ⊢;refine tD 0 (some 39) ?_
    try simp only [putS]
    refine tD 1 (some 40) ?_
    try simp only [putS]
    refine takeD (i:=2) (d:=some 41) (v:=?vT4) rfl rfl (by kernel_rfl) (by kernel_rfl) (by kernel_rfl) (fun _ _ _ h=>h) (Or.inl ⟨by rfl,?hyT4⟩) (by assumption) ?rstT4
    case hyT4=>(intro w hSw;have hcv:=conv_rw hSw.2;(try dsimp only at hSw);go_simp;(try with_reducible rfl))
    try simp only [putS]
    refine tD 3 (some 42) ?_
    try simp only [putS]
    refine tD 4 (some 43) ?_
    try simp only [putS]
    refine tD 5 (some 44) ?_
    try simp only [putS]
    refine tD 6 (some 45) ?_
    try simp only [putS]
    refine tD 7 (some 46) ?_
    try simp only [putS]
    refine tD 8 (some 47) ?_
    try simp only [putS]
    refine wpAnyH_ready (rs:=[9]) (by kernel_rfl) (by simp) ?_;refine AllReadyH.cons rfl (fun K hK=>?_) AllReadyH.nil;go_simp;clear hHeld;refine hK.out _ _ ?hS11 (fun hHeld=>?rest11)
    case hS11=>exact ⟨c9_,hRu9⟩
    clear hK K
    try simp only [putS]
    refine wpAnyH_ready (rs:=[10]) (by kernel_rfl) (by simp) ?_;refine AllReadyH.cons rfl (fun K hK=>?_) AllReadyH.nil;rw [if_pos (by rfl)];refine wp_append_hr (.tmp 39) (.tmp 48) 35 (some 49) rfl rfl _ _ rfl rfl hr7 ?_;clear hHeld;refine hK.out _ _ ?hS12 (fun hHeld=>?rest12)
    case hS12=>exact ⟨c7,hRu7⟩
    clear hK K
    try simp only [putS]
    refine tD 11 (some 3) ?_
    try simp only [putS]
    refine wpAnyH_done (by kernel_rfl) ?_ _;go_wp2_with fail;go_roundw
    case rel=>exact ⟨i+1,_,_,by go_num,by omega,HI.out,HO7.out,ownF_nil _ _,hB7⟩
    case measure=>simp [RowKit.intOf];omega
   ·have t1:((i:Int)+1==(n:Int))=false:=nB (by omega);obtain ⟨g',off',y,e',_,hy,hcl'⟩:=h.at (i+1) (by omega);obtain ⟨rfl,rfl⟩:g=g'∧off=off':=by
     simp only [Option.some.injEq,Addr.mk.injEq,and_true] at e';exact e'
    obtain ⟨ry,hdy⟩:=y;have c8:w6.cell? ⟨g,off+(i+1)*2+1,none⟩=some (.int .i64 hdy):=(hB6.cell (p:=⟨g,off+(i+1)*2+1,none⟩) hg).trans (hcl' 1 _ rfl);clear hcl' e';by_cases he:hdy=hd
    ·have t2:(hdy != hd)=false:=by simp [he]
     have HI:Hid (RI R (i+1) L (cur++[r])):=HII.out.go hx hor hy he;have HO6:Hid (OwnF runV 2 65 w6 w.heap.size (.slice av L.length cv) L):=ho6;have HU6:Hid (OwnF rune1 1 21 w6 w.heap.size (.slice (some ⟨g5,0,none⟩) (cur.length+1) cap5) (cur++[r])):=hu6;clear ho6 hu6 hx hy hcl;go_wp2_with (at_builtin;refine wpList_append_hr rfl _ _ 74 rfl _ _ rfl rfl hr5 ?_);go_quiet (fail);go_wp2_with fail;go_roundw
     case rel=>exact ⟨i+1,_,_,by go_num,by omega,HI.out,HO6.out.below (below_drewN (bE _ _) _),HU6.out.below (below_drewN (bE _ _) _),below_drewN hB6 _⟩
     case measure=>simp [RowKit.intOf];omega
    ·have t2:(hdy != hd)=true:=by simp [he]
     have hny:∀ y,R[i+1]?=some y→y.2≠hd:=fun y hy2=>by rw [hy] at hy2;injection hy2 with e;subst e;exact he
     clear hy he;go_wp2_with (at_builtin;refine wpList_append_hr rfl _ _ 74 rfl _ _ rfl rfl hr5 ?_);go_quiet (fail);go_wp2_with fail;have hb8:Below w6.heap.size w6 (w6.drewN (nq+1)):=below_drewN (bE _ _) _;obtain ⟨w8,hw8⟩:∃ w8,w8=w6.drewN (nq+1):=⟨_,rfl⟩;have hs8:w8.heap.size=w6.heap.size:=by rw [hw8];rfl
     rw [← hw8] at hb8;have ho8:=ho6.below hb8;have hu8:=hu6.below hb8;obtain ⟨g7,cap7,w7,hr7,ho7,hb7,hkp7,hgt7⟩:=appendF_one kindR layR ho8 (by have:=hB6.size;omega) ⟨strOf (cur++[r]),cur++[r],hd⟩ #[.string (strOf (cur++[r])),.int .i64 hd] rfl 65 (by omega) (by omega) 35;have hRu7:Rw rune1 1 w7 (some ⟨g5,0,none⟩) (cur.length+1) cap5 (cur++[r]):=(hu8.keep fun b hb=>hkp7 b (hu8.lt hb) (hu8.apart ho8 (by decide) b hb)).rw_ layU;have hRu8:=hu8.rw_ layU;have hB7:Below w.heap.size w w7:=(hB6.trans (hb8.mono hB6.size)).trans hb7;have c7:=(hB7.cell (p:=⟨g,off+i*2+1,none⟩) hg).trans (hcl 1 _ rfl);have c8_:w8.cell? ⟨g,off+i*2+1,none⟩=some (.int .i64 hd):=(hb8.cell (p:=⟨g,off+i*2+1,none⟩) hg6).trans c6;have c9_:=(World.cell?_alloc_lt w8 (Obj.cells #[.string (strOf (cur++[r])),.int .i64 hd] 65) ⟨g,off+i*2+1,none⟩ (by simp only;omega)).trans c8_;have hRu9:=hRu8.below ((bE w8.heap.size w8).alloc (lR _) (Obj.cells #[.string (strOf (cur++[r])),.int .i64 hd] 65));have HI:Hid (RI R (i+1) (L++[⟨strOf (cur++[r]),cur++[r],hd⟩]) []):=HII.out.flush hx hor h0.1 h0.2 (fun y hy=>hny y hy);have HO7:Hid (OwnF runV 2 65 w7 w.heap.size (.slice (some ⟨g7,0,none⟩) (L.length+1) cap7) (L++[⟨strOf (cur++[r]),cur++[r],hd⟩])):=ho7;have hw8':w6.drewN (nq+1)=w8:=hw8.symm;have hw8'':(w6.drewN nq).drew=w8:=hw8.symm;clear ho7 hgt7 hkp7 hx hcl hw8 hs8 ho8 hu8;clear hny;refine wp_region_held_drew (S:=(fun W=>W.cell? ⟨g,off+i*2+1,none⟩=some (.int .i64 hd)∧Rw rune1 1 W (some ⟨g5,0,none⟩) (cur.length+1) cap5 (cur++[r]))) (by kernel_rfl) ?hS14 (fun hHeld=>?rest14)
     case hS14=>(first|exact ⟨c8_,hRu8⟩|(rw [hw8''];exact ⟨c8_,hRu8⟩))
     rw [hw8''] at hHeld ⊢;refine tD 0 (some 39) ?_
     try simp only [putS]
     refine tD 1 (some 40) ?_
     try simp only [putS]
     refine takeD (i:=2) (d:=some 41) (v:=?vT17) rfl rfl (by kernel_rfl) (by kernel_rfl) (by kernel_rfl) (fun _ _ _ h=>h) (Or.inl ⟨by rfl,?hyT17⟩) (by assumption) ?rstT17
     case hyT17=>(intro w hSw;have hcv:=conv_rw hSw.2;(try dsimp only at hSw);go_simp;(try with_reducible rfl))
     try simp only [putS]
     refine tD 3 (some 42) ?_
     try simp only [putS]
     refine tD 4 (some 43) ?_
     try simp only [putS]
     refine tD 5 (some 44) ?_
     try simp only [putS]
     refine tD 6 (some 45) ?_
     try simp only [putS]
     refine tD 7 (some 46) ?_
     try simp only [putS]
     refine tD 8 (some 47) ?_
     try simp only [putS]
     refine wpAnyH_ready (rs:=[9]) (by kernel_rfl) (by simp) ?_;refine AllReadyH.cons rfl (fun K hK=>?_) AllReadyH.nil;go_simp;clear hHeld;refine hK.out _ _ ?hS24 (fun hHeld=>?rest24)
     case hS24=>exact ⟨c9_,hRu9⟩
     clear hK K
     try simp only [putS]
     refine wpAnyH_ready (rs:=[10]) (by kernel_rfl) (by simp) ?_;refine AllReadyH.cons rfl (fun K hK=>?_) AllReadyH.nil;rw [if_pos (by rfl)];refine wp_append_hr (.tmp 39) (.tmp 48) 35 (some 49) rfl rfl _ _ rfl rfl hr7 ?_;clear hHeld;refine hK.out _ _ ?hS25 (fun hHeld=>?rest25)
     case hS25=>exact ⟨c7,hRu7⟩
     clear hK K
     try simp only [putS]
     refine tD 11 (some 3) ?_
     try simp only [putS]
     refine wpAnyH_done (by kernel_rfl) ?_ _;go_wp2_with fail;go_roundw
     case rel=>exact ⟨i+1,_,_,by go_num,by omega,HI.out,HO7.out,ownF_nil _ _,hB7⟩
     case measure=>simp [RowKit.intOf];omega
  ·obtain ⟨hF,hcl⟩:=HII.out.done (by rw [HL.out];omega) (by rw [HL.out];exact hn);have HF:Hid (FromOk L∧cellsOf L=R):=⟨hF,hcl⟩;have HOV:Hid (OwnF runV 2 65 wr w.heap.size _ L):=ho;obtain ⟨av,cv,rfl⟩:=ho.shape;clear hF hcl ho hu;go_wp2_with fail;go_ret;exact ⟨_,L,rfl,HOV.out,HF.out.1,HF.out.2,hB⟩
end Go.Proofs.YtijpfbcippijoaaGreatDoor
