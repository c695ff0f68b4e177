import Derived.Test.YtmeciikfnbbllaaGreatDoorAl
import Derived.Test.YtmeciikfnbbllaaGreatDoorGr59
import Derived.Test.YtmeciikfnbbllaaGreatDoorGr52
set_option maxHeartbeats 8000000
set_option maxRecDepth 100000
namespace Go.Proofs.YtmeciikfnbbllaaGreatDoor
open Go.RowKit Go.Lib
def amongOne (who lo hi z:Int) (s:Sth):List (Int×Int):=if s.1=who∧s.2.1<hi∧lo<s.2.2 then [(z+max lo s.2.1-s.2.1,z+min hi s.2.2-s.2.1)] else []
def amongL (who lo hi:Int):List Sth→Int→List (Int×Int)
 | [],_=>[]
 | s::t,z=>amongOne who lo hi z s++amongL who lo hi t (z+wid s)
theorem amongL_snoc (who lo hi:Int) (s:Sth):∀ (R:List Sth) (z:Int),amongL who lo hi (R++[s]) z=amongL who lo hi R z++amongOne who lo hi (z+seenL R) s
 | [],z=>by simp [amongL,seenL]
 | x::t,z=>by
  simp only [List.cons_append,amongL,amongL_snoc who lo hi s t,List.append_assoc,seenL];rw [show z+wid x+seenL t=z+(wid x+seenL t) by omega]
theorem amongL_len (who lo hi:Int):∀ (R:List Sth) (z:Int),(amongL who lo hi R z).length≤R.length
 | [],z=>by simp [amongL]
 | s::t,z=>by
  have h2:=amongL_len who lo hi t (z+wid s);have h1:(amongOne who lo hi z s).length≤1:=by unfold amongOne;split<;>simp
  simp only [amongL,List.length_append,List.length_cons];omega
theorem among_any {w:World} {a:Option Addr} {m cap:Nat} {R:List Sth} (h:Rw sthF 3 w a m cap R) (hm:m≤16) (hR:SthOk R) (who lo hi:Int) (h1:0≤lo∧lo≤4194304) (h2:0≤hi∧hi≤4194304) :
  Calls Tryz.prog 95 #[.slice a m cap,.int .i64 who,.int .i64 lo,.int .i64 hi] w fun e w'=>∃ a' cap',e=.returned (.slice a' (amongL who lo hi R 0).length cap')∧OwnF rangeV 2 94 w' w.heap.size (.slice a' (amongL who lo hi R 0).length cap') (amongL who lo hi R 0)∧Below w.heap.size w w':=by
 have hRl:=h.len;go_enter Tryz.func95,Tryz.ntmps95;go_wp2_with fail;go_loopw [9,10,11] (fun vo vs vi W=>∃ (j:Nat) (z:Int) (L:List (Int×Int)),j≤m∧vi=.int .i64 (j:Int)∧vs=.int .i64 z∧Hid (seenL (R.take j)=z∧amongL who lo hi (R.take j) 0=L)∧OwnF rangeV 2 94 W w.heap.size vo L∧Below w.heap.size w W) (fun _ _ vi _=>m-(RowKit.intOf vi).toNat)
 case atStart=>exact ⟨0,0,[],Nat.zero_le _,rfl,rfl,⟨rfl,rfl⟩,ownF_nil _ _,bE _ _⟩
 case round =>
  obtain ⟨j,z,L,hj,rfl,rfl,HZ,ho,hb⟩:=hrel;by_cases hlt:j<m
  ·obtain ⟨g,off,⟨wh,fr,to⟩,rfl,hg,hx,hc⟩:=h.at j hlt;have c0:wr.cell? ⟨g,off+j*3,none⟩=some (.int .i64 wh):=(hb.cell (p:=⟨g,off+j*3,none⟩) hg).trans (hc 0 _ rfl);have c1:wr.cell? ⟨g,off+j*3+1,none⟩=some (.int .i64 fr):=(hb.cell (p:=⟨g,off+j*3+1,none⟩) hg).trans (hc 1 _ rfl);have c2:wr.cell? ⟨g,off+j*3+2,none⟩=some (.int .i64 to):=(hb.cell (p:=⟨g,off+j*3+2,none⟩) hg).trans (hc 2 _ rfl);obtain ⟨s1,s2,s3⟩:=hR _ (List.mem_of_getElem? hx);obtain ⟨n1,n2⟩:=seenL_le (hR.take j);simp only [List.length_take] at n2;simp only at s1 s2 s3;rw [HZ.out.1] at n1 n2;have n3:z≤4194304*16:=by omega
   have hLl:L.length≤16:=by
    have:=amongL_len who lo hi (R.take j) 0;rw [HZ.out.2,List.length_take] at this;omega
   obtain ⟨W1,hW1⟩:∃ W1,wr.alloc (Obj.cells #[.int .i64 wh,.int .i64 fr,.int .i64 to] 109)=W1:=⟨_,rfl⟩;have hX1:W1.heap[wr.heap.size]?=some (Obj.cells #[.int .i64 wh,.int .i64 fr,.int .i64 to] 109):=by rw [← hW1];exact heap_alloc_new _ _
   have hb1:Below w.heap.size w W1:=by rw [← hW1];exact hb.alloc hb.size _
   have ho1:OwnF rangeV 2 94 W1 w.heap.size u9 L:=by rw [← hW1];exact ho.below ((bE _ _).alloc (lR _) _)
   have hne:∀ e,u9.ownBlock=some e→e≠wr.heap.size:=fun e he eq=>by have:=ho.lt he;omega
   obtain ⟨ao,co,rfl⟩:=ho.shape;have HD:Hid (seenL (R.take (j+1))=z+to-fr∧amongL who lo hi (R.take (j+1)) 0=L++amongOne who lo hi z (wh,fr,to)):=⟨by rw [take_snocH hx,seenL_snoc,HZ.out.1];simp only [wid];omega,by rw [take_snocH hx,amongL_snoc,HZ.out.1,HZ.out.2,Int.zero_add]⟩;obtain ⟨bx0,bx1,bx2⟩:=box3 hX1;have hmx:∀ ats ty (w:World),(Builtin.max_ ats ty #[.int .i64 lo,.int .i64 fr]).run Tryz.prog w=.ok (.int .i64 (max lo fr)) w:=fun ats ty w=>max_run ats ty lo fr w
   have hmn:∀ ats ty (w:World),(Builtin.min_ ats ty #[.int .i64 hi,.int .i64 to]).run Tryz.prog w=.ok (.int .i64 (min hi to)) w:=fun ats ty w=>min_run ats ty hi to w
   obtain ⟨x,hxx⟩:∃ x,max lo fr=x:=⟨_,rfl⟩;obtain ⟨y,hyy⟩:∃ y,min hi to=y:=⟨_,rfl⟩;have bx:0≤x∧x≤4194304:=by omega
   have byy:0≤y∧y≤4194304:=by omega
   rw [hxx] at hmx;rw [hyy] at hmn;have e0:IntKind.i64.wrap (z+to)=z+to:=IntWalk.i64_in _ (by omega);have e1:IntKind.i64.wrap (z+to-fr)=z+to-fr:=IntWalk.i64_in _ (by omega);have e2:IntKind.i64.wrap (z+x)=z+x:=IntWalk.i64_in _ (by omega);have e3:IntKind.i64.wrap (z+x-fr)=z+x-fr:=IntWalk.i64_in _ (by omega);have e4:IntKind.i64.wrap (z+y)=z+y:=IntWalk.i64_in _ (by omega);have e5:IntKind.i64.wrap (z+y-fr)=z+y-fr:=IntWalk.i64_in _ (by omega);have HXY:Hid (max lo fr=x∧min hi to=y):=⟨hxx,hyy⟩;have ho2:OwnF rangeV 2 94 W1 w.heap.size (.slice ao L.length co) L:=ho1;clear hc HZ n2 hb hR h ho hxx hyy ho1;by_cases hA:wh=who∧fr<hi∧lo<to
   ·obtain ⟨rfl,hA2,hA3⟩:=hA;obtain ⟨g4,cp4,w4,r4,o4,b4,x4,ne4⟩:=app_box kindG layG ho2 hb1.size hX1 hne (z+x-fr,z+y-fr) #[.int .i64 (z+x-fr),.int .i64 (z+y-fr)] rfl 94 (by omega) (by omega) 31;have hb4:=hb1.trans b4;have eL:L++[(z+x-fr,z+y-fr)]=L++amongOne wh lo hi z (wh,fr,to):=by
     unfold amongOne;rw [if_pos ⟨rfl,hA2,hA3⟩,HXY.out.1,HXY.out.2]
    rw [eL] at o4;have HO:Hid (OwnF rangeV 2 94 w4 w.heap.size (.slice (some ⟨g4,0,none⟩) (L.length+1) cp4) (L++amongOne wh lo hi z (wh,fr,to))):=o4;obtain ⟨by0,by1,by2⟩:=box3 x4;clear o4 ne4 x4 hne ho2 eL b4 hb1 HXY;go_wp2_with (at_builtin;refine wpList_append_hr rfl _ _ 31 rfl _ _ rfl rfl r4 ?_);go_roundw
    case rel=>exact ⟨j+1,z+to-fr,_,by omega,by go_num,rfl,HD,HO.out,hb4⟩
    case measure=>simp [RowKit.intOf];omega
   ·have eL:L=L++amongOne who lo hi z (wh,fr,to):=by
     unfold amongOne;rw [if_neg hA,List.append_nil]
    have HO:Hid (OwnF rangeV 2 94 W1 w.heap.size (.slice ao L.length co) (L++amongOne who lo hi z (wh,fr,to))):=by rw [← eL];exact ho2
    clear hne ho2 eL HXY;by_cases q1:wh=who
    ·subst q1;by_cases q2:fr<hi
     ·have t3:decide (lo<to)=false:=decide_eq_false (fun hh=>hA ⟨rfl,q2,hh⟩);go_wp2_with fail;go_roundw
      case rel=>exact ⟨j+1,z+to-fr,_,by omega,by go_num,rfl,HD,HO.out,hb1⟩
      case measure=>simp [RowKit.intOf];omega
     ·have t2:decide (fr<hi)=false:=decide_eq_false q2;go_wp2_with fail;go_roundw
      case rel=>exact ⟨j+1,z+to-fr,_,by omega,by go_num,rfl,HD,HO.out,hb1⟩
      case measure=>simp [RowKit.intOf];omega
    ·have t1:(wh==who)=false:=nB q1;go_wp2_with fail;go_roundw
     case rel=>exact ⟨j+1,z+to-fr,_,by omega,by go_num,rfl,HD,HO.out,hb1⟩
     case measure=>simp [RowKit.intOf];omega
  ·obtain rfl:j=m:=by omega
   have HR:Hid (amongL who lo hi R 0=L):=by
    have:=HZ.out.2
    rwa [show R.take j=R by rw [← hRl];exact List.take_length] at this
   obtain ⟨ao,co,rfl⟩:=ho.shape;clear HZ;go_wp2_with fail;go_ret;rw [HR.out];exact ⟨_,_,rfl,ho,hb⟩
end Go.Proofs.YtmeciikfnbbllaaGreatDoor
namespace Go.Proofs.YtmeciikfnbbllaaGreatDoor.Sp
open Go.RowKit Go.Lib
def flatI (ys:List Int):List Value:=ys.map (Value.int .i64)
structure RngI (w:World) (a:Option Addr) (n cap:Nat) (ys:List Int):Prop where
 len:ys.length=n
 room:n≤cap∧cap≤maxLen
 cells:∀ j,j<n→∃ g off,a=some ⟨g,off,none⟩∧g<w.heap.size∧w.cell? ⟨g,off+j,none⟩=some (.int .i64 (ys.getD j 0))
theorem RngI.under {w:World} {a:Option Addr} {n cap:Nat} {ys:List Int} (h:RngI w a n cap ys):Under w.heap.size a n:=fun hn g off ha=>by
 obtain ⟨g',off',ha',hg,_⟩:=h.cells 0 hn;rw [ha] at ha';cases ha';exact hg
theorem RngI.belowB {B:Nat} {w w':World} {a:Option Addr} {n cap:Nat} {ys:List Int} (h:RngI w a n cap ys) (hu:Under B a n) (hb:Below B w w'):RngI w' a n cap ys :=
 ⟨h.len,h.room,fun j hj=>by
  obtain ⟨g,off,ha,hg,hc⟩:=h.cells j hj
  have hlt:=hu (by omega) g off ha
  exact ⟨g,off,ha,by have:=hb.size;omega,(hb.cell (p:=⟨g,off+j,none⟩) hlt).trans hc⟩⟩
theorem RngI.below {w w':World} {a:Option Addr} {n cap:Nat} {ys:List Int} (h:RngI w a n cap ys) (hb:Below w.heap.size w w'):RngI w' a n cap ys:=h.belowB h.under hb
def OwnI (w:World) (B:Nat) (v:Value) (ys:List Int):Prop:=w.ownsRow B 3 1 v ys.length (flatI ys)
theorem ownI_nil (w:World) (B:Nat):OwnI w B (.slice none 0 0) []:=World.ownsRow_nil w B _ _
theorem OwnI.shape {w:World} {B:Nat} {v:Value} {l:List Int} (h:OwnI w B v l):∃ a cap,v=.slice a l.length cap:=by
 rcases h.2 with ⟨e,h0⟩|⟨g,cap,cur,e,_⟩
 ·exact ⟨none,0,by rw [e,h0]⟩
 ·exact ⟨_,_,e⟩
theorem OwnI.below {w w':World} {B:Nat} {v:Value} {l:List Int} (h:OwnI w B v l) (hb:Below w.heap.size w w'):OwnI w' B v l:=by
 refine ⟨h.1,?_⟩;rcases h.2 with h0|⟨g,cap,cur,e,h1,hh,rest⟩
 ·exact .inl h0
 ·exact .inr ⟨g,cap,cur,e,h1,(hb.block g (gA hh)).trans hh,rest⟩
theorem OwnI.mono {w:World} {B C:Nat} {v:Value} {l:List Int} (h:OwnI w B v l) (hC:C≤B):OwnI w C v l:=by
 refine ⟨h.1,?_⟩;rcases h.2 with h0|⟨g,cap,cur,e,h1,rest⟩
 ·exact .inl h0
 ·exact .inr ⟨g,cap,cur,e,by omega,rest⟩
theorem OwnI.rng {w:World} {B n cap:Nat} {a:Option Addr} {l:List Int} (h:OwnI w B (.slice a n cap) l):RngI w a n cap l:=by
 rcases h.2 with ⟨e,h0⟩|⟨g,cap',cur,e,_,hh,hn,hm,hsz,htk⟩
 ·simp only [Value.slice.injEq] at e;obtain ⟨rfl,rfl,rfl⟩:=e;exact ⟨h0,⟨lR _,Nat.zero_le _⟩,fun j hj=>by omega⟩
 ·simp only [Value.slice.injEq] at e;obtain ⟨rfl,rfl,rfl⟩:=e;refine ⟨rfl,⟨hn,hm⟩,fun j hj=>⟨g,0,rfl,(gA hh),?_⟩⟩;rw [Nat.zero_add];have e1:cur.toList[j]?=(flatI l)[j]?:=by rw [← htk,List.getElem?_take,if_pos (by omega)]
  simp only [World.cell?,hh];simp only [Array.getElem?_toList] at e1;rw [e1];simp [flatI,List.getElem?_eq_getElem hj,List.getD_eq_getElem?_getD]
theorem intInfo:(Tryz.prog.info? 3).map (fun i=>(i.zero,i.size,i.bytes))=some (some (.int .i64 0),1,8):=by kernel_rfl
theorem flatI_one (l:List Int):∀ u∈flatI l,u.oneCell'=true:=fun u hu=>by
 obtain ⟨x,_,rfl⟩:=List.mem_map.1 hu;rfl
theorem appendI {w:World} {B:Nat} {a:Option Addr} {n cap:Nat} {xs:List Int} (h:OwnI w B (.slice a n cap) xs) (hB:B≤w.heap.size) {b:Option Addr} {m capb:Nat} {ys:List Int} (hy:RngI w b m capb ys) (hs:(n+m)*8≤140737488355328) (ty:TypeId) :
  ∃ a' cap' w',(Builtin.append_ #[124,124] ty #[.slice a n cap,.slice b m capb]).run Tryz.prog w=.ok (.slice a' (n+m) cap') w'∧OwnI w' B (.slice a' (n+m) cap') (xs++ys)∧Below B w w':=by
 have hlen:=h.rng.len;have hly:=hy.len;obtain ⟨i,hi,hz,hsz,hby⟩:=info_parts intInfo;have hown:w.ownsRow B 3 1 (.slice a n cap) n (flatI xs):=by
  unfold OwnI at h;rw [hlen] at h;exact h
 by_cases h0:m=0
 ·subst h0;obtain rfl:ys=[]:=List.eq_nil_of_length_eq_zero hly;refine ⟨a,cap,w,?_,by simpa using h,bE _ _⟩;rcases hown.2 with ⟨e,_⟩|⟨g,cap',cur,e,_,_,hnc,_⟩
  ·simp only [Value.slice.injEq] at e;obtain ⟨rfl,rfl,rfl⟩:=e;cases b<;>simp [Builtin.append_,run_underlying Tryz.underlying124,sizeOf,typeInfo,hi,Builtin.lenOf,Builtin.firstCells,loadCells,loadCellsFrom]
  ·simp only [Value.slice.injEq] at e;obtain ⟨rfl,_,rfl⟩:=e;cases b<;>simp [Builtin.append_,run_underlying Tryz.underlying124,sizeOf,typeInfo,hi,Builtin.lenOf,Builtin.firstCells,loadCells,loadCellsFrom,hnc,storeCells]
 ·obtain ⟨g,off,rfl,hg,_⟩:=hy.cells 0 (by omega);have hc:∀ j u,(flatI ys)[j]?=some u→w.cell? ((⟨g,off,none⟩:Addr).add j)=some u:=fun j u hu=>by
   have hadd:(⟨g,off,none⟩:Addr).add j=⟨g,off+j,none⟩:=by unfold Addr.add;split<;>simp_all
   have hlt:j<(flatI ys).length:=by
    rcases Nat.lt_or_ge j (flatI ys).length with h'|h'
    ·exact h'
    ·rw [List.getElem?_eq_none h'] at hu;cases hu
   have hlt':j<ys.length:=by simpa [flatI] using hlt
   obtain ⟨g',off',e,_,hc⟩:=hy.cells j (by omega);cases e;rw [hadd,hc,← hu];simp [flatI,List.getElem?_eq_getElem hlt',List.getD_eq_getElem?_getD]
  obtain ⟨v',w',hr,ho,hgr,_⟩:=run_append_own (P:=Tryz.prog) w B 124 ty 3 i _ 1 8 Tryz.underlying124 hi hz hsz hby rfl (by decide) (.slice a n cap) n (flatI xs) hown ⟨g,off,none⟩ m capb (flatI ys) (by simp [flatI,hly]) hc (flatI_one ys)
   (by simp only [maxLen];omega) hs hB
  have ho':OwnI w' B v' (xs++ys):=by
   unfold OwnI;rw [List.length_append,hlen,hly];simpa [flatI] using ho
  obtain ⟨a',cap',rfl⟩:=ho'.shape;have e1:(xs++ys).length=n+m:=by simp [hlen,hly]
  rw [e1] at hr ho';exact ⟨a',cap',w',hr,ho',below_grown hgr (fun k hk=>(World.ownsRow.lt hown k hk).1) hB⟩
theorem rngI_lit1 (w:World) (x:Int) (t:TypeId):RngI (w.alloc (.cells #[.int .i64 x] t)) (some ⟨w.heap.size,0,none⟩) 1 1 [x]:=by
 refine ⟨rfl,⟨lR _,by simp [maxLen]⟩,fun j hj=>⟨w.heap.size,0,rfl,by simp,?_⟩⟩;obtain rfl:j=0:=by omega
 have hh:=heap_alloc_new w (.cells #[.int .i64 x] t);simp only [World.cell?,hh];rfl
theorem appendI_one {w:World} {B:Nat} {a:Option Addr} {n cap:Nat} {xs:List Int} (h:OwnI w B (.slice a n cap) xs) (hB:B≤w.heap.size) (x:Int) (hs:(n+1)*8≤140737488355328) (ty:TypeId) :
  ∃ a' cap' w',(Builtin.append_ #[124,124] ty #[.slice a n cap,.slice (some ⟨w.heap.size,0,none⟩) 1 1]).run Tryz.prog (w.alloc (.cells #[.int .i64 x] 3))=.ok (.slice a' (n+1) cap') w'∧OwnI w' B (.slice a' (n+1) cap') (xs++[x])∧Below B w w':=by
 obtain ⟨a',cap',w',hr,ho,hb⟩:=appendI (h.below ((bE _ _).alloc (lR _) (.cells #[.int .i64 x] 3))) (by simp;omega) (rngI_lit1 w x 3) hs ty;exact ⟨a',cap',w',hr,ho,((bE _ _).alloc hB _).trans hb⟩
end Go.Proofs.YtmeciikfnbbllaaGreatDoor.Sp
namespace Go.Proofs.YtmeciikfnbbllaaGreatDoor.Sp
open Go.RowKit Go.Lib
def Asc (l:List Int):Prop:=l.Pairwise (·≤·)
theorem rngI_take {w:World} {a:Option Addr} {n cap:Nat} {xs:List Int} (h:RngI w a n cap xs) (k:Nat) (hk:k≤n):RngI w a k cap (xs.take k):=by
 have hlen:=h.len;have hroom:=h.room;refine ⟨by simp;omega,by omega,fun j hj=>?_⟩;obtain ⟨g,off,ha,hg,hc⟩:=h.cells j (by omega);refine ⟨g,off,ha,hg,hc.trans ?_⟩;simp [List.getD_eq_getElem?_getD,hj]
theorem rngI_drop {w:World} {g off n cap:Nat} {xs:List Int} (h:RngI w (some ⟨g,off,none⟩) n cap xs) (k:Nat) (hk:k≤n):RngI w (some ⟨g,off+k,none⟩) (n-k) (cap-k) (xs.drop k):=by
 have hlen:=h.len;have hroom:=h.room;refine ⟨by simp;omega,by omega,fun j hj=>?_⟩;obtain ⟨g',off',ha,hg,hc⟩:=h.cells (k+j) (by omega);simp only [Option.some.injEq,Addr.mk.injEq,and_true] at ha;obtain ⟨rfl,rfl⟩:=ha;refine ⟨g,off+k,rfl,hg,?_⟩;rw [Nat.add_assoc,hc];simp [List.getD_eq_getElem?_getD]
theorem elemI:Tryz.prog.elem 124=3:=by kernel_rfl
theorem cutI_high (W:World) (a:Option Addr) (n cap k:Nat) (hk:k≤cap):(Instr.slice 124 (.slice a n cap) none (some (.int .i64 (k:Int))) none).run Tryz.prog W=.ok (.slice a k cap) W:=by
 obtain ⟨i,hi,hz,hsz,hby⟩:=info_parts intInfo;have:=run_slice_h (P:=Tryz.prog) W 124 a n cap (by rw [elemI];exact Tryz.underlying124) .i64 (k:Int) (by omega) (by omega);rw [this,elemI];simp [sizeOf,typeInfo,hi,hsz,sliced,Addr.add]
theorem cutI_low (W:World) (g off n cap k:Nat) (hk:k≤n) (hc:k<cap):(Instr.slice 124 (.slice (some ⟨g,off,none⟩) n cap) (some (.int .i64 (k:Int))) none none).run Tryz.prog W=.ok (.slice (some ⟨g,off+k,none⟩) (n-k) (cap-k)) W:=by
 obtain ⟨i,hi,hz,hsz,hby⟩:=info_parts intInfo;have:=run_slice_l (P:=Tryz.prog) W 124 (some ⟨g,off,none⟩) n cap (by rw [elemI];exact Tryz.underlying124) .i64 (k:Int) (by omega) (by omega);rw [this,elemI];simp [sizeOf,typeInfo,hi,hsz,sliced,Addr.add];rw [if_neg (by omega)];split<;>simp_all
theorem makeI (w:World) (n:Nat) (hn:n≤1048576):∃ w',(Instr.makeSlice 124 (.int .i64 0) (.int .i64 (n:Int))).run Tryz.prog w=.ok (.slice (some ⟨w.heap.size,0,none⟩) 0 n) w'∧OwnI w' w.heap.size (.slice (some ⟨w.heap.size,0,none⟩) 0 n) []∧Below w.heap.size w w':=by
 obtain ⟨i,hi,hz,hsz,hby⟩:=info_parts intInfo;have hr:=run_make (P:=Tryz.prog) w 124 3 i _ Tryz.underlying124 hi hz .i64 .i64 0 (n:Int) (by omega) (by omega) (by rw [hby];omega) (by omega);refine ⟨_,hr,?_,(bE _ _).alloc (lR _) _⟩;have:=World.ownsRow_made (base:=w.heap.size) (e:=3) (size:=1) w (madeCells (Value.int .i64 0).cells (n*1)) n (lR _) (by simp only [maxLen];omega) (by simp [madeCells]);simp only [hsz,Int.toNat_natCast] at *;exact this
theorem below_drewN' {B:Nat} {a w:World} (h:Below B a w) (m:Nat):Below B a (w.drewN m):=h.trans ⟨rfl,rfl,rfl,lR _,fun _ _=>rfl⟩
structure MInv (A B:List Int) (i j:Nat) (out:List Int):Prop where
 perm:(out++(A.drop i++B.drop j)).Perm (A++B)
 asc:Asc out
 le:∀ x∈out,∀ y∈A.drop i++B.drop j,x≤y
theorem dropI (l:List Int) (j:Nat) (hj:j<l.length):l.drop j=l.getD j 0::l.drop (j+1):=by
 rw [List.getD_eq_getElem?_getD,List.getElem?_eq_getElem hj];exact List.drop_eq_getElem_cons hj
theorem asc_snoc {out:List Int} {x:Int} (h:Asc out) (hx:∀ y∈out,y≤x):Asc (out++[x]) :=
 List.pairwise_append.2 ⟨h,by simp,fun a ha b hb=>by simp only [List.mem_singleton] at hb;subst hb;exact hx a ha⟩
theorem MInv.stepA {A B:List Int} {i j:Nat} {out:List Int} (h:MInv A B i j out) (hA:Asc A) (hB:Asc B) (hi:i<A.length) (hj:j<B.length→A.getD i 0≤B.getD j 0):MInv A B (i+1) j (out++[A.getD i 0]):=by
 have hd:=dropI A i hi;refine ⟨?_,asc_snoc h.asc (fun y hy=>h.le y hy _ (by rw [hd];simp)),fun x hx y hy=>?_⟩
 ·have:=h.perm;rw [hd] at this;simpa using this
 ·rcases List.mem_append.1 hx with hx|hx
  ·exact h.le x hx y (by rw [hd];rcases List.mem_append.1 hy with hy|hy<;>simp [hy])
  ·simp only [List.mem_singleton] at hx;subst hx;rcases List.mem_append.1 hy with hy|hy
   ·have:=hA.drop (i:=i);rw [hd] at this;exact (List.pairwise_cons.1 this).1 y hy
   ·by_cases hjl:j<B.length
    ·have h1:=hj hjl;have:=hB.drop (i:=j);rw [dropI B j hjl] at this hy;rcases List.mem_cons.1 hy with rfl|hy
     ·exact h1
     ·have:=(List.pairwise_cons.1 this).1 y hy;omega
    ·rw [List.drop_eq_nil_of_le (by omega)] at hy;cases hy
theorem MInv.stepB {A B:List Int} {i j:Nat} {out:List Int} (h:MInv A B i j out) (hA:Asc A) (hB:Asc B) (hj:j<B.length) (hi:i<A.length→B.getD j 0≤A.getD i 0):MInv A B i (j+1) (out++[B.getD j 0]):=by
 have hd:=dropI B j hj;refine ⟨?_,asc_snoc h.asc (fun y hy=>h.le y hy _ (by rw [hd];simp)),fun x hx y hy=>?_⟩
 ·have:=h.perm;rw [hd] at this;refine List.Perm.trans ?_ this;rw [List.append_assoc];refine List.Perm.append_left _ ?_;exact (List.perm_middle (l₁:=A.drop i) (a:=B.getD j 0) (l₂:=B.drop (j+1))).symm
 ·rcases List.mem_append.1 hx with hx|hx
  ·exact h.le x hx y (by rw [hd];rcases List.mem_append.1 hy with hy|hy<;>simp [hy])
  ·simp only [List.mem_singleton] at hx;subst hx;rcases List.mem_append.1 hy with hy|hy
   ·by_cases hil:i<A.length
    ·have h1:=hi hil;have:=hA.drop (i:=i);rw [dropI A i hil] at this hy;rcases List.mem_cons.1 hy with rfl|hy
     ·exact h1
     ·have:=(List.pairwise_cons.1 this).1 y hy;omega
    ·rw [List.drop_eq_nil_of_le (by omega)] at hy;cases hy
   ·have:=hB.drop (i:=j);rw [hd] at this;exact (List.pairwise_cons.1 this).1 y hy
theorem sorted_any (n:Nat):∀ {w:World} {a:Option Addr} {cap:Nat} {xs:List Int},RngI w a n cap xs→n≤1048576 →
  Calls Tryz.prog 106 #[.slice a n cap] w fun e w'=>∃ a' cap' ys,e=.returned (.slice a' n cap')∧OwnI w' w.heap.size (.slice a' n cap') ys∧Below w.heap.size w w'∧Hid (ys.Perm xs∧Asc ys):=by
 induction n using Nat.strongRecOn with
 | _ n ih =>
  intro w a cap xs h hn;have hlen:=h.len;have hroom:=h.room;by_cases h2:n<2
  ·obtain ⟨a',cap',w',hr,ho,hb⟩:=appendI (ownI_nil w w.heap.size) (lR _) h (by omega) 124;simp only [Nat.zero_add,List.nil_append] at hr ho
   have HP:Hid (xs.Perm xs∧Asc xs):=⟨List.Perm.refl _,by
    match xs,hlen with
    | [],_=>exact List.Pairwise.nil
    | [x],_=>simp [Asc]
    | x::y::t,hl=>simp at hl;omega⟩
   clear ih h;go_enter Tryz.func106,Tryz.ntmps106;go_wp2_with (at_builtin;refine wpList_append_hr rfl _ _ 124 rfl _ _ rfl rfl hr ?_);go_ret;exact ⟨_,_,_,rfl,ho,hb,HP⟩
  ·obtain ⟨g,off,rfl,hg,_⟩:=h.cells 0 (by omega);have hc1:=fun W=>cutI_high W (some ⟨g,off,none⟩) n cap (n / 2) (by omega)
   have hc2:=fun W=>cutI_low W g off n cap (n / 2) (by omega) (by omega)
   have HI1:Hid (∀ W,Below w.heap.size w W→Calls Tryz.prog 106 #[.slice (some ⟨g,off,none⟩) (n / 2) cap] W _):=fun W hb=>ih (n / 2) (by omega) ((rngI_take h (n / 2) (by omega)).below hb) (by omega)
   have HI2:Hid (∀ W,Below w.heap.size w W→Calls Tryz.prog 106 #[.slice (some ⟨g,off+n / 2,none⟩) (n-n / 2) (cap-n / 2)] W _):=fun W hb=>ih (n-n / 2) (by omega) ((rngI_drop h (n / 2) (by omega)).below hb) (by omega)
   clear ih;go_enter Tryz.func106,Tryz.ntmps106;go_wp2_with fail;refine (HI1.out _ (bE _ _)).mono ?_;rintro e w1 ⟨aa,ca,As,rfl,hoA,hb1,HA⟩;go_wp2_with fail;refine (HI2.out _ hb1).mono ?_;rintro e w2 ⟨ab,cb,Bs,rfl,hoB,hb2,HB⟩;obtain ⟨w3,hmk,hoO,hb3⟩:=makeI w2 n hn;have hB2:=hb1.trans (hb2.mono hb1.size);have hrA:=(hoA.below hb2).rng;have hrB:=hoB.rng;have hlA:=hrA.len;have hlB:=hrB.len;have hpr:n / 2+(n-n / 2)=n:=by omega
   have HXS:Hid (∀ A B:List Int,A.Perm (xs.take (n / 2))→B.Perm (xs.drop (n / 2))→(A++B).Perm xs):=fun A B h1 h2=>by
    have:=h1.append h2
    rwa [List.take_append_drop] at this
   have HP:Hid ((As++Bs).Perm xs):=HXS.out As Bs HA.out.1 HB.out.1;have HSA:Hid (Asc As):=HA.out.2;have HSB:Hid (Asc Bs):=HB.out.2;have HM0:Hid (MInv As Bs 0 0 []):=⟨by simp,List.Pairwise.nil,fun x hx=>by cases hx⟩;clear HI1 HI2 hc1 hc2 hoA hoB hb1 hb2 HXS HA HB;generalize n / 2=p at *;generalize n-p=r at *;have hpI:(p:Int)+r=n:=by omega
   go_wp2_with fail;go_loopw [5,6,7] (fun vo vi vj w'=>∃ (i j:Nat) (o:Option Addr) (no co:Nat) (out:List Int),i≤p∧j≤r∧no=i+j∧vi=.int .i64 i∧vj=.int .i64 j∧vo=.slice o no co∧OwnI w' w2.heap.size (.slice o no co) out∧Below w2.heap.size w2 w'∧Hid (MInv As Bs i j out)) (fun _ vi vj _=>p-(RowKit.intOf vi).toNat+(r-(RowKit.intOf vj).toNat))
   case atStart=>exact ⟨0,0,_,0,_,[],Nat.zero_le _,Nat.zero_le _,rfl,rfl,rfl,rfl,hoO,hb3,HM0⟩
   case round =>
    clear hoO hb3 HM0 hmk;obtain ⟨i,j,o,no,co,out,hi,hj,rfl,rfl,rfl,rfl,ho,hb,HM⟩:=hrel;have hsz:=hb.size;by_cases hi':i<p
    ·obtain ⟨ga,oa,rfl,hga,hca⟩:=hrA.cells i hi';have c0:=(hb.cell (p:=⟨ga,oa+i,none⟩) hga).trans hca;by_cases hj':j<r
     ·obtain ⟨gb,ob,rfl,hgb,hcb⟩:=hrB.cells j hj';have c2:=(hb.cell (p:=⟨gb,ob+j,none⟩) hgb).trans hcb;have d1:decide ((r:Int)≤(j:Int))=false:=decide_eq_false (by omega);have d2:(i:Int)<(p:Int):=by omega
      have d4:(j:Int)<(r:Int):=by omega
      by_cases hxy:As.getD i 0≤Bs.getD j 0
      ·have HM2:Hid (MInv As Bs (i+1) j (out++[As.getD i 0])):=HM.out.stepA HSA.out HSB.out (by omega) (fun _=>hxy);have HAP:=fun q=>appendI_one (w:=wr.drewN q) (B:=w2.heap.size) (ho.below (below_drewN' (bE _ _) q)) hsz (As.getD i 0) (by omega) 124
       have d3:As.getD i 0≤Bs.getD j 0:=hxy;clear HM hca hcb;generalize As.getD i 0=x at *;generalize Bs.getD j 0=y at *;go_wp2_with fail;go_quiet (fail);obtain ⟨a1,c1,w4,hr,ho4,hb4⟩:=HAP nq;have hB4:=(below_drewN' hb nq).trans hb4;clear HAP;go_wp2_with (at_builtin;refine wpList_append_hr rfl _ _ 124 rfl _ _ rfl rfl hr ?_);go_roundw
       case rel=>exact ⟨i+1,j,a1,_,c1,_,by omega,by omega,rfl,by go_num,rfl,by rw [show i+1+j=i+j+1 by omega],by rw [show i+1+j=i+j+1 by omega];exact ho4,hB4,HM2⟩
       case measure=>simp [RowKit.intOf];omega
      ·have HM2:Hid (MInv As Bs i (j+1) (out++[Bs.getD j 0])):=HM.out.stepB HSA.out HSB.out (by omega) (fun _=>by omega);have HAP:=fun q=>appendI_one (w:=wr.drewN q) (B:=w2.heap.size) (ho.below (below_drewN' (bE _ _) q)) hsz (Bs.getD j 0) (by omega) 124
       have d3:decide (As.getD i 0≤Bs.getD j 0)=false:=decide_eq_false hxy;clear HM hca hcb hxy;generalize As.getD i 0=x at *;generalize Bs.getD j 0=y at *;go_wp2_with fail;go_quiet (fail);obtain ⟨a1,c1,w4,hr,ho4,hb4⟩:=HAP nq;have hB4:=(below_drewN' hb nq).trans hb4;clear HAP;go_wp2_with (at_builtin;refine wpList_append_hr rfl _ _ 124 rfl _ _ rfl rfl hr ?_);go_roundw
       case rel=>exact ⟨i,j+1,a1,_,c1,_,by omega,by omega,rfl,rfl,by go_num,rfl,ho4,hB4,HM2⟩
       case measure=>simp [RowKit.intOf];omega
     ·have HM2:Hid (MInv As Bs (i+1) j (out++[As.getD i 0])):=HM.out.stepA HSA.out HSB.out (by omega) (fun h=>by omega);have HAP:=fun q=>appendI_one (w:=wr.drewN q) (B:=w2.heap.size) (ho.below (below_drewN' (bE _ _) q)) hsz (As.getD i 0) (by omega) 124
      have d1:(r:Int)≤(j:Int):=by omega
      have d2:(i:Int)<(p:Int):=by omega
      clear HM hca;generalize As.getD i 0=x at *;go_wp2_with fail;go_quiet (fail);obtain ⟨a1,c1,w4,hr,ho4,hb4⟩:=HAP nq;have hB4:=(below_drewN' hb nq).trans hb4;clear HAP;go_wp2_with (at_builtin;refine wpList_append_hr rfl _ _ 124 rfl _ _ rfl rfl hr ?_);go_roundw
      case rel=>exact ⟨i+1,j,a1,_,c1,_,by omega,by omega,rfl,by go_num,rfl,by rw [show i+1+j=i+j+1 by omega],by rw [show i+1+j=i+j+1 by omega];exact ho4,hB4,HM2⟩
      case measure=>simp [RowKit.intOf];omega
    ·have d2:decide ((i:Int)<(p:Int))=false:=decide_eq_false (by omega);by_cases hj':j<r
     ·obtain ⟨gb,ob,rfl,hgb,hcb⟩:=hrB.cells j hj';have c2:=(hb.cell (p:=⟨gb,ob+j,none⟩) hgb).trans hcb;have HM2:Hid (MInv As Bs i (j+1) (out++[Bs.getD j 0])):=HM.out.stepB HSA.out HSB.out (by omega) (fun h=>by omega);have HAP:=fun q=>appendI_one (w:=wr.drewN q) (B:=w2.heap.size) (ho.below (below_drewN' (bE _ _) q)) hsz (Bs.getD j 0) (by omega) 124
      have d1:decide ((r:Int)≤(j:Int))=false:=decide_eq_false (by omega);have d4:(j:Int)<(r:Int):=by omega
      clear HM hcb;generalize Bs.getD j 0=y at *;go_wp2_with fail;have e1:decide ((r:Int)≤(j:Int))=false:=decide_eq_false (by omega);have e2:decide ((i:Int)<(p:Int))=false:=decide_eq_false (by omega);have e3:decide (r≤j)=false:=decide_eq_false (by omega);have e4:decide (i<p)=false:=decide_eq_false (by omega);go_quiet (fail);obtain ⟨a1,c1,w4,hr,ho4,hb4⟩:=HAP nq;have hB4:=(below_drewN' hb nq).trans hb4;clear HAP;go_wp2_with (at_builtin;refine wpList_append_hr rfl _ _ 124 rfl _ _ rfl rfl hr ?_);go_roundw
      case rel=>exact ⟨i,j+1,a1,_,c1,_,by omega,by omega,rfl,rfl,by go_num,rfl,ho4,hB4,HM2⟩
      case measure=>simp [RowKit.intOf];omega
     ·have d4:decide ((j:Int)<(r:Int))=false:=decide_eq_false (by omega);have hM:=HM.out;have hij:i+j=n:=by omega
      have HF:Hid (out.Perm xs∧Asc out):=by
       refine ⟨?_,hM.asc⟩;have:=hM.perm;rw [List.drop_eq_nil_of_le (by omega),List.drop_eq_nil_of_le (by omega),List.append_nil,List.append_nil] at this;exact this.trans HP.out
      rw [hij] at ho;clear hM HM;go_wp2_with fail;go_ret;exact ⟨_,_,out,by rw [← hij];rfl,ho.mono hB2.size,hB2.trans (hb.mono hB2.size),HF⟩
end Go.Proofs.YtmeciikfnbbllaaGreatDoor.Sp
