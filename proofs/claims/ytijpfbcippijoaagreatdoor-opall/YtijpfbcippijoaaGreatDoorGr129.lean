import Derived.Test.YtijpfbcippijoaaGreatDoorAl
import Derived.Test.YtijpfbcippijoaaGreatDoorGr136
import Derived.Test.YtijpfbcippijoaaGreatDoorGr125
import Derived.Test.YtijpfbcippijoaaGreatDoorGr137
set_option maxHeartbeats 8000000
set_option maxRecDepth 100000
namespace Go.Proofs.YtijpfbcippijoaaGreatDoor
open Go.RowKit Go.Lib
def insU (R:List (Int×Int)) (pk:Nat) (rs:List Int) (i:Nat):List (Int×Int):=if i≤pk then R.take i else R.take pk++(rs.map fun r=>(r,0))++(R.drop pk).take (i-pk)
theorem insU_low {R:List (Int×Int)} {pk:Nat} {rs:List Int} {i:Nat} {x:Int×Int} (h:i<pk) (hx:R[i]?=some x):insU R pk rs i++[x]=insU R pk rs (i+1):=by
 obtain ⟨hi,rfl⟩:=List.getElem?_eq_some_iff.1 hx;unfold insU;rw [if_pos (by omega),if_pos (by omega),List.take_succ_eq_append_getElem hi]
theorem insU_high {R:List (Int×Int)} {pk:Nat} {rs:List Int} {i:Nat} {x:Int×Int} (h:pk≤i) (hx:R[i]?=some x):(R.take pk++(rs.map fun r=>(r,(0:Int)))++(R.drop pk).take (i-pk))++[x]=insU R pk rs (i+1):=by
 obtain ⟨hi,rfl⟩:=List.getElem?_eq_some_iff.1 hx;unfold insU;have e:(R.drop pk)[i-pk]?=some R[i]:=by rw [List.getElem?_drop,show pk+(i-pk)=i by omega,List.getElem?_eq_getElem hi]
 obtain ⟨hj,ej⟩:=List.getElem?_eq_some_iff.1 e;rw [if_neg (by omega),show i+1-pk=(i-pk)+1 by omega,List.take_succ_eq_append_getElem hj,ej];simp only [List.append_assoc]
theorem insU_end {R:List (Int×Int)} {pk:Nat} {rs:List Int} (h:pk≤R.length):R.take pk++(rs.map fun r=>(r,(0:Int)))++(R.drop pk).take (R.length-pk)=insU R pk rs (R.length+1):=by
 unfold insU;rw [if_neg (by omega),List.take_of_length_le (l:=R.drop pk) (by simp),List.take_of_length_le (l:=R.drop pk) (i:=R.length+1-pk) (by simp;omega)]
theorem insU_all {R:List (Int×Int)} {pk:Nat} {rs:List Int} (h:pk≤R.length):insU R pk rs (R.length+1)=putL R pk rs 0:=by
 rw [← insU_end h,List.take_of_length_le (l:=R.drop pk) (by simp)];rfl
theorem insU_gt {R:List (Int×Int)} {pk:Nat} {rs:List Int} {i:Nat} (h:pk<i):insU R pk rs i=R.take pk++(rs.map fun r=>(r,(0:Int)))++(R.drop pk).take (i-pk):=by
 unfold insU;rw [if_neg (by omega)]
theorem insU_end' {R:List (Int×Int)} {pk:Nat} {rs:List Int} (h:pk≤R.length) {i:Nat} (hi:R.length=i∧pk<i):insU R pk rs i=insU R pk rs (i+1):=by
 obtain ⟨rfl,h2⟩:=hi;rw [insU_gt h2,insU_end h]
theorem wrap32_ok {r:Int} (h:okR r):IntKind.i32.wrap r=r:=by
 have:=valid_le h.1;exact IntWalk.i32_in r (by omega)
theorem insU_len (R:List (Int×Int)) (pk:Nat) (rs:List Int) (i:Nat):(insU R pk rs i).length≤R.length+rs.length:=by
 unfold insU;split
 ·rw [List.length_take];omega
 ·simp only [List.length_append,List.length_take,List.length_map,List.length_drop];omega
theorem gApply_ins {c n:Int} {s:ByteArray} {l:List (Int×Int)} {tc tn:Int} {on:Bool} {w:World} {aR:Option Addr} {nR cR:Nat} {R:List (Int×Int)} (hR:Rw cellV 2 w aR nR cR R) {a:Option Addr} {m cap:Nat} (hl:Sp.Rng w a m cap l) (hs:s.size≤2097152) {pk:Nat} {rs:List Int} (hpk:pk≤nR) (ht:IsText s rs) (hne:rs≠[]) (hrs:rs.length≤256) (hnR:nR≤1048576)
  (hC:opCheck ⟨c,n,1,(pk:Int),s,l,tc,tn,on⟩ (nR:Int)=0) :
  Calls Tryz.prog 12 #[.slice aR nR cR,opVal ⟨c,n,1,(pk:Int),s,l,tc,tn,on⟩ (.slice a m cap)] w fun e w'=>∃ v,e=.returned (.tuple #[v,.int .i64 0])∧OwnF cellV 2 63 w' w.heap.size v (putL R pk rs 0)∧Below w.heap.size w w':=by
 simp only [opVal] at *;have HRL:Hid (R.length=nR):=hR.len;have HC:Hid (∀ W,Below w.heap.size w W→Calls Tryz.prog 27 #[.agg #[.int .i64 c,.int .i64 n,.int .i64 1,.int .i64 (pk:Int),.string s,.slice a m cap,.int .i64 tc,.int .i64 tn,.bool on],.int .i64 (nR:Int)] W fun e w'=>e=.returned (.int .i64 0)∧Below W.heap.size W w'):=fun W hb=>by
  have:=gCheck_any (o:=⟨c,n,1,(pk:Int),s,l,tc,tn,on⟩) (total:=(nR:Int)) (hl.below hb) hs;rw [hC] at this;exact this
 clear hC hl;have hsp:Split s rs []:=⟨by rw [List.append_nil];exact ht.bytes,ht.ok,.inl rfl⟩;have HOKR:Hid (∀ r∈rs,okR r):=ht.ok;have hrp:0<rs.length:=List.length_pos_iff.2 hne;clear ht hne;go_enter Tryz.func12,Tryz.ntmps12;go_wp2_with fail;have hB0:Below w.heap.size w (w.alloc (Obj.cells #[.int .i64 c,.int .i64 n,.int .i64 1,.int .i64 (pk:Int),.string s,.slice a m cap,.int .i64 tc,.int .i64 tn,.bool on] 44)):=(bE w.heap.size w).alloc (lR _) _;refine (HC.out _ hB0).mono ?_;rintro e w1 ⟨rfl,hb1⟩;have hX1:w1.heap[w.heap.size]?=some (Obj.cells #[.int .i64 c,.int .i64 n,.int .i64 1,.int .i64 (pk:Int),.string s,.slice a m cap,.int .i64 tc,.int .i64 tn,.bool on] 44):=(hb1.block _ (by simp)).trans (alloc_last _ _ _ rfl);obtain ⟨d0,d1,d2,d3,d4,d5,d6,d7,d8⟩:=box9 hX1;have hB1:=hB0.trans (hb1.mono hB0.size);clear hB0 hb1 HC;have T2:=runes_any hsp hs w1;go_wp2_with fail;refine T2.mono ?_;rintro e w2 ⟨aI,nI,cI,pp,cc,rfl,hb2,hor⟩;clear T2 d0 d1 d2 d3 d4 d5 d6 d7 d8;obtain ⟨rfl,rfl,rfl,hI⟩:pp=0∧cc=0∧nI=rs.length∧w2.ownsRow w1.heap.size 3 1 (.slice aI nI cI) nI (intsV rs):=by
  rcases hor with ⟨_,h1,h2,h3,h4⟩|⟨h1,_⟩
  ·exact ⟨h1,h2,h3,h4⟩
  ·exact absurd trivial h1
 clear hor hsp;have hX2:=(hb2.block _ (gA hX1)).trans hX1;have hB2:=hB1.trans (hb2.mono hB1.size);have hlt2:=(gA hX2);obtain ⟨gI,eI,hgI,HI⟩:∃ gI,aI=some ⟨gI,0,none⟩∧gI<w2.heap.size∧Hid (∀ (k:Nat) r,rs[k]?=some r→w2.cell? ⟨gI,k,none⟩=some (.int .i64 r)):=by
  rcases hI.2 with ⟨e,h0⟩|⟨g,cap',cur,e,hB,hh,rest⟩
  ·omega
  ·injection e with e1 e2 e3
   subst e1 e3;refine ⟨g,rfl,(gA hh),fun k r hk=>?_⟩;have hkl:=(List.getElem?_eq_some_iff.1 hk).1;rw [hI.cellAt k (by omega)];simp only [intsV,List.getElem?_map,hk];rfl
 subst eI;have HAT:Hid (∀ W,Below w2.heap.size w2 W→W.cell? ⟨w.heap.size,3,none⟩=some (.int .i64 (pk:Int))):=fun W hb=>by
  have:=(hb.block _ hlt2).trans hX2;rw [cH this];rfl
 have HR:Hid (Rw cellV 2 w2 aR nR cR R):=hR.below hB2;have HB2:Hid (Below w.heap.size w w2):=hB2;have hs2:=hB2.size;clear hX1 hX2 hB1 hB2 hb2 hI hR;go_wp2_with fail;go_loopw [8,12] (fun v vi W=>∃ i:Nat,vi=.int .i64 (i:Int)∧i≤nR+1∧OwnF cellV 2 63 W w2.heap.size v (insU R pk rs i)∧Below w2.heap.size w2 W) (fun _ vi _=>nR+1-(RowKit.intOf vi).toNat)
 case atStart=>exact ⟨0,rfl,Nat.zero_le _,by unfold insU;rw [if_pos (Nat.zero_le _),List.take_zero];exact ownF_nil _ _,bE _ _⟩
 case round =>
  obtain ⟨i,rfl,hin,ho,hB⟩:=hrel;have p3:=HAT.out _ hB;by_cases hi:i≤nR
  ·by_cases hi2:i<pk
   ·have b1:(i:Int)≤(nR:Int):=by omega
    have b2:((i:Int)==(pk:Int))=false:=by simp;omega
    have HLEN:Hid ((insU R pk rs i).length≤1048832):=by have:=insU_len R pk rs i;have:=HRL.out;exact (by omega:(insU R pk rs i).length≤1048832)
    go_wp2_with fail;go_loopw [8,13] (fun v vk W=>vk=.int .i64 0∧OwnF cellV 2 63 W w2.heap.size v (insU R pk rs i)∧Below w2.heap.size w2 W) (fun _ _ _=>0)
    case atStart=>exact ⟨rfl,ho,hB⟩
    case round =>
     clear ho hB p3;obtain ⟨rfl,ho,hB⟩:=hrel;have p3:=HAT.out _ hB;have b3:(i:Int)<(nR:Int):=by omega
     obtain ⟨g,off,x,rfl,hg,hx,hc⟩:=HR.out.at i (by omega);obtain ⟨xr,xh⟩:=x;have k0:wr.cell? ⟨g,off+i*2,none⟩=some (.int .i32 xr):=(hB.cell (p:=⟨g,off+i*2+0,none⟩) hg).trans (hc 0 _ rfl);have k1:wr.cell? ⟨g,off+i*2+1,none⟩=some (.int .i64 xh):=(hB.cell (p:=⟨g,off+i*2+1,none⟩) hg).trans (hc 1 _ rfl);have HSN:Hid (insU R pk rs i++[(xr,xh)]=insU R pk rs (i+1)):=insU_low hi2 hx;clear hc hx;have hBs:=hB.size;have hll:(insU R pk rs i).length≤1048832:=by have:=HLEN.out;omega
     generalize hacc:(insU R pk rs i)=acc at *;have HACC:Hid ((insU R pk rs i)=acc):=hacc;clear hacc;obtain ⟨av,cv,rfl⟩:=ho.shape;obtain ⟨g7,cap7,w7,hr7,ho7,hb7,_,_⟩:=appendF_one kindC layC ho hBs (xr,xh) #[.int .i32 xr,.int .i64 xh] rfl 63 (by omega) (by omega) 29;have hB7:=hB.trans hb7;go_wp2_with (at_builtin;refine wpList_append_hr rfl _ _ 29 rfl _ _ rfl rfl hr7 ?_);go_roundw
     case rel=>exact ⟨i+1,by go_num,by omega,by rw [← HSN.out];exact ho7,hB7⟩
     case measure=>first|(simp [RowKit.intOf];omega)|simp [RowKit.intOf]
   ·by_cases hi4:i=pk
    ·subst hi4;have b1:(i:Int)≤(nR:Int):=by omega
     have ho0:=ho;unfold insU at ho0;rw [if_pos (lR _)] at ho0;go_wp2_with fail;go_loopw [8,13] (fun v vk W=>∃ k:Nat,vk=.int .i64 (k:Int)∧k≤rs.length∧OwnF cellV 2 63 W w2.heap.size v (R.take i++(rs.take k).map fun r=>(r,(0:Int)))∧Below w2.heap.size w2 W) (fun _ vk _=>rs.length-(RowKit.intOf vk).toNat)
     case atStart=>exact ⟨0,rfl,Nat.zero_le _,by rw [List.take_zero,List.map_nil,List.append_nil];exact ho0,hB⟩
     case round =>
      clear ho ho0 hB p3;obtain ⟨k,rfl,hk,ho,hB⟩:=hrel;have p3:=HAT.out _ hB;have HLEN:Hid ((R.take i++(rs.take k).map fun r=>(r,(0:Int))).length≤1048832):=by have:=HRL.out;exact (by simp only [List.length_append,List.length_take,List.length_map];omega:(R.take i++(rs.take k).map fun r=>(r,(0:Int))).length≤1048832)
      by_cases hk2:k<rs.length
      ·have b3:(k:Int)<(rs.length:Int):=by omega
       obtain ⟨r,hr⟩:∃ r,rs[k]?=some r:=⟨_,List.getElem?_eq_getElem hk2⟩;have k0:wr.cell? ⟨gI,k,none⟩=some (.int .i64 r):=(hB.cell (p:=⟨gI,k,none⟩) hgI).trans (HI.out k r hr);have hokr:=HOKR.out r (List.mem_of_getElem? hr);have u1:IntKind.i32.wrap r=r:=wrap32_ok hokr;have HSN:Hid ((R.take i++(rs.take k).map fun r=>(r,(0:Int)))++[(r,0)]=R.take i++(rs.take (k+1)).map fun r=>(r,(0:Int))):=by
        obtain ⟨h9,e9⟩:=List.getElem?_eq_some_iff.1 hr;have e8:(R.take i++(rs.take k).map fun r=>(r,(0:Int)))++[(r,0)]=R.take i++(rs.take (k+1)).map fun r=>(r,(0:Int)):=by rw [List.take_succ_eq_append_getElem h9,List.map_append,e9,List.append_assoc];rfl
        exact e8
       clear hr hokr;have hBs:=hB.size;have hll:(R.take i++(rs.take k).map fun r=>(r,(0:Int))).length≤1048832:=by have:=HLEN.out;omega
       generalize hacc:(R.take i++(rs.take k).map fun r=>(r,(0:Int)))=acc at *;have HACC:Hid ((R.take i++(rs.take k).map fun r=>(r,(0:Int)))=acc):=hacc;clear hacc;obtain ⟨av,cv,rfl⟩:=ho.shape;obtain ⟨g7,cap7,w7,hr7,ho7,hb7,_,_⟩:=appendF_one kindC layC ho hBs (r,0) #[.int .i32 r,.int .i64 0] rfl 63 (by omega) (by omega) 29;have hB7:=hB.trans hb7;go_wp2_with (at_builtin;refine wpList_append_hr rfl _ _ 29 rfl _ _ rfl rfl hr7 ?_);go_roundw
       case rel=>exact ⟨k+1,by go_num,by omega,by rw [← HSN.out];exact ho7,hB7⟩
       case measure=>first|(simp [RowKit.intOf];omega)|simp [RowKit.intOf]
      ·obtain rfl:k=rs.length:=by omega
       have b4:¬ (rs.length:Int)<(rs.length:Int):=by omega
       have b44:decide ((rs.length:Int)<(rs.length:Int))=false:=decide_eq_false b4;by_cases hi3:i<nR
       ·have b3:(i:Int)<(nR:Int):=by omega
        obtain ⟨g,off,x,rfl,hg,hx,hc⟩:=HR.out.at i (by omega);obtain ⟨xr,xh⟩:=x;have k0:wr.cell? ⟨g,off+i*2,none⟩=some (.int .i32 xr):=(hB.cell (p:=⟨g,off+i*2+0,none⟩) hg).trans (hc 0 _ rfl);have k1:wr.cell? ⟨g,off+i*2+1,none⟩=some (.int .i64 xh):=(hB.cell (p:=⟨g,off+i*2+1,none⟩) hg).trans (hc 1 _ rfl);have HSN:Hid ((R.take i++(rs.take rs.length).map fun r=>(r,(0:Int)))++[(xr,xh)]=insU R i rs (i+1)):=by
         have:=insU_high (rs:=rs) (lR i) hx;rw [Nat.sub_self,List.take_zero,List.append_nil] at this;rw [List.take_length];exact this
        clear hc hx;have hBs:=hB.size;have hll:(R.take i++(rs.take rs.length).map fun r=>(r,(0:Int))).length≤1048832:=by have:=HLEN.out;omega
        generalize hacc:(R.take i++(rs.take rs.length).map fun r=>(r,(0:Int)))=acc at *;have HACC:Hid ((R.take i++(rs.take rs.length).map fun r=>(r,(0:Int)))=acc):=hacc;clear hacc;obtain ⟨av,cv,rfl⟩:=ho.shape;obtain ⟨g7,cap7,w7,hr7,ho7,hb7,_,_⟩:=appendF_one kindC layC ho hBs (xr,xh) #[.int .i32 xr,.int .i64 xh] rfl 63 (by omega) (by omega) 29;have hB7:=hB.trans hb7;go_wp2_with (at_builtin;refine wpList_append_hr rfl _ _ 29 rfl _ _ rfl rfl hr7 ?_);go_roundw
        case rel=>exact ⟨i+1,by go_num,by omega,by rw [← HSN.out];exact ho7,hB7⟩
        case measure=>first|(simp [RowKit.intOf];omega)|simp [RowKit.intOf]
       ·obtain rfl:i=nR:=by omega
        have b3:¬ (i:Int)<(i:Int):=by omega
        have b33:decide ((i:Int)<(i:Int))=false:=decide_eq_false b3;have ho7:=ho;have hB7:=hB;have HSN:Hid (insU R i rs (i+1)=R.take i++(rs.take rs.length).map fun r=>(r,(0:Int))):=by
         have e:=HRL.out;have:=insU_end (rs:=rs) (Nat.le_of_eq e.symm);rw [e,Nat.sub_self,List.take_zero,List.append_nil] at this;rw [List.take_length];exact this.symm
        go_wp2_with fail;go_roundw
        case rel=>exact ⟨i+1,by go_num,by omega,by rw [HSN.out];exact ho7,hB7⟩
        case measure=>first|(simp [RowKit.intOf];omega)|simp [RowKit.intOf]
    ·have b1:(i:Int)≤(nR:Int):=by omega
     have b2:((i:Int)==(pk:Int))=false:=by simp;omega
     have HLEN:Hid ((insU R pk rs i).length≤1048832):=by have:=insU_len R pk rs i;have:=HRL.out;exact (by omega:(insU R pk rs i).length≤1048832)
     go_wp2_with fail;go_loopw [8,13] (fun v vk W=>vk=.int .i64 0∧OwnF cellV 2 63 W w2.heap.size v (insU R pk rs i)∧Below w2.heap.size w2 W) (fun _ _ _=>0)
     case atStart=>exact ⟨rfl,ho,hB⟩
     case round =>
      clear ho hB p3;obtain ⟨rfl,ho,hB⟩:=hrel;have p3:=HAT.out _ hB;by_cases hi3:i<nR
      ·have b3:(i:Int)<(nR:Int):=by omega
       obtain ⟨g,off,x,rfl,hg,hx,hc⟩:=HR.out.at i (by omega);obtain ⟨xr,xh⟩:=x;have k0:wr.cell? ⟨g,off+i*2,none⟩=some (.int .i32 xr):=(hB.cell (p:=⟨g,off+i*2+0,none⟩) hg).trans (hc 0 _ rfl);have k1:wr.cell? ⟨g,off+i*2+1,none⟩=some (.int .i64 xh):=(hB.cell (p:=⟨g,off+i*2+1,none⟩) hg).trans (hc 1 _ rfl);have HSN:Hid (insU R pk rs i++[(xr,xh)]=insU R pk rs (i+1)):=(by rw [insU_gt (by omega)];exact insU_high (by omega) hx);clear hc hx;have hBs:=hB.size;have hll:(insU R pk rs i).length≤1048832:=by have:=HLEN.out;omega
       generalize hacc:(insU R pk rs i)=acc at *;have HACC:Hid ((insU R pk rs i)=acc):=hacc;clear hacc;obtain ⟨av,cv,rfl⟩:=ho.shape;obtain ⟨g7,cap7,w7,hr7,ho7,hb7,_,_⟩:=appendF_one kindC layC ho hBs (xr,xh) #[.int .i32 xr,.int .i64 xh] rfl 63 (by omega) (by omega) 29;have hB7:=hB.trans hb7;go_wp2_with (at_builtin;refine wpList_append_hr rfl _ _ 29 rfl _ _ rfl rfl hr7 ?_);go_roundw
       case rel=>exact ⟨i+1,by go_num,by omega,by rw [← HSN.out];exact ho7,hB7⟩
       case measure=>first|(simp [RowKit.intOf];omega)|simp [RowKit.intOf]
      ·obtain rfl:i=nR:=by omega
       have b3:¬ (i:Int)<(i:Int):=by omega
       have b33:decide ((i:Int)<(i:Int))=false:=decide_eq_false b3;have ho7:=ho;have hB7:=hB;go_wp2_with fail;go_roundw
       case rel=>exact ⟨i+1,by go_num,by omega,by rw [← insU_end' (by have:=HRL.out;omega) ⟨HRL.out,by omega⟩];exact ho7,hB7⟩
       case measure=>first|(simp [RowKit.intOf];omega)|simp [RowKit.intOf]
  ·obtain rfl:i=nR+1:=by omega
   have b1:¬ ((nR+1:Nat):Int)≤(nR:Int):=by omega
   have b11:decide (((nR+1:Nat):Int)≤(nR:Int))=false:=decide_eq_false b1;have HO:Hid (OwnF cellV 2 63 wr w2.heap.size _ (insU R pk rs (nR+1))):=ho;clear ho;go_wp2_with fail;refine bodyPost_ret (results_tmp2 rfl _ _ _) rfl ?_;have ho:=HO.out;rw [← HRL.out,insU_all (by rw [HRL.out];exact hpk)] at ho;exact ⟨_,rfl,ho.mono hs2,HB2.out.trans (hB.mono hs2)⟩
theorem Tr.Wf.all {t:Tr} (h:t.Wf):∀ c∈t.row,t.sm.least≤c.2∧c.2≤t.sm.most:=by
 induction t with
 | nil=>exact h.elim
 | leaf rs hid st =>
  intro c hc;obtain ⟨x,_,rfl⟩:=List.mem_map.1 hc;simp [Tr.sm,pieceSm]
 | node l r st ihl ihr =>
  intro c hc;simp only [Tr.row,upL] at hc;obtain ⟨x,hx,rfl⟩:=List.mem_map.1 hc;simp only [Tr.sm,Sm.both,Sm.raised];rcases List.mem_append.1 hx with hx|hx
  ·have:=ihl h.1 x hx;omega
  ·have:=ihr h.2 x hx;omega
theorem Tr.Can.all {t:Tr} (h:t.Can) {c:Int×Int} (hc:c∈t.row):t.sm.least≤c.2∧c.2≤t.sm.most∧(∃ b∈t.row,b.2=t.sm.least)∧∃ b∈t.row,b.2=t.sm.most:=by
 rcases h with rfl|hf
 ·simp [Tr.row] at hc
 ·have h1:=hf.wf.all c hc;exact ⟨h1.1,h1.2,hf.wf.smIn.least,hf.wf.smIn.most⟩
theorem bump_above {w:World} {q:Nat} {t:Tr} (h:RopeAt w q t) (hR:t.Rp) {a:Option Addr} {m cap:Nat} {l:List (Int×Int)} (hl:Rw pieceV 2 w a m cap l) (hm:m≤32768) (hs:Srt l) (hb:∀ x∈l,0≤x.1∧x.2≤(t.row.length:Int)) (hout:∃ c∈bmp l (1) 0 t.row,1048576<c.2) :
  Calls Tryz.prog 26 #[.pointer (some ⟨q,0,none⟩),.slice a m cap,.int .i64 (1)] w fun e w'=>e=.returned (.int .i64 31)∧Below w.heap.size w w':=by
 have hlen:=hR.len;have hll:=hl.len;have HCK:=Sp.check_any hl.rng;rw [check_srt hs (fun x hx=>by have:=hb x hx;omega) (by omega)] at HCK;have HT:Hid (∀ W,Below w.heap.size w W→Calls Tryz.prog 24 #[.pointer (some ⟨q,0,none⟩)] W fun e w'=>e=.returned (.int .i64 (t.row.length:Int))∧w'=W):=fun W hW=>ropeTotal_any (h.below hW)
 obtain ⟨g,hq,hA⟩:=h;have hql:=(gA hq);have c0:w.cell? ⟨q,0,none⟩=some (.pointer (some ⟨g,0,none⟩)):=by simp [World.cell?,hq]
 have HBP:Hid (∀ W,Below w.heap.size w W→Calls Tryz.prog 60 #[.pointer (some ⟨g,0,none⟩),.int .i64 0,.slice a m cap,.int .i64 (1)] W fun e w'=>∃ g' t',e=.returned (.pointer (some ⟨g',0,none⟩))∧At w' t' g'∧t'.Can∧Pcs t'.lv∧t'.row=bmp l (1) 0 t.row∧Below W.heap.size W w'):=fun W hW=>bumped_root (hA.below hW) hR (hl.below hW) hm hs hb (1) (by omega)
 have HL:Hid (Rw pieceV 2 w a m cap l):=hl;have HB:Hid (∀ x∈l,0≤x.1∧x.2≤(t.row.length:Int)):=hb;have h0:0<m:=by
  rcases Nat.eq_zero_or_pos m with h0|h0
  ·exfalso;obtain rfl:l=[]:=List.length_eq_zero_iff.1 (hll.trans h0);obtain ⟨c,hc,hx⟩:=hout;obtain ⟨j,hj⟩:=List.getElem?_of_mem hc;rw [bmp_get] at hj;obtain ⟨y,hy,rfl⟩:=Option.map_eq_some_iff.1 hj;have hy2:=List.mem_of_getElem? hy;have h1:=hR.lo y hy2;have h2:=hR.hi y hy2;rw [if_neg (by simp [inL])] at hx;omega
  ·exact h0
 have HFX:Hid (∀ t4:Tr,t4.Can→t4.row=bmp l (1) 0 t.row→0≤t4.sm.least∧1048576<t4.sm.most):=fun t4 hC hr=>by
  obtain ⟨c,hc,hx⟩:=hout;obtain ⟨h1,h2,⟨b,hb1,hb2⟩,_⟩:=hC.all (by rw [hr];exact hc);rw [hr] at hb1;obtain ⟨y,hy,e⟩:=bmp_mem hb1;have hy1:=hR.lo y hy;rcases e with rfl|rfl
  ·omega
  ·simp only at hb2;omega
 clear hl hb hq hs hout;go_enter Tryz.func26,Tryz.ntmps26;go_wp2_with fail;refine HCK.mono ?_;rintro e w1 ⟨rfl,hb1⟩;clear HCK;obtain ⟨M,rfl⟩:∃ M,m=M+1:=⟨m-1,by omega⟩;obtain ⟨ga,off,x,rfl,hga,hx,hc⟩:=HL.out.at M (by omega);have HX:Hid (w.cell? ⟨ga,off+M*2+1,none⟩=some (.int .i64 x.2)):=hc 1 _ rfl;have c1:w1.cell? ⟨ga,off+M*2+1,none⟩=some (.int .i64 x.2):=(hb1.cell (p:=⟨ga,off+M*2+1,none⟩) hga).trans HX.out;have hx2:¬ (t.row.length:Int)<x.2:=by have:=(HB.out x (List.mem_of_getElem? hx)).2;omega
 have b2:decide ((t.row.length:Int)<x.2)=false:=decide_eq_false hx2;have u2:IntKind.i64.wrap (M:Int)=(M:Int):=IntWalk.i64_in _ (by omega);have u3:(M:Int)<(M:Int)+1:=by omega
 clear hc hx hx2;go_wp2_with fail;refine wp_region_held_drew (S:=(fun W=>W.cell? ⟨ga,off+M*2+1,none⟩=some (.int .i64 x.2))) (by kernel_rfl) ?hS1 (fun hHeld=>?rest1)
 case hS1=>(first|exact c1|exact c2)
 refine tD 0 (some 24) ?_
 try simp only [putS]
 refine tD 1 (some 25) ?_
 try simp only [putS]
 refine tD 2 (some 26) ?_
 try simp only [putS]
 refine tD 3 (some 27) ?_
 try simp only [putS]
 refine tD 4 (some 28) ?_
 try simp only [putS]
 refine tD 5 (some 29) ?_
 try simp only [putS]
 refine tD 6 (some 30) ?_
 try simp only [putS]
 refine tD 7 (some 31) ?_
 try simp only [putS]
 refine tD 8 (some 32) ?_
 try simp only [putS]
 refine tD 9 (some 33) ?_
 try simp only [putS]
 refine tD 10 (some 34) ?_
 try simp only [putS]
 refine tD 11 (some 35) ?_
 try simp only [putS]
 refine wpAnyH_ready (rs:=[12]) (by kernel_rfl) (by simp) ?_;refine AllReadyH.cons rfl (fun K hK=>?_) AllReadyH.nil;go_simp;refine (HT.out _ ?_).mono ?_
 ·first|exact hb1|exact hb1.drew
 rintro e2 w2 ⟨rfl,hw2⟩;have hb2:Below w.heap.size w w2:=by rw [hw2];first|exact hb1|exact hb1.drew
 have c2:w2.cell? ⟨ga,off+M*2+1,none⟩=some (.int .i64 x.2):=(hb2.cell (p:=⟨ga,off+M*2+1,none⟩) hga).trans (HX.out);clear hb1 hw2 c1;have hb1:=hb2;clear hHeld;refine hK.out _ _ ?hS14 (fun hHeld=>?rest14)
 case hS14=>(first|exact c1|exact c2)
 clear hK K
 try simp only [putS]
 refine tD 13 (some 37) ?_
 try simp only [putS]
 refine tD 14 (some 38) ?_
 try simp only [putS]
 refine wpAnyH_done (by kernel_rfl) ?_ _;have hbd:Below w.heap.size w w2:=by first|exact hb1|exact hb1.drew
 have c3:=(hbd.cell (p:=⟨q,0,none⟩) hql).trans c0;clear c0;go_wp2_with fail;refine (HBP.out _ hbd).mono ?_;rintro e w4 ⟨g4,t4,rfl,hA4,hC4,hP4,hr4,hb4⟩;have hB4:=hbd.trans (hb4.mono hbd.size);have hbo:=HFX.out t4 hC4 hr4;have hz0:decide (t4.sm.least<0)=false:=decide_eq_false (by omega);have hz0':¬ t4.sm.least<0:=by omega
 have hz1:decide (1048576<t4.sm.most)=true:=decide_eq_true (by omega);have hz1':1048576<t4.sm.most:=by omega
 obtain ⟨z0,z1,z2,z3,z4,z5,z6,z7,z8,z9⟩:=hA4.ten;clear hr4 hbo c3 hA4;go_wp2_with fail;go_ret;exact ⟨rfl,hB4⟩
theorem bump_below {w:World} {q:Nat} {t:Tr} (h:RopeAt w q t) (hR:t.Rp) {a:Option Addr} {m cap:Nat} {l:List (Int×Int)} (hl:Rw pieceV 2 w a m cap l) (hm:m≤32768) (hs:Srt l) (hb:∀ x∈l,0≤x.1∧x.2≤(t.row.length:Int)) (hout:∃ c∈bmp l (-1) 0 t.row,c.2<0) :
  Calls Tryz.prog 26 #[.pointer (some ⟨q,0,none⟩),.slice a m cap,.int .i64 (-1)] w fun e w'=>e=.returned (.int .i64 30)∧Below w.heap.size w w':=by
 have hlen:=hR.len;have hll:=hl.len;have HCK:=Sp.check_any hl.rng;rw [check_srt hs (fun x hx=>by have:=hb x hx;omega) (by omega)] at HCK;have HT:Hid (∀ W,Below w.heap.size w W→Calls Tryz.prog 24 #[.pointer (some ⟨q,0,none⟩)] W fun e w'=>e=.returned (.int .i64 (t.row.length:Int))∧w'=W):=fun W hW=>ropeTotal_any (h.below hW)
 obtain ⟨g,hq,hA⟩:=h;have hql:=(gA hq);have c0:w.cell? ⟨q,0,none⟩=some (.pointer (some ⟨g,0,none⟩)):=by simp [World.cell?,hq]
 have HBP:Hid (∀ W,Below w.heap.size w W→Calls Tryz.prog 60 #[.pointer (some ⟨g,0,none⟩),.int .i64 0,.slice a m cap,.int .i64 (-1)] W fun e w'=>∃ g' t',e=.returned (.pointer (some ⟨g',0,none⟩))∧At w' t' g'∧t'.Can∧Pcs t'.lv∧t'.row=bmp l (-1) 0 t.row∧Below W.heap.size W w'):=fun W hW=>bumped_root (hA.below hW) hR (hl.below hW) hm hs hb (-1) (by omega)
 have HL:Hid (Rw pieceV 2 w a m cap l):=hl;have HB:Hid (∀ x∈l,0≤x.1∧x.2≤(t.row.length:Int)):=hb;have h0:0<m:=by
  rcases Nat.eq_zero_or_pos m with h0|h0
  ·exfalso;obtain rfl:l=[]:=List.length_eq_zero_iff.1 (hll.trans h0);obtain ⟨c,hc,hx⟩:=hout;obtain ⟨j,hj⟩:=List.getElem?_of_mem hc;rw [bmp_get] at hj;obtain ⟨y,hy,rfl⟩:=Option.map_eq_some_iff.1 hj;have hy2:=List.mem_of_getElem? hy;have h1:=hR.lo y hy2;have h2:=hR.hi y hy2;rw [if_neg (by simp [inL])] at hx;omega
  ·exact h0
 have HFX:Hid (∀ t4:Tr,t4.Can→t4.row=bmp l (-1) 0 t.row→t4.sm.least<0):=fun t4 hC hr=>by
  obtain ⟨c,hc,hx⟩:=hout;obtain ⟨h1,h2,⟨b,hb1,hb2⟩,_⟩:=hC.all (by rw [hr];exact hc);rw [hr] at hb1;obtain ⟨y,hy,e⟩:=bmp_mem hb1;have hy1:=hR.lo y hy;rcases e with rfl|rfl
  ·omega
  ·simp only at hb2;omega
 clear hl hb hq hs hout;go_enter Tryz.func26,Tryz.ntmps26;go_wp2_with fail;refine HCK.mono ?_;rintro e w1 ⟨rfl,hb1⟩;clear HCK;obtain ⟨M,rfl⟩:∃ M,m=M+1:=⟨m-1,by omega⟩;obtain ⟨ga,off,x,rfl,hga,hx,hc⟩:=HL.out.at M (by omega);have HX:Hid (w.cell? ⟨ga,off+M*2+1,none⟩=some (.int .i64 x.2)):=hc 1 _ rfl;have c1:w1.cell? ⟨ga,off+M*2+1,none⟩=some (.int .i64 x.2):=(hb1.cell (p:=⟨ga,off+M*2+1,none⟩) hga).trans HX.out;have hx2:¬ (t.row.length:Int)<x.2:=by have:=(HB.out x (List.mem_of_getElem? hx)).2;omega
 have b2:decide ((t.row.length:Int)<x.2)=false:=decide_eq_false hx2;have u2:IntKind.i64.wrap (M:Int)=(M:Int):=IntWalk.i64_in _ (by omega);have u3:(M:Int)<(M:Int)+1:=by omega
 clear hc hx hx2;go_wp2_with fail;refine wp_region_held_drew (S:=(fun W=>W.cell? ⟨ga,off+M*2+1,none⟩=some (.int .i64 x.2))) (by kernel_rfl) ?hS17 (fun hHeld=>?rest17)
 case hS17=>(first|exact c1|exact c2)
 refine tD 0 (some 24) ?_
 try simp only [putS]
 refine tD 1 (some 25) ?_
 try simp only [putS]
 refine tD 2 (some 26) ?_
 try simp only [putS]
 refine tD 3 (some 27) ?_
 try simp only [putS]
 refine tD 4 (some 28) ?_
 try simp only [putS]
 refine tD 5 (some 29) ?_
 try simp only [putS]
 refine tD 6 (some 30) ?_
 try simp only [putS]
 refine tD 7 (some 31) ?_
 try simp only [putS]
 refine tD 8 (some 32) ?_
 try simp only [putS]
 refine tD 9 (some 33) ?_
 try simp only [putS]
 refine tD 10 (some 34) ?_
 try simp only [putS]
 refine tD 11 (some 35) ?_
 try simp only [putS]
 refine wpAnyH_ready (rs:=[12]) (by kernel_rfl) (by simp) ?_;refine AllReadyH.cons rfl (fun K hK=>?_) AllReadyH.nil;go_simp;refine (HT.out _ ?_).mono ?_
 ·first|exact hb1|exact hb1.drew
 rintro e2 w2 ⟨rfl,hw2⟩;have hb2:Below w.heap.size w w2:=by rw [hw2];first|exact hb1|exact hb1.drew
 have c2:w2.cell? ⟨ga,off+M*2+1,none⟩=some (.int .i64 x.2):=(hb2.cell (p:=⟨ga,off+M*2+1,none⟩) hga).trans (HX.out);clear hb1 hw2 c1;have hb1:=hb2;clear hHeld;refine hK.out _ _ ?hS30 (fun hHeld=>?rest30)
 case hS30=>(first|exact c1|exact c2)
 clear hK K
 try simp only [putS]
 refine tD 13 (some 37) ?_
 try simp only [putS]
 refine tD 14 (some 38) ?_
 try simp only [putS]
 refine wpAnyH_done (by kernel_rfl) ?_ _;have hbd:Below w.heap.size w w2:=by first|exact hb1|exact hb1.drew
 have c3:=(hbd.cell (p:=⟨q,0,none⟩) hql).trans c0;clear c0;go_wp2_with fail;refine (HBP.out _ hbd).mono ?_;rintro e w4 ⟨g4,t4,rfl,hA4,hC4,hP4,hr4,hb4⟩;have hB4:=hbd.trans (hb4.mono hbd.size);have hbo:=HFX.out t4 hC4 hr4;have hz0:decide (t4.sm.least<0)=true:=decide_eq_true (by omega);have hz0':t4.sm.least<0:=by omega
 obtain ⟨z0,z1,z2,z3,z4,z5,z6,z7,z8,z9⟩:=hA4.ten;clear hr4 hbo c3 hA4;go_wp2_with fail;go_ret;exact ⟨rfl,hB4⟩
end Go.Proofs.YtijpfbcippijoaaGreatDoor
