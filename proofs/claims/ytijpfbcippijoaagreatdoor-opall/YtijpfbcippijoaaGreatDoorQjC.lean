import Derived.Test.YtijpfbcippijoaaGreatDoorAl
import Derived.Test.YtijpfbcippijoaaGreatDoorGr136
import Derived.Test.YtijpfbcippijoaaGreatDoorGr125
import Derived.Deep.Cut
set_option maxHeartbeats 8000000
set_option maxRecDepth 100000
namespace Go.Proofs.YtijpfbcippijoaaGreatDoor
open Go.RowKit Go.Lib
def GapP (l:List (Int×Int)) (d code:Int) (R:List (Int×Int)) (v0:Value) (B:Nat) (w':World) (v:Value) (x:Int):Prop :=
 (x=0∧OwnF cellV 2 63 w' B v (bmp l d 0 R)∧∀ c∈bmp l d 0 R,0≤c.2∧c.2≤1048576)∨(x=code∧v=v0∧∃ c∈bmp l d 0 R,¬ (0≤c.2∧c.2≤1048576))
theorem gApply_2 {c n p:Int} {s:ByteArray} {l:List (Int×Int)} {tc tn:Int} {on:Bool} {w:World} {aR:Option Addr} {nR cR:Nat} {R:List (Int×Int)} (hR:Rw cellV 2 w aR nR cR R) {a:Option Addr} {m cap:Nat} (hl:Sp.Rng w a m cap l) (hs:s.size≤2097152) (hsr:Srt l) (hc:∀ c∈R,0≤c.2∧c.2≤1048576) (hnR:nR≤1048576) (hm:m≤1000000000)
  (hC:opCheck ⟨c,n,2,p,s,l,tc,tn,on⟩ (nR:Int)=0) :
  Calls Tryz.prog 12 #[.slice aR nR cR,opVal ⟨c,n,2,p,s,l,tc,tn,on⟩ (.slice a m cap)] w fun e w'=>∃ v x,e=.returned (.tuple #[v,.int .i64 x])∧GapP l 1 31 R (.slice aR nR cR) w.heap.size w' v x∧Below w.heap.size w w':=by
 simp only [opVal] at *;have HRL:Hid (R.length=nR):=hR.len;have HLL:Hid (l.length=m):=hl.len;have HS:Hid (Srt l):=hsr;have HCN:Hid (∀ c∈R,0≤c.2∧c.2≤1048576):=hc;have HC:Hid (∀ W,Below w.heap.size w W→Calls Tryz.prog 27 #[.agg #[.int .i64 c,.int .i64 n,.int .i64 2,.int .i64 p,.string s,.slice a m cap,.int .i64 tc,.int .i64 tn,.bool on],.int .i64 (nR:Int)] W fun e w'=>e=.returned (.int .i64 0)∧Below W.heap.size W w'):=fun W hb=>by
  have:=gCheck_any (o:=⟨c,n,2,p,s,l,tc,tn,on⟩) (total:=(nR:Int)) (hl.below hb) hs;rw [hC] at this;exact this
 clear hC hsr hc;go_enter Tryz.func12,Tryz.ntmps12;go_wp2_with fail;have hB0:Below w.heap.size w (w.alloc (Obj.cells #[.int .i64 c,.int .i64 n,.int .i64 2,.int .i64 p,.string s,.slice a m cap,.int .i64 tc,.int .i64 tn,.bool on] 44)):=(bE w.heap.size w).alloc (lR _) _;refine (HC.out _ hB0).mono ?_;rintro e w2 ⟨rfl,hb1⟩;have hX1:w2.heap[w.heap.size]?=some (Obj.cells #[.int .i64 c,.int .i64 n,.int .i64 2,.int .i64 p,.string s,.slice a m cap,.int .i64 tc,.int .i64 tn,.bool on] 44):=(hb1.block _ (by simp)).trans (alloc_last _ _ _ rfl);obtain ⟨d0,d1,d2,d3,d4,d5,d6,d7,d8⟩:=box9 hX1;have hB2:=hB0.trans (hb1.mono hB0.size);have hlt2:=(gA hX1);clear hB0 hb1 HC;have HAT:Hid (∀ W,Below w2.heap.size w2 W→W.cell? ⟨w.heap.size,5,none⟩=some (.slice a m cap)):=fun W hb=>by
  have:=(hb.block _ hlt2).trans hX1;rw [cH this];rfl
 have HR:Hid (Rw cellV 2 w2 aR nR cR R):=hR.below hB2;have HL:Hid (Rw rngV 2 w2 a m cap l):=rw_of_rng (hl.below hB2);have HB2:Hid (Below w.heap.size w w2):=hB2;have hs2:=hB2.size;clear hX1 hB2 hR hl;go_wp2_with fail;clear d0 d1 d2 d3 d4 d5 d6 d7 d8;go_loopw [8,14,15] (fun v va vi W=>∃ i k:Nat,va=.int .i64 (k:Int)∧vi=.int .i64 (i:Int)∧i≤nR∧k≤m∧(∀ (j:Nat) x,j<k→l[j]?=some x→x.2≤(i:Int))∧OwnF cellV 2 63 W w2.heap.size v ((bmp l 1 0 R).take i)∧(∀ c∈(bmp l 1 0 R).take i,0≤c.2∧c.2≤1048576)∧Below w2.heap.size w2 W) (fun _ _ vi _=>nR-(RowKit.intOf vi).toNat)
 case atStart=>exact ⟨0,0,rfl,rfl,Nat.zero_le _,Nat.zero_le _,fun j x hj=>absurd hj (Nat.not_lt_zero _),by rw [List.take_zero];exact ownF_nil _ _,fun c hc=>by simp at hc,bE _ _⟩
 case round =>
  obtain ⟨i,k,rfl,rfl,hin,hkm,hno,ho,hal,hB⟩:=hrel;have p5:=HAT.out _ hB;have hBs:=hB.size;have HAL:Hid (∀ c∈(bmp l 1 0 R).take i,0≤c.2∧c.2≤1048576):=hal;have HNO:Hid (∀ (j:Nat) x,j<k→l[j]?=some x→x.2≤(i:Int)):=hno;clear hal hno;by_cases hi:i<nR
  ·have b0:(i:Int)<(nR:Int):=by omega
   obtain ⟨g,off,x,rfl,hg,hx,hcl⟩:=HR.out.at i hi;have hhb:=HCN.out _ (List.mem_of_getElem? hx);obtain ⟨r,h⟩:=x;simp only at hhb;have HXR:Hid (R[i]?=some (r,h)):=hx;have e1:wr.cell? ⟨g,off+i*2,none⟩=some (Value.int .i32 r):=(hB.cell (p:=⟨g,off+i*2+0,none⟩) hg).trans (hcl 0 _ rfl);have e2:wr.cell? ⟨g,off+i*2+1,none⟩=some (.int .i64 h):=(hB.cell (p:=⟨g,off+i*2+1,none⟩) hg).trans (hcl 1 _ rfl);have q5:=fun o=>(World.cell?_alloc_lt wr o ⟨w.heap.size,5,none⟩ (show w.heap.size<wr.heap.size by omega)).trans p5
   clear hcl hx;go_wp2_with fail;clear e1 e2;go_loop [14] (fun va=>∃ k2:Nat,va=.int .i64 (k2:Int)∧k2≤m∧∀ (j:Nat) x,j<k2→l[j]?=some x→x.2≤(i:Int)) (fun v=>m-(RowKit.intOf v).toNat)
   case atStart=>exact ⟨k,rfl,hkm,HNO.out⟩
   case round =>
    clear hkm HNO;obtain ⟨k2,rfl,hk2,hno⟩:=hrel;have HNO:Hid (∀ (j:Nat) x,j<k2→l[j]?=some x→x.2≤(i:Int)):=hno;clear hno;by_cases hkm:k2<m
    ·obtain ⟨gl,ofl,x,rfl,hgl,hlx,hlc⟩:=HL.out.at k2 hkm;obtain ⟨xlo,xhi⟩:=x;have f1:=fun o=>(World.cell?_alloc_lt wr o ⟨gl,ofl+k2*2,none⟩ (show gl<wr.heap.size by omega)).trans ((hB.cell (p:=⟨gl,ofl+k2*2+0,none⟩) hgl).trans (hlc 0 _ rfl))
     have f2:=fun o=>(World.cell?_alloc_lt wr o ⟨gl,ofl+k2*2+1,none⟩ (show gl<wr.heap.size by omega)).trans ((hB.cell (p:=⟨gl,ofl+k2*2+1,none⟩) hgl).trans (hlc 1 _ rfl))
     have HLX:Hid (l[k2]?=some (xlo,xhi)):=hlx;have b1:(k2:Int)<(m:Int):=by omega
     clear hlc hlx;by_cases hhi:xhi≤(i:Int)
     ·go_wp2_with fail;go_round
      case rel=>exact ⟨k2+1,by go_num,by omega,fun j x hj hx=>by
       by_cases e:j=k2
       ·subst e
        rw [HLX.out] at hx
        injection hx with hx
        subst hx
        exact hhi
       ·exact HNO.out j x (by omega) hx⟩
      case measure=>simp [RowKit.intOf];omega
     ·have b2:¬ xhi≤(i:Int):=hhi;by_cases hlo:xlo≤(i:Int)
      ·have hin2:inL l (i:Int)=true:=inL_yes (List.mem_of_getElem? HLX.out) hlo (by simp only;omega);have hbi:(bmp l 1 0 R)[i]?=some (r,h+1):=by rw [bmp_get,HXR.out];simp only [Option.map_some,Int.zero_add,hin2,if_true]
       have u1:IntKind.i64.wrap (h+1)=h+1:=(IntWalk.i64_in _ (by omega)).trans (by omega);clear hin2;have b5:¬ (h+1)<0:=by omega
       by_cases hov:1048576<h+1
       ·have HE:Hid (∃ c∈bmp l 1 0 R,¬ (0≤c.2∧c.2≤1048576)):=⟨_,List.mem_of_getElem? hbi,by simp only;omega⟩;have hAl:Below wr.heap.size wr (wr.alloc (Obj.cells #[.int .i32 r,.int .i64 (h+1)] 63)):=(bE _ _).alloc (lR _) _;have hB7:=hB.trans (hAl.mono hBs);clear hbi hAl ho;go_wp2_with fail;refine bodyPost_ret (results_tmp2 rfl _ _ _) rfl ?_;exact ⟨_,_,rfl,.inr ⟨rfl,rfl,HE.out⟩,HB2.out.trans (hB7.mono hs2)⟩
       ·have HBI:Hid ((bmp l 1 0 R).take i++[(r,h+1)]=(bmp l 1 0 R).take (i+1)):=by
         obtain ⟨h9,e9⟩:=List.getElem?_eq_some_iff.1 hbi;exact (by rw [List.take_succ_eq_append_getElem h9,e9]:(bmp l 1 0 R).take i++[(r,h+1)]=(bmp l 1 0 R).take (i+1))
        have hll:((bmp l 1 0 R).take i).length≤1048576:=by rw [List.length_take];omega
        generalize hacc:((bmp l 1 0 R).take i)=acc at *;clear hacc;have hAl:Below wr.heap.size wr (wr.alloc (Obj.cells #[Value.int .i32 r,Value.int .i64 (h+1)] 63)):=(bE _ _).alloc (lR _) _;obtain ⟨av,cv,rfl⟩:=ho.shape;obtain ⟨g7,cap7,w7,hr7,ho7,hb7,_,_⟩:=appendF_one kindC layC (ho.below hAl) (by have:=hAl.size;omega) (r,h+1) #[Value.int .i32 r,Value.int .i64 (h+1)] rfl 63 (by omega) (by omega) 29;have hsz:(wr.alloc (Obj.cells #[Value.int .i32 r,Value.int .i64 (h+1)] 63)).heap.size=wr.heap.size+1:=by simp
        rw [hsz] at hr7;have hB7:=(hB.trans (hAl.mono hBs)).trans hb7;clear hbi hAl hb7;go_upto_region 35 with fail
        clear p5 q5;go_wp2_with (at_builtin;refine wpList_append_hr rfl _ _ 29 rfl _ _ rfl rfl hr7 ?_);go_roundw
        case rel=>exact ⟨i+1,k2,rfl,by go_num,by omega,by omega,fun j x hj hx=>by have:=HNO.out j x hj hx;omega,by rw [← HBI.out];exact ho7,fun c hc=>by rw [← HBI.out] at hc;rcases List.mem_append.1 hc with h|h;exact HAL.out c h;(obtain rfl:=List.mem_singleton.1 h;exact ⟨by simp only;omega,by simp only;omega⟩),hB7⟩
        case measure=>first|(simp [RowKit.intOf];omega)|simp [RowKit.intOf]
      ·have hin2:inL l (i:Int)=false:=inL_no HS.out HNO.out (fun x hx=>by rw [HLX.out] at hx;injection hx with hx;subst hx;simp only;omega);have hbi:(bmp l 1 0 R)[i]?=some (r,h):=by rw [bmp_get,HXR.out];rw [Option.map_some];simp only [Int.zero_add,hin2,Bool.false_eq_true,if_false]
       clear hin2;have HBI:Hid ((bmp l 1 0 R).take i++[(r,h)]=(bmp l 1 0 R).take (i+1)):=by
        obtain ⟨h9,e9⟩:=List.getElem?_eq_some_iff.1 hbi;exact (by rw [List.take_succ_eq_append_getElem h9,e9]:(bmp l 1 0 R).take i++[(r,h)]=(bmp l 1 0 R).take (i+1))
       have hll:((bmp l 1 0 R).take i).length≤1048576:=by rw [List.length_take];omega
       generalize hacc:((bmp l 1 0 R).take i)=acc at *;clear hacc;have hAl:Below wr.heap.size wr (wr.alloc (Obj.cells #[Value.int .i32 r,Value.int .i64 (h)] 63)):=(bE _ _).alloc (lR _) _;obtain ⟨av,cv,rfl⟩:=ho.shape;obtain ⟨g7,cap7,w7,hr7,ho7,hb7,_,_⟩:=appendF_one kindC layC (ho.below hAl) (by have:=hAl.size;omega) (r,h) #[Value.int .i32 r,Value.int .i64 (h)] rfl 63 (by omega) (by omega) 29;have hsz:(wr.alloc (Obj.cells #[Value.int .i32 r,Value.int .i64 (h)] 63)).heap.size=wr.heap.size+1:=by simp
       rw [hsz] at hr7;have hB7:=(hB.trans (hAl.mono hBs)).trans hb7;clear hbi hAl hb7;go_upto_region 35 with fail
       clear p5 q5;go_wp2_with (at_builtin;refine wpList_append_hr rfl _ _ 29 rfl _ _ rfl rfl hr7 ?_);go_roundw
       case rel=>exact ⟨i+1,k2,rfl,by go_num,by omega,by omega,fun j x hj hx=>by have:=HNO.out j x hj hx;omega,by rw [← HBI.out];exact ho7,fun c hc=>by rw [← HBI.out] at hc;rcases List.mem_append.1 hc with h|h;exact HAL.out c h;(obtain rfl:=List.mem_singleton.1 h;exact ⟨by simp only;omega,by simp only;omega⟩),hB7⟩
       case measure=>first|(simp [RowKit.intOf];omega)|simp [RowKit.intOf]
    ·have b1:¬ (k2:Int)<(m:Int):=by omega
     have hin2:inL l (i:Int)=false:=inL_no HS.out HNO.out (fun x hx=>by have:=(List.getElem?_eq_some_iff.1 hx).1;have:=HLL.out;omega);have hbi:(bmp l 1 0 R)[i]?=some (r,h):=by rw [bmp_get,HXR.out];rw [Option.map_some];simp only [Int.zero_add,hin2,Bool.false_eq_true,if_false]
     clear hin2;have HBI:Hid ((bmp l 1 0 R).take i++[(r,h)]=(bmp l 1 0 R).take (i+1)):=by
      obtain ⟨h9,e9⟩:=List.getElem?_eq_some_iff.1 hbi;exact (by rw [List.take_succ_eq_append_getElem h9,e9]:(bmp l 1 0 R).take i++[(r,h)]=(bmp l 1 0 R).take (i+1))
     have hll:((bmp l 1 0 R).take i).length≤1048576:=by rw [List.length_take];omega
     generalize hacc:((bmp l 1 0 R).take i)=acc at *;clear hacc;have hAl:Below wr.heap.size wr (wr.alloc (Obj.cells #[Value.int .i32 r,Value.int .i64 (h)] 63)):=(bE _ _).alloc (lR _) _;obtain ⟨av,cv,rfl⟩:=ho.shape;obtain ⟨g7,cap7,w7,hr7,ho7,hb7,_,_⟩:=appendF_one kindC layC (ho.below hAl) (by have:=hAl.size;omega) (r,h) #[Value.int .i32 r,Value.int .i64 (h)] rfl 63 (by omega) (by omega) 29;have hsz:(wr.alloc (Obj.cells #[Value.int .i32 r,Value.int .i64 (h)] 63)).heap.size=wr.heap.size+1:=by simp
     rw [hsz] at hr7;have hB7:=(hB.trans (hAl.mono hBs)).trans hb7;clear hbi hAl hb7;go_upto_region 35 with fail
     clear p5 q5;go_wp2_with (at_builtin;refine wpList_append_hr rfl _ _ 29 rfl _ _ rfl rfl hr7 ?_);go_roundw
     case rel=>exact ⟨i+1,k2,rfl,by go_num,by omega,by omega,fun j x hj hx=>by have:=HNO.out j x hj hx;omega,by rw [← HBI.out];exact ho7,fun c hc=>by rw [← HBI.out] at hc;rcases List.mem_append.1 hc with h|h;exact HAL.out c h;(obtain rfl:=List.mem_singleton.1 h;exact ⟨by simp only;omega,by simp only;omega⟩),hB7⟩
     case measure=>first|(simp [RowKit.intOf];omega)|simp [RowKit.intOf]
  ·obtain rfl:i=nR:=by omega
   have b0:¬ (i:Int)<(i:Int):=by omega
   have b00:decide ((i:Int)<(i:Int))=false:=decide_eq_false b0;have e9:(bmp l 1 0 R).take i=bmp l 1 0 R:=List.take_of_length_le (by rw [bmp_len];have:=HRL.out;omega);rw [e9] at ho HAL;have HO:Hid (OwnF cellV 2 63 wr w2.heap.size _ (bmp l 1 0 R)):=ho;clear ho;go_wp2_with fail;refine bodyPost_ret (results_tmp2 rfl _ _ _) rfl ?_;exact ⟨_,_,rfl,.inl ⟨rfl,HO.out.mono hs2,HAL.out⟩,HB2.out.trans (hB.mono hs2)⟩
theorem gApply_3 {c n p:Int} {s:ByteArray} {l:List (Int×Int)} {tc tn:Int} {on:Bool} {w:World} {aR:Option Addr} {nR cR:Nat} {R:List (Int×Int)} (hR:Rw cellV 2 w aR nR cR R) {a:Option Addr} {m cap:Nat} (hl:Sp.Rng w a m cap l) (hs:s.size≤2097152) (hsr:Srt l) (hc:∀ c∈R,0≤c.2∧c.2≤1048576) (hnR:nR≤1048576) (hm:m≤1000000000)
  (hC:opCheck ⟨c,n,3,p,s,l,tc,tn,on⟩ (nR:Int)=0) :
  Calls Tryz.prog 12 #[.slice aR nR cR,opVal ⟨c,n,3,p,s,l,tc,tn,on⟩ (.slice a m cap)] w fun e w'=>∃ v x,e=.returned (.tuple #[v,.int .i64 x])∧GapP l (-1) 30 R (.slice aR nR cR) w.heap.size w' v x∧Below w.heap.size w w':=by
 simp only [opVal] at *;have HRL:Hid (R.length=nR):=hR.len;have HLL:Hid (l.length=m):=hl.len;have HS:Hid (Srt l):=hsr;have HCN:Hid (∀ c∈R,0≤c.2∧c.2≤1048576):=hc;have HC:Hid (∀ W,Below w.heap.size w W→Calls Tryz.prog 27 #[.agg #[.int .i64 c,.int .i64 n,.int .i64 3,.int .i64 p,.string s,.slice a m cap,.int .i64 tc,.int .i64 tn,.bool on],.int .i64 (nR:Int)] W fun e w'=>e=.returned (.int .i64 0)∧Below W.heap.size W w'):=fun W hb=>by
  have:=gCheck_any (o:=⟨c,n,3,p,s,l,tc,tn,on⟩) (total:=(nR:Int)) (hl.below hb) hs;rw [hC] at this;exact this
 clear hC hsr hc;go_enter Tryz.func12,Tryz.ntmps12;go_wp2_with fail;have hB0:Below w.heap.size w (w.alloc (Obj.cells #[.int .i64 c,.int .i64 n,.int .i64 3,.int .i64 p,.string s,.slice a m cap,.int .i64 tc,.int .i64 tn,.bool on] 44)):=(bE w.heap.size w).alloc (lR _) _;refine (HC.out _ hB0).mono ?_;rintro e w2 ⟨rfl,hb1⟩;have hX1:w2.heap[w.heap.size]?=some (Obj.cells #[.int .i64 c,.int .i64 n,.int .i64 3,.int .i64 p,.string s,.slice a m cap,.int .i64 tc,.int .i64 tn,.bool on] 44):=(hb1.block _ (by simp)).trans (alloc_last _ _ _ rfl);obtain ⟨d0,d1,d2,d3,d4,d5,d6,d7,d8⟩:=box9 hX1;have hB2:=hB0.trans (hb1.mono hB0.size);have hlt2:=(gA hX1);clear hB0 hb1 HC;have HAT:Hid (∀ W,Below w2.heap.size w2 W→W.cell? ⟨w.heap.size,5,none⟩=some (.slice a m cap)):=fun W hb=>by
  have:=(hb.block _ hlt2).trans hX1;rw [cH this];rfl
 have HR:Hid (Rw cellV 2 w2 aR nR cR R):=hR.below hB2;have HL:Hid (Rw rngV 2 w2 a m cap l):=rw_of_rng (hl.below hB2);have HB2:Hid (Below w.heap.size w w2):=hB2;have hs2:=hB2.size;clear hX1 hB2 hR hl;go_wp2_with fail;clear d0 d1 d2 d3 d4 d5 d6 d7 d8;go_loopw [8,14,15] (fun v va vi W=>∃ i k:Nat,va=.int .i64 (k:Int)∧vi=.int .i64 (i:Int)∧i≤nR∧k≤m∧(∀ (j:Nat) x,j<k→l[j]?=some x→x.2≤(i:Int))∧OwnF cellV 2 63 W w2.heap.size v ((bmp l (-1) 0 R).take i)∧(∀ c∈(bmp l (-1) 0 R).take i,0≤c.2∧c.2≤1048576)∧Below w2.heap.size w2 W) (fun _ _ vi _=>nR-(RowKit.intOf vi).toNat)
 case atStart=>exact ⟨0,0,rfl,rfl,Nat.zero_le _,Nat.zero_le _,fun j x hj=>absurd hj (Nat.not_lt_zero _),by rw [List.take_zero];exact ownF_nil _ _,fun c hc=>by simp at hc,bE _ _⟩
 case round =>
  obtain ⟨i,k,rfl,rfl,hin,hkm,hno,ho,hal,hB⟩:=hrel;have p5:=HAT.out _ hB;have hBs:=hB.size;have HAL:Hid (∀ c∈(bmp l (-1) 0 R).take i,0≤c.2∧c.2≤1048576):=hal;have HNO:Hid (∀ (j:Nat) x,j<k→l[j]?=some x→x.2≤(i:Int)):=hno;clear hal hno;by_cases hi:i<nR
  ·have b0:(i:Int)<(nR:Int):=by omega
   obtain ⟨g,off,x,rfl,hg,hx,hcl⟩:=HR.out.at i hi;have hhb:=HCN.out _ (List.mem_of_getElem? hx);obtain ⟨r,h⟩:=x;simp only at hhb;have HXR:Hid (R[i]?=some (r,h)):=hx;have e1:wr.cell? ⟨g,off+i*2,none⟩=some (Value.int .i32 r):=(hB.cell (p:=⟨g,off+i*2+0,none⟩) hg).trans (hcl 0 _ rfl);have e2:wr.cell? ⟨g,off+i*2+1,none⟩=some (.int .i64 h):=(hB.cell (p:=⟨g,off+i*2+1,none⟩) hg).trans (hcl 1 _ rfl);have q5:=fun o=>(World.cell?_alloc_lt wr o ⟨w.heap.size,5,none⟩ (show w.heap.size<wr.heap.size by omega)).trans p5
   clear hcl hx;go_wp2_with fail;clear e1 e2;go_loop [14] (fun va=>∃ k2:Nat,va=.int .i64 (k2:Int)∧k2≤m∧∀ (j:Nat) x,j<k2→l[j]?=some x→x.2≤(i:Int)) (fun v=>m-(RowKit.intOf v).toNat)
   case atStart=>exact ⟨k,rfl,hkm,HNO.out⟩
   case round =>
    clear hkm HNO;obtain ⟨k2,rfl,hk2,hno⟩:=hrel;have HNO:Hid (∀ (j:Nat) x,j<k2→l[j]?=some x→x.2≤(i:Int)):=hno;clear hno;by_cases hkm:k2<m
    ·obtain ⟨gl,ofl,x,rfl,hgl,hlx,hlc⟩:=HL.out.at k2 hkm;obtain ⟨xlo,xhi⟩:=x;have f1:=fun o=>(World.cell?_alloc_lt wr o ⟨gl,ofl+k2*2,none⟩ (show gl<wr.heap.size by omega)).trans ((hB.cell (p:=⟨gl,ofl+k2*2+0,none⟩) hgl).trans (hlc 0 _ rfl))
     have f2:=fun o=>(World.cell?_alloc_lt wr o ⟨gl,ofl+k2*2+1,none⟩ (show gl<wr.heap.size by omega)).trans ((hB.cell (p:=⟨gl,ofl+k2*2+1,none⟩) hgl).trans (hlc 1 _ rfl))
     have HLX:Hid (l[k2]?=some (xlo,xhi)):=hlx;have b1:(k2:Int)<(m:Int):=by omega
     clear hlc hlx;by_cases hhi:xhi≤(i:Int)
     ·go_wp2_with fail;go_round
      case rel=>exact ⟨k2+1,by go_num,by omega,fun j x hj hx=>by
       by_cases e:j=k2
       ·subst e
        rw [HLX.out] at hx
        injection hx with hx
        subst hx
        exact hhi
       ·exact HNO.out j x (by omega) hx⟩
      case measure=>simp [RowKit.intOf];omega
     ·have b2:¬ xhi≤(i:Int):=hhi;by_cases hlo:xlo≤(i:Int)
      ·have hin2:inL l (i:Int)=true:=inL_yes (List.mem_of_getElem? HLX.out) hlo (by simp only;omega);have hbi:(bmp l (-1) 0 R)[i]?=some (r,h+(-1)):=by rw [bmp_get,HXR.out];simp only [Option.map_some,Int.zero_add,hin2,if_true]
       have u1:IntKind.i64.wrap (h-1)=h+(-1):=(IntWalk.i64_in _ (by omega)).trans (by omega);clear hin2;by_cases hov:h+(-1)<0
       ·have HE:Hid (∃ c∈bmp l (-1) 0 R,¬ (0≤c.2∧c.2≤1048576)):=⟨_,List.mem_of_getElem? hbi,by simp only;omega⟩;have hAl:Below wr.heap.size wr (wr.alloc (Obj.cells #[.int .i32 r,.int .i64 (h+(-1))] 63)):=(bE _ _).alloc (lR _) _;have hB7:=hB.trans (hAl.mono hBs);clear hbi hAl ho;go_wp2_with fail;refine bodyPost_ret (results_tmp2 rfl _ _ _) rfl ?_;exact ⟨_,_,rfl,.inr ⟨rfl,rfl,HE.out⟩,HB2.out.trans (hB7.mono hs2)⟩
       ·have b5:¬ 1048576<(h+(-1)):=by omega
        have HBI:Hid ((bmp l (-1) 0 R).take i++[(r,h+(-1))]=(bmp l (-1) 0 R).take (i+1)):=by
         obtain ⟨h9,e9⟩:=List.getElem?_eq_some_iff.1 hbi;exact (by rw [List.take_succ_eq_append_getElem h9,e9]:(bmp l (-1) 0 R).take i++[(r,h+(-1))]=(bmp l (-1) 0 R).take (i+1))
        have hll:((bmp l (-1) 0 R).take i).length≤1048576:=by rw [List.length_take];omega
        generalize hacc:((bmp l (-1) 0 R).take i)=acc at *;clear hacc;have hAl:Below wr.heap.size wr (wr.alloc (Obj.cells #[Value.int .i32 r,Value.int .i64 (h+(-1))] 63)):=(bE _ _).alloc (lR _) _;obtain ⟨av,cv,rfl⟩:=ho.shape;obtain ⟨g7,cap7,w7,hr7,ho7,hb7,_,_⟩:=appendF_one kindC layC (ho.below hAl) (by have:=hAl.size;omega) (r,h+(-1)) #[Value.int .i32 r,Value.int .i64 (h+(-1))] rfl 63 (by omega) (by omega) 29;have hsz:(wr.alloc (Obj.cells #[Value.int .i32 r,Value.int .i64 (h+(-1))] 63)).heap.size=wr.heap.size+1:=by simp
        rw [hsz] at hr7;have hB7:=(hB.trans (hAl.mono hBs)).trans hb7;clear hbi hAl hb7;go_upto_region 35 with fail
        clear p5 q5;go_wp2_with (at_builtin;refine wpList_append_hr rfl _ _ 29 rfl _ _ rfl rfl hr7 ?_);go_roundw
        case rel=>exact ⟨i+1,k2,rfl,by go_num,by omega,by omega,fun j x hj hx=>by have:=HNO.out j x hj hx;omega,by rw [← HBI.out];exact ho7,fun c hc=>by rw [← HBI.out] at hc;rcases List.mem_append.1 hc with h|h;exact HAL.out c h;(obtain rfl:=List.mem_singleton.1 h;exact ⟨by simp only;omega,by simp only;omega⟩),hB7⟩
        case measure=>first|(simp [RowKit.intOf];omega)|simp [RowKit.intOf]
      ·have hin2:inL l (i:Int)=false:=inL_no HS.out HNO.out (fun x hx=>by rw [HLX.out] at hx;injection hx with hx;subst hx;simp only;omega);have hbi:(bmp l (-1) 0 R)[i]?=some (r,h):=by rw [bmp_get,HXR.out];rw [Option.map_some];simp only [Int.zero_add,hin2,Bool.false_eq_true,if_false]
       clear hin2;have HBI:Hid ((bmp l (-1) 0 R).take i++[(r,h)]=(bmp l (-1) 0 R).take (i+1)):=by
        obtain ⟨h9,e9⟩:=List.getElem?_eq_some_iff.1 hbi;exact (by rw [List.take_succ_eq_append_getElem h9,e9]:(bmp l (-1) 0 R).take i++[(r,h)]=(bmp l (-1) 0 R).take (i+1))
       have hll:((bmp l (-1) 0 R).take i).length≤1048576:=by rw [List.length_take];omega
       generalize hacc:((bmp l (-1) 0 R).take i)=acc at *;clear hacc;have hAl:Below wr.heap.size wr (wr.alloc (Obj.cells #[Value.int .i32 r,Value.int .i64 (h)] 63)):=(bE _ _).alloc (lR _) _;obtain ⟨av,cv,rfl⟩:=ho.shape;obtain ⟨g7,cap7,w7,hr7,ho7,hb7,_,_⟩:=appendF_one kindC layC (ho.below hAl) (by have:=hAl.size;omega) (r,h) #[Value.int .i32 r,Value.int .i64 (h)] rfl 63 (by omega) (by omega) 29;have hsz:(wr.alloc (Obj.cells #[Value.int .i32 r,Value.int .i64 (h)] 63)).heap.size=wr.heap.size+1:=by simp
       rw [hsz] at hr7;have hB7:=(hB.trans (hAl.mono hBs)).trans hb7;clear hbi hAl hb7;go_upto_region 35 with fail
       clear p5 q5;go_wp2_with (at_builtin;refine wpList_append_hr rfl _ _ 29 rfl _ _ rfl rfl hr7 ?_);go_roundw
       case rel=>exact ⟨i+1,k2,rfl,by go_num,by omega,by omega,fun j x hj hx=>by have:=HNO.out j x hj hx;omega,by rw [← HBI.out];exact ho7,fun c hc=>by rw [← HBI.out] at hc;rcases List.mem_append.1 hc with h|h;exact HAL.out c h;(obtain rfl:=List.mem_singleton.1 h;exact ⟨by simp only;omega,by simp only;omega⟩),hB7⟩
       case measure=>first|(simp [RowKit.intOf];omega)|simp [RowKit.intOf]
    ·have b1:¬ (k2:Int)<(m:Int):=by omega
     have hin2:inL l (i:Int)=false:=inL_no HS.out HNO.out (fun x hx=>by have:=(List.getElem?_eq_some_iff.1 hx).1;have:=HLL.out;omega);have hbi:(bmp l (-1) 0 R)[i]?=some (r,h):=by rw [bmp_get,HXR.out];rw [Option.map_some];simp only [Int.zero_add,hin2,Bool.false_eq_true,if_false]
     clear hin2;have HBI:Hid ((bmp l (-1) 0 R).take i++[(r,h)]=(bmp l (-1) 0 R).take (i+1)):=by
      obtain ⟨h9,e9⟩:=List.getElem?_eq_some_iff.1 hbi;exact (by rw [List.take_succ_eq_append_getElem h9,e9]:(bmp l (-1) 0 R).take i++[(r,h)]=(bmp l (-1) 0 R).take (i+1))
     have hll:((bmp l (-1) 0 R).take i).length≤1048576:=by rw [List.length_take];omega
     generalize hacc:((bmp l (-1) 0 R).take i)=acc at *;clear hacc;have hAl:Below wr.heap.size wr (wr.alloc (Obj.cells #[Value.int .i32 r,Value.int .i64 (h)] 63)):=(bE _ _).alloc (lR _) _;obtain ⟨av,cv,rfl⟩:=ho.shape;obtain ⟨g7,cap7,w7,hr7,ho7,hb7,_,_⟩:=appendF_one kindC layC (ho.below hAl) (by have:=hAl.size;omega) (r,h) #[Value.int .i32 r,Value.int .i64 (h)] rfl 63 (by omega) (by omega) 29;have hsz:(wr.alloc (Obj.cells #[Value.int .i32 r,Value.int .i64 (h)] 63)).heap.size=wr.heap.size+1:=by simp
     rw [hsz] at hr7;have hB7:=(hB.trans (hAl.mono hBs)).trans hb7;clear hbi hAl hb7;go_upto_region 35 with fail
     clear p5 q5;go_wp2_with (at_builtin;refine wpList_append_hr rfl _ _ 29 rfl _ _ rfl rfl hr7 ?_);go_roundw
     case rel=>exact ⟨i+1,k2,rfl,by go_num,by omega,by omega,fun j x hj hx=>by have:=HNO.out j x hj hx;omega,by rw [← HBI.out];exact ho7,fun c hc=>by rw [← HBI.out] at hc;rcases List.mem_append.1 hc with h|h;exact HAL.out c h;(obtain rfl:=List.mem_singleton.1 h;exact ⟨by simp only;omega,by simp only;omega⟩),hB7⟩
     case measure=>first|(simp [RowKit.intOf];omega)|simp [RowKit.intOf]
  ·obtain rfl:i=nR:=by omega
   have b0:¬ (i:Int)<(i:Int):=by omega
   have b00:decide ((i:Int)<(i:Int))=false:=decide_eq_false b0;have e9:(bmp l (-1) 0 R).take i=bmp l (-1) 0 R:=List.take_of_length_le (by rw [bmp_len];have:=HRL.out;omega);rw [e9] at ho HAL;have HO:Hid (OwnF cellV 2 63 wr w2.heap.size _ (bmp l (-1) 0 R)):=ho;clear ho;go_wp2_with fail;refine bodyPost_ret (results_tmp2 rfl _ _ _) rfl ?_;exact ⟨_,_,rfl,.inl ⟨rfl,HO.out.mono hs2,HAL.out⟩,HB2.out.trans (hB.mono hs2)⟩
end Go.Proofs.YtijpfbcippijoaaGreatDoor
